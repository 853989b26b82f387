import Derived.Test.YtpmlodchbgfmeaaSpec08e
import Derived.Test.YtpmlodchbgfmeaaRows
import Derived.Test.YtpmlodchbgfmeaaEvSS
import Derived.Test.YtpmlodchbgfmeaaFnames
namespace Go.Proofs.Ytpmlodchbgfmeaa
open Go.Ev Go.Sp
set_option maxRecDepth 100000
theorem vc_known : vcFn Try.prog [] noA [] 2500 3 sigTrue0 = (impB (sigTrue0.pre []) (
reqB (sigTrue0.post [] [DV.b (eqI (3 : Int) (3 : Int))]) (
true))) := by kernel_rfl
set_option maxHeartbeats 8000000 in
theorem vt_known : vcFn Try.prog [] noA [] 2500 3 sigTrue0 = true := by
  rw [vc_known]
  try simp only [Int.toNat_natCast, List.length_set, List.length_replicate, List.length_take, List.length_drop, List.length_append, List.length_cons, List.length_nil, Nat.min_self, List.take_take, lenCols_i, lenCols_b, List.drop_zero, List.take_length, Nat.add_eq, Nat.mul_eq, Nat.sub_eq, Nat.zero_add, Nat.sub_zero, Nat.mul_one]
  refine imp_i fun h0 => ?_
  try simp only [sigTrue0, List.cons.injEq, DV.b.injEq, and_true, List.length_cons, List.length_nil] at h0
  refine req_i ?_ ?_
  · -- r0
   exact rfl
  rfl
theorem ext_known : ∀ p ∈ ([] : List (Nat × Ext)), ExtRow Try.prog p.1 p.2 := by
  intro p hp
  cases hp
theorem cts_known : CtsOk Try.prog [] := fun f c h => by cases h
theorem fn_known : FnOk Try.prog 3 sigTrue0 [] := fn_sound (by kernel_rfl) ext_known cts_known names vt_known
end Go.Proofs.Ytpmlodchbgfmeaa

namespace Go.Proofs.Ytpmlodchbgfmeaa
open Go.Ev Go.Sp
set_option maxRecDepth 100000
theorem vc_turn : vcFn Try.prog [] noA [] 100 31 sigTurn = (allB fun n0 : Int => 
impB ((-9223372036854775808 : Int) ≤ n0) (
impB (n0 ≤ (9223372036854775807 : Int)) (
allB fun n1 : Int => 
impB ((1 : Int) ≤ n1) (
impB (n1 ≤ (4000000000 : Int)) (
impB (sigTurn.pre [DV.n n0, DV.n n1]) (
bR (dec (n0.tmod n1 < (0 : Int))) (
 reqB ((0 : Int) ≤ n0.tmod n1 + n1) (
 reqB (n0.tmod n1 + n1 ≤ (4000000000 : Int)) (
 reqB (sigTurn.post [DV.n n0, DV.n n1] [DV.n (n0.tmod n1 + n1)]) (
 true)))) (
 reqB ((0 : Int) ≤ n0.tmod n1) (
 reqB (n0.tmod n1 ≤ (4000000000 : Int)) (
 reqB (sigTurn.post [DV.n n0, DV.n n1] [DV.n (n0.tmod n1)]) (
 true)))))))))) := by kernel_rfl
set_option maxHeartbeats 8000000 in
theorem vt_turn : vcFn Try.prog [] noA [] 100 31 sigTurn = true := by
  rw [vc_turn]
  try simp only [Int.toNat_natCast, List.length_set, List.length_replicate, List.length_take, List.length_drop, List.length_append, List.length_cons, List.length_nil, Nat.min_self, List.take_take, lenCols_i, lenCols_b, List.drop_zero, List.take_length, Nat.add_eq, Nat.mul_eq, Nat.sub_eq, Nat.zero_add, Nat.sub_zero, Nat.mul_one]
  refine all_i fun n0 => ?_
  refine imp_i fun h0 => ?_
  refine imp_i fun h1 => ?_
  refine all_i fun n1 => ?_
  refine imp_i fun h2 => ?_
  refine imp_i fun h3 => ?_
  refine imp_i fun h4 => ?_
  try simp only [sigTurn, pickGP, List.cons.injEq, DV.b.injEq, and_true, List.length_cons, List.length_nil] at h4
  have tm := tmod_of (x := n0) (n := n1) (by omega)
  refine bR_dec (fun h5 => ?_) (fun h5 => ?_)
  ·
   refine req_i ?_ ?_
   · -- r0
    first | omega | assumption | grind
   refine req_i ?_ ?_
   · -- r1
    first | omega | assumption | grind
   refine req_i ?_ ?_
   · -- r2
    first | omega | ((try simp only [sigTurn, pickGP, List.cons.injEq, DV.b.injEq, and_true, List.length_cons, List.length_nil]); first | done | omega | assumption | grind [getD_set, getD_rep, toNat_succ, cntN_yes, cntN_no])
   rfl
  ·
   refine req_i ?_ ?_
   · -- r3
    first | omega | assumption | grind
   refine req_i ?_ ?_
   · -- r4
    first | omega | assumption | grind
   refine req_i ?_ ?_
   · -- r5
    first | omega | ((try simp only [sigTurn, pickGP, List.cons.injEq, DV.b.injEq, and_true, List.length_cons, List.length_nil]); first | done | omega | assumption | grind [getD_set, getD_rep, toNat_succ, cntN_yes, cntN_no])
   rfl
theorem ext_turn : ∀ p ∈ ([] : List (Nat × Ext)), ExtRow Try.prog p.1 p.2 := by
  intro p hp
  cases hp
theorem cts_turn : CtsOk Try.prog [] := fun f c h => by cases h
theorem fn_turn : FnOk Try.prog 31 sigTurn [] := fn_sound (by kernel_rfl) ext_turn cts_turn names vt_turn
end Go.Proofs.Ytpmlodchbgfmeaa

namespace Go.Proofs.Ytpmlodchbgfmeaa
open Go.Ev Go.Sp
set_option maxRecDepth 100000
theorem vc_deg : vcFn Try.prog [(31, Ext.ctr (ctOf sigTurn))] noA [] 100 30 sigDeg = (allB fun n0 : Int => 
impB ((-9223372036854775808 : Int) ≤ n0) (
impB (n0 ≤ (9223372036854775807 : Int)) (
impB (sigDeg.pre [DV.n n0]) (
reqB ((-9223372036854775808 : Int) ≤ n0) (
reqB (n0 ≤ (9223372036854775807 : Int)) (
reqB (sigTurn.pre [DV.n n0, DV.n (3 : Int)]) (
allB fun n1 : Int => 
impB ((0 : Int) ≤ n1) (
impB (n1 ≤ (4000000000 : Int)) (
impB (sigTurn.post [DV.n n0, DV.n (3 : Int)] [DV.n n1]) (
reqB ((5 : Int) ≤ (5 : Int) + n1) (
reqB ((5 : Int) + n1 ≤ (7 : Int)) (
reqB (sigDeg.post [DV.n n0] [DV.n ((5 : Int) + n1)]) (
true))))))))))))) := by kernel_rfl
set_option maxHeartbeats 8000000 in
theorem vt_deg : vcFn Try.prog [(31, Ext.ctr (ctOf sigTurn))] noA [] 100 30 sigDeg = true := by
  rw [vc_deg]
  try simp only [Int.toNat_natCast, List.length_set, List.length_replicate, List.length_take, List.length_drop, List.length_append, List.length_cons, List.length_nil, Nat.min_self, List.take_take, lenCols_i, lenCols_b, List.drop_zero, List.take_length, Nat.add_eq, Nat.mul_eq, Nat.sub_eq, Nat.zero_add, Nat.sub_zero, Nat.mul_one]
  refine all_i fun n0 => ?_
  refine imp_i fun h0 => ?_
  refine imp_i fun h1 => ?_
  refine imp_i fun h2 => ?_
  try simp only [sigDeg, degPost, List.cons.injEq, DV.b.injEq, and_true, List.length_cons, List.length_nil] at h2
  refine req_i ?_ ?_
  · -- r0
   first | omega | assumption | grind
  refine req_i ?_ ?_
  · -- r1
   first | omega | assumption | grind
  refine req_i ?_ ?_
  · -- r2
   first | trivial | assumption | (simp only [sigTurn, pickGP, List.cons.injEq, DV.b.injEq, and_true, List.length_cons, List.length_nil]; done) | ((try simp only [sigTurn, pickGP, List.cons.injEq, DV.b.injEq, and_true, List.length_cons, List.length_nil]); first | omega | assumption | grind)
  refine all_i fun n1 => ?_
  refine imp_i fun h3 => ?_
  refine imp_i fun h4 => ?_
  refine imp_i fun h5 => ?_
  try simp only [sigTurn, pickGP, List.cons.injEq, DV.b.injEq, and_true, List.length_cons, List.length_nil] at h5
  refine req_i ?_ ?_
  · -- r3
   first | omega | assumption | grind
  refine req_i ?_ ?_
  · -- r4
   first | omega | assumption | grind
  refine req_i ?_ ?_
  · -- r5
   first | omega | ((try simp only [sigDeg, degPost, List.cons.injEq, DV.b.injEq, and_true, List.length_cons, List.length_nil]); first | done | omega | assumption | grind [getD_set, getD_rep, toNat_succ, cntN_yes, cntN_no])
  rfl
theorem ext_deg : ∀ p ∈ ([(31, Ext.ctr (ctOf sigTurn))] : List (Nat × Ext)), ExtRow Try.prog p.1 p.2 := by
  intro p hp
  simp only [List.mem_cons, List.not_mem_nil, or_false] at hp
  rcases hp with rfl
  · trivial
theorem cts_deg : CtsOk Try.prog [(31, Ext.ctr (ctOf sigTurn))] := ctsOk_of (cs := [(31, sigTurn)])
  (fun p hp => by
    simp only [List.mem_cons, List.not_mem_nil, or_false] at hp
    rcases hp with rfl
    · exact fn_turn
)
  (fun f c h => by
    simp only [List.lookup_cons] at h
    repeat' split at h
    all_goals first | (cases h; done) | (rename_i e; have e := beq_iff_eq.1 e; subst e; cases h; refine ⟨_, ?_, rfl⟩; simp))
theorem fn_deg : FnOk Try.prog 30 sigDeg [] := fn_sound (by kernel_rfl) ext_deg cts_deg names vt_deg
end Go.Proofs.Ytpmlodchbgfmeaa

namespace Go.Proofs.Ytpmlodchbgfmeaa
open Go.Ev Go.Sp
set_option maxRecDepth 100000
theorem vc_len0 : vcFn Try.prog [] noA [] 100 11 (sigLenR 5 5) = (impB ((sigLenR (5 : Int) (5 : Int)).pre [DV.n (5 : Int)]) (
reqB ((sigLenR (5 : Int) (5 : Int)).post [DV.n (5 : Int)]
 [DV.n (Int.ofNat (31 : Nat)), DV.n (0 : Int)]) (
true))) := by kernel_rfl
set_option maxHeartbeats 8000000 in
theorem vt_len0 : vcFn Try.prog [] noA [] 100 11 (sigLenR 5 5) = true := by
  rw [vc_len0]
  try simp only [Int.toNat_natCast, List.length_set, List.length_replicate, List.length_take, List.length_drop, List.length_append, List.length_cons, List.length_nil, Nat.min_self, List.take_take, lenCols_i, lenCols_b, List.drop_zero, List.take_length, Nat.add_eq, Nat.mul_eq, Nat.sub_eq, Nat.zero_add, Nat.sub_zero, Nat.mul_one]
  refine imp_i fun h0 => ?_
  try simp only [sigLenR, iR, lenPost, List.cons.injEq, DV.b.injEq, and_true, List.length_cons, List.length_nil] at h0
  refine req_i ?_ ?_
  · -- r0
   first | exact ⟨rfl, rfl⟩ | exact ⟨rfl, by decide +kernel⟩
  rfl
theorem ext_len0 : ∀ p ∈ ([] : List (Nat × Ext)), ExtRow Try.prog p.1 p.2 := by
  intro p hp
  cases hp
theorem cts_len0 : CtsOk Try.prog [] := fun f c h => by cases h
theorem fn_len0 : FnOk Try.prog 11 (sigLenR 5 5) [] := fn_sound (by kernel_rfl) ext_len0 cts_len0 names vt_len0
end Go.Proofs.Ytpmlodchbgfmeaa

namespace Go.Proofs.Ytpmlodchbgfmeaa
open Go.Ev Go.Sp
set_option maxRecDepth 100000
theorem vc_len1 : vcFn Try.prog [] noA [] 100 11 (sigLenR 6 6) = (impB ((sigLenR (6 : Int) (6 : Int)).pre [DV.n (6 : Int)]) (
reqB ((sigLenR (6 : Int) (6 : Int)).post [DV.n (6 : Int)]
 [DV.n (Int.ofNat (63 : Nat)), DV.n (0 : Int)]) (
true))) := by kernel_rfl
set_option maxHeartbeats 8000000 in
theorem vt_len1 : vcFn Try.prog [] noA [] 100 11 (sigLenR 6 6) = true := by
  rw [vc_len1]
  try simp only [Int.toNat_natCast, List.length_set, List.length_replicate, List.length_take, List.length_drop, List.length_append, List.length_cons, List.length_nil, Nat.min_self, List.take_take, lenCols_i, lenCols_b, List.drop_zero, List.take_length, Nat.add_eq, Nat.mul_eq, Nat.sub_eq, Nat.zero_add, Nat.sub_zero, Nat.mul_one]
  refine imp_i fun h0 => ?_
  try simp only [sigLenR, iR, lenPost, List.cons.injEq, DV.b.injEq, and_true, List.length_cons, List.length_nil] at h0
  refine req_i ?_ ?_
  · -- r0
   first | exact ⟨rfl, rfl⟩ | exact ⟨rfl, by decide +kernel⟩
  rfl
theorem ext_len1 : ∀ p ∈ ([] : List (Nat × Ext)), ExtRow Try.prog p.1 p.2 := by
  intro p hp
  cases hp
theorem cts_len1 : CtsOk Try.prog [] := fun f c h => by cases h
theorem fn_len1 : FnOk Try.prog 11 (sigLenR 6 6) [] := fn_sound (by kernel_rfl) ext_len1 cts_len1 names vt_len1
end Go.Proofs.Ytpmlodchbgfmeaa

namespace Go.Proofs.Ytpmlodchbgfmeaa
open Go.Ev Go.Sp
set_option maxRecDepth 100000
theorem vc_len2 : vcFn Try.prog [] noA [] 100 11 (sigLenR 7 7) = (impB ((sigLenR (7 : Int) (7 : Int)).pre [DV.n (7 : Int)]) (
reqB ((sigLenR (7 : Int) (7 : Int)).post [DV.n (7 : Int)]
 [DV.n (Int.ofNat (127 : Nat)), DV.n (0 : Int)]) (
true))) := by kernel_rfl
set_option maxHeartbeats 8000000 in
theorem vt_len2 : vcFn Try.prog [] noA [] 100 11 (sigLenR 7 7) = true := by
  rw [vc_len2]
  try simp only [Int.toNat_natCast, List.length_set, List.length_replicate, List.length_take, List.length_drop, List.length_append, List.length_cons, List.length_nil, Nat.min_self, List.take_take, lenCols_i, lenCols_b, List.drop_zero, List.take_length, Nat.add_eq, Nat.mul_eq, Nat.sub_eq, Nat.zero_add, Nat.sub_zero, Nat.mul_one]
  refine imp_i fun h0 => ?_
  try simp only [sigLenR, iR, lenPost, List.cons.injEq, DV.b.injEq, and_true, List.length_cons, List.length_nil] at h0
  refine req_i ?_ ?_
  · -- r0
   first | exact ⟨rfl, rfl⟩ | exact ⟨rfl, by decide +kernel⟩
  rfl
theorem ext_len2 : ∀ p ∈ ([] : List (Nat × Ext)), ExtRow Try.prog p.1 p.2 := by
  intro p hp
  cases hp
theorem cts_len2 : CtsOk Try.prog [] := fun f c h => by cases h
theorem fn_len2 : FnOk Try.prog 11 (sigLenR 7 7) [] := fn_sound (by kernel_rfl) ext_len2 cts_len2 names vt_len2
end Go.Proofs.Ytpmlodchbgfmeaa

namespace Go.Proofs.Ytpmlodchbgfmeaa
open Go.Ev Go.Sp
set_option maxRecDepth 100000
theorem vc_len3 : vcFn Try.prog [] noA [] 100 11 (sigLenR 9 9) = (impB ((sigLenR (9 : Int) (9 : Int)).pre [DV.n (9 : Int)]) (
reqB ((sigLenR (9 : Int) (9 : Int)).post [DV.n (9 : Int)]
 [DV.n (Int.ofNat (511 : Nat)), DV.n (0 : Int)]) (
true))) := by kernel_rfl
set_option maxHeartbeats 8000000 in
theorem vt_len3 : vcFn Try.prog [] noA [] 100 11 (sigLenR 9 9) = true := by
  rw [vc_len3]
  try simp only [Int.toNat_natCast, List.length_set, List.length_replicate, List.length_take, List.length_drop, List.length_append, List.length_cons, List.length_nil, Nat.min_self, List.take_take, lenCols_i, lenCols_b, List.drop_zero, List.take_length, Nat.add_eq, Nat.mul_eq, Nat.sub_eq, Nat.zero_add, Nat.sub_zero, Nat.mul_one]
  refine imp_i fun h0 => ?_
  try simp only [sigLenR, iR, lenPost, List.cons.injEq, DV.b.injEq, and_true, List.length_cons, List.length_nil] at h0
  refine req_i ?_ ?_
  · -- r0
   first | exact ⟨rfl, rfl⟩ | exact ⟨rfl, by decide +kernel⟩
  rfl
theorem ext_len3 : ∀ p ∈ ([] : List (Nat × Ext)), ExtRow Try.prog p.1 p.2 := by
  intro p hp
  cases hp
theorem cts_len3 : CtsOk Try.prog [] := fun f c h => by cases h
theorem fn_len3 : FnOk Try.prog 11 (sigLenR 9 9) [] := fn_sound (by kernel_rfl) ext_len3 cts_len3 names vt_len3
end Go.Proofs.Ytpmlodchbgfmeaa

namespace Go.Proofs.Ytpmlodchbgfmeaa
open Go.Ev Go.Sp
set_option maxRecDepth 100000
theorem vc_len4 : vcFn Try.prog [] noA [] 100 11 (sigLenR 10 10) = (impB ((sigLenR (10 : Int) (10 : Int)).pre [DV.n (10 : Int)]) (
reqB ((sigLenR (10 : Int) (10 : Int)).post [DV.n (10 : Int)]
 [DV.n (Int.ofNat (1023 : Nat)), DV.n (0 : Int)]) (
true))) := by kernel_rfl
set_option maxHeartbeats 8000000 in
theorem vt_len4 : vcFn Try.prog [] noA [] 100 11 (sigLenR 10 10) = true := by
  rw [vc_len4]
  try simp only [Int.toNat_natCast, List.length_set, List.length_replicate, List.length_take, List.length_drop, List.length_append, List.length_cons, List.length_nil, Nat.min_self, List.take_take, lenCols_i, lenCols_b, List.drop_zero, List.take_length, Nat.add_eq, Nat.mul_eq, Nat.sub_eq, Nat.zero_add, Nat.sub_zero, Nat.mul_one]
  refine imp_i fun h0 => ?_
  try simp only [sigLenR, iR, lenPost, List.cons.injEq, DV.b.injEq, and_true, List.length_cons, List.length_nil] at h0
  refine req_i ?_ ?_
  · -- r0
   first | exact ⟨rfl, rfl⟩ | exact ⟨rfl, by decide +kernel⟩
  rfl
theorem ext_len4 : ∀ p ∈ ([] : List (Nat × Ext)), ExtRow Try.prog p.1 p.2 := by
  intro p hp
  cases hp
theorem cts_len4 : CtsOk Try.prog [] := fun f c h => by cases h
theorem fn_len4 : FnOk Try.prog 11 (sigLenR 10 10) [] := fn_sound (by kernel_rfl) ext_len4 cts_len4 names vt_len4
end Go.Proofs.Ytpmlodchbgfmeaa

namespace Go.Proofs.Ytpmlodchbgfmeaa
open Go.Ev Go.Sp
set_option maxRecDepth 100000
theorem vc_len5 : vcFn Try.prog [] noA [] 100 11 (sigLenR (-9223372036854775808) 4) = (allB fun n0 : Int => 
impB ((-9223372036854775808 : Int) ≤ n0) (
impB (n0 ≤ (4 : Int)) (
impB ((sigLenR (-9223372036854775808 : Int) (4 : Int)).pre [DV.n n0]) (
reqB ((sigLenR (-9223372036854775808 : Int) (4 : Int)).post [DV.n n0] [DV.n (0 : Int), DV.n (2 : Int)]) (
true))))) := by kernel_rfl
set_option maxHeartbeats 8000000 in
theorem vt_len5 : vcFn Try.prog [] noA [] 100 11 (sigLenR (-9223372036854775808) 4) = true := by
  rw [vc_len5]
  try simp only [Int.toNat_natCast, List.length_set, List.length_replicate, List.length_take, List.length_drop, List.length_append, List.length_cons, List.length_nil, Nat.min_self, List.take_take, lenCols_i, lenCols_b, List.drop_zero, List.take_length, Nat.add_eq, Nat.mul_eq, Nat.sub_eq, Nat.zero_add, Nat.sub_zero, Nat.mul_one]
  refine all_i fun n0 => ?_
  refine imp_i fun h0 => ?_
  refine imp_i fun h1 => ?_
  refine imp_i fun h2 => ?_
  try simp only [sigLenR, iR, lenPost, List.cons.injEq, DV.b.injEq, and_true, List.length_cons, List.length_nil] at h2
  refine req_i ?_ ?_
  · -- r0
   (simp only [sigBitsR, bitsPost, sigTapsR, tapsPost, sigLenR, lenPost]; exact ite_no (by unfold okD; omega) (by simp))
  rfl
theorem ext_len5 : ∀ p ∈ ([] : List (Nat × Ext)), ExtRow Try.prog p.1 p.2 := by
  intro p hp
  cases hp
theorem cts_len5 : CtsOk Try.prog [] := fun f c h => by cases h
theorem fn_len5 : FnOk Try.prog 11 (sigLenR (-9223372036854775808) 4) [] := fn_sound (by kernel_rfl) ext_len5 cts_len5 names vt_len5
end Go.Proofs.Ytpmlodchbgfmeaa

namespace Go.Proofs.Ytpmlodchbgfmeaa
open Go.Ev Go.Sp
set_option maxRecDepth 100000
theorem vc_len6 : vcFn Try.prog [] noA [] 100 11 (sigLenR 8 8) = (impB ((sigLenR (8 : Int) (8 : Int)).pre [DV.n (8 : Int)]) (
reqB ((sigLenR (8 : Int) (8 : Int)).post [DV.n (8 : Int)] [DV.n (0 : Int), DV.n (2 : Int)]) (
true))) := by kernel_rfl
set_option maxHeartbeats 8000000 in
theorem vt_len6 : vcFn Try.prog [] noA [] 100 11 (sigLenR 8 8) = true := by
  rw [vc_len6]
  try simp only [Int.toNat_natCast, List.length_set, List.length_replicate, List.length_take, List.length_drop, List.length_append, List.length_cons, List.length_nil, Nat.min_self, List.take_take, lenCols_i, lenCols_b, List.drop_zero, List.take_length, Nat.add_eq, Nat.mul_eq, Nat.sub_eq, Nat.zero_add, Nat.sub_zero, Nat.mul_one]
  refine imp_i fun h0 => ?_
  try simp only [sigLenR, iR, lenPost, List.cons.injEq, DV.b.injEq, and_true, List.length_cons, List.length_nil] at h0
  refine req_i ?_ ?_
  · -- r0
   (simp only [sigBitsR, bitsPost, sigTapsR, tapsPost, sigLenR, lenPost]; exact ite_no (by unfold okD; omega) (by simp))
  rfl
theorem ext_len6 : ∀ p ∈ ([] : List (Nat × Ext)), ExtRow Try.prog p.1 p.2 := by
  intro p hp
  cases hp
theorem cts_len6 : CtsOk Try.prog [] := fun f c h => by cases h
theorem fn_len6 : FnOk Try.prog 11 (sigLenR 8 8) [] := fn_sound (by kernel_rfl) ext_len6 cts_len6 names vt_len6
end Go.Proofs.Ytpmlodchbgfmeaa

namespace Go.Proofs.Ytpmlodchbgfmeaa
open Go.Ev Go.Sp
set_option maxRecDepth 100000
theorem vc_len7 : vcFn Try.prog [] noA [] 100 11 (sigLenR 11 9223372036854775807) = (allB fun n0 : Int => 
impB ((11 : Int) ≤ n0) (
impB (n0 ≤ (9223372036854775807 : Int)) (
impB ((sigLenR (11 : Int) (9223372036854775807 : Int)).pre [DV.n n0]) (
reqB ((sigLenR (11 : Int) (9223372036854775807 : Int)).post [DV.n n0] [DV.n (0 : Int), DV.n (2 : Int)]) (
true))))) := by kernel_rfl
set_option maxHeartbeats 8000000 in
theorem vt_len7 : vcFn Try.prog [] noA [] 100 11 (sigLenR 11 9223372036854775807) = true := by
  rw [vc_len7]
  try simp only [Int.toNat_natCast, List.length_set, List.length_replicate, List.length_take, List.length_drop, List.length_append, List.length_cons, List.length_nil, Nat.min_self, List.take_take, lenCols_i, lenCols_b, List.drop_zero, List.take_length, Nat.add_eq, Nat.mul_eq, Nat.sub_eq, Nat.zero_add, Nat.sub_zero, Nat.mul_one]
  refine all_i fun n0 => ?_
  refine imp_i fun h0 => ?_
  refine imp_i fun h1 => ?_
  refine imp_i fun h2 => ?_
  try simp only [sigLenR, iR, lenPost, List.cons.injEq, DV.b.injEq, and_true, List.length_cons, List.length_nil] at h2
  refine req_i ?_ ?_
  · -- r0
   (simp only [sigBitsR, bitsPost, sigTapsR, tapsPost, sigLenR, lenPost]; exact ite_no (by unfold okD; omega) (by simp))
  rfl
theorem ext_len7 : ∀ p ∈ ([] : List (Nat × Ext)), ExtRow Try.prog p.1 p.2 := by
  intro p hp
  cases hp
theorem cts_len7 : CtsOk Try.prog [] := fun f c h => by cases h
theorem fn_len7 : FnOk Try.prog 11 (sigLenR 11 9223372036854775807) [] := fn_sound (by kernel_rfl) ext_len7 cts_len7 names vt_len7
end Go.Proofs.Ytpmlodchbgfmeaa

namespace Go.Proofs.Ytpmlodchbgfmeaa
open Go.Ev Go.Sp
theorem fn_len : FnOk Try.prog 11 sigLen [] := by
  exact (fn_cover1 covD covD_ok fun t ht => by
    simp only [covD, List.mem_cons, List.not_mem_nil, or_false] at ht
    rcases ht with rfl | rfl | rfl | rfl | rfl | rfl | rfl | rfl
    · exact fn_len0
    · exact fn_len1
    · exact fn_len2
    · exact fn_len3
    · exact fn_len4
    · exact fn_len5
    · exact fn_len6
    · exact fn_len7)
end Go.Proofs.Ytpmlodchbgfmeaa

namespace Go.Proofs.Ytpmlodchbgfmeaa
open Go.Ev Go.Sp
set_option maxRecDepth 100000
theorem vc_bits0 : vcFn Try.prog [] noA [] 200 13 (sigBitsR 5 5 1 1) = (impB ((sigBitsR (5 : Int) (5 : Int) (1 : Int) (1 : Int)).pre [DV.n (5 : Int), DV.n (1 : Int)]) (
reqB ((31 : Nat) ≤ (1100 : Nat)) (
reqB ((bitsL 5 1).length =
 (31 : Nat)) (
reqB (∀ (y : Int),
 y ∈
 (bitsL 5 1) →
 (0 : Int) ≤ y ∧ y ≤ (1 : Int)) (
reqB ((sigBitsR (5 : Int) (5 : Int) (1 : Int) (1 : Int)).post [DV.n (5 : Int), DV.n (1 : Int)]
 [DV.l
 (bitsL 5 1),
 DV.n (0 : Int)]) (
true)))))) := by kernel_rfl
set_option maxHeartbeats 8000000 in
theorem vt_bits0 : vcFn Try.prog [] noA [] 200 13 (sigBitsR 5 5 1 1) = true := by
  rw [vc_bits0]
  try simp only [Int.toNat_natCast, List.length_set, List.length_replicate, List.length_take, List.length_drop, List.length_append, List.length_cons, List.length_nil, Nat.min_self, List.take_take, lenCols_i, lenCols_b, List.drop_zero, List.take_length, Nat.add_eq, Nat.mul_eq, Nat.sub_eq, Nat.zero_add, Nat.sub_zero, Nat.mul_one]
  refine imp_i fun h0 => ?_
  try simp only [sigBitsR, iR, cB, bitsPost, List.cons.injEq, DV.b.injEq, and_true, List.length_cons, List.length_nil] at h0
  refine req_i ?_ ?_
  · -- r0
   first | omega | assumption | grind
  refine req_i ?_ ?_
  · -- r1
   decide +kernel
  refine req_i ?_ ?_
  · -- r2
   exact all01 (by decide +kernel)
  refine req_i ?_ ?_
  · -- r3
   first | exact ⟨rfl, rfl⟩ | exact ⟨rfl, by decide +kernel⟩
  rfl
theorem ext_bits0 : ∀ p ∈ ([] : List (Nat × Ext)), ExtRow Try.prog p.1 p.2 := by
  intro p hp
  cases hp
theorem cts_bits0 : CtsOk Try.prog [] := fun f c h => by cases h
theorem fn_bits0 : FnOk Try.prog 13 (sigBitsR 5 5 1 1) [] := fn_sound (by kernel_rfl) ext_bits0 cts_bits0 names vt_bits0
end Go.Proofs.Ytpmlodchbgfmeaa

namespace Go.Proofs.Ytpmlodchbgfmeaa
open Go.Ev Go.Sp
set_option maxRecDepth 100000
theorem vc_bits1 : vcFn Try.prog [] noA [] 200 13 (sigBitsR 5 5 2 2) = (impB ((sigBitsR (5 : Int) (5 : Int) (2 : Int) (2 : Int)).pre [DV.n (5 : Int), DV.n (2 : Int)]) (
reqB ((31 : Nat) ≤ (1100 : Nat)) (
reqB ((bitsL 5 2).length =
 (31 : Nat)) (
reqB (∀ (y : Int),
 y ∈
 (bitsL 5 2) →
 (0 : Int) ≤ y ∧ y ≤ (1 : Int)) (
reqB ((sigBitsR (5 : Int) (5 : Int) (2 : Int) (2 : Int)).post [DV.n (5 : Int), DV.n (2 : Int)]
 [DV.l
 (bitsL 5 2),
 DV.n (0 : Int)]) (
true)))))) := by kernel_rfl
set_option maxHeartbeats 8000000 in
theorem vt_bits1 : vcFn Try.prog [] noA [] 200 13 (sigBitsR 5 5 2 2) = true := by
  rw [vc_bits1]
  try simp only [Int.toNat_natCast, List.length_set, List.length_replicate, List.length_take, List.length_drop, List.length_append, List.length_cons, List.length_nil, Nat.min_self, List.take_take, lenCols_i, lenCols_b, List.drop_zero, List.take_length, Nat.add_eq, Nat.mul_eq, Nat.sub_eq, Nat.zero_add, Nat.sub_zero, Nat.mul_one]
  refine imp_i fun h0 => ?_
  try simp only [sigBitsR, iR, cB, bitsPost, List.cons.injEq, DV.b.injEq, and_true, List.length_cons, List.length_nil] at h0
  refine req_i ?_ ?_
  · -- r0
   first | omega | assumption | grind
  refine req_i ?_ ?_
  · -- r1
   decide +kernel
  refine req_i ?_ ?_
  · -- r2
   exact all01 (by decide +kernel)
  refine req_i ?_ ?_
  · -- r3
   first | exact ⟨rfl, rfl⟩ | exact ⟨rfl, by decide +kernel⟩
  rfl
theorem ext_bits1 : ∀ p ∈ ([] : List (Nat × Ext)), ExtRow Try.prog p.1 p.2 := by
  intro p hp
  cases hp
theorem cts_bits1 : CtsOk Try.prog [] := fun f c h => by cases h
theorem fn_bits1 : FnOk Try.prog 13 (sigBitsR 5 5 2 2) [] := fn_sound (by kernel_rfl) ext_bits1 cts_bits1 names vt_bits1
end Go.Proofs.Ytpmlodchbgfmeaa

namespace Go.Proofs.Ytpmlodchbgfmeaa
open Go.Ev Go.Sp
set_option maxRecDepth 100000
theorem vc_bits2 : vcFn Try.prog [] noA [] 400 13 (sigBitsR 6 6 1 1) = (impB ((sigBitsR (6 : Int) (6 : Int) (1 : Int) (1 : Int)).pre [DV.n (6 : Int), DV.n (1 : Int)]) (
reqB ((63 : Nat) ≤ (1100 : Nat)) (
reqB ((bitsL 6 1).length =
 (63 : Nat)) (
reqB (∀ (y : Int),
 y ∈
 (bitsL 6 1) →
 (0 : Int) ≤ y ∧ y ≤ (1 : Int)) (
reqB ((sigBitsR (6 : Int) (6 : Int) (1 : Int) (1 : Int)).post [DV.n (6 : Int), DV.n (1 : Int)]
 [DV.l
 (bitsL 6 1),
 DV.n (0 : Int)]) (
true)))))) := by kernel_rfl
set_option maxHeartbeats 8000000 in
theorem vt_bits2 : vcFn Try.prog [] noA [] 400 13 (sigBitsR 6 6 1 1) = true := by
  rw [vc_bits2]
  try simp only [Int.toNat_natCast, List.length_set, List.length_replicate, List.length_take, List.length_drop, List.length_append, List.length_cons, List.length_nil, Nat.min_self, List.take_take, lenCols_i, lenCols_b, List.drop_zero, List.take_length, Nat.add_eq, Nat.mul_eq, Nat.sub_eq, Nat.zero_add, Nat.sub_zero, Nat.mul_one]
  refine imp_i fun h0 => ?_
  try simp only [sigBitsR, iR, cB, bitsPost, List.cons.injEq, DV.b.injEq, and_true, List.length_cons, List.length_nil] at h0
  refine req_i ?_ ?_
  · -- r0
   first | omega | assumption | grind
  refine req_i ?_ ?_
  · -- r1
   decide +kernel
  refine req_i ?_ ?_
  · -- r2
   exact all01 (by decide +kernel)
  refine req_i ?_ ?_
  · -- r3
   first | exact ⟨rfl, rfl⟩ | exact ⟨rfl, by decide +kernel⟩
  rfl
theorem ext_bits2 : ∀ p ∈ ([] : List (Nat × Ext)), ExtRow Try.prog p.1 p.2 := by
  intro p hp
  cases hp
theorem cts_bits2 : CtsOk Try.prog [] := fun f c h => by cases h
theorem fn_bits2 : FnOk Try.prog 13 (sigBitsR 6 6 1 1) [] := fn_sound (by kernel_rfl) ext_bits2 cts_bits2 names vt_bits2
end Go.Proofs.Ytpmlodchbgfmeaa

namespace Go.Proofs.Ytpmlodchbgfmeaa
open Go.Ev Go.Sp
set_option maxRecDepth 100000
theorem vc_bits3 : vcFn Try.prog [] noA [] 400 13 (sigBitsR 6 6 2 2) = (impB ((sigBitsR (6 : Int) (6 : Int) (2 : Int) (2 : Int)).pre [DV.n (6 : Int), DV.n (2 : Int)]) (
reqB ((63 : Nat) ≤ (1100 : Nat)) (
reqB ((bitsL 6 2).length =
 (63 : Nat)) (
reqB (∀ (y : Int),
 y ∈
 (bitsL 6 2) →
 (0 : Int) ≤ y ∧ y ≤ (1 : Int)) (
reqB ((sigBitsR (6 : Int) (6 : Int) (2 : Int) (2 : Int)).post [DV.n (6 : Int), DV.n (2 : Int)]
 [DV.l
 (bitsL 6 2),
 DV.n (0 : Int)]) (
true)))))) := by kernel_rfl
set_option maxHeartbeats 8000000 in
theorem vt_bits3 : vcFn Try.prog [] noA [] 400 13 (sigBitsR 6 6 2 2) = true := by
  rw [vc_bits3]
  try simp only [Int.toNat_natCast, List.length_set, List.length_replicate, List.length_take, List.length_drop, List.length_append, List.length_cons, List.length_nil, Nat.min_self, List.take_take, lenCols_i, lenCols_b, List.drop_zero, List.take_length, Nat.add_eq, Nat.mul_eq, Nat.sub_eq, Nat.zero_add, Nat.sub_zero, Nat.mul_one]
  refine imp_i fun h0 => ?_
  try simp only [sigBitsR, iR, cB, bitsPost, List.cons.injEq, DV.b.injEq, and_true, List.length_cons, List.length_nil] at h0
  refine req_i ?_ ?_
  · -- r0
   first | omega | assumption | grind
  refine req_i ?_ ?_
  · -- r1
   decide +kernel
  refine req_i ?_ ?_
  · -- r2
   exact all01 (by decide +kernel)
  refine req_i ?_ ?_
  · -- r3
   first | exact ⟨rfl, rfl⟩ | exact ⟨rfl, by decide +kernel⟩
  rfl
theorem ext_bits3 : ∀ p ∈ ([] : List (Nat × Ext)), ExtRow Try.prog p.1 p.2 := by
  intro p hp
  cases hp
theorem cts_bits3 : CtsOk Try.prog [] := fun f c h => by cases h
theorem fn_bits3 : FnOk Try.prog 13 (sigBitsR 6 6 2 2) [] := fn_sound (by kernel_rfl) ext_bits3 cts_bits3 names vt_bits3
end Go.Proofs.Ytpmlodchbgfmeaa

namespace Go.Proofs.Ytpmlodchbgfmeaa
open Go.Ev Go.Sp
set_option maxRecDepth 100000
theorem vc_bits4 : vcFn Try.prog [] noA [] 1000 13 (sigBitsR 7 7 1 1) = (impB ((sigBitsR (7 : Int) (7 : Int) (1 : Int) (1 : Int)).pre [DV.n (7 : Int), DV.n (1 : Int)]) (
reqB ((127 : Nat) ≤ (1100 : Nat)) (
reqB ((bitsL 7 1).length =
 (127 : Nat)) (
reqB (∀ (y : Int),
 y ∈
 (bitsL 7 1) →
 (0 : Int) ≤ y ∧ y ≤ (1 : Int)) (
reqB ((sigBitsR (7 : Int) (7 : Int) (1 : Int) (1 : Int)).post [DV.n (7 : Int), DV.n (1 : Int)]
 [DV.l
 (bitsL 7 1),
 DV.n (0 : Int)]) (
true)))))) := by kernel_rfl
set_option maxHeartbeats 8000000 in
theorem vt_bits4 : vcFn Try.prog [] noA [] 1000 13 (sigBitsR 7 7 1 1) = true := by
  rw [vc_bits4]
  try simp only [Int.toNat_natCast, List.length_set, List.length_replicate, List.length_take, List.length_drop, List.length_append, List.length_cons, List.length_nil, Nat.min_self, List.take_take, lenCols_i, lenCols_b, List.drop_zero, List.take_length, Nat.add_eq, Nat.mul_eq, Nat.sub_eq, Nat.zero_add, Nat.sub_zero, Nat.mul_one]
  refine imp_i fun h0 => ?_
  try simp only [sigBitsR, iR, cB, bitsPost, List.cons.injEq, DV.b.injEq, and_true, List.length_cons, List.length_nil] at h0
  refine req_i ?_ ?_
  · -- r0
   first | omega | assumption | grind
  refine req_i ?_ ?_
  · -- r1
   decide +kernel
  refine req_i ?_ ?_
  · -- r2
   exact all01 (by decide +kernel)
  refine req_i ?_ ?_
  · -- r3
   first | exact ⟨rfl, rfl⟩ | exact ⟨rfl, by decide +kernel⟩
  rfl
theorem ext_bits4 : ∀ p ∈ ([] : List (Nat × Ext)), ExtRow Try.prog p.1 p.2 := by
  intro p hp
  cases hp
theorem cts_bits4 : CtsOk Try.prog [] := fun f c h => by cases h
theorem fn_bits4 : FnOk Try.prog 13 (sigBitsR 7 7 1 1) [] := fn_sound (by kernel_rfl) ext_bits4 cts_bits4 names vt_bits4
end Go.Proofs.Ytpmlodchbgfmeaa

namespace Go.Proofs.Ytpmlodchbgfmeaa
open Go.Ev Go.Sp
set_option maxRecDepth 100000
theorem vc_bits5 : vcFn Try.prog [] noA [] 1000 13 (sigBitsR 7 7 2 2) = (impB ((sigBitsR (7 : Int) (7 : Int) (2 : Int) (2 : Int)).pre [DV.n (7 : Int), DV.n (2 : Int)]) (
reqB ((127 : Nat) ≤ (1100 : Nat)) (
reqB ((bitsL 7 2).length =
 (127 : Nat)) (
reqB (∀ (y : Int),
 y ∈
 (bitsL 7 2) →
 (0 : Int) ≤ y ∧ y ≤ (1 : Int)) (
reqB ((sigBitsR (7 : Int) (7 : Int) (2 : Int) (2 : Int)).post [DV.n (7 : Int), DV.n (2 : Int)]
 [DV.l
 (bitsL 7 2),
 DV.n (0 : Int)]) (
true)))))) := by kernel_rfl
set_option maxHeartbeats 8000000 in
theorem vt_bits5 : vcFn Try.prog [] noA [] 1000 13 (sigBitsR 7 7 2 2) = true := by
  rw [vc_bits5]
  try simp only [Int.toNat_natCast, List.length_set, List.length_replicate, List.length_take, List.length_drop, List.length_append, List.length_cons, List.length_nil, Nat.min_self, List.take_take, lenCols_i, lenCols_b, List.drop_zero, List.take_length, Nat.add_eq, Nat.mul_eq, Nat.sub_eq, Nat.zero_add, Nat.sub_zero, Nat.mul_one]
  refine imp_i fun h0 => ?_
  try simp only [sigBitsR, iR, cB, bitsPost, List.cons.injEq, DV.b.injEq, and_true, List.length_cons, List.length_nil] at h0
  refine req_i ?_ ?_
  · -- r0
   first | omega | assumption | grind
  refine req_i ?_ ?_
  · -- r1
   decide +kernel
  refine req_i ?_ ?_
  · -- r2
   exact all01 (by decide +kernel)
  refine req_i ?_ ?_
  · -- r3
   first | exact ⟨rfl, rfl⟩ | exact ⟨rfl, by decide +kernel⟩
  rfl
theorem ext_bits5 : ∀ p ∈ ([] : List (Nat × Ext)), ExtRow Try.prog p.1 p.2 := by
  intro p hp
  cases hp
theorem cts_bits5 : CtsOk Try.prog [] := fun f c h => by cases h
theorem fn_bits5 : FnOk Try.prog 13 (sigBitsR 7 7 2 2) [] := fn_sound (by kernel_rfl) ext_bits5 cts_bits5 names vt_bits5
end Go.Proofs.Ytpmlodchbgfmeaa

namespace Go.Proofs.Ytpmlodchbgfmeaa
open Go.Ev Go.Sp
set_option maxRecDepth 100000
theorem vc_bits6 : vcFn Try.prog [] noA [] 2500 13 (sigBitsR 9 9 1 1) = (impB ((sigBitsR (9 : Int) (9 : Int) (1 : Int) (1 : Int)).pre [DV.n (9 : Int), DV.n (1 : Int)]) (
reqB ((511 : Nat) ≤ (1100 : Nat)) (
reqB ((bitsL 9 1).length =
 (511 : Nat)) (
reqB (∀ (y : Int),
 y ∈
 (bitsL 9 1) →
 (0 : Int) ≤ y ∧ y ≤ (1 : Int)) (
reqB ((sigBitsR (9 : Int) (9 : Int) (1 : Int) (1 : Int)).post [DV.n (9 : Int), DV.n (1 : Int)]
 [DV.l
 (bitsL 9 1),
 DV.n (0 : Int)]) (
true)))))) := by kernel_rfl
set_option maxHeartbeats 8000000 in
theorem vt_bits6 : vcFn Try.prog [] noA [] 2500 13 (sigBitsR 9 9 1 1) = true := by
  rw [vc_bits6]
  try simp only [Int.toNat_natCast, List.length_set, List.length_replicate, List.length_take, List.length_drop, List.length_append, List.length_cons, List.length_nil, Nat.min_self, List.take_take, lenCols_i, lenCols_b, List.drop_zero, List.take_length, Nat.add_eq, Nat.mul_eq, Nat.sub_eq, Nat.zero_add, Nat.sub_zero, Nat.mul_one]
  refine imp_i fun h0 => ?_
  try simp only [sigBitsR, iR, cB, bitsPost, List.cons.injEq, DV.b.injEq, and_true, List.length_cons, List.length_nil] at h0
  refine req_i ?_ ?_
  · -- r0
   first | omega | assumption | grind
  refine req_i ?_ ?_
  · -- r1
   decide +kernel
  refine req_i ?_ ?_
  · -- r2
   exact all01 (by decide +kernel)
  refine req_i ?_ ?_
  · -- r3
   first | exact ⟨rfl, rfl⟩ | exact ⟨rfl, by decide +kernel⟩
  rfl
theorem ext_bits6 : ∀ p ∈ ([] : List (Nat × Ext)), ExtRow Try.prog p.1 p.2 := by
  intro p hp
  cases hp
theorem cts_bits6 : CtsOk Try.prog [] := fun f c h => by cases h
theorem fn_bits6 : FnOk Try.prog 13 (sigBitsR 9 9 1 1) [] := fn_sound (by kernel_rfl) ext_bits6 cts_bits6 names vt_bits6
end Go.Proofs.Ytpmlodchbgfmeaa

namespace Go.Proofs.Ytpmlodchbgfmeaa
open Go.Ev Go.Sp
set_option maxRecDepth 100000
theorem vc_bits7 : vcFn Try.prog [] noA [] 2500 13 (sigBitsR 9 9 2 2) = (impB ((sigBitsR (9 : Int) (9 : Int) (2 : Int) (2 : Int)).pre [DV.n (9 : Int), DV.n (2 : Int)]) (
reqB ((511 : Nat) ≤ (1100 : Nat)) (
reqB ((bitsL 9 2).length =
 (511 : Nat)) (
reqB (∀ (y : Int),
 y ∈
 (bitsL 9 2) →
 (0 : Int) ≤ y ∧ y ≤ (1 : Int)) (
reqB ((sigBitsR (9 : Int) (9 : Int) (2 : Int) (2 : Int)).post [DV.n (9 : Int), DV.n (2 : Int)]
 [DV.l
 (bitsL 9 2),
 DV.n (0 : Int)]) (
true)))))) := by kernel_rfl
set_option maxHeartbeats 8000000 in
theorem vt_bits7 : vcFn Try.prog [] noA [] 2500 13 (sigBitsR 9 9 2 2) = true := by
  rw [vc_bits7]
  try simp only [Int.toNat_natCast, List.length_set, List.length_replicate, List.length_take, List.length_drop, List.length_append, List.length_cons, List.length_nil, Nat.min_self, List.take_take, lenCols_i, lenCols_b, List.drop_zero, List.take_length, Nat.add_eq, Nat.mul_eq, Nat.sub_eq, Nat.zero_add, Nat.sub_zero, Nat.mul_one]
  refine imp_i fun h0 => ?_
  try simp only [sigBitsR, iR, cB, bitsPost, List.cons.injEq, DV.b.injEq, and_true, List.length_cons, List.length_nil] at h0
  refine req_i ?_ ?_
  · -- r0
   first | omega | assumption | grind
  refine req_i ?_ ?_
  · -- r1
   decide +kernel
  refine req_i ?_ ?_
  · -- r2
   exact all01 (by decide +kernel)
  refine req_i ?_ ?_
  · -- r3
   first | exact ⟨rfl, rfl⟩ | exact ⟨rfl, by decide +kernel⟩
  rfl
theorem ext_bits7 : ∀ p ∈ ([] : List (Nat × Ext)), ExtRow Try.prog p.1 p.2 := by
  intro p hp
  cases hp
theorem cts_bits7 : CtsOk Try.prog [] := fun f c h => by cases h
theorem fn_bits7 : FnOk Try.prog 13 (sigBitsR 9 9 2 2) [] := fn_sound (by kernel_rfl) ext_bits7 cts_bits7 names vt_bits7
end Go.Proofs.Ytpmlodchbgfmeaa

namespace Go.Proofs.Ytpmlodchbgfmeaa
open Go.Ev Go.Sp
set_option maxRecDepth 100000
theorem vc_bits8 : vcFn Try.prog [] noA [] 4000 13 (sigBitsR 10 10 1 1) = (impB ((sigBitsR (10 : Int) (10 : Int) (1 : Int) (1 : Int)).pre [DV.n (10 : Int), DV.n (1 : Int)]) (
reqB ((1023 : Nat) ≤ (1100 : Nat)) (
reqB ((bitsL 10 1).length =
 (1023 : Nat)) (
reqB (∀ (y : Int),
 y ∈
 (bitsL 10 1) →
 (0 : Int) ≤ y ∧ y ≤ (1 : Int)) (
reqB ((sigBitsR (10 : Int) (10 : Int) (1 : Int) (1 : Int)).post [DV.n (10 : Int), DV.n (1 : Int)]
 [DV.l
 (bitsL 10 1),
 DV.n (0 : Int)]) (
true)))))) := by kernel_rfl
set_option maxHeartbeats 8000000 in
theorem vt_bits8 : vcFn Try.prog [] noA [] 4000 13 (sigBitsR 10 10 1 1) = true := by
  rw [vc_bits8]
  try simp only [Int.toNat_natCast, List.length_set, List.length_replicate, List.length_take, List.length_drop, List.length_append, List.length_cons, List.length_nil, Nat.min_self, List.take_take, lenCols_i, lenCols_b, List.drop_zero, List.take_length, Nat.add_eq, Nat.mul_eq, Nat.sub_eq, Nat.zero_add, Nat.sub_zero, Nat.mul_one]
  refine imp_i fun h0 => ?_
  try simp only [sigBitsR, iR, cB, bitsPost, List.cons.injEq, DV.b.injEq, and_true, List.length_cons, List.length_nil] at h0
  refine req_i ?_ ?_
  · -- r0
   first | omega | assumption | grind
  refine req_i ?_ ?_
  · -- r1
   decide +kernel
  refine req_i ?_ ?_
  · -- r2
   exact all01 (by decide +kernel)
  refine req_i ?_ ?_
  · -- r3
   first | exact ⟨rfl, rfl⟩ | exact ⟨rfl, by decide +kernel⟩
  rfl
theorem ext_bits8 : ∀ p ∈ ([] : List (Nat × Ext)), ExtRow Try.prog p.1 p.2 := by
  intro p hp
  cases hp
theorem cts_bits8 : CtsOk Try.prog [] := fun f c h => by cases h
theorem fn_bits8 : FnOk Try.prog 13 (sigBitsR 10 10 1 1) [] := fn_sound (by kernel_rfl) ext_bits8 cts_bits8 names vt_bits8
end Go.Proofs.Ytpmlodchbgfmeaa

namespace Go.Proofs.Ytpmlodchbgfmeaa
open Go.Ev Go.Sp
set_option maxRecDepth 100000
theorem vc_bits9 : vcFn Try.prog [] noA [] 4000 13 (sigBitsR 10 10 2 2) = (impB ((sigBitsR (10 : Int) (10 : Int) (2 : Int) (2 : Int)).pre [DV.n (10 : Int), DV.n (2 : Int)]) (
reqB ((1023 : Nat) ≤ (1100 : Nat)) (
reqB ((bitsL 10 2).length =
 (1023 : Nat)) (
reqB (∀ (y : Int),
 y ∈
 (bitsL 10 2) →
 (0 : Int) ≤ y ∧ y ≤ (1 : Int)) (
reqB ((sigBitsR (10 : Int) (10 : Int) (2 : Int) (2 : Int)).post [DV.n (10 : Int), DV.n (2 : Int)]
 [DV.l
 (bitsL 10 2),
 DV.n (0 : Int)]) (
true)))))) := by kernel_rfl
set_option maxHeartbeats 8000000 in
theorem vt_bits9 : vcFn Try.prog [] noA [] 4000 13 (sigBitsR 10 10 2 2) = true := by
  rw [vc_bits9]
  try simp only [Int.toNat_natCast, List.length_set, List.length_replicate, List.length_take, List.length_drop, List.length_append, List.length_cons, List.length_nil, Nat.min_self, List.take_take, lenCols_i, lenCols_b, List.drop_zero, List.take_length, Nat.add_eq, Nat.mul_eq, Nat.sub_eq, Nat.zero_add, Nat.sub_zero, Nat.mul_one]
  refine imp_i fun h0 => ?_
  try simp only [sigBitsR, iR, cB, bitsPost, List.cons.injEq, DV.b.injEq, and_true, List.length_cons, List.length_nil] at h0
  refine req_i ?_ ?_
  · -- r0
   first | omega | assumption | grind
  refine req_i ?_ ?_
  · -- r1
   decide +kernel
  refine req_i ?_ ?_
  · -- r2
   exact all01 (by decide +kernel)
  refine req_i ?_ ?_
  · -- r3
   first | exact ⟨rfl, rfl⟩ | exact ⟨rfl, by decide +kernel⟩
  rfl
theorem ext_bits9 : ∀ p ∈ ([] : List (Nat × Ext)), ExtRow Try.prog p.1 p.2 := by
  intro p hp
  cases hp
theorem cts_bits9 : CtsOk Try.prog [] := fun f c h => by cases h
theorem fn_bits9 : FnOk Try.prog 13 (sigBitsR 10 10 2 2) [] := fn_sound (by kernel_rfl) ext_bits9 cts_bits9 names vt_bits9
end Go.Proofs.Ytpmlodchbgfmeaa

namespace Go.Proofs.Ytpmlodchbgfmeaa
open Go.Ev Go.Sp
set_option maxRecDepth 100000
theorem vc_bits10 : vcFn Try.prog [] noA [] 100 13 (sigBitsR (-9223372036854775808) 4 (-9223372036854775808) 9223372036854775807) = (allB fun n0 : Int => 
impB ((-9223372036854775808 : Int) ≤ n0) (
impB (n0 ≤ (4 : Int)) (
allB fun n1 : Int => 
impB ((-9223372036854775808 : Int) ≤ n1) (
impB (n1 ≤ (9223372036854775807 : Int)) (
impB ((sigBitsR (-9223372036854775808 : Int) (4 : Int) (-9223372036854775808 : Int) (9223372036854775807 : Int)).pre
 [DV.n n0, DV.n n1]) (
reqB ((sigBitsR (-9223372036854775808 : Int) (4 : Int) (-9223372036854775808 : Int) (9223372036854775807 : Int)).post
 [DV.n n0, DV.n n1] [DV.l [], DV.n (2 : Int)]) (
true))))))) := by kernel_rfl
set_option maxHeartbeats 8000000 in
theorem vt_bits10 : vcFn Try.prog [] noA [] 100 13 (sigBitsR (-9223372036854775808) 4 (-9223372036854775808) 9223372036854775807) = true := by
  rw [vc_bits10]
  try simp only [Int.toNat_natCast, List.length_set, List.length_replicate, List.length_take, List.length_drop, List.length_append, List.length_cons, List.length_nil, Nat.min_self, List.take_take, lenCols_i, lenCols_b, List.drop_zero, List.take_length, Nat.add_eq, Nat.mul_eq, Nat.sub_eq, Nat.zero_add, Nat.sub_zero, Nat.mul_one]
  refine all_i fun n0 => ?_
  refine imp_i fun h0 => ?_
  refine imp_i fun h1 => ?_
  refine all_i fun n1 => ?_
  refine imp_i fun h2 => ?_
  refine imp_i fun h3 => ?_
  refine imp_i fun h4 => ?_
  try simp only [sigBitsR, iR, cB, bitsPost, List.cons.injEq, DV.b.injEq, and_true, List.length_cons, List.length_nil] at h4
  refine req_i ?_ ?_
  · -- r0
   (simp only [sigBitsR, bitsPost, sigTapsR, tapsPost, sigLenR, lenPost]; exact ite_no (by unfold okD; omega) (by simp))
  rfl
theorem ext_bits10 : ∀ p ∈ ([] : List (Nat × Ext)), ExtRow Try.prog p.1 p.2 := by
  intro p hp
  cases hp
theorem cts_bits10 : CtsOk Try.prog [] := fun f c h => by cases h
theorem fn_bits10 : FnOk Try.prog 13 (sigBitsR (-9223372036854775808) 4 (-9223372036854775808) 9223372036854775807) [] := fn_sound (by kernel_rfl) ext_bits10 cts_bits10 names vt_bits10
end Go.Proofs.Ytpmlodchbgfmeaa

namespace Go.Proofs.Ytpmlodchbgfmeaa
open Go.Ev Go.Sp
set_option maxRecDepth 100000
theorem vc_bits11 : vcFn Try.prog [] noA [] 100 13 (sigBitsR 8 8 (-9223372036854775808) 9223372036854775807) = (allB fun n0 : Int => 
impB ((-9223372036854775808 : Int) ≤ n0) (
impB (n0 ≤ (9223372036854775807 : Int)) (
impB ((sigBitsR (8 : Int) (8 : Int) (-9223372036854775808 : Int) (9223372036854775807 : Int)).pre
 [DV.n (8 : Int), DV.n n0]) (
reqB ((sigBitsR (8 : Int) (8 : Int) (-9223372036854775808 : Int) (9223372036854775807 : Int)).post
 [DV.n (8 : Int), DV.n n0] [DV.l [], DV.n (2 : Int)]) (
true))))) := by kernel_rfl
set_option maxHeartbeats 8000000 in
theorem vt_bits11 : vcFn Try.prog [] noA [] 100 13 (sigBitsR 8 8 (-9223372036854775808) 9223372036854775807) = true := by
  rw [vc_bits11]
  try simp only [Int.toNat_natCast, List.length_set, List.length_replicate, List.length_take, List.length_drop, List.length_append, List.length_cons, List.length_nil, Nat.min_self, List.take_take, lenCols_i, lenCols_b, List.drop_zero, List.take_length, Nat.add_eq, Nat.mul_eq, Nat.sub_eq, Nat.zero_add, Nat.sub_zero, Nat.mul_one]
  refine all_i fun n0 => ?_
  refine imp_i fun h0 => ?_
  refine imp_i fun h1 => ?_
  refine imp_i fun h2 => ?_
  try simp only [sigBitsR, iR, cB, bitsPost, List.cons.injEq, DV.b.injEq, and_true, List.length_cons, List.length_nil] at h2
  refine req_i ?_ ?_
  · -- r0
   (simp only [sigBitsR, bitsPost, sigTapsR, tapsPost, sigLenR, lenPost]; exact ite_no (by unfold okD; omega) (by simp))
  rfl
theorem ext_bits11 : ∀ p ∈ ([] : List (Nat × Ext)), ExtRow Try.prog p.1 p.2 := by
  intro p hp
  cases hp
theorem cts_bits11 : CtsOk Try.prog [] := fun f c h => by cases h
theorem fn_bits11 : FnOk Try.prog 13 (sigBitsR 8 8 (-9223372036854775808) 9223372036854775807) [] := fn_sound (by kernel_rfl) ext_bits11 cts_bits11 names vt_bits11
end Go.Proofs.Ytpmlodchbgfmeaa

namespace Go.Proofs.Ytpmlodchbgfmeaa
open Go.Ev Go.Sp
set_option maxRecDepth 100000
theorem vc_bits12 : vcFn Try.prog [] noA [] 100 13 (sigBitsR 11 9223372036854775807 (-9223372036854775808) 9223372036854775807) = (allB fun n0 : Int => 
impB ((11 : Int) ≤ n0) (
impB (n0 ≤ (9223372036854775807 : Int)) (
allB fun n1 : Int => 
impB ((-9223372036854775808 : Int) ≤ n1) (
impB (n1 ≤ (9223372036854775807 : Int)) (
impB ((sigBitsR (11 : Int) (9223372036854775807 : Int) (-9223372036854775808 : Int) (9223372036854775807 : Int)).pre
 [DV.n n0, DV.n n1]) (
reqB ((sigBitsR (11 : Int) (9223372036854775807 : Int) (-9223372036854775808 : Int) (9223372036854775807 : Int)).post
 [DV.n n0, DV.n n1] [DV.l [], DV.n (2 : Int)]) (
true))))))) := by kernel_rfl
set_option maxHeartbeats 8000000 in
theorem vt_bits12 : vcFn Try.prog [] noA [] 100 13 (sigBitsR 11 9223372036854775807 (-9223372036854775808) 9223372036854775807) = true := by
  rw [vc_bits12]
  try simp only [Int.toNat_natCast, List.length_set, List.length_replicate, List.length_take, List.length_drop, List.length_append, List.length_cons, List.length_nil, Nat.min_self, List.take_take, lenCols_i, lenCols_b, List.drop_zero, List.take_length, Nat.add_eq, Nat.mul_eq, Nat.sub_eq, Nat.zero_add, Nat.sub_zero, Nat.mul_one]
  refine all_i fun n0 => ?_
  refine imp_i fun h0 => ?_
  refine imp_i fun h1 => ?_
  refine all_i fun n1 => ?_
  refine imp_i fun h2 => ?_
  refine imp_i fun h3 => ?_
  refine imp_i fun h4 => ?_
  try simp only [sigBitsR, iR, cB, bitsPost, List.cons.injEq, DV.b.injEq, and_true, List.length_cons, List.length_nil] at h4
  refine req_i ?_ ?_
  · -- r0
   (simp only [sigBitsR, bitsPost, sigTapsR, tapsPost, sigLenR, lenPost]; exact ite_no (by unfold okD; omega) (by simp))
  rfl
theorem ext_bits12 : ∀ p ∈ ([] : List (Nat × Ext)), ExtRow Try.prog p.1 p.2 := by
  intro p hp
  cases hp
theorem cts_bits12 : CtsOk Try.prog [] := fun f c h => by cases h
theorem fn_bits12 : FnOk Try.prog 13 (sigBitsR 11 9223372036854775807 (-9223372036854775808) 9223372036854775807) [] := fn_sound (by kernel_rfl) ext_bits12 cts_bits12 names vt_bits12
end Go.Proofs.Ytpmlodchbgfmeaa

namespace Go.Proofs.Ytpmlodchbgfmeaa
open Go.Ev Go.Sp
set_option maxRecDepth 100000
theorem vc_bits13 : vcFn Try.prog [] noA [] 100 13 (sigBitsR 5 10 (-9223372036854775808) 0) = (allB fun n0 : Int => 
impB ((5 : Int) ≤ n0) (
impB (n0 ≤ (10 : Int)) (
allB fun n1 : Int => 
impB ((-9223372036854775808 : Int) ≤ n1) (
impB (n1 ≤ (0 : Int)) (
impB ((sigBitsR (5 : Int) (10 : Int) (-9223372036854775808 : Int) (0 : Int)).pre [DV.n n0, DV.n n1]) (
bR (dec ((5 : Int) = n0)) (
 reqB ((sigBitsR (5 : Int) (10 : Int) (-9223372036854775808 : Int) (0 : Int)).post [DV.n n0, DV.n n1]
 [DV.l [], DV.n (2 : Int)]) (
 true)) (
 bR (dec ((6 : Int) = n0)) (
 reqB ((sigBitsR (5 : Int) (10 : Int) (-9223372036854775808 : Int) (0 : Int)).post [DV.n n0, DV.n n1]
 [DV.l [], DV.n (2 : Int)]) (
 true)) (
 bR (dec ((7 : Int) = n0)) (
 reqB ((sigBitsR (5 : Int) (10 : Int) (-9223372036854775808 : Int) (0 : Int)).post [DV.n n0, DV.n n1]
 [DV.l [], DV.n (2 : Int)]) (
 true)) (
 bR (dec ((9 : Int) = n0)) (
 reqB ((sigBitsR (5 : Int) (10 : Int) (-9223372036854775808 : Int) (0 : Int)).post [DV.n n0, DV.n n1]
 [DV.l [], DV.n (2 : Int)]) (
 true)) (
 bR (dec ((10 : Int) = n0)) (
 reqB ((sigBitsR (5 : Int) (10 : Int) (-9223372036854775808 : Int) (0 : Int)).post [DV.n n0, DV.n n1]
 [DV.l [], DV.n (2 : Int)]) (
 true)) (
 reqB ((sigBitsR (5 : Int) (10 : Int) (-9223372036854775808 : Int) (0 : Int)).post [DV.n n0, DV.n n1]
 [DV.l [], DV.n (2 : Int)]) (
 true)))))))))))) := by kernel_rfl
set_option maxHeartbeats 8000000 in
theorem vt_bits13 : vcFn Try.prog [] noA [] 100 13 (sigBitsR 5 10 (-9223372036854775808) 0) = true := by
  rw [vc_bits13]
  try simp only [Int.toNat_natCast, List.length_set, List.length_replicate, List.length_take, List.length_drop, List.length_append, List.length_cons, List.length_nil, Nat.min_self, List.take_take, lenCols_i, lenCols_b, List.drop_zero, List.take_length, Nat.add_eq, Nat.mul_eq, Nat.sub_eq, Nat.zero_add, Nat.sub_zero, Nat.mul_one]
  refine all_i fun n0 => ?_
  refine imp_i fun h0 => ?_
  refine imp_i fun h1 => ?_
  refine all_i fun n1 => ?_
  refine imp_i fun h2 => ?_
  refine imp_i fun h3 => ?_
  refine imp_i fun h4 => ?_
  try simp only [sigBitsR, iR, cB, bitsPost, List.cons.injEq, DV.b.injEq, and_true, List.length_cons, List.length_nil] at h4
  refine bR_dec (fun h5 => ?_) (fun h5 => ?_)
  ·
   refine req_i ?_ ?_
   · -- r0
    (simp only [sigBitsR, bitsPost, sigTapsR, tapsPost, sigLenR, lenPost]; exact ite_no (by unfold okD; omega) (by simp))
   rfl
  ·
   refine bR_dec (fun h6 => ?_) (fun h6 => ?_)
   ·
    refine req_i ?_ ?_
    · -- r1
     (simp only [sigBitsR, bitsPost, sigTapsR, tapsPost, sigLenR, lenPost]; exact ite_no (by unfold okD; omega) (by simp))
    rfl
   ·
    refine bR_dec (fun h7 => ?_) (fun h7 => ?_)
    ·
     refine req_i ?_ ?_
     · -- r2
      (simp only [sigBitsR, bitsPost, sigTapsR, tapsPost, sigLenR, lenPost]; exact ite_no (by unfold okD; omega) (by simp))
     rfl
    ·
     refine bR_dec (fun h8 => ?_) (fun h8 => ?_)
     ·
      refine req_i ?_ ?_
      · -- r3
       (simp only [sigBitsR, bitsPost, sigTapsR, tapsPost, sigLenR, lenPost]; exact ite_no (by unfold okD; omega) (by simp))
      rfl
     ·
      refine bR_dec (fun h9 => ?_) (fun h9 => ?_)
      ·
       refine req_i ?_ ?_
       · -- r4
        (simp only [sigBitsR, bitsPost, sigTapsR, tapsPost, sigLenR, lenPost]; exact ite_no (by unfold okD; omega) (by simp))
       rfl
      ·
       refine req_i ?_ ?_
       · -- r5
        (simp only [sigBitsR, bitsPost, sigTapsR, tapsPost, sigLenR, lenPost]; exact ite_no (by unfold okD; omega) (by simp))
       rfl
theorem ext_bits13 : ∀ p ∈ ([] : List (Nat × Ext)), ExtRow Try.prog p.1 p.2 := by
  intro p hp
  cases hp
theorem cts_bits13 : CtsOk Try.prog [] := fun f c h => by cases h
theorem fn_bits13 : FnOk Try.prog 13 (sigBitsR 5 10 (-9223372036854775808) 0) [] := fn_sound (by kernel_rfl) ext_bits13 cts_bits13 names vt_bits13
end Go.Proofs.Ytpmlodchbgfmeaa

namespace Go.Proofs.Ytpmlodchbgfmeaa
open Go.Ev Go.Sp
set_option maxRecDepth 100000
theorem vc_bits14 : vcFn Try.prog [] noA [] 100 13 (sigBitsR 5 10 3 9223372036854775807) = (allB fun n0 : Int => 
impB ((5 : Int) ≤ n0) (
impB (n0 ≤ (10 : Int)) (
allB fun n1 : Int => 
impB ((3 : Int) ≤ n1) (
impB (n1 ≤ (9223372036854775807 : Int)) (
impB ((sigBitsR (5 : Int) (10 : Int) (3 : Int) (9223372036854775807 : Int)).pre [DV.n n0, DV.n n1]) (
bR (dec ((5 : Int) = n0)) (
 reqB ((sigBitsR (5 : Int) (10 : Int) (3 : Int) (9223372036854775807 : Int)).post [DV.n n0, DV.n n1]
 [DV.l [], DV.n (2 : Int)]) (
 true)) (
 bR (dec ((6 : Int) = n0)) (
 reqB ((sigBitsR (5 : Int) (10 : Int) (3 : Int) (9223372036854775807 : Int)).post [DV.n n0, DV.n n1]
 [DV.l [], DV.n (2 : Int)]) (
 true)) (
 bR (dec ((7 : Int) = n0)) (
 reqB ((sigBitsR (5 : Int) (10 : Int) (3 : Int) (9223372036854775807 : Int)).post [DV.n n0, DV.n n1]
 [DV.l [], DV.n (2 : Int)]) (
 true)) (
 bR (dec ((9 : Int) = n0)) (
 reqB ((sigBitsR (5 : Int) (10 : Int) (3 : Int) (9223372036854775807 : Int)).post [DV.n n0, DV.n n1]
 [DV.l [], DV.n (2 : Int)]) (
 true)) (
 bR (dec ((10 : Int) = n0)) (
 reqB ((sigBitsR (5 : Int) (10 : Int) (3 : Int) (9223372036854775807 : Int)).post [DV.n n0, DV.n n1]
 [DV.l [], DV.n (2 : Int)]) (
 true)) (
 reqB ((sigBitsR (5 : Int) (10 : Int) (3 : Int) (9223372036854775807 : Int)).post [DV.n n0, DV.n n1]
 [DV.l [], DV.n (2 : Int)]) (
 true)))))))))))) := by kernel_rfl
set_option maxHeartbeats 8000000 in
theorem vt_bits14 : vcFn Try.prog [] noA [] 100 13 (sigBitsR 5 10 3 9223372036854775807) = true := by
  rw [vc_bits14]
  try simp only [Int.toNat_natCast, List.length_set, List.length_replicate, List.length_take, List.length_drop, List.length_append, List.length_cons, List.length_nil, Nat.min_self, List.take_take, lenCols_i, lenCols_b, List.drop_zero, List.take_length, Nat.add_eq, Nat.mul_eq, Nat.sub_eq, Nat.zero_add, Nat.sub_zero, Nat.mul_one]
  refine all_i fun n0 => ?_
  refine imp_i fun h0 => ?_
  refine imp_i fun h1 => ?_
  refine all_i fun n1 => ?_
  refine imp_i fun h2 => ?_
  refine imp_i fun h3 => ?_
  refine imp_i fun h4 => ?_
  try simp only [sigBitsR, iR, cB, bitsPost, List.cons.injEq, DV.b.injEq, and_true, List.length_cons, List.length_nil] at h4
  refine bR_dec (fun h5 => ?_) (fun h5 => ?_)
  ·
   refine req_i ?_ ?_
   · -- r0
    (simp only [sigBitsR, bitsPost, sigTapsR, tapsPost, sigLenR, lenPost]; exact ite_no (by unfold okD; omega) (by simp))
   rfl
  ·
   refine bR_dec (fun h6 => ?_) (fun h6 => ?_)
   ·
    refine req_i ?_ ?_
    · -- r1
     (simp only [sigBitsR, bitsPost, sigTapsR, tapsPost, sigLenR, lenPost]; exact ite_no (by unfold okD; omega) (by simp))
    rfl
   ·
    refine bR_dec (fun h7 => ?_) (fun h7 => ?_)
    ·
     refine req_i ?_ ?_
     · -- r2
      (simp only [sigBitsR, bitsPost, sigTapsR, tapsPost, sigLenR, lenPost]; exact ite_no (by unfold okD; omega) (by simp))
     rfl
    ·
     refine bR_dec (fun h8 => ?_) (fun h8 => ?_)
     ·
      refine req_i ?_ ?_
      · -- r3
       (simp only [sigBitsR, bitsPost, sigTapsR, tapsPost, sigLenR, lenPost]; exact ite_no (by unfold okD; omega) (by simp))
      rfl
     ·
      refine bR_dec (fun h9 => ?_) (fun h9 => ?_)
      ·
       refine req_i ?_ ?_
       · -- r4
        (simp only [sigBitsR, bitsPost, sigTapsR, tapsPost, sigLenR, lenPost]; exact ite_no (by unfold okD; omega) (by simp))
       rfl
      ·
       refine req_i ?_ ?_
       · -- r5
        (simp only [sigBitsR, bitsPost, sigTapsR, tapsPost, sigLenR, lenPost]; exact ite_no (by unfold okD; omega) (by simp))
       rfl
theorem ext_bits14 : ∀ p ∈ ([] : List (Nat × Ext)), ExtRow Try.prog p.1 p.2 := by
  intro p hp
  cases hp
theorem cts_bits14 : CtsOk Try.prog [] := fun f c h => by cases h
theorem fn_bits14 : FnOk Try.prog 13 (sigBitsR 5 10 3 9223372036854775807) [] := fn_sound (by kernel_rfl) ext_bits14 cts_bits14 names vt_bits14
end Go.Proofs.Ytpmlodchbgfmeaa

namespace Go.Proofs.Ytpmlodchbgfmeaa
open Go.Ev Go.Sp
theorem fn_bits : FnOk Try.prog 13 sigBits [] := by
  exact (fn_cover covG covG_ok fun t ht => by
    simp only [covG, List.mem_cons, List.not_mem_nil, or_false] at ht
    rcases ht with rfl | rfl | rfl | rfl | rfl | rfl | rfl | rfl | rfl | rfl | rfl | rfl | rfl | rfl | rfl
    · exact fn_bits0
    · exact fn_bits1
    · exact fn_bits2
    · exact fn_bits3
    · exact fn_bits4
    · exact fn_bits5
    · exact fn_bits6
    · exact fn_bits7
    · exact fn_bits8
    · exact fn_bits9
    · exact fn_bits10
    · exact fn_bits11
    · exact fn_bits12
    · exact fn_bits13
    · exact fn_bits14)
end Go.Proofs.Ytpmlodchbgfmeaa

namespace Go.Proofs.Ytpmlodchbgfmeaa
open Go.Ev Go.Sp
set_option maxRecDepth 100000
theorem vc_codeF : vcFn Try.prog [] (fun f p _ => at2 f p 37 58 codeFL (none)) [] 100 37 sigCodeF = (allB fun l0 : List Int => 
impB (l0.length ≤ (1100 : Nat)) (
impB (∀ (y : Int), y ∈ l0 → (0 : Int) ≤ y ∧ y ≤ (1 : Int)) (
allB fun l1 : List Int => 
impB (l1.length ≤ (1100 : Nat)) (
impB (∀ (y : Int), y ∈ l1 → (0 : Int) ≤ y ∧ y ≤ (1 : Int)) (
allB fun n2 : Int => 
impB ((1 : Int) ≤ n2) (
impB (n2 ≤ (1100 : Int)) (
impB (sigCodeF.pre [DV.l l0, DV.l l1, DV.n n2]) (
reqB ((↑l0.length : Int).toNat ≤ (↑l0.length : Int).toNat) (
reqB ((↑l0.length : Int).toNat ≤ (1000000 : Nat)) (
reqB (((0 : Nat) + l0.length) * (1 : Nat) ≤ l0.length.mul (1 : Nat)) (
reqB (l0.length ≤ (1100 : Nat)) (
reqB ((List.take l0.length (List.drop (0 : Nat) l0)).length = l0.length) (
reqB (∀ (y : Int), y ∈ List.take l0.length (List.drop (0 : Nat) l0) → (0 : Int) ≤ y ∧ y ≤ (1 : Int)) (
reqB (((0 : Nat) + l1.length) * (1 : Nat) ≤ l1.length.mul (1 : Nat)) (
reqB (l1.length ≤ (1100 : Nat)) (
reqB ((List.take l1.length (List.drop (0 : Nat) l1)).length = l1.length) (
reqB (∀ (y : Int), y ∈ List.take l1.length (List.drop (0 : Nat) l1) → (0 : Int) ≤ y ∧ y ≤ (1 : Int)) (
reqB ((1 : Int) ≤ n2) (
reqB (n2 ≤ (1100 : Int)) (
reqB (lenCols
 [Col.i Go.IntKind.i64 (Int.negSucc (9223372036854775807 : Nat)) (Int.ofNat (9223372036854775807 : Nat))
 (List.replicate (↑l0.length : Int).toNat (0 : Int))] ≤
 (1000000 : Nat)) (
reqB ((List.replicate (↑l0.length : Int).toNat (0 : Int)).length =
 lenCols
 [Col.i Go.IntKind.i64 (Int.negSucc (9223372036854775807 : Nat)) (Int.ofNat (9223372036854775807 : Nat))
 (List.replicate (↑l0.length : Int).toNat (0 : Int))]) (
reqB (∀ (y : Int),
 y ∈ List.replicate (↑l0.length : Int).toNat (0 : Int) →
 (-9223372036854775808 : Int) ≤ y ∧ y ≤ (9223372036854775807 : Int)) (
reqB (codeFL.inv
 [DV.l (List.take l0.length (List.drop (0 : Nat) l0)), DV.l (List.take l1.length (List.drop (0 : Nat) l1)),
 DV.n n2]
 [DV.n (0 : Int), DV.l (List.replicate (↑l0.length : Int).toNat (0 : Int))]) (
allB fun n3 : Int => 
impB ((0 : Int) ≤ n3) (
impB (n3 ≤ (1100 : Int)) (
allB fun l4 : List Int => 
impB (l4.length ≤ (1000000 : Nat)) (
impB (∀ (y : Int), y ∈ l4 → (-9223372036854775808 : Int) ≤ y ∧ y ≤ (9223372036854775807 : Int)) (
impB (codeFL.inv
 [DV.l (List.take l0.length (List.drop (0 : Nat) l0)), DV.l (List.take l1.length (List.drop (0 : Nat) l1)),
 DV.n n2]
 [DV.n n3, DV.l l4]) (
bR (dec (n3 < (↑(↑l0.length : Int).toNat : Int))) (
 reqB (n3.toNat < l0.length) (
 reqB (Nat.add (0 : Nat) n3.toNat < l0.length) (
 bR (dec (n2 = (2 : Int))) (
 reqB (n3.toNat < l1.length) (
 reqB (Nat.add (0 : Nat) n3.toNat < l1.length) (
 reqB (n3.toNat < (↑l0.length : Int).toNat) (
 reqB (Nat.add (0 : Nat) n3.toNat < l4.length) (
 bR (bR (bR (dec ((0 : Nat) = (0 : Nat))) (
 dec (l0.length = l0.length)) (
 false)) (
 bR (bR (dec ((0 : Nat) = (0 : Nat))) (
 dec (l1.length = l1.length)) (
 false)) (
 bR (dec (n2 = n2)) (
 bR (bR (dec ((0 : Nat) = (0 : Nat))) (
 dec ((↑l0.length : Int).toNat = (↑l0.length : Int).toNat)) (
 false)) (
 bR (bR (dec ((0 : Nat) = (0 : Nat))) (
 dec ((↑l0.length : Int).toNat = (↑l0.length : Int).toNat)) (
 false)) (
 bR (dec ((↑(↑l0.length : Int).toNat : Int) = (↑(↑l0.length : Int).toNat : Int))) (
 true) (
 false)) (
 false)) (
 false)) (
 false)) (
 false)) (
 false)) (
 reqB ((0 : Int) ≤ n3 + (1 : Int)) (
 reqB (n3 + (1 : Int) ≤ (1100 : Int)) (
 reqB (lenCols
 [Col.i Go.IntKind.i64 (-9223372036854775808 : Int) (9223372036854775807 : Int)
 (l4.set (Nat.add (0 : Nat) n3.toNat)
 ((1 : Int) - (2 : Int) * l1.getD (Nat.add (0 : Nat) n3.toNat) (0 : Int)))] ≤
 (1000000 : Nat)) (
 reqB ((l4.set (Nat.add (0 : Nat) n3.toNat) ((1 : Int) - (2 : Int) * l1.getD (Nat.add (0 : Nat) n3.toNat) (0 : Int))).length =
 lenCols
 [Col.i Go.IntKind.i64 (-9223372036854775808 : Int) (9223372036854775807 : Int)
 (l4.set (Nat.add (0 : Nat) n3.toNat) ((1 : Int) - (2 : Int) * l1.getD (Nat.add (0 : Nat) n3.toNat) (0 : Int)))]) (
 reqB (∀ (y : Int),
 y ∈ l4.set (Nat.add (0 : Nat) n3.toNat) ((1 : Int) - (2 : Int) * l1.getD (Nat.add (0 : Nat) n3.toNat) (0 : Int)) →
 (-9223372036854775808 : Int) ≤ y ∧ y ≤ (9223372036854775807 : Int)) (
 reqB (codeFL.inv
 [DV.l (List.take l0.length (List.drop (0 : Nat) l0)), DV.l (List.take l1.length (List.drop (0 : Nat) l1)),
 DV.n n2]
 [DV.n (n3 + (1 : Int)),
 DV.l
 (l4.set (Nat.add (0 : Nat) n3.toNat) ((1 : Int) - (2 : Int) * l1.getD (Nat.add (0 : Nat) n3.toNat) (0 : Int)))]) (
 reqB (codeFL.mea
 [DV.l (List.take l0.length (List.drop (0 : Nat) l0)),
 DV.l (List.take l1.length (List.drop (0 : Nat) l1)), DV.n n2]
 [DV.n (n3 + (1 : Int)),
 DV.l
 (l4.set (Nat.add (0 : Nat) n3.toNat)
 ((1 : Int) - (2 : Int) * l1.getD (Nat.add (0 : Nat) n3.toNat) (0 : Int)))] <
 codeFL.mea
 [DV.l (List.take l0.length (List.drop (0 : Nat) l0)),
 DV.l (List.take l1.length (List.drop (0 : Nat) l1)), DV.n n2]
 [DV.n n3, DV.l l4]) (
 true)))))))) (
 false)))))) (
 bR (dec ((2 : Int) < n2)) (
 reqB ((↑l1.length : Int) ≠ (0 : Int)) (
 reqB ((0 : Int) ≤ (n3 + n2 - (3 : Int)).tmod (↑l1.length : Int)) (
 reqB (((n3 + n2 - (3 : Int)).tmod (↑l1.length : Int)).toNat < l1.length) (
 reqB (Nat.add (0 : Nat) ((n3 + n2 - (3 : Int)).tmod (↑l1.length : Int)).toNat < l1.length) (
 reqB (n3.toNat < (↑l0.length : Int).toNat) (
 reqB (Nat.add (0 : Nat) n3.toNat < l4.length) (
 bR (bR (bR (dec ((0 : Nat) = (0 : Nat))) (
 dec (l0.length = l0.length)) (
 false)) (
 bR (bR (dec ((0 : Nat) = (0 : Nat))) (
 dec (l1.length = l1.length)) (
 false)) (
 bR (dec (n2 = n2)) (
 bR (bR (dec ((0 : Nat) = (0 : Nat))) (
 dec ((↑l0.length : Int).toNat = (↑l0.length : Int).toNat)) (
 false)) (
 bR (bR (dec ((0 : Nat) = (0 : Nat))) (
 dec ((↑l0.length : Int).toNat = (↑l0.length : Int).toNat)) (
 false)) (
 bR (dec ((↑(↑l0.length : Int).toNat : Int) = (↑(↑l0.length : Int).toNat : Int))) (
 true) (
 false)) (
 false)) (
 false)) (
 false)) (
 false)) (
 false)) (
 reqB ((0 : Int) ≤ n3 + (1 : Int)) (
 reqB (n3 + (1 : Int) ≤ (1100 : Int)) (
 reqB (lenCols
 [Col.i Go.IntKind.i64 (-9223372036854775808 : Int) (9223372036854775807 : Int)
 (l4.set (Nat.add (0 : Nat) n3.toNat)
 ((1 : Int) -
 (2 : Int) *
 opI (SO.xor Go.IntKind.i64) (l0.getD (Nat.add (0 : Nat) n3.toNat) (0 : Int))
 (l1.getD (Nat.add (0 : Nat) ((n3 + n2 - (3 : Int)).tmod (↑l1.length : Int)).toNat) (0 : Int))))] ≤
 (1000000 : Nat)) (
 reqB ((l4.set (Nat.add (0 : Nat) n3.toNat)
 ((1 : Int) -
 (2 : Int) *
 opI (SO.xor Go.IntKind.i64) (l0.getD (Nat.add (0 : Nat) n3.toNat) (0 : Int))
 (l1.getD (Nat.add (0 : Nat) ((n3 + n2 - (3 : Int)).tmod (↑l1.length : Int)).toNat) (0 : Int)))).length =
 lenCols
 [Col.i Go.IntKind.i64 (-9223372036854775808 : Int) (9223372036854775807 : Int)
 (l4.set (Nat.add (0 : Nat) n3.toNat)
 ((1 : Int) -
 (2 : Int) *
 opI (SO.xor Go.IntKind.i64) (l0.getD (Nat.add (0 : Nat) n3.toNat) (0 : Int))
 (l1.getD (Nat.add (0 : Nat) ((n3 + n2 - (3 : Int)).tmod (↑l1.length : Int)).toNat) (0 : Int))))]) (
 reqB (∀ (y : Int),
 y ∈
 l4.set (Nat.add (0 : Nat) n3.toNat)
 ((1 : Int) -
 (2 : Int) *
 opI (SO.xor Go.IntKind.i64) (l0.getD (Nat.add (0 : Nat) n3.toNat) (0 : Int))
 (l1.getD (Nat.add (0 : Nat) ((n3 + n2 - (3 : Int)).tmod (↑l1.length : Int)).toNat) (0 : Int))) →
 (-9223372036854775808 : Int) ≤ y ∧ y ≤ (9223372036854775807 : Int)) (
 reqB (codeFL.inv
 [DV.l (List.take l0.length (List.drop (0 : Nat) l0)), DV.l (List.take l1.length (List.drop (0 : Nat) l1)),
 DV.n n2]
 [DV.n (n3 + (1 : Int)),
 DV.l
 (l4.set (Nat.add (0 : Nat) n3.toNat)
 ((1 : Int) -
 (2 : Int) *
 opI (SO.xor Go.IntKind.i64) (l0.getD (Nat.add (0 : Nat) n3.toNat) (0 : Int))
 (l1.getD (Nat.add (0 : Nat) ((n3 + n2 - (3 : Int)).tmod (↑l1.length : Int)).toNat) (0 : Int))))]) (
 reqB (codeFL.mea
 [DV.l (List.take l0.length (List.drop (0 : Nat) l0)),
 DV.l (List.take l1.length (List.drop (0 : Nat) l1)), DV.n n2]
 [DV.n (n3 + (1 : Int)),
 DV.l
 (l4.set (Nat.add (0 : Nat) n3.toNat)
 ((1 : Int) -
 (2 : Int) *
 opI (SO.xor Go.IntKind.i64) (l0.getD (Nat.add (0 : Nat) n3.toNat) (0 : Int))
 (l1.getD (Nat.add (0 : Nat) ((n3 + n2 - (3 : Int)).tmod (↑l1.length : Int)).toNat) (0 : Int))))] <
 codeFL.mea
 [DV.l (List.take l0.length (List.drop (0 : Nat) l0)),
 DV.l (List.take l1.length (List.drop (0 : Nat) l1)), DV.n n2]
 [DV.n n3, DV.l l4]) (
 true)))))))) (
 false)))))))) (
 reqB (n3.toNat < (↑l0.length : Int).toNat) (
 reqB (Nat.add (0 : Nat) n3.toNat < l4.length) (
 bR (bR (bR (dec ((0 : Nat) = (0 : Nat))) (
 dec (l0.length = l0.length)) (
 false)) (
 bR (bR (dec ((0 : Nat) = (0 : Nat))) (
 dec (l1.length = l1.length)) (
 false)) (
 bR (dec (n2 = n2)) (
 bR (bR (dec ((0 : Nat) = (0 : Nat))) (
 dec ((↑l0.length : Int).toNat = (↑l0.length : Int).toNat)) (
 false)) (
 bR (bR (dec ((0 : Nat) = (0 : Nat))) (
 dec ((↑l0.length : Int).toNat = (↑l0.length : Int).toNat)) (
 false)) (
 bR (dec ((↑(↑l0.length : Int).toNat : Int) = (↑(↑l0.length : Int).toNat : Int))) (
 true) (
 false)) (
 false)) (
 false)) (
 false)) (
 false)) (
 false)) (
 reqB ((0 : Int) ≤ n3 + (1 : Int)) (
 reqB (n3 + (1 : Int) ≤ (1100 : Int)) (
 reqB (lenCols
 [Col.i Go.IntKind.i64 (-9223372036854775808 : Int) (9223372036854775807 : Int)
 (l4.set (Nat.add (0 : Nat) n3.toNat)
 ((1 : Int) - (2 : Int) * l0.getD (Nat.add (0 : Nat) n3.toNat) (0 : Int)))] ≤
 (1000000 : Nat)) (
 reqB ((l4.set (Nat.add (0 : Nat) n3.toNat) ((1 : Int) - (2 : Int) * l0.getD (Nat.add (0 : Nat) n3.toNat) (0 : Int))).length =
 lenCols
 [Col.i Go.IntKind.i64 (-9223372036854775808 : Int) (9223372036854775807 : Int)
 (l4.set (Nat.add (0 : Nat) n3.toNat) ((1 : Int) - (2 : Int) * l0.getD (Nat.add (0 : Nat) n3.toNat) (0 : Int)))]) (
 reqB (∀ (y : Int),
 y ∈ l4.set (Nat.add (0 : Nat) n3.toNat) ((1 : Int) - (2 : Int) * l0.getD (Nat.add (0 : Nat) n3.toNat) (0 : Int)) →
 (-9223372036854775808 : Int) ≤ y ∧ y ≤ (9223372036854775807 : Int)) (
 reqB (codeFL.inv
 [DV.l (List.take l0.length (List.drop (0 : Nat) l0)), DV.l (List.take l1.length (List.drop (0 : Nat) l1)),
 DV.n n2]
 [DV.n (n3 + (1 : Int)),
 DV.l
 (l4.set (Nat.add (0 : Nat) n3.toNat) ((1 : Int) - (2 : Int) * l0.getD (Nat.add (0 : Nat) n3.toNat) (0 : Int)))]) (
 reqB (codeFL.mea
 [DV.l (List.take l0.length (List.drop (0 : Nat) l0)),
 DV.l (List.take l1.length (List.drop (0 : Nat) l1)), DV.n n2]
 [DV.n (n3 + (1 : Int)),
 DV.l
 (l4.set (Nat.add (0 : Nat) n3.toNat)
 ((1 : Int) - (2 : Int) * l0.getD (Nat.add (0 : Nat) n3.toNat) (0 : Int)))] <
 codeFL.mea
 [DV.l (List.take l0.length (List.drop (0 : Nat) l0)),
 DV.l (List.take l1.length (List.drop (0 : Nat) l1)), DV.n n2]
 [DV.n n3, DV.l l4]) (
 true)))))))) (
 false)))))))) (
 reqB (((0 : Nat) + (↑l0.length : Int).toNat) * (1 : Nat) ≤ l4.length.mul (1 : Nat)) (
 reqB ((↑l0.length : Int).toNat ≤ (1100 : Nat)) (
 reqB ((List.take (↑l0.length : Int).toNat (List.drop (0 : Nat) l4)).length = (↑l0.length : Int).toNat) (
 reqB (∀ (y : Int), y ∈ List.take (↑l0.length : Int).toNat (List.drop (0 : Nat) l4) → (-1 : Int) ≤ y ∧ y ≤ (1 : Int)) (
 reqB (sigCodeF.post [DV.l l0, DV.l l1, DV.n n2]
 [DV.l (List.take (↑l0.length : Int).toNat (List.drop (0 : Nat) l4))]) (
 true))))))))))))))))))))))))))))))))))) := by kernel_rfl
set_option maxHeartbeats 8000000 in
theorem vt_codeF : vcFn Try.prog [] (fun f p _ => at2 f p 37 58 codeFL (none)) [] 100 37 sigCodeF = true := by
  rw [vc_codeF]
  try simp only [Int.toNat_natCast, List.length_set, List.length_replicate, List.length_take, List.length_drop, List.length_append, List.length_cons, List.length_nil, Nat.min_self, List.take_take, lenCols_i, lenCols_b, List.drop_zero, List.take_length, Nat.add_eq, Nat.mul_eq, Nat.sub_eq, Nat.zero_add, Nat.sub_zero, Nat.mul_one]
  refine all_i fun l0 => ?_
  refine imp_i fun h0 => ?_
  refine imp_i fun h1 => ?_
  refine all_i fun l1 => ?_
  refine imp_i fun h2 => ?_
  refine imp_i fun h3 => ?_
  refine all_i fun n2 => ?_
  refine imp_i fun h4 => ?_
  refine imp_i fun h5 => ?_
  refine imp_i fun h6 => ?_
  try simp only [sigCodeF, cB, cCh, codeFPre, codeFPost, List.cons.injEq, DV.b.injEq, and_true, List.length_cons, List.length_nil] at h6
  refine req_i ?_ ?_
  · -- r0
   first | omega | ((try simp only [Int.toNat_natCast, List.length_cons, List.length_nil]); first | done | omega | assumption | grind [getD_set, getD_rep, toNat_succ, cntN_yes, cntN_no])
  refine req_i ?_ ?_
  · -- r1
   first | omega | ((try simp only [Int.toNat_natCast, List.length_cons, List.length_nil]); first | done | omega | assumption | grind [getD_set, getD_rep, toNat_succ, cntN_yes, cntN_no])
  refine req_i ?_ ?_
  · -- r2
   first | omega | ((try simp only [Nat.mul_eq]); first | done | omega | assumption | grind [getD_set, getD_rep, toNat_succ, cntN_yes, cntN_no])
  refine req_i ?_ ?_
  · -- r3
   first | omega | ((try simp only [Nat.zero_add]); first | done | omega | assumption | grind [getD_set, getD_rep, toNat_succ, cntN_yes, cntN_no])
  refine req_i ?_ ?_
  · -- r4
   first | omega | ((try simp only [List.length_take, List.take_length, List.take_take, Nat.min_self, List.length_drop, List.drop_zero, List.length_cons, List.length_nil]); first | done | omega | assumption | grind [getD_set, getD_rep, toNat_succ, cntN_yes, cntN_no])
  refine req_i ?_ ?_
  · -- r5
   first | assumption | exact rep_bd (by omega) (by omega) | exact set_bd (by assumption) (by omega) (by omega) | exact take_bd (by assumption) | ((try simp only [List.length_take, List.take_length, List.take_take, Nat.min_self, List.length_drop, List.drop_zero, List.length_cons, List.length_nil]); first | assumption | exact rep_bd (by omega) (by omega) | exact set_bd (by assumption) (by omega) (by omega) | exact take_bd (by assumption) | grind [getD_set, getD_rep, toNat_succ, cntN_yes, cntN_no])
  refine req_i ?_ ?_
  · -- r6
   first | omega | ((try simp only [Nat.mul_eq]); first | done | omega | assumption | grind [getD_set, getD_rep, toNat_succ, cntN_yes, cntN_no])
  refine req_i ?_ ?_
  · -- r7
   first | omega | ((try simp only [Nat.zero_add]); first | done | omega | assumption | grind [getD_set, getD_rep, toNat_succ, cntN_yes, cntN_no])
  refine req_i ?_ ?_
  · -- r8
   first | omega | ((try simp only [List.length_take, List.take_length, List.take_take, Nat.min_self, List.length_drop, List.drop_zero, List.length_cons, List.length_nil]); first | done | omega | assumption | grind [getD_set, getD_rep, toNat_succ, cntN_yes, cntN_no])
  refine req_i ?_ ?_
  · -- r9
   first | assumption | exact rep_bd (by omega) (by omega) | exact set_bd (by assumption) (by omega) (by omega) | exact take_bd (by assumption) | ((try simp only [List.length_take, List.take_length, List.take_take, Nat.min_self, List.length_drop, List.drop_zero, List.length_cons, List.length_nil]); first | assumption | exact rep_bd (by omega) (by omega) | exact set_bd (by assumption) (by omega) (by omega) | exact take_bd (by assumption) | grind [getD_set, getD_rep, toNat_succ, cntN_yes, cntN_no])
  refine req_i ?_ ?_
  · -- r10
   first | omega | assumption | grind
  refine req_i ?_ ?_
  · -- r11
   first | omega | assumption | grind
  refine req_i ?_ ?_
  · -- r12
   first | omega | ((try simp only [Int.toNat_natCast, List.length_replicate, List.length_cons, List.length_nil, lenCols_i, lenCols_b]); first | done | omega | assumption | grind [getD_set, getD_rep, toNat_succ, cntN_yes, cntN_no])
  refine req_i ?_ ?_
  · -- r13
   first | omega | ((try simp only [Int.toNat_natCast, List.length_replicate, List.length_cons, List.length_nil, lenCols_i, lenCols_b]); first | done | omega | assumption | grind [getD_set, getD_rep, toNat_succ, cntN_yes, cntN_no])
  refine req_i ?_ ?_
  · -- r14
   first | assumption | exact rep_bd (by omega) (by omega) | exact set_bd (by assumption) (by omega) (by omega) | exact take_bd (by assumption) | ((try simp only [Int.toNat_natCast, List.length_replicate, List.length_cons, List.length_nil]); first | assumption | exact rep_bd (by omega) (by omega) | exact set_bd (by assumption) (by omega) (by omega) | exact take_bd (by assumption) | grind [getD_set, getD_rep, toNat_succ, cntN_yes, cntN_no])
  refine req_i ?_ ?_
  · -- r15
   first | omega | ((try simp only [codeFL, cB, codeFInv, meaC, List.cons.injEq, DV.b.injEq, and_true, Int.toNat_natCast, List.length_replicate, List.length_take, List.take_length, List.take_take, Nat.min_self, List.length_drop, List.drop_zero, List.length_cons, List.length_nil]); first | done | omega | assumption | grind [getD_set, getD_rep, toNat_succ, cntN_yes, cntN_no])
  refine all_i fun n3 => ?_
  refine imp_i fun h7 => ?_
  refine imp_i fun h8 => ?_
  refine all_i fun l4 => ?_
  refine imp_i fun h9 => ?_
  refine imp_i fun h10 => ?_
  refine imp_i fun h11 => ?_
  try simp only [codeFL, cB, codeFInv, meaC, List.cons.injEq, DV.b.injEq, and_true, List.length_take, List.take_length, List.take_take, Nat.min_self, List.length_drop, List.drop_zero, List.length_cons, List.length_nil] at h11
  refine bR_dec (fun h12 => ?_) (fun h12 => ?_)
  ·
   have a0 := getD_bd (i := n3.toNat) h1 (by omega) (by omega)
   have a1 := getD_bd (i := n3.toNat) h3 (by omega) (by omega)
   refine req_i ?_ ?_
   · -- r16
    first | omega | ((try simp only [Int.toNat_natCast, List.length_cons, List.length_nil]); first | done | omega | assumption | grind [getD_set, getD_rep, toNat_succ, cntN_yes, cntN_no])
   refine req_i ?_ ?_
   · -- r17
    first | omega | ((try simp only [Int.toNat_natCast, List.length_cons, List.length_nil, Nat.add_eq, Nat.zero_add]); first | done | omega | assumption | grind [getD_set, getD_rep, toNat_succ, cntN_yes, cntN_no])
   refine bR_dec (fun h13 => ?_) (fun h13 => ?_)
   ·
    refine req_i ?_ ?_
    · -- r18
     first | omega | ((try simp only [Int.toNat_natCast, List.length_cons, List.length_nil]); first | done | omega | assumption | grind [getD_set, getD_rep, toNat_succ, cntN_yes, cntN_no])
    refine req_i ?_ ?_
    · -- r19
     first | omega | ((try simp only [Int.toNat_natCast, List.length_cons, List.length_nil, Nat.add_eq, Nat.zero_add]); first | done | omega | assumption | grind [getD_set, getD_rep, toNat_succ, cntN_yes, cntN_no])
    refine req_i ?_ ?_
    · -- r20
     first | omega | ((try simp only [Int.toNat_natCast, List.length_cons, List.length_nil]); first | done | omega | assumption | grind [getD_set, getD_rep, toNat_succ, cntN_yes, cntN_no])
    refine req_i ?_ ?_
    · -- r21
     first | omega | ((try simp only [Int.toNat_natCast, List.length_cons, List.length_nil, Nat.add_eq, Nat.zero_add]); first | done | omega | assumption | grind [getD_set, getD_rep, toNat_succ, cntN_yes, cntN_no])
    refine bR_t ?_ ?_
    · -- g0
     first | rfl | (simp only [bR_iff, bR_iff_f, dec_iff, dec_f, beqB_iff', andB_iff', reduceCtorEq, imp_self, false_implies, and_true, true_and, implies_true, and_self]; done) | (simp [bR_iff, dec_iff, beqB_iff', andB_iff']; done) | (simp [bR_iff, dec_iff, beqB_iff', andB_iff']; omega)
    refine req_i ?_ ?_
    · -- r22
     first | omega | assumption | grind
    refine req_i ?_ ?_
    · -- r23
     first | omega | assumption | grind
    refine req_i ?_ ?_
    · -- r24
     first | omega | ((try simp only [Int.toNat_natCast, List.length_set, List.length_cons, List.length_nil, lenCols_i, lenCols_b, Nat.add_eq, Nat.zero_add]); first | done | omega | assumption | grind [getD_set, getD_rep, toNat_succ, cntN_yes, cntN_no])
    refine req_i ?_ ?_
    · -- r25
     first | omega | ((try simp only [Int.toNat_natCast, List.length_set, List.length_cons, List.length_nil, lenCols_i, lenCols_b, Nat.add_eq, Nat.zero_add]); first | done | omega | assumption | grind [getD_set, getD_rep, toNat_succ, cntN_yes, cntN_no])
    refine req_i ?_ ?_
    · -- r26
     first | assumption | exact rep_bd (by omega) (by omega) | exact set_bd (by assumption) (by omega) (by omega) | exact take_bd (by assumption) | ((try simp only [Int.toNat_natCast, List.length_set, List.length_cons, List.length_nil, Nat.add_eq, Nat.zero_add]); first | assumption | exact rep_bd (by omega) (by omega) | exact set_bd (by assumption) (by omega) (by omega) | exact take_bd (by assumption) | grind [getD_set, getD_rep, toNat_succ, cntN_yes, cntN_no])
    refine req_i ?_ ?_
    · -- r27
     simp only [codeFL, codeFInv, List.drop_zero, List.take_length, Nat.add_eq, Nat.zero_add]; exact codeF_step h11.1 (by omega) h11.2.2.1 h11.2.2.2 (by rw [h13, chipB2])
    refine req_i ?_ ?_
    · -- r28
     first | omega | ((try simp only [codeFL, cB, codeFInv, meaC, List.cons.injEq, DV.b.injEq, and_true, Int.toNat_natCast, List.length_set, List.length_take, List.take_length, List.take_take, Nat.min_self, List.length_drop, List.drop_zero, List.length_cons, List.length_nil, Nat.add_eq, Nat.zero_add]); first | done | omega | assumption | grind [getD_set, getD_rep, toNat_succ, cntN_yes, cntN_no])
    rfl
   ·
    refine bR_dec (fun h14 => ?_) (fun h14 => ?_)
    ·
     have a2 := getD_bd (i := ((n3 + n2 - 3).tmod (l1.length : Int)).toNat) h3 (by omega) (by omega)
     have a3 := xor_bit a0.1 a0.2 a2.1 a2.2
     have a4 := tmod_nn (a := n3 + n2 - 3) (b := (l1.length : Int)) (by omega)
     have a5 := Int.emod_nonneg (n3 + n2 - 3) (b := (l1.length : Int)) (by omega)
     have a6 := Int.emod_lt_of_pos (n3 + n2 - 3) (b := (l1.length : Int)) (by omega)
     refine req_i ?_ ?_
     · -- r29
      first | omega | ((try simp only [Nat.zero_add]); first | done | omega | assumption | grind [getD_set, getD_rep, toNat_succ, cntN_yes, cntN_no])
     refine req_i ?_ ?_
     · -- r30
      first | omega | ((try simp only [Nat.zero_add]); first | done | omega | assumption | grind [getD_set, getD_rep, toNat_succ, cntN_yes, cntN_no])
     refine req_i ?_ ?_
     · -- r31
      first | omega | ((try simp only [Int.toNat_natCast, List.length_cons, List.length_nil]); first | done | omega | assumption | grind [getD_set, getD_rep, toNat_succ, cntN_yes, cntN_no])
     refine req_i ?_ ?_
     · -- r32
      first | omega | ((try simp only [Int.toNat_natCast, List.length_cons, List.length_nil, Nat.add_eq, Nat.zero_add]); first | done | omega | assumption | grind [getD_set, getD_rep, toNat_succ, cntN_yes, cntN_no])
     refine req_i ?_ ?_
     · -- r33
      first | omega | ((try simp only [Int.toNat_natCast, List.length_cons, List.length_nil]); first | done | omega | assumption | grind [getD_set, getD_rep, toNat_succ, cntN_yes, cntN_no])
     refine req_i ?_ ?_
     · -- r34
      first | omega | ((try simp only [Int.toNat_natCast, List.length_cons, List.length_nil, Nat.add_eq, Nat.zero_add]); first | done | omega | assumption | grind [getD_set, getD_rep, toNat_succ, cntN_yes, cntN_no])
     refine bR_t ?_ ?_
     · -- g1
      first | rfl | (simp only [bR_iff, bR_iff_f, dec_iff, dec_f, beqB_iff', andB_iff', reduceCtorEq, imp_self, false_implies, and_true, true_and, implies_true, and_self]; done) | (simp [bR_iff, dec_iff, beqB_iff', andB_iff']; done) | (simp [bR_iff, dec_iff, beqB_iff', andB_iff']; omega)
     refine req_i ?_ ?_
     · -- r35
      first | omega | assumption | grind
     refine req_i ?_ ?_
     · -- r36
      first | omega | assumption | grind
     refine req_i ?_ ?_
     · -- r37
      first | omega | ((try simp only [Int.toNat_natCast, List.length_set, List.length_cons, List.length_nil, lenCols_i, lenCols_b, Nat.add_eq, Nat.zero_add]); first | done | omega | assumption | grind [getD_set, getD_rep, toNat_succ, cntN_yes, cntN_no])
     refine req_i ?_ ?_
     · -- r38
      first | omega | ((try simp only [Int.toNat_natCast, List.length_set, List.length_cons, List.length_nil, lenCols_i, lenCols_b, Nat.add_eq, Nat.zero_add]); first | done | omega | assumption | grind [getD_set, getD_rep, toNat_succ, cntN_yes, cntN_no])
     refine req_i ?_ ?_
     · -- r39
      first | assumption | exact rep_bd (by omega) (by omega) | exact set_bd (by assumption) (by omega) (by omega) | exact take_bd (by assumption) | ((try simp only [Int.toNat_natCast, List.length_set, List.length_cons, List.length_nil, Nat.add_eq, Nat.zero_add]); first | assumption | exact rep_bd (by omega) (by omega) | exact set_bd (by assumption) (by omega) (by omega) | exact take_bd (by assumption) | grind [getD_set, getD_rep, toNat_succ, cntN_yes, cntN_no])
     refine req_i ?_ ?_
     · -- r40
      simp only [codeFL, codeFInv, List.drop_zero, List.take_length, Nat.add_eq, Nat.zero_add]; exact codeF_step h11.1 (by omega) h11.2.2.1 h11.2.2.2 (by rw [a3, chipB3 (by omega) (by omega) a4])
     refine req_i ?_ ?_
     · -- r41
      first | omega | ((try simp only [codeFL, cB, codeFInv, meaC, List.cons.injEq, DV.b.injEq, and_true, Int.toNat_natCast, List.length_set, List.length_take, List.take_length, List.take_take, Nat.min_self, List.length_drop, List.drop_zero, List.length_cons, List.length_nil, Nat.add_eq, Nat.zero_add]); first | done | omega | assumption | grind [getD_set, getD_rep, toNat_succ, cntN_yes, cntN_no])
     rfl
    ·
     refine req_i ?_ ?_
     · -- r42
      first | omega | ((try simp only [Int.toNat_natCast, List.length_cons, List.length_nil]); first | done | omega | assumption | grind [getD_set, getD_rep, toNat_succ, cntN_yes, cntN_no])
     refine req_i ?_ ?_
     · -- r43
      first | omega | ((try simp only [Int.toNat_natCast, List.length_cons, List.length_nil, Nat.add_eq, Nat.zero_add]); first | done | omega | assumption | grind [getD_set, getD_rep, toNat_succ, cntN_yes, cntN_no])
     refine bR_t ?_ ?_
     · -- g2
      first | rfl | (simp only [bR_iff, bR_iff_f, dec_iff, dec_f, beqB_iff', andB_iff', reduceCtorEq, imp_self, false_implies, and_true, true_and, implies_true, and_self]; done) | (simp [bR_iff, dec_iff, beqB_iff', andB_iff']; done) | (simp [bR_iff, dec_iff, beqB_iff', andB_iff']; omega)
     refine req_i ?_ ?_
     · -- r44
      first | omega | assumption | grind
     refine req_i ?_ ?_
     · -- r45
      first | omega | assumption | grind
     refine req_i ?_ ?_
     · -- r46
      first | omega | ((try simp only [Int.toNat_natCast, List.length_set, List.length_cons, List.length_nil, lenCols_i, lenCols_b, Nat.add_eq, Nat.zero_add]); first | done | omega | assumption | grind [getD_set, getD_rep, toNat_succ, cntN_yes, cntN_no])
     refine req_i ?_ ?_
     · -- r47
      first | omega | ((try simp only [Int.toNat_natCast, List.length_set, List.length_cons, List.length_nil, lenCols_i, lenCols_b, Nat.add_eq, Nat.zero_add]); first | done | omega | assumption | grind [getD_set, getD_rep, toNat_succ, cntN_yes, cntN_no])
     refine req_i ?_ ?_
     · -- r48
      first | assumption | exact rep_bd (by omega) (by omega) | exact set_bd (by assumption) (by omega) (by omega) | exact take_bd (by assumption) | ((try simp only [Int.toNat_natCast, List.length_set, List.length_cons, List.length_nil, Nat.add_eq, Nat.zero_add]); first | assumption | exact rep_bd (by omega) (by omega) | exact set_bd (by assumption) (by omega) (by omega) | exact take_bd (by assumption) | grind [getD_set, getD_rep, toNat_succ, cntN_yes, cntN_no])
     refine req_i ?_ ?_
     · -- r49
      simp only [codeFL, codeFInv, List.drop_zero, List.take_length, Nat.add_eq, Nat.zero_add]; exact codeF_step h11.1 (by omega) h11.2.2.1 h11.2.2.2 (by rw [show n2 = 1 by omega, chipB1])
     refine req_i ?_ ?_
     · -- r50
      first | omega | ((try simp only [codeFL, cB, codeFInv, meaC, List.cons.injEq, DV.b.injEq, and_true, Int.toNat_natCast, List.length_set, List.length_take, List.take_length, List.take_take, Nat.min_self, List.length_drop, List.drop_zero, List.length_cons, List.length_nil, Nat.add_eq, Nat.zero_add]); first | done | omega | assumption | grind [getD_set, getD_rep, toNat_succ, cntN_yes, cntN_no])
     rfl
  ·
   refine req_i ?_ ?_
   · -- r51
    first | omega | ((try simp only [Int.toNat_natCast, List.length_cons, List.length_nil, Nat.mul_eq]); first | done | omega | assumption | grind [getD_set, getD_rep, toNat_succ, cntN_yes, cntN_no])
   refine req_i ?_ ?_
   · -- r52
    first | omega | ((try simp only [Int.toNat_natCast, List.length_cons, List.length_nil]); first | done | omega | assumption | grind [getD_set, getD_rep, toNat_succ, cntN_yes, cntN_no])
   refine req_i ?_ ?_
   · -- r53
    first | omega | ((try simp only [Int.toNat_natCast, List.length_take, List.take_length, List.take_take, Nat.min_self, List.length_drop, List.drop_zero, List.length_cons, List.length_nil]); first | done | omega | assumption | grind [getD_set, getD_rep, toNat_succ, cntN_yes, cntN_no])
   refine req_i ?_ ?_
   · -- r54
    (try simp only [List.drop_zero, Int.toNat_natCast]); rw [List.take_of_length_le (by omega), chips_of (p := n2) (u := l0) (v := l1) h11.2.2.1 fun j hj => h11.2.2.2 j (by omega)]; exact chips_bd h1 h3
   refine req_i ?_ ?_
   · -- r55
    simp only [sigCodeF, codeFPost, List.drop_zero, Int.toNat_natCast]; rw [List.take_of_length_le (by omega)]; exact chips_of h11.2.2.1 fun j hj => h11.2.2.2 j (by omega)
   rfl
theorem ext_codeF : ∀ p ∈ ([] : List (Nat × Ext)), ExtRow Try.prog p.1 p.2 := by
  intro p hp
  cases hp
theorem cts_codeF : CtsOk Try.prog [] := fun f c h => by cases h
theorem fn_codeF : FnOk Try.prog 37 sigCodeF [] := fn_sound (by kernel_rfl) ext_codeF cts_codeF names vt_codeF
end Go.Proofs.Ytpmlodchbgfmeaa

namespace Go.Proofs.Ytpmlodchbgfmeaa
open Go.Ev Go.Sp
set_option maxRecDepth 100000
theorem vc_code : vcFn Try.prog [(13, Ext.ctr (ctOf sigBits)), (37, Ext.ctr (ctOf sigCodeF))] noA [] 100 15 sigCode = (allB fun n0 : Int => 
impB ((-9223372036854775808 : Int) ≤ n0) (
impB (n0 ≤ (9223372036854775807 : Int)) (
allB fun n1 : Int => 
impB ((-9223372036854775808 : Int) ≤ n1) (
impB (n1 ≤ (9223372036854775807 : Int)) (
impB (sigCode.pre [DV.n n0, DV.n n1]) (
reqB ((-9223372036854775808 : Int) ≤ n0) (
reqB (n0 ≤ (9223372036854775807 : Int)) (
reqB (sigBits.pre [DV.n n0, DV.n (1 : Int)]) (
allB fun l2 : List Int => 
impB (l2.length ≤ (1100 : Nat)) (
impB (∀ (y : Int), y ∈ l2 → (0 : Int) ≤ y ∧ y ≤ (1 : Int)) (
allB fun n3 : Int => 
impB ((0 : Int) ≤ n3) (
impB (n3 ≤ (18 : Int)) (
impB (sigBits.post [DV.n n0, DV.n (1 : Int)] [DV.l l2, DV.n n3]) (
bR (dec (n3 ≠ (0 : Int))) (
 reqB ((0 : Int) ≤ n3) (
 reqB (n3 ≤ (18 : Int)) (
 reqB (sigCode.post [DV.n n0, DV.n n1] [DV.l [], DV.n n3]) (
 true)))) (
 bR (dec (n1 < (1 : Int))) (
 reqB (sigCode.post [DV.n n0, DV.n n1] [DV.l [], DV.n (2 : Int)]) (
 true)) (
 bR (dec ((↑l2.length : Int) + (2 : Int) < n1)) (
 reqB (sigCode.post [DV.n n0, DV.n n1] [DV.l [], DV.n (2 : Int)]) (
 true)) (
 reqB ((-9223372036854775808 : Int) ≤ n0) (
 reqB (n0 ≤ (9223372036854775807 : Int)) (
 reqB (sigBits.pre [DV.n n0, DV.n (2 : Int)]) (
 allB fun l4 : List Int => 
 impB (l4.length ≤ (1100 : Nat)) (
 impB (∀ (y : Int), y ∈ l4 → (0 : Int) ≤ y ∧ y ≤ (1 : Int)) (
 allB fun n5 : Int => 
 impB ((0 : Int) ≤ n5) (
 impB (n5 ≤ (18 : Int)) (
 impB (sigBits.post [DV.n n0, DV.n (2 : Int)] [DV.l l4, DV.n n5]) (
 reqB (((0 : Nat) + l2.length) * (1 : Nat) ≤ l2.length.mul (1 : Nat)) (
 reqB (l2.length ≤ (1100 : Nat)) (
 reqB ((List.take l2.length (List.drop (0 : Nat) l2)).length = l2.length) (
 reqB (∀ (y : Int), y ∈ List.take l2.length (List.drop (0 : Nat) l2) → (0 : Int) ≤ y ∧ y ≤ (1 : Int)) (
 reqB (((0 : Nat) + l4.length) * (1 : Nat) ≤ l4.length.mul (1 : Nat)) (
 reqB (l4.length ≤ (1100 : Nat)) (
 reqB ((List.take l4.length (List.drop (0 : Nat) l4)).length = l4.length) (
 reqB (∀ (y : Int), y ∈ List.take l4.length (List.drop (0 : Nat) l4) → (0 : Int) ≤ y ∧ y ≤ (1 : Int)) (
 reqB ((1 : Int) ≤ n1) (
 reqB (n1 ≤ (1100 : Int)) (
 reqB (sigCodeF.pre
 [DV.l (List.take l2.length (List.drop (0 : Nat) l2)), DV.l (List.take l4.length (List.drop (0 : Nat) l4)),
 DV.n n1]) (
 allB fun l6 : List Int => 
 impB (l6.length ≤ (1100 : Nat)) (
 impB (∀ (y : Int), y ∈ l6 → (-1 : Int) ≤ y ∧ y ≤ (1 : Int)) (
 impB (sigCodeF.post
 [DV.l (List.take l2.length (List.drop (0 : Nat) l2)), DV.l (List.take l4.length (List.drop (0 : Nat) l4)),
 DV.n n1]
 [DV.l l6]) (
 reqB (((0 : Nat) + l6.length) * (1 : Nat) ≤ l6.length.mul (1 : Nat)) (
 reqB (l6.length ≤ (1100 : Nat)) (
 reqB ((List.take l6.length (List.drop (0 : Nat) l6)).length = l6.length) (
 reqB (∀ (y : Int), y ∈ List.take l6.length (List.drop (0 : Nat) l6) → (-1 : Int) ≤ y ∧ y ≤ (1 : Int)) (
 reqB (sigCode.post [DV.n n0, DV.n n1]
 [DV.l (List.take l6.length (List.drop (0 : Nat) l6)), DV.n (0 : Int)]) (
 true)))))))))))))))))))))))))))))))))))))))))))) := by kernel_rfl
set_option maxHeartbeats 8000000 in
theorem vt_code : vcFn Try.prog [(13, Ext.ctr (ctOf sigBits)), (37, Ext.ctr (ctOf sigCodeF))] noA [] 100 15 sigCode = true := by
  rw [vc_code]
  try simp only [Int.toNat_natCast, List.length_set, List.length_replicate, List.length_take, List.length_drop, List.length_append, List.length_cons, List.length_nil, Nat.min_self, List.take_take, lenCols_i, lenCols_b, List.drop_zero, List.take_length, Nat.add_eq, Nat.mul_eq, Nat.sub_eq, Nat.zero_add, Nat.sub_zero, Nat.mul_one]
  refine all_i fun n0 => ?_
  refine imp_i fun h0 => ?_
  refine imp_i fun h1 => ?_
  refine all_i fun n1 => ?_
  refine imp_i fun h2 => ?_
  refine imp_i fun h3 => ?_
  refine imp_i fun h4 => ?_
  try simp only [sigCode, cCh, codePost, List.cons.injEq, DV.b.injEq, and_true, List.length_cons, List.length_nil] at h4
  refine req_i ?_ ?_
  · -- r0
   first | omega | assumption | grind
  refine req_i ?_ ?_
  · -- r1
   first | omega | assumption | grind
  refine req_i ?_ ?_
  · -- r2
   first | trivial | assumption | (simp only [sigBits, sigBitsR, iR, cB, bitsPost, List.cons.injEq, DV.b.injEq, and_true, List.length_cons, List.length_nil]; done) | ((try simp only [sigBits, sigBitsR, iR, cB, bitsPost, List.cons.injEq, DV.b.injEq, and_true, List.length_cons, List.length_nil]); first | omega | assumption | grind)
  refine all_i fun l2 => ?_
  refine imp_i fun h5 => ?_
  refine imp_i fun h6 => ?_
  refine all_i fun n3 => ?_
  refine imp_i fun h7 => ?_
  refine imp_i fun h8 => ?_
  refine imp_i fun h9 => ?_
  try simp only [Int.toNat_natCast, List.length_set, List.length_replicate, List.length_take, List.length_drop, List.length_append, List.length_cons, List.length_nil, Nat.min_self, List.take_take, lenCols_i, lenCols_b, List.drop_zero, List.take_length, Nat.add_eq, Nat.mul_eq, Nat.sub_eq, Nat.zero_add, Nat.sub_zero, Nat.mul_one] at h9
  have hb := ite_case h9
  have nb := @nG_bd n0
  refine bR_dec (fun h10 => ?_) (fun h10 => ?_)
  ·
   refine req_i ?_ ?_
   · -- r3
    first | omega | assumption | grind
   refine req_i ?_ ?_
   · -- r4
    first | omega | assumption | grind
   refine req_i ?_ ?_
   · -- r5
    obtain ⟨k1, k2, k3⟩ := hb.resolve_left (fun g => h10 g.2.1); exact code_no (fun g => k1 ⟨g.1, .inl rfl⟩) k2
   rfl
  ·
   obtain ⟨⟨ok, _⟩, _, e2⟩ := hb.resolve_right (fun g => h10 (by rw [g.2.1]; decide))
   have bl := bits_len (w := 1) ok (.inl rfl)
   rw [← e2] at bl
   refine bR_dec (fun h11 => ?_) (fun h11 => ?_)
   ·
    refine req_i ?_ ?_
    · -- r6
     exact code_no (fun g => by omega) rfl
    rfl
   ·
    refine bR_dec (fun h12 => ?_) (fun h12 => ?_)
    ·
     refine req_i ?_ ?_
     · -- r7
      exact code_no (fun g => by omega) rfl
     rfl
    ·
     refine req_i ?_ ?_
     · -- r8
      first | omega | assumption | grind
     refine req_i ?_ ?_
     · -- r9
      first | omega | assumption | grind
     refine req_i ?_ ?_
     · -- r10
      first | trivial | assumption | (simp only [sigBits, sigBitsR, iR, cB, bitsPost, List.cons.injEq, DV.b.injEq, and_true, List.length_cons, List.length_nil]; done) | ((try simp only [sigBits, sigBitsR, iR, cB, bitsPost, List.cons.injEq, DV.b.injEq, and_true, List.length_cons, List.length_nil]); first | omega | assumption | grind)
     refine all_i fun l4 => ?_
     refine imp_i fun h13 => ?_
     refine imp_i fun h14 => ?_
     refine all_i fun n5 => ?_
     refine imp_i fun h15 => ?_
     refine imp_i fun h16 => ?_
     refine imp_i fun h17 => ?_
     try simp only [Int.toNat_natCast, List.length_set, List.length_replicate, List.length_take, List.length_drop, List.length_append, List.length_cons, List.length_nil, Nat.min_self, List.take_take, lenCols_i, lenCols_b, List.drop_zero, List.take_length, Nat.add_eq, Nat.mul_eq, Nat.sub_eq, Nat.zero_add, Nat.sub_zero, Nat.mul_one] at h17
     obtain ⟨_, e4⟩ := (ite_case h17).resolve_right (fun g => g.1 ⟨ok, .inr rfl⟩) |>.2
     have bl4 := bits_len (w := 2) ok (.inr rfl)
     rw [← e4] at bl4
     refine req_i ?_ ?_
     · -- r11
      first | omega | ((try simp only [Nat.mul_eq]); first | done | omega | assumption | grind [getD_set, getD_rep, toNat_succ, cntN_yes, cntN_no])
     refine req_i ?_ ?_
     · -- r12
      first | omega | ((try simp only [Nat.zero_add]); first | done | omega | assumption | grind [getD_set, getD_rep, toNat_succ, cntN_yes, cntN_no])
     refine req_i ?_ ?_
     · -- r13
      first | omega | ((try simp only [List.length_take, List.take_length, List.take_take, Nat.min_self, List.length_drop, List.drop_zero, List.length_cons, List.length_nil]); first | done | omega | assumption | grind [getD_set, getD_rep, toNat_succ, cntN_yes, cntN_no])
     refine req_i ?_ ?_
     · -- r14
      first | assumption | exact rep_bd (by omega) (by omega) | exact set_bd (by assumption) (by omega) (by omega) | exact take_bd (by assumption) | ((try simp only [List.length_take, List.take_length, List.take_take, Nat.min_self, List.length_drop, List.drop_zero, List.length_cons, List.length_nil]); first | assumption | exact rep_bd (by omega) (by omega) | exact set_bd (by assumption) (by omega) (by omega) | exact take_bd (by assumption) | grind [getD_set, getD_rep, toNat_succ, cntN_yes, cntN_no])
     refine req_i ?_ ?_
     · -- r15
      first | omega | ((try simp only [Nat.mul_eq]); first | done | omega | assumption | grind [getD_set, getD_rep, toNat_succ, cntN_yes, cntN_no])
     refine req_i ?_ ?_
     · -- r16
      first | omega | ((try simp only [Nat.zero_add]); first | done | omega | assumption | grind [getD_set, getD_rep, toNat_succ, cntN_yes, cntN_no])
     refine req_i ?_ ?_
     · -- r17
      first | omega | ((try simp only [List.length_take, List.take_length, List.take_take, Nat.min_self, List.length_drop, List.drop_zero, List.length_cons, List.length_nil]); first | done | omega | assumption | grind [getD_set, getD_rep, toNat_succ, cntN_yes, cntN_no])
     refine req_i ?_ ?_
     · -- r18
      first | assumption | exact rep_bd (by omega) (by omega) | exact set_bd (by assumption) (by omega) (by omega) | exact take_bd (by assumption) | ((try simp only [List.length_take, List.take_length, List.take_take, Nat.min_self, List.length_drop, List.drop_zero, List.length_cons, List.length_nil]); first | assumption | exact rep_bd (by omega) (by omega) | exact set_bd (by assumption) (by omega) (by omega) | exact take_bd (by assumption) | grind [getD_set, getD_rep, toNat_succ, cntN_yes, cntN_no])
     refine req_i ?_ ?_
     · -- r19
      first | omega | assumption | grind
     refine req_i ?_ ?_
     · -- r20
      first | omega | assumption | grind
     refine req_i ?_ ?_
     · -- r21
      simp only [sigCodeF, codeFPre, List.drop_zero, List.take_length]; omega
     refine all_i fun l6 => ?_
     refine imp_i fun h18 => ?_
     refine imp_i fun h19 => ?_
     refine imp_i fun h20 => ?_
     try simp only [sigCodeF, cB, cCh, codeFPre, codeFPost, List.cons.injEq, DV.b.injEq, and_true, List.length_take, List.take_length, List.take_take, Nat.min_self, List.length_drop, List.drop_zero, List.length_cons, List.length_nil] at h20
     refine req_i ?_ ?_
     · -- r22
      first | omega | ((try simp only [Nat.mul_eq]); first | done | omega | assumption | grind [getD_set, getD_rep, toNat_succ, cntN_yes, cntN_no])
     refine req_i ?_ ?_
     · -- r23
      first | omega | ((try simp only [Nat.zero_add]); first | done | omega | assumption | grind [getD_set, getD_rep, toNat_succ, cntN_yes, cntN_no])
     refine req_i ?_ ?_
     · -- r24
      first | omega | ((try simp only [List.length_take, List.take_length, List.take_take, Nat.min_self, List.length_drop, List.drop_zero, List.length_cons, List.length_nil]); first | done | omega | assumption | grind [getD_set, getD_rep, toNat_succ, cntN_yes, cntN_no])
     refine req_i ?_ ?_
     · -- r25
      first | assumption | exact rep_bd (by omega) (by omega) | exact set_bd (by assumption) (by omega) (by omega) | exact take_bd (by assumption) | ((try simp only [List.length_take, List.take_length, List.take_take, Nat.min_self, List.length_drop, List.drop_zero, List.length_cons, List.length_nil]); first | assumption | exact rep_bd (by omega) (by omega) | exact set_bd (by assumption) (by omega) (by omega) | exact take_bd (by assumption) | grind [getD_set, getD_rep, toNat_succ, cntN_yes, cntN_no])
     refine req_i ?_ ?_
     · -- r26
      (try simp only [List.drop_zero, List.take_length]); exact code_yes ⟨ok, by omega, by omega⟩ rfl (by rw [h20, e2, e4]; rfl)
     rfl
theorem ext_code : ∀ p ∈ ([(13, Ext.ctr (ctOf sigBits)), (37, Ext.ctr (ctOf sigCodeF))] : List (Nat × Ext)), ExtRow Try.prog p.1 p.2 := by
  intro p hp
  simp only [List.mem_cons, List.not_mem_nil, or_false] at hp
  rcases hp with rfl | rfl
  · trivial
  · trivial
theorem cts_code : CtsOk Try.prog [(13, Ext.ctr (ctOf sigBits)), (37, Ext.ctr (ctOf sigCodeF))] := ctsOk_of (cs := [(13, sigBits), (37, sigCodeF)])
  (fun p hp => by
    simp only [List.mem_cons, List.not_mem_nil, or_false] at hp
    rcases hp with rfl | rfl
    · exact fn_bits
    · exact fn_codeF
)
  (fun f c h => by
    simp only [List.lookup_cons] at h
    repeat' split at h
    all_goals first | (cases h; done) | (rename_i e; have e := beq_iff_eq.1 e; subst e; cases h; refine ⟨_, ?_, rfl⟩; simp))
theorem fn_code : FnOk Try.prog 15 sigCode [] := fn_sound (by kernel_rfl) ext_code cts_code names vt_code
end Go.Proofs.Ytpmlodchbgfmeaa

namespace Go.Proofs.Ytpmlodchbgfmeaa
open Go.Ev Go.Sp
set_option maxRecDepth 100000
theorem vc_rotd : vcFn Try.prog [(31, Ext.ctr (ctOf sigTurn))] (fun f p _ => at2 f p 19 58 rotLS (none)) [] 100 19 sigRotd = (allB fun l0 : List Int => 
impB (l0.length ≤ (1100 : Nat)) (
impB (∀ (y : Int), y ∈ l0 → (-1 : Int) ≤ y ∧ y ≤ (1 : Int)) (
allB fun n1 : Int => 
impB ((0 : Int) ≤ n1) (
impB (n1 ≤ (2000 : Int)) (
impB (sigRotd.pre [DV.l l0, DV.n n1]) (
reqB (((0 : Nat) + l0.length) * (1 : Nat) ≤ l0.length.mul (1 : Nat)) (
reqB (l0.length ≤ (1100 : Nat)) (
reqB ((List.take l0.length (List.drop (0 : Nat) l0)).length = l0.length) (
reqB (∀ (y : Int), y ∈ List.take l0.length (List.drop (0 : Nat) l0) → (-1 : Int) ≤ y ∧ y ≤ (1 : Int)) (
reqB ((0 : Int) ≤ n1) (
reqB (n1 ≤ (2000 : Int)) (
reqB (rotLS.inv [DV.l (List.take l0.length (List.drop (0 : Nat) l0)), DV.n n1]
 [DV.n (0 : Int), DV.l []]) (
allB fun n2 : Int => 
impB ((0 : Int) ≤ n2) (
impB (n2 ≤ (1100 : Int)) (
allB fun l3 : List Int => 
impB (l3.length ≤ (1100 : Nat)) (
impB (∀ (y : Int), y ∈ l3 → (-1 : Int) ≤ y ∧ y ≤ (1 : Int)) (
impB (rotLS.inv [DV.l (List.take l0.length (List.drop (0 : Nat) l0)), DV.n n1]
 [DV.n n2, DV.l l3]) (
bR (dec (n2 < (↑l0.length : Int))) (
 reqB ((-9223372036854775808 : Int) ≤ n2 + n1) (
 reqB (n2 + n1 ≤ (9223372036854775807 : Int)) (
 reqB ((1 : Int) ≤ (↑l0.length : Int)) (
 reqB ((↑l0.length : Int) ≤ (4000000000 : Int)) (
 reqB (sigTurn.pre [DV.n (n2 + n1), DV.n (↑l0.length : Int)]) (
 allB fun n4 : Int => 
 impB ((0 : Int) ≤ n4) (
 impB (n4 ≤ (4000000000 : Int)) (
 impB (sigTurn.post [DV.n (n2 + n1), DV.n (↑l0.length : Int)] [DV.n n4]) (
 reqB (n4.toNat < l0.length) (
 reqB (Nat.add (0 : Nat) n4.toNat < l0.length) (
 reqB (l3.length + (1 : Nat) ≤ (1000000 : Nat)) (
 reqB (((0 : Nat) + l3.length) * (0 + (1 : Nat)) ≤ l3.length.mul (1 : Nat)) (
 bR (bR (bR (dec ((0 : Nat) = (0 : Nat))) (
 dec (l0.length = l0.length)) (
 false)) (
 bR (dec (n1 = n1)) (
 true) (
 false)) (
 false)) (
 reqB ((0 : Int) ≤ n2 + (1 : Int)) (
 reqB (n2 + (1 : Int) ≤ (1100 : Int)) (
 reqB (((0 : Nat) + l3.length.add (1 : Nat)) * (1 : Nat) ≤ (l3.length.add (1 : Nat)).mul (0 + (1 : Nat))) (
 reqB (l3.length.add (1 : Nat) ≤ (1100 : Nat)) (
 reqB ((List.take (l3.length.add (1 : Nat))
 (List.drop (0 : Nat)
 (List.take l3.length (List.drop (0 : Nat) l3) ++ [l0.getD (Nat.add (0 : Nat) n4.toNat) (0 : Int)]))).length =
 l3.length.add (1 : Nat)) (
 reqB (∀ (y : Int),
 y ∈
 List.take (l3.length.add (1 : Nat))
 (List.drop (0 : Nat)
 (List.take l3.length (List.drop (0 : Nat) l3) ++ [l0.getD (Nat.add (0 : Nat) n4.toNat) (0 : Int)])) →
 (-1 : Int) ≤ y ∧ y ≤ (1 : Int)) (
 reqB (rotLS.inv [DV.l (List.take l0.length (List.drop (0 : Nat) l0)), DV.n n1]
 [DV.n (n2 + (1 : Int)),
 DV.l
 (List.take (l3.length.add (1 : Nat))
 (List.drop (0 : Nat)
 (List.take l3.length (List.drop (0 : Nat) l3) ++ [l0.getD (Nat.add (0 : Nat) n4.toNat) (0 : Int)])))]) (
 reqB (rotLS.mea [DV.l (List.take l0.length (List.drop (0 : Nat) l0)), DV.n n1]
 [DV.n (n2 + (1 : Int)),
 DV.l
 (List.take (l3.length.add (1 : Nat))
 (List.drop (0 : Nat)
 (List.take l3.length (List.drop (0 : Nat) l3) ++ [l0.getD (Nat.add (0 : Nat) n4.toNat) (0 : Int)])))] <
 rotLS.mea [DV.l (List.take l0.length (List.drop (0 : Nat) l0)), DV.n n1]
 [DV.n n2, DV.l l3]) (
 true))))))))) (
 false)))))))))))))) (
 reqB (((0 : Nat) + l3.length) * (1 : Nat) ≤ l3.length.mul (1 : Nat)) (
 reqB (l3.length ≤ (1100 : Nat)) (
 reqB ((List.take l3.length (List.drop (0 : Nat) l3)).length = l3.length) (
 reqB (∀ (y : Int), y ∈ List.take l3.length (List.drop (0 : Nat) l3) → (-1 : Int) ≤ y ∧ y ≤ (1 : Int)) (
 reqB (sigRotd.post [DV.l l0, DV.n n1] [DV.l (List.take l3.length (List.drop (0 : Nat) l3))]) (
 true)))))))))))))))))))))))) := by kernel_rfl
set_option maxHeartbeats 8000000 in
theorem vt_rotd : vcFn Try.prog [(31, Ext.ctr (ctOf sigTurn))] (fun f p _ => at2 f p 19 58 rotLS (none)) [] 100 19 sigRotd = true := by
  rw [vc_rotd]
  try simp only [Int.toNat_natCast, List.length_set, List.length_replicate, List.length_take, List.length_drop, List.length_append, List.length_cons, List.length_nil, Nat.min_self, List.take_take, lenCols_i, lenCols_b, List.drop_zero, List.take_length, Nat.add_eq, Nat.mul_eq, Nat.sub_eq, Nat.zero_add, Nat.sub_zero, Nat.mul_one]
  refine all_i fun l0 => ?_
  refine imp_i fun h0 => ?_
  refine imp_i fun h1 => ?_
  refine all_i fun n1 => ?_
  refine imp_i fun h2 => ?_
  refine imp_i fun h3 => ?_
  refine imp_i fun h4 => ?_
  try simp only [sigRotd, cC2, rotPost, List.cons.injEq, DV.b.injEq, and_true, List.length_cons, List.length_nil] at h4
  refine req_i ?_ ?_
  · -- r0
   first | omega | ((try simp only [Nat.mul_eq]); first | done | omega | assumption | grind [getD_set, getD_rep, toNat_succ, cntN_yes, cntN_no])
  refine req_i ?_ ?_
  · -- r1
   first | omega | ((try simp only [Nat.zero_add]); first | done | omega | assumption | grind [getD_set, getD_rep, toNat_succ, cntN_yes, cntN_no])
  refine req_i ?_ ?_
  · -- r2
   first | omega | ((try simp only [List.length_take, List.take_length, List.take_take, Nat.min_self, List.length_drop, List.drop_zero, List.length_cons, List.length_nil]); first | done | omega | assumption | grind [getD_set, getD_rep, toNat_succ, cntN_yes, cntN_no])
  refine req_i ?_ ?_
  · -- r3
   first | assumption | exact rep_bd (by omega) (by omega) | exact set_bd (by assumption) (by omega) (by omega) | exact take_bd (by assumption) | ((try simp only [List.length_take, List.take_length, List.take_take, Nat.min_self, List.length_drop, List.drop_zero, List.length_cons, List.length_nil]); first | assumption | exact rep_bd (by omega) (by omega) | exact set_bd (by assumption) (by omega) (by omega) | exact take_bd (by assumption) | grind [getD_set, getD_rep, toNat_succ, cntN_yes, cntN_no])
  refine req_i ?_ ?_
  · -- r4
   first | omega | assumption | grind
  refine req_i ?_ ?_
  · -- r5
   first | omega | assumption | grind
  refine req_i ?_ ?_
  · -- r6
   exact ⟨by omega, by omega, rfl, fun j hj => by omega⟩
  refine all_i fun n2 => ?_
  refine imp_i fun h5 => ?_
  refine imp_i fun h6 => ?_
  refine all_i fun l3 => ?_
  refine imp_i fun h7 => ?_
  refine imp_i fun h8 => ?_
  refine imp_i fun h9 => ?_
  try simp only [rotLS, cC2, rotInv, meaR1, List.cons.injEq, DV.b.injEq, and_true, List.length_take, List.take_length, List.take_take, Nat.min_self, List.length_drop, List.drop_zero, List.length_cons, List.length_nil] at h9
  refine bR_dec (fun h10 => ?_) (fun h10 => ?_)
  ·
   refine req_i ?_ ?_
   · -- r7
    first | omega | assumption | grind
   refine req_i ?_ ?_
   · -- r8
    first | omega | assumption | grind
   refine req_i ?_ ?_
   · -- r9
    first | omega | ((try simp only [Nat.zero_add]); first | done | omega | assumption | grind [getD_set, getD_rep, toNat_succ, cntN_yes, cntN_no])
   refine req_i ?_ ?_
   · -- r10
    first | omega | ((try simp only [Nat.zero_add]); first | done | omega | assumption | grind [getD_set, getD_rep, toNat_succ, cntN_yes, cntN_no])
   refine req_i ?_ ?_
   · -- r11
    first | trivial | assumption | (simp only [sigTurn, pickGP, List.cons.injEq, DV.b.injEq, and_true, List.length_cons, List.length_nil]; done) | ((try simp only [sigTurn, pickGP, List.cons.injEq, DV.b.injEq, and_true, List.length_cons, List.length_nil]); first | omega | assumption | grind)
   refine all_i fun n4 => ?_
   refine imp_i fun h11 => ?_
   refine imp_i fun h12 => ?_
   refine imp_i fun h13 => ?_
   try simp only [sigTurn, pickGP, List.cons.injEq, DV.b.injEq, and_true, List.length_cons, List.length_nil] at h13
   have m1 := Int.emod_nonneg (n2 + n1) (b := (l0.length : Int)) (by omega)
   have m2 := Int.emod_lt_of_pos (n2 + n1) (b := (l0.length : Int)) (by omega)
   have rn := rot_next (l := l0) (r := l3) (i := n2) (k := n1) (x := l0.getD n4.toNat 0) (by omega) (by omega) h9.2.2.2 (by rw [h13]; rfl)
   have tk := take_snoc (l := l3) (m := l3) (x := l0.getD n4.toNat 0) rfl
   have gb := getD_bd (i := n4.toNat) h1 (by omega) (by omega)
   refine req_i ?_ ?_
   · -- r12
    first | omega | ((try simp only [Int.toNat_natCast, List.length_cons, List.length_nil]); first | done | omega | assumption | grind [getD_set, getD_rep, toNat_succ, cntN_yes, cntN_no])
   refine req_i ?_ ?_
   · -- r13
    first | omega | ((try simp only [Int.toNat_natCast, List.length_cons, List.length_nil, Nat.add_eq, Nat.zero_add]); first | done | omega | assumption | grind [getD_set, getD_rep, toNat_succ, cntN_yes, cntN_no])
   refine req_i ?_ ?_
   · -- r14
    first | omega | ((try simp only [Nat.zero_add]); first | done | omega | assumption | grind [getD_set, getD_rep, toNat_succ, cntN_yes, cntN_no])
   refine req_i ?_ ?_
   · -- r15
    first | omega | ((try simp only [Nat.mul_eq]); first | done | omega | assumption | grind [getD_set, getD_rep, toNat_succ, cntN_yes, cntN_no])
   refine bR_t ?_ ?_
   · -- g0
    first | rfl | (simp only [bR_iff, bR_iff_f, dec_iff, dec_f, beqB_iff', andB_iff', reduceCtorEq, imp_self, false_implies, and_true, true_and, implies_true, and_self]; done) | (simp [bR_iff, dec_iff, beqB_iff', andB_iff']; done) | (simp [bR_iff, dec_iff, beqB_iff', andB_iff']; omega)
   refine req_i ?_ ?_
   · -- r16
    first | omega | assumption | grind
   refine req_i ?_ ?_
   · -- r17
    first | omega | assumption | grind
   refine req_i ?_ ?_
   · -- r18
    first | omega | ((try simp only [Nat.add_eq, Nat.zero_add, Nat.mul_eq]); first | done | omega | assumption | grind [getD_set, getD_rep, toNat_succ, cntN_yes, cntN_no])
   refine req_i ?_ ?_
   · -- r19
    first | omega | ((try simp only [Nat.add_eq, Nat.zero_add]); first | done | omega | assumption | grind [getD_set, getD_rep, toNat_succ, cntN_yes, cntN_no])
   refine req_i ?_ ?_
   · -- r20
    first | omega | ((try simp only [Int.toNat_natCast, List.length_take, List.take_length, List.take_take, Nat.min_self, List.length_drop, List.drop_zero, List.length_append, List.length_cons, List.length_nil, Nat.add_eq, Nat.zero_add]); first | done | omega | assumption | grind [getD_set, getD_rep, toNat_succ, cntN_yes, cntN_no])
   refine req_i ?_ ?_
   · -- r21
    first | assumption | exact rep_bd (by omega) (by omega) | exact set_bd (by assumption) (by omega) (by omega) | exact take_bd (by assumption) | ((try simp only [Int.toNat_natCast, List.length_take, List.take_length, List.take_take, Nat.min_self, List.length_drop, List.drop_zero, List.length_append, List.length_cons, List.length_nil, Nat.add_eq, Nat.zero_add]); first | assumption | exact rep_bd (by omega) (by omega) | exact set_bd (by assumption) (by omega) (by omega) | exact take_bd (by assumption) | grind [getD_set, getD_rep, toNat_succ, cntN_yes, cntN_no])
   refine req_i ?_ ?_
   · -- r22
    simp only [rotLS, rotInv, List.drop_zero, List.take_length, Nat.add_eq, Nat.zero_add, tk]; exact ⟨by omega, by omega, rn.1, rn.2⟩
   refine req_i ?_ ?_
   · -- r23
    first | omega | ((try simp only [rotLS, cC2, rotInv, meaR1, List.cons.injEq, DV.b.injEq, and_true, Int.toNat_natCast, List.length_take, List.take_length, List.take_take, Nat.min_self, List.length_drop, List.drop_zero, List.length_append, List.length_cons, List.length_nil, Nat.add_eq, Nat.zero_add]); first | done | omega | assumption | grind [getD_set, getD_rep, toNat_succ, cntN_yes, cntN_no])
   rfl
  ·
   refine req_i ?_ ?_
   · -- r24
    first | omega | ((try simp only [Nat.mul_eq]); first | done | omega | assumption | grind [getD_set, getD_rep, toNat_succ, cntN_yes, cntN_no])
   refine req_i ?_ ?_
   · -- r25
    first | omega | ((try simp only [Nat.zero_add]); first | done | omega | assumption | grind [getD_set, getD_rep, toNat_succ, cntN_yes, cntN_no])
   refine req_i ?_ ?_
   · -- r26
    first | omega | ((try simp only [List.length_take, List.take_length, List.take_take, Nat.min_self, List.length_drop, List.drop_zero, List.length_cons, List.length_nil]); first | done | omega | assumption | grind [getD_set, getD_rep, toNat_succ, cntN_yes, cntN_no])
   refine req_i ?_ ?_
   · -- r27
    first | assumption | exact rep_bd (by omega) (by omega) | exact set_bd (by assumption) (by omega) (by omega) | exact take_bd (by assumption) | ((try simp only [List.length_take, List.take_length, List.take_take, Nat.min_self, List.length_drop, List.drop_zero, List.length_cons, List.length_nil]); first | assumption | exact rep_bd (by omega) (by omega) | exact set_bd (by assumption) (by omega) (by omega) | exact take_bd (by assumption) | grind [getD_set, getD_rep, toNat_succ, cntN_yes, cntN_no])
   refine req_i ?_ ?_
   · -- r28
    (try simp only [List.drop_zero, List.take_length]); exact rot_done h10 (by omega) (by omega) h9.2.2.2
   rfl
theorem ext_rotd : ∀ p ∈ ([(31, Ext.ctr (ctOf sigTurn))] : List (Nat × Ext)), ExtRow Try.prog p.1 p.2 := by
  intro p hp
  simp only [List.mem_cons, List.not_mem_nil, or_false] at hp
  rcases hp with rfl
  · trivial
theorem cts_rotd : CtsOk Try.prog [(31, Ext.ctr (ctOf sigTurn))] := ctsOk_of (cs := [(31, sigTurn)])
  (fun p hp => by
    simp only [List.mem_cons, List.not_mem_nil, or_false] at hp
    rcases hp with rfl
    · exact fn_turn
)
  (fun f c h => by
    simp only [List.lookup_cons] at h
    repeat' split at h
    all_goals first | (cases h; done) | (rename_i e; have e := beq_iff_eq.1 e; subst e; cases h; refine ⟨_, ?_, rfl⟩; simp))
theorem fn_rotd : FnOk Try.prog 19 sigRotd [] := fn_sound (by kernel_rfl) ext_rotd cts_rotd names vt_rotd
end Go.Proofs.Ytpmlodchbgfmeaa

namespace Go.Proofs.Ytpmlodchbgfmeaa
open Go.Ev Go.Sp
set_option maxRecDepth 100000
theorem vc_equ : vcFn Try.prog [] (fun f p _ => at2 f p 14 58 equGL (none)) [] 100 14 sigEquG = (allB fun l0 : List Int => 
impB (l0.length ≤ (1100 : Nat)) (
impB (∀ (y : Int), y ∈ l0 → (-9223372036854775808 : Int) ≤ y ∧ y ≤ (9223372036854775807 : Int)) (
allB fun l1 : List Int => 
impB (l1.length ≤ (1100 : Nat)) (
impB (∀ (y : Int), y ∈ l1 → (-9223372036854775808 : Int) ≤ y ∧ y ≤ (9223372036854775807 : Int)) (
impB (sigEquG.pre [DV.l l0, DV.l l1]) (
bR (dec ((↑l0.length : Int) ≠ (↑l1.length : Int))) (
 reqB (sigEquG.post [DV.l l0, DV.l l1] [DV.b Bool.false]) (
 true)) (
 reqB (((0 : Nat) + l0.length) * (1 : Nat) ≤ l0.length.mul (1 : Nat)) (
 reqB (l0.length ≤ (1100 : Nat)) (
 reqB ((List.take l0.length (List.drop (0 : Nat) l0)).length = l0.length) (
 reqB (∀ (y : Int),
 y ∈ List.take l0.length (List.drop (0 : Nat) l0) → (-9223372036854775808 : Int) ≤ y ∧ y ≤ (9223372036854775807 : Int)) (
 reqB (((0 : Nat) + l1.length) * (1 : Nat) ≤ l1.length.mul (1 : Nat)) (
 reqB (l1.length ≤ (1100 : Nat)) (
 reqB ((List.take l1.length (List.drop (0 : Nat) l1)).length = l1.length) (
 reqB (∀ (y : Int),
 y ∈ List.take l1.length (List.drop (0 : Nat) l1) → (-9223372036854775808 : Int) ≤ y ∧ y ≤ (9223372036854775807 : Int)) (
 reqB (equGL.inv
 [DV.l (List.take l0.length (List.drop (0 : Nat) l0)), DV.l (List.take l1.length (List.drop (0 : Nat) l1))]
 [DV.n (0 : Int)]) (
 allB fun n2 : Int => 
 impB ((0 : Int) ≤ n2) (
 impB (n2 ≤ (1100 : Int)) (
 impB (equGL.inv
 [DV.l (List.take l0.length (List.drop (0 : Nat) l0)), DV.l (List.take l1.length (List.drop (0 : Nat) l1))]
 [DV.n n2]) (
 bR (dec (n2 < (↑l0.length : Int))) (
 reqB (n2.toNat < l0.length) (
 reqB (Nat.add (0 : Nat) n2.toNat < l0.length) (
 reqB (n2.toNat < l1.length) (
 reqB (Nat.add (0 : Nat) n2.toNat < l1.length) (
 bR (dec (l0.getD (Nat.add (0 : Nat) n2.toNat) (0 : Int) ≠ l1.getD (Nat.add (0 : Nat) n2.toNat) (0 : Int))) (
 reqB (sigEquG.post [DV.l l0, DV.l l1] [DV.b Bool.false]) (
 true)) (
 bR (bR (bR (dec ((0 : Nat) = (0 : Nat))) (
 dec (l0.length = l0.length)) (
 false)) (
 bR (bR (dec ((0 : Nat) = (0 : Nat))) (
 dec (l1.length = l1.length)) (
 false)) (
 true) (
 false)) (
 false)) (
 reqB ((0 : Int) ≤ n2 + (1 : Int)) (
 reqB (n2 + (1 : Int) ≤ (1100 : Int)) (
 reqB (equGL.inv
 [DV.l (List.take l0.length (List.drop (0 : Nat) l0)), DV.l (List.take l1.length (List.drop (0 : Nat) l1))]
 [DV.n (n2 + (1 : Int))]) (
 reqB (equGL.mea
 [DV.l (List.take l0.length (List.drop (0 : Nat) l0)),
 DV.l (List.take l1.length (List.drop (0 : Nat) l1))]
 [DV.n (n2 + (1 : Int))] <
 equGL.mea
 [DV.l (List.take l0.length (List.drop (0 : Nat) l0)),
 DV.l (List.take l1.length (List.drop (0 : Nat) l1))]
 [DV.n n2]) (
 true))))) (
 false))))))) (
 reqB (sigEquG.post [DV.l l0, DV.l l1] [DV.b Bool.true]) (
 true))))))))))))))))))))) := by kernel_rfl
set_option maxHeartbeats 8000000 in
theorem vt_equ : vcFn Try.prog [] (fun f p _ => at2 f p 14 58 equGL (none)) [] 100 14 sigEquG = true := by
  rw [vc_equ]
  try simp only [Int.toNat_natCast, List.length_set, List.length_replicate, List.length_take, List.length_drop, List.length_append, List.length_cons, List.length_nil, Nat.min_self, List.take_take, lenCols_i, lenCols_b, List.drop_zero, List.take_length, Nat.add_eq, Nat.mul_eq, Nat.sub_eq, Nat.zero_add, Nat.sub_zero, Nat.mul_one]
  refine all_i fun l0 => ?_
  refine imp_i fun h0 => ?_
  refine imp_i fun h1 => ?_
  refine all_i fun l1 => ?_
  refine imp_i fun h2 => ?_
  refine imp_i fun h3 => ?_
  refine imp_i fun h4 => ?_
  try simp only [sigEquG, cW, equGP, List.cons.injEq, DV.b.injEq, and_true, List.length_cons, List.length_nil] at h4
  refine bR_dec (fun h5 => ?_) (fun h5 => ?_)
  ·
   refine req_i ?_ ?_
   · -- r0
    first | omega | ((try simp only [sigEquG, cW, equGP, List.cons.injEq, DV.b.injEq, and_true, List.length_cons, List.length_nil]); first | done | omega | assumption | grind [getD_set, getD_rep, toNat_succ, cntN_yes, cntN_no])
   rfl
  ·
   refine req_i ?_ ?_
   · -- r1
    first | omega | ((try simp only [Nat.mul_eq]); first | done | omega | assumption | grind [getD_set, getD_rep, toNat_succ, cntN_yes, cntN_no])
   refine req_i ?_ ?_
   · -- r2
    first | omega | ((try simp only [Nat.zero_add]); first | done | omega | assumption | grind [getD_set, getD_rep, toNat_succ, cntN_yes, cntN_no])
   refine req_i ?_ ?_
   · -- r3
    first | omega | ((try simp only [List.length_take, List.take_length, List.take_take, Nat.min_self, List.length_drop, List.drop_zero, List.length_cons, List.length_nil]); first | done | omega | assumption | grind [getD_set, getD_rep, toNat_succ, cntN_yes, cntN_no])
   refine req_i ?_ ?_
   · -- r4
    first | assumption | exact rep_bd (by omega) (by omega) | exact set_bd (by assumption) (by omega) (by omega) | exact take_bd (by assumption) | ((try simp only [List.length_take, List.take_length, List.take_take, Nat.min_self, List.length_drop, List.drop_zero, List.length_cons, List.length_nil]); first | assumption | exact rep_bd (by omega) (by omega) | exact set_bd (by assumption) (by omega) (by omega) | exact take_bd (by assumption) | grind [getD_set, getD_rep, toNat_succ, cntN_yes, cntN_no])
   refine req_i ?_ ?_
   · -- r5
    first | omega | ((try simp only [Nat.mul_eq]); first | done | omega | assumption | grind [getD_set, getD_rep, toNat_succ, cntN_yes, cntN_no])
   refine req_i ?_ ?_
   · -- r6
    first | omega | ((try simp only [Nat.zero_add]); first | done | omega | assumption | grind [getD_set, getD_rep, toNat_succ, cntN_yes, cntN_no])
   refine req_i ?_ ?_
   · -- r7
    first | omega | ((try simp only [List.length_take, List.take_length, List.take_take, Nat.min_self, List.length_drop, List.drop_zero, List.length_cons, List.length_nil]); first | done | omega | assumption | grind [getD_set, getD_rep, toNat_succ, cntN_yes, cntN_no])
   refine req_i ?_ ?_
   · -- r8
    first | assumption | exact rep_bd (by omega) (by omega) | exact set_bd (by assumption) (by omega) (by omega) | exact take_bd (by assumption) | ((try simp only [List.length_take, List.take_length, List.take_take, Nat.min_self, List.length_drop, List.drop_zero, List.length_cons, List.length_nil]); first | assumption | exact rep_bd (by omega) (by omega) | exact set_bd (by assumption) (by omega) (by omega) | exact take_bd (by assumption) | grind [getD_set, getD_rep, toNat_succ, cntN_yes, cntN_no])
   refine req_i ?_ ?_
   · -- r9
    first | omega | ((try simp only [equGL, cW, equGInv, meaC, List.cons.injEq, DV.b.injEq, and_true, List.length_take, List.take_length, List.take_take, Nat.min_self, List.length_drop, List.drop_zero, List.length_cons, List.length_nil]); first | done | omega | assumption | grind [getD_set, getD_rep, toNat_succ, cntN_yes, cntN_no])
   refine all_i fun n2 => ?_
   refine imp_i fun h6 => ?_
   refine imp_i fun h7 => ?_
   refine imp_i fun h8 => ?_
   try simp only [equGL, cW, equGInv, meaC, List.cons.injEq, DV.b.injEq, and_true, List.length_take, List.take_length, List.take_take, Nat.min_self, List.length_drop, List.drop_zero, List.length_cons, List.length_nil] at h8
   refine bR_dec (fun h9 => ?_) (fun h9 => ?_)
   ·
    refine req_i ?_ ?_
    · -- r10
     first | omega | ((try simp only [Int.toNat_natCast, List.length_cons, List.length_nil]); first | done | omega | assumption | grind [getD_set, getD_rep, toNat_succ, cntN_yes, cntN_no])
    refine req_i ?_ ?_
    · -- r11
     first | omega | ((try simp only [Int.toNat_natCast, List.length_cons, List.length_nil, Nat.add_eq, Nat.zero_add]); first | done | omega | assumption | grind [getD_set, getD_rep, toNat_succ, cntN_yes, cntN_no])
    refine req_i ?_ ?_
    · -- r12
     first | omega | ((try simp only [Int.toNat_natCast, List.length_cons, List.length_nil]); first | done | omega | assumption | grind [getD_set, getD_rep, toNat_succ, cntN_yes, cntN_no])
    refine req_i ?_ ?_
    · -- r13
     first | omega | ((try simp only [Int.toNat_natCast, List.length_cons, List.length_nil, Nat.add_eq, Nat.zero_add]); first | done | omega | assumption | grind [getD_set, getD_rep, toNat_succ, cntN_yes, cntN_no])
    refine bR_dec (fun h10 => ?_) (fun h10 => ?_)
    ·
     refine req_i ?_ ?_
     · -- r14
      first | omega | ((try simp only [sigEquG, cW, equGP, List.cons.injEq, DV.b.injEq, and_true, List.length_cons, List.length_nil]); first | done | omega | assumption | grind [getD_set, getD_rep, toNat_succ, cntN_yes, cntN_no])
     rfl
    ·
     refine bR_t ?_ ?_
     · -- g0
      first | rfl | (simp only [bR_iff, bR_iff_f, dec_iff, dec_f, beqB_iff', andB_iff', reduceCtorEq, imp_self, false_implies, and_true, true_and, implies_true, and_self]; done) | (simp [bR_iff, dec_iff, beqB_iff', andB_iff']; done) | (simp [bR_iff, dec_iff, beqB_iff', andB_iff']; omega)
     refine req_i ?_ ?_
     · -- r15
      first | omega | assumption | grind
     refine req_i ?_ ?_
     · -- r16
      first | omega | assumption | grind
     refine req_i ?_ ?_
     · -- r17
      first | omega | ((try simp only [equGL, cW, equGInv, meaC, List.cons.injEq, DV.b.injEq, and_true, List.length_take, List.take_length, List.take_take, Nat.min_self, List.length_drop, List.drop_zero, List.length_cons, List.length_nil]); first | done | omega | assumption | grind [getD_set, getD_rep, toNat_succ, cntN_yes, cntN_no])
     refine req_i ?_ ?_
     · -- r18
      first | omega | ((try simp only [equGL, cW, equGInv, meaC, List.cons.injEq, DV.b.injEq, and_true, List.length_take, List.take_length, List.take_take, Nat.min_self, List.length_drop, List.drop_zero, List.length_cons, List.length_nil]); first | done | omega | assumption | grind [getD_set, getD_rep, toNat_succ, cntN_yes, cntN_no])
     rfl
   ·
    have e1 := equG_of (a := l0) (b := l1) h8.2.1 h9 h8.2.2.2
    refine req_i ?_ ?_
    · -- r19
     first | omega | ((try simp only [sigEquG, cW, equGP, List.cons.injEq, DV.b.injEq, and_true, List.length_cons, List.length_nil]); first | done | omega | assumption | grind [getD_set, getD_rep, toNat_succ, cntN_yes, cntN_no])
    rfl
theorem ext_equ : ∀ p ∈ ([] : List (Nat × Ext)), ExtRow Try.prog p.1 p.2 := by
  intro p hp
  cases hp
theorem cts_equ : CtsOk Try.prog [] := fun f c h => by cases h
theorem fn_equ : FnOk Try.prog 14 sigEquG [] := fn_sound (by kernel_rfl) ext_equ cts_equ names vt_equ
end Go.Proofs.Ytpmlodchbgfmeaa

namespace Go.Proofs.Ytpmlodchbgfmeaa
open Go.Ev Go.Sp
set_option maxRecDepth 100000
theorem vc_sum : vcFn Try.prog [(15, Ext.ctr (ctOf sigCode))] (fun f p _ => at2 f p 16 122 sumLS (none)) [] 100 16 sigSum = (allB fun n0 : Int => 
impB ((-9223372036854775808 : Int) ≤ n0) (
impB (n0 ≤ (9223372036854775807 : Int)) (
allB fun n1 : Int => 
impB ((-9223372036854775808 : Int) ≤ n1) (
impB (n1 ≤ (9223372036854775807 : Int)) (
impB (sigSum.pre [DV.n n0, DV.n n1]) (
reqB ((-9223372036854775808 : Int) ≤ n0) (
reqB (n0 ≤ (9223372036854775807 : Int)) (
reqB ((-9223372036854775808 : Int) ≤ n1) (
reqB (n1 ≤ (9223372036854775807 : Int)) (
reqB (sigCode.pre [DV.n n0, DV.n n1]) (
allB fun l2 : List Int => 
impB (l2.length ≤ (1100 : Nat)) (
impB (∀ (y : Int), y ∈ l2 → (-1 : Int) ≤ y ∧ y ≤ (1 : Int)) (
allB fun n3 : Int => 
impB ((0 : Int) ≤ n3) (
impB (n3 ≤ (18 : Int)) (
impB (sigCode.post [DV.n n0, DV.n n1] [DV.l l2, DV.n n3]) (
reqB (((0 : Nat) + l2.length) * (1 : Nat) ≤ l2.length.mul (1 : Nat)) (
reqB (l2.length ≤ (1100 : Nat)) (
reqB ((List.take l2.length (List.drop (0 : Nat) l2)).length = l2.length) (
reqB (∀ (y : Int), y ∈ List.take l2.length (List.drop (0 : Nat) l2) → (-1 : Int) ≤ y ∧ y ≤ (1 : Int)) (
reqB (sumLS.inv [DV.l (List.take l2.length (List.drop (0 : Nat) l2))] [DV.n (0 : Int), DV.n (0 : Int)]) (
allB fun n4 : Int => 
impB ((0 : Int) ≤ n4) (
impB (n4 ≤ (1100 : Int)) (
allB fun n5 : Int => 
impB ((-1100 : Int) ≤ n5) (
impB (n5 ≤ (1100 : Int)) (
impB (sumLS.inv [DV.l (List.take l2.length (List.drop (0 : Nat) l2))] [DV.n n4, DV.n n5]) (
bR (dec (n4 < (↑l2.length : Int))) (
 reqB (n4.toNat < l2.length) (
 reqB (Nat.add (0 : Nat) n4.toNat < l2.length) (
 bR (bR (dec (n3 = n3)) (
 bR (bR (dec ((0 : Nat) = (0 : Nat))) (
 dec (l2.length = l2.length)) (
 false)) (
 bR (dec ((↑l2.length : Int) = (↑l2.length : Int))) (
 true) (
 false)) (
 false)) (
 false)) (
 bR (bR (bR (dec (l2.length.mul (1 : Nat) = l2.length.mul (1 : Nat))) (
 dec ([Col.i Go.IntKind.i64 (-1 : Int) (1 : Int) l2] = [Col.i Go.IntKind.i64 (-1 : Int) (1 : Int) l2])) (
 false)) (
 true) (
 false)) (
 reqB ((0 : Int) ≤ n4 + (1 : Int)) (
 reqB (n4 + (1 : Int) ≤ (1100 : Int)) (
 reqB ((-1100 : Int) ≤ n5 + l2.getD (Nat.add (0 : Nat) n4.toNat) (0 : Int)) (
 reqB (n5 + l2.getD (Nat.add (0 : Nat) n4.toNat) (0 : Int) ≤ (1100 : Int)) (
 reqB (sumLS.inv [DV.l (List.take l2.length (List.drop (0 : Nat) l2))]
 [DV.n (n4 + (1 : Int)), DV.n (n5 + l2.getD (Nat.add (0 : Nat) n4.toNat) (0 : Int))]) (
 reqB (sumLS.mea [DV.l (List.take l2.length (List.drop (0 : Nat) l2))]
 [DV.n (n4 + (1 : Int)), DV.n (n5 + l2.getD (Nat.add (0 : Nat) n4.toNat) (0 : Int))] <
 sumLS.mea [DV.l (List.take l2.length (List.drop (0 : Nat) l2))] [DV.n n4, DV.n n5]) (
 true))))))) (
 false)) (
 false)))) (
 reqB ((-1100 : Int) ≤ n5) (
 reqB (n5 ≤ (1100 : Int)) (
 reqB ((0 : Int) ≤ n3) (
 reqB (n3 ≤ (18 : Int)) (
 reqB (sigSum.post [DV.n n0, DV.n n1] [DV.n n5, DV.n n3]) (
 true)))))))))))))))))))))))))))))))) := by kernel_rfl
set_option maxHeartbeats 8000000 in
theorem vt_sum : vcFn Try.prog [(15, Ext.ctr (ctOf sigCode))] (fun f p _ => at2 f p 16 122 sumLS (none)) [] 100 16 sigSum = true := by
  rw [vc_sum]
  try simp only [Int.toNat_natCast, List.length_set, List.length_replicate, List.length_take, List.length_drop, List.length_append, List.length_cons, List.length_nil, Nat.min_self, List.take_take, lenCols_i, lenCols_b, List.drop_zero, List.take_length, Nat.add_eq, Nat.mul_eq, Nat.sub_eq, Nat.zero_add, Nat.sub_zero, Nat.mul_one]
  refine all_i fun n0 => ?_
  refine imp_i fun h0 => ?_
  refine imp_i fun h1 => ?_
  refine all_i fun n1 => ?_
  refine imp_i fun h2 => ?_
  refine imp_i fun h3 => ?_
  refine imp_i fun h4 => ?_
  try simp only [sigSum, sumPost, List.cons.injEq, DV.b.injEq, and_true, List.length_cons, List.length_nil] at h4
  refine req_i ?_ ?_
  · -- r0
   first | omega | assumption | grind
  refine req_i ?_ ?_
  · -- r1
   first | omega | assumption | grind
  refine req_i ?_ ?_
  · -- r2
   first | omega | assumption | grind
  refine req_i ?_ ?_
  · -- r3
   first | omega | assumption | grind
  refine req_i ?_ ?_
  · -- r4
   first | trivial | assumption | (simp only [sigCode, cCh, codePost, List.cons.injEq, DV.b.injEq, and_true, List.length_cons, List.length_nil]; done) | ((try simp only [sigCode, cCh, codePost, List.cons.injEq, DV.b.injEq, and_true, List.length_cons, List.length_nil]); first | omega | assumption | grind)
  refine all_i fun l2 => ?_
  refine imp_i fun h5 => ?_
  refine imp_i fun h6 => ?_
  refine all_i fun n3 => ?_
  refine imp_i fun h7 => ?_
  refine imp_i fun h8 => ?_
  refine imp_i fun h9 => ?_
  try simp only [Int.toNat_natCast, List.length_set, List.length_replicate, List.length_take, List.length_drop, List.length_append, List.length_cons, List.length_nil, Nat.min_self, List.take_take, lenCols_i, lenCols_b, List.drop_zero, List.take_length, Nat.add_eq, Nat.mul_eq, Nat.sub_eq, Nat.zero_add, Nat.sub_zero, Nat.mul_one] at h9
  refine req_i ?_ ?_
  · -- r5
   first | omega | ((try simp only [Nat.mul_eq]); first | done | omega | assumption | grind [getD_set, getD_rep, toNat_succ, cntN_yes, cntN_no])
  refine req_i ?_ ?_
  · -- r6
   first | omega | ((try simp only [Nat.zero_add]); first | done | omega | assumption | grind [getD_set, getD_rep, toNat_succ, cntN_yes, cntN_no])
  refine req_i ?_ ?_
  · -- r7
   first | omega | ((try simp only [List.length_take, List.take_length, List.take_take, Nat.min_self, List.length_drop, List.drop_zero, List.length_cons, List.length_nil]); first | done | omega | assumption | grind [getD_set, getD_rep, toNat_succ, cntN_yes, cntN_no])
  refine req_i ?_ ?_
  · -- r8
   first | assumption | exact rep_bd (by omega) (by omega) | exact set_bd (by assumption) (by omega) (by omega) | exact take_bd (by assumption) | ((try simp only [List.length_take, List.take_length, List.take_take, Nat.min_self, List.length_drop, List.drop_zero, List.length_cons, List.length_nil]); first | assumption | exact rep_bd (by omega) (by omega) | exact set_bd (by assumption) (by omega) (by omega) | exact take_bd (by assumption) | grind [getD_set, getD_rep, toNat_succ, cntN_yes, cntN_no])
  refine req_i ?_ ?_
  · -- r9
   exact ⟨by omega, by omega, rfl⟩
  refine all_i fun n4 => ?_
  refine imp_i fun h10 => ?_
  refine imp_i fun h11 => ?_
  refine all_i fun n5 => ?_
  refine imp_i fun h12 => ?_
  refine imp_i fun h13 => ?_
  refine imp_i fun h14 => ?_
  try simp only [sumLS, cCh, sumInv, meaC, List.cons.injEq, DV.b.injEq, and_true, List.length_take, List.take_length, List.take_take, Nat.min_self, List.length_drop, List.drop_zero, List.length_cons, List.length_nil] at h14
  refine bR_dec (fun h15 => ?_) (fun h15 => ?_)
  ·
   have s0 := sumL_t (n := n4.toNat) h6 h5
   have s1 := sumL_t (n := (n4 + 1).toNat) h6 h5
   have s2 := sumL_take (l := l2) (i := n4) (by omega) (by omega)
   refine req_i ?_ ?_
   · -- r10
    first | omega | ((try simp only [Int.toNat_natCast, List.length_cons, List.length_nil]); first | done | omega | assumption | grind [getD_set, getD_rep, toNat_succ, cntN_yes, cntN_no])
   refine req_i ?_ ?_
   · -- r11
    first | omega | ((try simp only [Int.toNat_natCast, List.length_cons, List.length_nil, Nat.add_eq, Nat.zero_add]); first | done | omega | assumption | grind [getD_set, getD_rep, toNat_succ, cntN_yes, cntN_no])
   refine bR_t ?_ ?_
   · -- g0
    first | rfl | (simp only [bR_iff, bR_iff_f, dec_iff, dec_f, beqB_iff', andB_iff', reduceCtorEq, imp_self, false_implies, and_true, true_and, implies_true, and_self]; done) | (simp [bR_iff, dec_iff, beqB_iff', andB_iff']; done) | (simp [bR_iff, dec_iff, beqB_iff', andB_iff']; omega)
   refine bR_t ?_ ?_
   · -- g1
    first | rfl | (simp only [bR_iff, bR_iff_f, dec_iff, dec_f, beqB_iff', andB_iff', reduceCtorEq, imp_self, false_implies, and_true, true_and, implies_true, and_self]; done) | (simp [bR_iff, dec_iff, beqB_iff', andB_iff']; done) | (simp [bR_iff, dec_iff, beqB_iff', andB_iff']; omega)
   refine req_i ?_ ?_
   · -- r12
    first | omega | assumption | grind
   refine req_i ?_ ?_
   · -- r13
    first | omega | assumption | grind
   refine req_i ?_ ?_
   · -- r14
    first | omega | assumption | grind
   refine req_i ?_ ?_
   · -- r15
    first | omega | assumption | grind
   refine req_i ?_ ?_
   · -- r16
    first | omega | ((try simp only [sumLS, cCh, sumInv, meaC, List.cons.injEq, DV.b.injEq, and_true, Int.toNat_natCast, List.length_take, List.take_length, List.take_take, Nat.min_self, List.length_drop, List.drop_zero, List.length_cons, List.length_nil, Nat.add_eq, Nat.zero_add]); first | done | omega | assumption | grind [getD_set, getD_rep, toNat_succ, cntN_yes, cntN_no])
   refine req_i ?_ ?_
   · -- r17
    first | omega | ((try simp only [sumLS, cCh, sumInv, meaC, List.cons.injEq, DV.b.injEq, and_true, Int.toNat_natCast, List.length_take, List.take_length, List.take_take, Nat.min_self, List.length_drop, List.drop_zero, List.length_cons, List.length_nil, Nat.add_eq, Nat.zero_add]); first | done | omega | assumption | grind [getD_set, getD_rep, toNat_succ, cntN_yes, cntN_no])
   rfl
  ·
   refine req_i ?_ ?_
   · -- r18
    first | omega | assumption | grind
   refine req_i ?_ ?_
   · -- r19
    first | omega | assumption | grind
   refine req_i ?_ ?_
   · -- r20
    first | omega | assumption | grind
   refine req_i ?_ ?_
   · -- r21
    first | omega | assumption | grind
   refine req_i ?_ ?_
   · -- r22
    rcases ite_case h9 with ⟨k1, k2, k3⟩ | ⟨k1, k2, k3⟩
    · exact sum_yes k1 k2 (by rw [← k3, h14.2.2, List.take_of_length_le (by omega)])
    · exact sum_no k1 k2 (by rw [h14.2.2, k3, List.take_nil]; rfl)
   rfl
theorem ext_sum : ∀ p ∈ ([(15, Ext.ctr (ctOf sigCode))] : List (Nat × Ext)), ExtRow Try.prog p.1 p.2 := by
  intro p hp
  simp only [List.mem_cons, List.not_mem_nil, or_false] at hp
  rcases hp with rfl
  · trivial
theorem cts_sum : CtsOk Try.prog [(15, Ext.ctr (ctOf sigCode))] := ctsOk_of (cs := [(15, sigCode)])
  (fun p hp => by
    simp only [List.mem_cons, List.not_mem_nil, or_false] at hp
    rcases hp with rfl
    · exact fn_code
)
  (fun f c h => by
    simp only [List.lookup_cons] at h
    repeat' split at h
    all_goals first | (cases h; done) | (rename_i e; have e := beq_iff_eq.1 e; subst e; cases h; refine ⟨_, ?_, rfl⟩; simp))
theorem fn_sum : FnOk Try.prog 16 sigSum [] := fn_sound (by kernel_rfl) ext_sum cts_sum names vt_sum
end Go.Proofs.Ytpmlodchbgfmeaa

namespace Go.Proofs.Ytpmlodchbgfmeaa
open Go.Ev Go.Sp
set_option maxRecDepth 100000
theorem vc_GoldShifts : vcFn Try.prog [(3, Ext.ctr (ctOf sigTrue0)), (31, Ext.ctr (ctOf sigTurn)), (30, Ext.ctr (ctOf sigDeg)), (11, Ext.ctr (ctOf sigLen)), (15, Ext.ctr (ctOf sigCode)), (13, Ext.ctr (ctOf sigBits)), (19, Ext.ctr (ctOf sigRotd)), (14, Ext.ctr (ctOf sigEquG)), (16, Ext.ctr (ctOf sigSum))] (fun f p _ => at2 f p 8 65530 gsL (at2 f p 8 262138 gs2L (none))) [] 100 8 sigNG3 = (allB fun n0 : Int => 
impB ((-9223372036854775808 : Int) ≤ n0) (
impB (n0 ≤ (9223372036854775807 : Int)) (
allB fun n1 : Int => 
impB ((-9223372036854775808 : Int) ≤ n1) (
impB (n1 ≤ (9223372036854775807 : Int)) (
allB fun n2 : Int => 
impB ((-9223372036854775808 : Int) ≤ n2) (
impB (n2 ≤ (9223372036854775807 : Int)) (
impB (sigNG3.pre [DV.n n0, DV.n n1, DV.n n2]) (
reqB (sigTrue0.pre []) (
allB fun b3 : Bool => 
impB (sigTrue0.post [] [DV.b b3]) (
reqB ((-9223372036854775808 : Int) ≤ n0) (
reqB (n0 ≤ (9223372036854775807 : Int)) (
reqB (sigDeg.pre [DV.n n0]) (
allB fun n4 : Int => 
impB ((5 : Int) ≤ n4) (
impB (n4 ≤ (7 : Int)) (
impB (sigDeg.post [DV.n n0] [DV.n n4]) (
reqB ((-9223372036854775808 : Int) ≤ n1) (
reqB (n1 ≤ (9223372036854775807 : Int)) (
reqB (sigTurn.pre [DV.n n1, DV.n (2 : Int)]) (
allB fun n5 : Int => 
impB ((0 : Int) ≤ n5) (
impB (n5 ≤ (4000000000 : Int)) (
impB (sigTurn.post [DV.n n1, DV.n (2 : Int)] [DV.n n5]) (
reqB ((-9223372036854775808 : Int) ≤ n4) (
reqB (n4 ≤ (9223372036854775807 : Int)) (
reqB ((-9223372036854775808 : Int) ≤ (1 : Int) + n5) (
reqB ((1 : Int) + n5 ≤ (9223372036854775807 : Int)) (
reqB (sigBits.pre [DV.n n4, DV.n ((1 : Int) + n5)]) (
allB fun l6 : List Int => 
impB (l6.length ≤ (1100 : Nat)) (
impB (∀ (y : Int), y ∈ l6 → (0 : Int) ≤ y ∧ y ≤ (1 : Int)) (
allB fun n7 : Int => 
impB ((0 : Int) ≤ n7) (
impB (n7 ≤ (18 : Int)) (
impB (sigBits.post [DV.n n4, DV.n ((1 : Int) + n5)] [DV.l l6, DV.n n7]) (
reqB ((-9223372036854775808 : Int) ≤ n4) (
reqB (n4 ≤ (9223372036854775807 : Int)) (
reqB ((-9223372036854775808 : Int) ≤ (1 : Int) + n5) (
reqB ((1 : Int) + n5 ≤ (9223372036854775807 : Int)) (
reqB (sigCode.pre [DV.n n4, DV.n ((1 : Int) + n5)]) (
allB fun l8 : List Int => 
impB (l8.length ≤ (1100 : Nat)) (
impB (∀ (y : Int), y ∈ l8 → (-1 : Int) ≤ y ∧ y ≤ (1 : Int)) (
allB fun n9 : Int => 
impB ((0 : Int) ≤ n9) (
impB (n9 ≤ (18 : Int)) (
impB (sigCode.post [DV.n n4, DV.n ((1 : Int) + n5)] [DV.l l8, DV.n n9]) (
reqB ((-9223372036854775808 : Int) ≤ n4) (
reqB (n4 ≤ (9223372036854775807 : Int)) (
reqB (sigLen.pre [DV.n n4]) (
allB fun n10 : Int => 
impB ((0 : Int) ≤ n10) (
impB (n10 ≤ (1023 : Int)) (
allB fun n11 : Int => 
impB ((0 : Int) ≤ n11) (
impB (n11 ≤ (18 : Int)) (
impB (sigLen.post [DV.n n4] [DV.n n10, DV.n n11]) (
bR (dec (n7 ≠ (0 : Int))) (
 reqB (sigNG3.post [DV.n n0, DV.n n1, DV.n n2] [DV.b Bool.false]) (
 true)) (
 bR (dec (n9 ≠ (0 : Int))) (
 reqB (sigNG3.post [DV.n n0, DV.n n1, DV.n n2] [DV.b Bool.false]) (
 true)) (
 bR (dec (n11 ≠ (0 : Int))) (
 reqB (sigNG3.post [DV.n n0, DV.n n1, DV.n n2] [DV.b Bool.false]) (
 true)) (
 bR (dec (n10 ≠ opI (SO.shl Go.IntKind.i64) (1 : Int) n4 - (1 : Int))) (
 reqB (sigNG3.post [DV.n n0, DV.n n1, DV.n n2] [DV.b Bool.false]) (
 true)) (
 bR (dec ((↑l6.length : Int) ≠ opI (SO.shl Go.IntKind.i64) (1 : Int) n4 - (1 : Int))) (
 reqB (sigNG3.post [DV.n n0, DV.n n1, DV.n n2] [DV.b Bool.false]) (
 true)) (
 bR (dec ((↑l8.length : Int) ≠ opI (SO.shl Go.IntKind.i64) (1 : Int) n4 - (1 : Int))) (
 reqB (sigNG3.post [DV.n n0, DV.n n1, DV.n n2] [DV.b Bool.false]) (
 true)) (
 reqB ((-9223372036854775808 : Int) ≤ n2) (
 reqB (n2 ≤ (9223372036854775807 : Int)) (
 reqB ((1 : Int) ≤ opI (SO.shl Go.IntKind.i64) (1 : Int) n4 - (1 : Int) - (1 : Int)) (
 reqB (opI (SO.shl Go.IntKind.i64) (1 : Int) n4 - (1 : Int) - (1 : Int) ≤ (4000000000 : Int)) (
 reqB (sigTurn.pre
 [DV.n n2, DV.n (opI (SO.shl Go.IntKind.i64) (1 : Int) n4 - (1 : Int) - (1 : Int))]) (
 allB fun n12 : Int => 
 impB ((0 : Int) ≤ n12) (
 impB (n12 ≤ (4000000000 : Int)) (
 impB (sigTurn.post
 [DV.n n2, DV.n (opI (SO.shl Go.IntKind.i64) (1 : Int) n4 - (1 : Int) - (1 : Int))]
 [DV.n n12]) (
 reqB (((0 : Nat) + l6.length) * (1 : Nat) ≤ l6.length.mul (1 : Nat)) (
 reqB (l6.length ≤ (1100 : Nat)) (
 reqB ((List.take l6.length (List.drop (0 : Nat) l6)).length = l6.length) (
 reqB (∀ (y : Int), y ∈ List.take l6.length (List.drop (0 : Nat) l6) → (-1 : Int) ≤ y ∧ y ≤ (1 : Int)) (
 reqB ((0 : Int) ≤ (1 : Int) + n12) (
 reqB ((1 : Int) + n12 ≤ (2000 : Int)) (
 reqB (sigRotd.pre [DV.l (List.take l6.length (List.drop (0 : Nat) l6)), DV.n ((1 : Int) + n12)]) (
 allB fun l13 : List Int => 
 impB (l13.length ≤ (1100 : Nat)) (
 impB (∀ (y : Int), y ∈ l13 → (-1 : Int) ≤ y ∧ y ≤ (1 : Int)) (
 impB (sigRotd.post [DV.l (List.take l6.length (List.drop (0 : Nat) l6)), DV.n ((1 : Int) + n12)]
 [DV.l l13]) (
 reqB (((0 : Nat) + l6.length) * (1 : Nat) ≤ l6.length.mul (1 : Nat)) (
 reqB (l6.length ≤ (1100 : Nat)) (
 reqB ((List.take l6.length (List.drop (0 : Nat) l6)).length = l6.length) (
 reqB (∀ (y : Int), y ∈ List.take l6.length (List.drop (0 : Nat) l6) → (0 : Int) ≤ y ∧ y ≤ (1 : Int)) (
 reqB (((0 : Nat) + l13.length) * (1 : Nat) ≤ l13.length.mul (1 : Nat)) (
 reqB (l13.length ≤ (1100 : Nat)) (
 reqB ((List.take l13.length (List.drop (0 : Nat) l13)).length = l13.length) (
 reqB (∀ (y : Int), y ∈ List.take l13.length (List.drop (0 : Nat) l13) → (-1 : Int) ≤ y ∧ y ≤ (1 : Int)) (
 reqB (((0 : Nat) + l8.length) * (1 : Nat) ≤ l8.length.mul (1 : Nat)) (
 reqB (l8.length ≤ (1100 : Nat)) (
 reqB ((List.take l8.length (List.drop (0 : Nat) l8)).length = l8.length) (
 reqB (∀ (y : Int), y ∈ List.take l8.length (List.drop (0 : Nat) l8) → (-1 : Int) ≤ y ∧ y ≤ (1 : Int)) (
 reqB ((0 : Int) ≤ (1 : Int) + n12) (
 reqB ((1 : Int) + n12 ≤ (200 : Int)) (
 reqB ((31 : Int) ≤ opI (SO.shl Go.IntKind.i64) (1 : Int) n4 - (1 : Int)) (
 reqB (opI (SO.shl Go.IntKind.i64) (1 : Int) n4 - (1 : Int) ≤ (127 : Int)) (
 reqB (gsL.inv
 [DV.l (List.take l6.length (List.drop (0 : Nat) l6)),
 DV.l (List.take l13.length (List.drop (0 : Nat) l13)),
 DV.l (List.take l8.length (List.drop (0 : Nat) l8)), DV.n ((1 : Int) + n12),
 DV.n (opI (SO.shl Go.IntKind.i64) (1 : Int) n4 - (1 : Int))]
 [DV.n (0 : Int), DV.n (0 : Int), DV.l []]) (
 allB fun n14 : Int => 
 impB ((0 : Int) ≤ n14) (
 impB (n14 ≤ (200 : Int)) (
 allB fun n15 : Int => 
 impB ((-200 : Int) ≤ n15) (
 impB (n15 ≤ (200 : Int)) (
 allB fun l16 : List Int => 
 impB (l16.length ≤ (1100 : Nat)) (
 impB (∀ (y : Int), y ∈ l16 → (0 : Int) ≤ y ∧ y ≤ (1 : Int)) (
 impB (gsL.inv
 [DV.l (List.take l6.length (List.drop (0 : Nat) l6)),
 DV.l (List.take l13.length (List.drop (0 : Nat) l13)),
 DV.l (List.take l8.length (List.drop (0 : Nat) l8)), DV.n ((1 : Int) + n12),
 DV.n (opI (SO.shl Go.IntKind.i64) (1 : Int) n4 - (1 : Int))]
 [DV.n n14, DV.n n15, DV.l l16]) (
 bR (dec (n14 < opI (SO.shl Go.IntKind.i64) (1 : Int) n4 - (1 : Int))) (
 reqB (n14.toNat < l6.length) (
 reqB (Nat.add (0 : Nat) n14.toNat < l6.length) (
 reqB (n14.toNat < l13.length) (
 reqB (Nat.add (0 : Nat) n14.toNat < l13.length) (
 reqB (l16.length + (1 : Nat) ≤ (1000000 : Nat)) (
 reqB (((0 : Nat) + l16.length) * (0 + (1 : Nat)) ≤ l16.length.mul (1 : Nat)) (
 reqB (n14.toNat < l8.length) (
 reqB (Nat.add (0 : Nat) n14.toNat < l8.length) (
 reqB (n14.toNat < l6.length) (
 reqB (Nat.add (0 : Nat) n14.toNat < l6.length) (
 bR (dec (l8.getD (Nat.add (0 : Nat) n14.toNat) (0 : Int) ≠
 (1 : Int) - (2 : Int) * l6.getD (Nat.add (0 : Nat) n14.toNat) (0 : Int))) (
 reqB (sigNG3.post [DV.n n0, DV.n n1, DV.n n2] [DV.b Bool.false]) (
 true)) (
 reqB (n14.toNat < l8.length) (
 reqB (Nat.add (0 : Nat) n14.toNat < l8.length) (
 reqB (((n14 + ((1 : Int) + n12)).tmod (opI (SO.shl Go.IntKind.i64) (1 : Int) n4 - (1 : Int))).toNat < l8.length) (
 reqB (Nat.add (0 : Nat)
 ((n14 + ((1 : Int) + n12)).tmod (opI (SO.shl Go.IntKind.i64) (1 : Int) n4 - (1 : Int))).toNat <
 l8.length) (
 bR (bR (dec (n4 = n4)) (
 bR (dec ((1 : Int) + n5 = (1 : Int) + n5)) (
 bR (dec ((1 : Int) + n12 = (1 : Int) + n12)) (
 bR (bR (b3) (
 b3) (
 bR (b3) (
 false) (
 true))) (
 bR (bR (dec ((0 : Nat) = (0 : Nat))) (
 dec (l6.length = l6.length)) (
 false)) (
 bR (bR (dec ((0 : Nat) = (0 : Nat))) (
 dec (l8.length = l8.length)) (
 false)) (
 bR (dec (opI (SO.shl Go.IntKind.i64) (1 : Int) n4 - (1 : Int) =
 opI (SO.shl Go.IntKind.i64) (1 : Int) n4 - (1 : Int))) (
 bR (bR (dec ((0 : Nat) = (0 : Nat))) (
 dec (l13.length = l13.length)) (
 false)) (
 true) (
 false)) (
 false)) (
 false)) (
 false)) (
 false)) (
 false)) (
 false)) (
 false)) (
 bR (bR (bR (dec (l6.length.mul (1 : Nat) = l6.length.mul (1 : Nat))) (
 dec ([Col.i Go.IntKind.i64 (0 : Int) (1 : Int) l6] = [Col.i Go.IntKind.i64 (0 : Int) (1 : Int) l6])) (
 false)) (
 bR (bR (dec (l8.length.mul (1 : Nat) = l8.length.mul (1 : Nat))) (
 dec ([Col.i Go.IntKind.i64 (-1 : Int) (1 : Int) l8] = [Col.i Go.IntKind.i64 (-1 : Int) (1 : Int) l8])) (
 false)) (
 bR (bR (dec (l13.length.mul (1 : Nat) = l13.length.mul (1 : Nat))) (
 dec ([Col.i Go.IntKind.i64 (-1 : Int) (1 : Int) l13] = [Col.i Go.IntKind.i64 (-1 : Int) (1 : Int) l13])) (
 false)) (
 true) (
 false)) (
 false)) (
 false)) (
 reqB ((0 : Int) ≤ n14 + (1 : Int)) (
 reqB (n14 + (1 : Int) ≤ (200 : Int)) (
 reqB ((-200 : Int) ≤
 n15 +
 l8.getD (Nat.add (0 : Nat) n14.toNat) (0 : Int) *
 l8.getD
 (Nat.add (0 : Nat)
 ((n14 + ((1 : Int) + n12)).tmod (opI (SO.shl Go.IntKind.i64) (1 : Int) n4 - (1 : Int))).toNat)
 (0 : Int)) (
 reqB (n15 +
 l8.getD (Nat.add (0 : Nat) n14.toNat) (0 : Int) *
 l8.getD
 (Nat.add (0 : Nat)
 ((n14 + ((1 : Int) + n12)).tmod (opI (SO.shl Go.IntKind.i64) (1 : Int) n4 - (1 : Int))).toNat)
 (0 : Int) ≤
 (200 : Int)) (
 reqB (((0 : Nat) + l16.length.add (1 : Nat)) * (1 : Nat) ≤ (l16.length.add (1 : Nat)).mul (0 + (1 : Nat))) (
 reqB (l16.length.add (1 : Nat) ≤ (1100 : Nat)) (
 reqB ((List.take (l16.length.add (1 : Nat))
 (List.drop (0 : Nat)
 (List.take l16.length (List.drop (0 : Nat) l16) ++
 [(l6.getD (Nat.add (0 : Nat) n14.toNat) (0 : Int) + l13.getD (Nat.add (0 : Nat) n14.toNat) (0 : Int)).tmod
 (2 : Int)]))).length =
 l16.length.add (1 : Nat)) (
 reqB (∀ (y : Int),
 y ∈
 List.take (l16.length.add (1 : Nat))
 (List.drop (0 : Nat)
 (List.take l16.length (List.drop (0 : Nat) l16) ++
 [(l6.getD (Nat.add (0 : Nat) n14.toNat) (0 : Int) + l13.getD (Nat.add (0 : Nat) n14.toNat) (0 : Int)).tmod
 (2 : Int)])) →
 (0 : Int) ≤ y ∧ y ≤ (1 : Int)) (
 reqB (gsL.inv
 [DV.l (List.take l6.length (List.drop (0 : Nat) l6)),
 DV.l (List.take l13.length (List.drop (0 : Nat) l13)),
 DV.l (List.take l8.length (List.drop (0 : Nat) l8)), DV.n ((1 : Int) + n12),
 DV.n (opI (SO.shl Go.IntKind.i64) (1 : Int) n4 - (1 : Int))]
 [DV.n (n14 + (1 : Int)),
 DV.n
 (n15 +
 l8.getD (Nat.add (0 : Nat) n14.toNat) (0 : Int) *
 l8.getD
 (Nat.add (0 : Nat)
 ((n14 + ((1 : Int) + n12)).tmod (opI (SO.shl Go.IntKind.i64) (1 : Int) n4 - (1 : Int))).toNat)
 (0 : Int)),
 DV.l
 (List.take (l16.length.add (1 : Nat))
 (List.drop (0 : Nat)
 (List.take l16.length (List.drop (0 : Nat) l16) ++
 [(l6.getD (Nat.add (0 : Nat) n14.toNat) (0 : Int) + l13.getD (Nat.add (0 : Nat) n14.toNat) (0 : Int)).tmod
 (2 : Int)])))]) (
 reqB (gsL.mea
 [DV.l (List.take l6.length (List.drop (0 : Nat) l6)),
 DV.l (List.take l13.length (List.drop (0 : Nat) l13)),
 DV.l (List.take l8.length (List.drop (0 : Nat) l8)), DV.n ((1 : Int) + n12),
 DV.n (opI (SO.shl Go.IntKind.i64) (1 : Int) n4 - (1 : Int))]
 [DV.n (n14 + (1 : Int)),
 DV.n
 (n15 +
 l8.getD (Nat.add (0 : Nat) n14.toNat) (0 : Int) *
 l8.getD
 (Nat.add (0 : Nat)
 ((n14 + ((1 : Int) + n12)).tmod
 (opI (SO.shl Go.IntKind.i64) (1 : Int) n4 - (1 : Int))).toNat)
 (0 : Int)),
 DV.l
 (List.take (l16.length.add (1 : Nat))
 (List.drop (0 : Nat)
 (List.take l16.length (List.drop (0 : Nat) l16) ++
 [(l6.getD (Nat.add (0 : Nat) n14.toNat) (0 : Int) + l13.getD (Nat.add (0 : Nat) n14.toNat) (0 : Int)).tmod
 (2 : Int)])))] <
 gsL.mea
 [DV.l (List.take l6.length (List.drop (0 : Nat) l6)),
 DV.l (List.take l13.length (List.drop (0 : Nat) l13)),
 DV.l (List.take l8.length (List.drop (0 : Nat) l8)), DV.n ((1 : Int) + n12),
 DV.n (opI (SO.shl Go.IntKind.i64) (1 : Int) n4 - (1 : Int))]
 [DV.n n14, DV.n n15, DV.l l16]) (
 true))))))))))) (
 false)) (
 false))))))))))))))))) (
 reqB (((0 : Nat) + l6.length) * (1 : Nat) ≤ l6.length.mul (1 : Nat)) (
 reqB (l6.length ≤ (1100 : Nat)) (
 reqB ((List.take l6.length (List.drop (0 : Nat) l6)).length = l6.length) (
 reqB (∀ (y : Int), y ∈ List.take l6.length (List.drop (0 : Nat) l6) → (0 : Int) ≤ y ∧ y ≤ (1 : Int)) (
 reqB (((0 : Nat) + l16.length) * (1 : Nat) ≤ l16.length.mul (1 : Nat)) (
 reqB (l16.length ≤ (1100 : Nat)) (
 reqB ((List.take l16.length (List.drop (0 : Nat) l16)).length = l16.length) (
 reqB (∀ (y : Int), y ∈ List.take l16.length (List.drop (0 : Nat) l16) → (0 : Int) ≤ y ∧ y ≤ (1 : Int)) (
 reqB ((31 : Int) ≤ opI (SO.shl Go.IntKind.i64) (1 : Int) n4 - (1 : Int)) (
 reqB (opI (SO.shl Go.IntKind.i64) (1 : Int) n4 - (1 : Int) ≤ (127 : Int)) (
 reqB (gs2L.inv
 [DV.l (List.take l6.length (List.drop (0 : Nat) l6)),
 DV.l (List.take l16.length (List.drop (0 : Nat) l16)),
 DV.n (opI (SO.shl Go.IntKind.i64) (1 : Int) n4 - (1 : Int))]
 [DV.n (0 : Int), DV.b Bool.false]) (
 allB fun n17 : Int => 
 impB ((0 : Int) ≤ n17) (
 impB (n17 ≤ (200 : Int)) (
 allB fun b18 : Bool => 
 impB (gs2L.inv
 [DV.l (List.take l6.length (List.drop (0 : Nat) l6)),
 DV.l (List.take l16.length (List.drop (0 : Nat) l16)),
 DV.n (opI (SO.shl Go.IntKind.i64) (1 : Int) n4 - (1 : Int))]
 [DV.n n17, DV.b b18]) (
 bR (dec (n17 < opI (SO.shl Go.IntKind.i64) (1 : Int) n4 - (1 : Int))) (
 bR (bR (b18) (
 false) (
 true)) (
 reqB (((0 : Nat) + l6.length) * (1 : Nat) ≤ l6.length.mul (1 : Nat)) (
 reqB (l6.length ≤ (1100 : Nat)) (
 reqB ((List.take l6.length (List.drop (0 : Nat) l6)).length = l6.length) (
 reqB (∀ (y : Int), y ∈ List.take l6.length (List.drop (0 : Nat) l6) → (-1 : Int) ≤ y ∧ y ≤ (1 : Int)) (
 reqB ((0 : Int) ≤ n17) (
 reqB (n17 ≤ (2000 : Int)) (
 reqB (sigRotd.pre [DV.l (List.take l6.length (List.drop (0 : Nat) l6)), DV.n n17]) (
 allB fun l19 : List Int => 
 impB (l19.length ≤ (1100 : Nat)) (
 impB (∀ (y : Int), y ∈ l19 → (-1 : Int) ≤ y ∧ y ≤ (1 : Int)) (
 impB (sigRotd.post [DV.l (List.take l6.length (List.drop (0 : Nat) l6)), DV.n n17] [DV.l l19]) (
 reqB (((0 : Nat) + l19.length) * (1 : Nat) ≤ l19.length.mul (1 : Nat)) (
 reqB (l19.length ≤ (1100 : Nat)) (
 reqB ((List.take l19.length (List.drop (0 : Nat) l19)).length = l19.length) (
 reqB (∀ (y : Int),
 y ∈ List.take l19.length (List.drop (0 : Nat) l19) →
 (-9223372036854775808 : Int) ≤ y ∧ y ≤ (9223372036854775807 : Int)) (
 reqB (((0 : Nat) + l16.length) * (1 : Nat) ≤ l16.length.mul (1 : Nat)) (
 reqB (l16.length ≤ (1100 : Nat)) (
 reqB ((List.take l16.length (List.drop (0 : Nat) l16)).length = l16.length) (
 reqB (∀ (y : Int),
 y ∈ List.take l16.length (List.drop (0 : Nat) l16) →
 (-9223372036854775808 : Int) ≤ y ∧ y ≤ (9223372036854775807 : Int)) (
 reqB (sigEquG.pre
 [DV.l (List.take l19.length (List.drop (0 : Nat) l19)),
 DV.l (List.take l16.length (List.drop (0 : Nat) l16))]) (
 allB fun b20 : Bool => 
 impB (sigEquG.post
 [DV.l (List.take l19.length (List.drop (0 : Nat) l19)),
 DV.l (List.take l16.length (List.drop (0 : Nat) l16))]
 [DV.b b20]) (
 bR (bR (dec (n4 = n4)) (
 bR (dec ((1 : Int) + n5 = (1 : Int) + n5)) (
 bR (dec ((1 : Int) + n12 = (1 : Int) + n12)) (
 bR (bR (b3) (
 b3) (
 bR (b3) (
 false) (
 true))) (
 bR (bR (dec ((0 : Nat) = (0 : Nat))) (
 dec (l6.length = l6.length)) (
 false)) (
 bR (dec (opI (SO.shl Go.IntKind.i64) (1 : Int) n4 - (1 : Int) =
 opI (SO.shl Go.IntKind.i64) (1 : Int) n4 - (1 : Int))) (
 bR (dec (n15 = n15)) (
 bR (bR (dec ((0 : Nat) = (0 : Nat))) (
 dec (l16.length = l16.length)) (
 false)) (
 true) (
 false)) (
 false)) (
 false)) (
 false)) (
 false)) (
 false)) (
 false)) (
 false)) (
 bR (bR (bR (dec (l6.length.mul (1 : Nat) = l6.length.mul (1 : Nat))) (
 dec ([Col.i Go.IntKind.i64 (0 : Int) (1 : Int) l6] = [Col.i Go.IntKind.i64 (0 : Int) (1 : Int) l6])) (
 false)) (
 bR (bR (dec (l8.length.mul (1 : Nat) = l8.length.mul (1 : Nat))) (
 dec ([Col.i Go.IntKind.i64 (-1 : Int) (1 : Int) l8] = [Col.i Go.IntKind.i64 (-1 : Int) (1 : Int) l8])) (
 false)) (
 bR (bR (dec (l13.length.mul (1 : Nat) = l13.length.mul (1 : Nat))) (
 dec ([Col.i Go.IntKind.i64 (-1 : Int) (1 : Int) l13] = [Col.i Go.IntKind.i64 (-1 : Int) (1 : Int) l13])) (
 false)) (
 bR (bR (dec (l16.length.mul (1 : Nat) = l16.length.mul (1 : Nat))) (
 dec ([Col.i Go.IntKind.i64 (0 : Int) (1 : Int) l16] = [Col.i Go.IntKind.i64 (0 : Int) (1 : Int) l16])) (
 false)) (
 true) (
 false)) (
 false)) (
 false)) (
 false)) (
 reqB ((0 : Int) ≤ n17 + (1 : Int)) (
 reqB (n17 + (1 : Int) ≤ (200 : Int)) (
 reqB (gs2L.inv
 [DV.l (List.take l6.length (List.drop (0 : Nat) l6)),
 DV.l (List.take l16.length (List.drop (0 : Nat) l16)),
 DV.n (opI (SO.shl Go.IntKind.i64) (1 : Int) n4 - (1 : Int))]
 [DV.n (n17 + (1 : Int)), DV.b b20]) (
 reqB (gs2L.mea
 [DV.l (List.take l6.length (List.drop (0 : Nat) l6)),
 DV.l (List.take l16.length (List.drop (0 : Nat) l16)),
 DV.n (opI (SO.shl Go.IntKind.i64) (1 : Int) n4 - (1 : Int))]
 [DV.n (n17 + (1 : Int)), DV.b b20] <
 gs2L.mea
 [DV.l (List.take l6.length (List.drop (0 : Nat) l6)),
 DV.l (List.take l16.length (List.drop (0 : Nat) l16)),
 DV.n (opI (SO.shl Go.IntKind.i64) (1 : Int) n4 - (1 : Int))]
 [DV.n n17, DV.b b18]) (
 true))))) (
 false)) (
 false)))))))))))))))))))))) (
 reqB ((-9223372036854775808 : Int) ≤ n4) (
 reqB (n4 ≤ (9223372036854775807 : Int)) (
 reqB ((-9223372036854775808 : Int) ≤ (1 : Int) + n5) (
 reqB ((1 : Int) + n5 ≤ (9223372036854775807 : Int)) (
 reqB (sigSum.pre [DV.n n4, DV.n ((1 : Int) + n5)]) (
 allB fun n21 : Int => 
 impB ((-1100 : Int) ≤ n21) (
 impB (n21 ≤ (1100 : Int)) (
 allB fun n22 : Int => 
 impB ((0 : Int) ≤ n22) (
 impB (n22 ≤ (18 : Int)) (
 impB (sigSum.post [DV.n n4, DV.n ((1 : Int) + n5)] [DV.n n21, DV.n n22]) (
 bR (b3) (
 bR (b18) (
 bR (dec (n15 = (-1 : Int))) (
 bR (dec (n21 = (-1 : Int))) (
 reqB (sigNG3.post [DV.n n0, DV.n n1, DV.n n2] [DV.b (dec (n22 = (0 : Int)))]) (
 true)) (
 reqB (sigNG3.post [DV.n n0, DV.n n1, DV.n n2] [DV.b Bool.false]) (
 true))) (
 reqB (sigNG3.post [DV.n n0, DV.n n1, DV.n n2] [DV.b Bool.false]) (
 true))) (
 reqB (sigNG3.post [DV.n n0, DV.n n1, DV.n n2] [DV.b Bool.false]) (
 true))) (
 reqB (sigNG3.post [DV.n n0, DV.n n1, DV.n n2] [DV.b Bool.false]) (
 true)))))))))))))) (
 reqB ((-9223372036854775808 : Int) ≤ n4) (
 reqB (n4 ≤ (9223372036854775807 : Int)) (
 reqB ((-9223372036854775808 : Int) ≤ (1 : Int) + n5) (
 reqB ((1 : Int) + n5 ≤ (9223372036854775807 : Int)) (
 reqB (sigSum.pre [DV.n n4, DV.n ((1 : Int) + n5)]) (
 allB fun n23 : Int => 
 impB ((-1100 : Int) ≤ n23) (
 impB (n23 ≤ (1100 : Int)) (
 allB fun n24 : Int => 
 impB ((0 : Int) ≤ n24) (
 impB (n24 ≤ (18 : Int)) (
 impB (sigSum.post [DV.n n4, DV.n ((1 : Int) + n5)] [DV.n n23, DV.n n24]) (
 bR (b3) (
 bR (b18) (
 bR (dec (n15 = (-1 : Int))) (
 bR (dec (n23 = (-1 : Int))) (
 reqB (sigNG3.post [DV.n n0, DV.n n1, DV.n n2] [DV.b (dec (n24 = (0 : Int)))]) (
 true)) (
 reqB (sigNG3.post [DV.n n0, DV.n n1, DV.n n2] [DV.b Bool.false]) (
 true))) (
 reqB (sigNG3.post [DV.n n0, DV.n n1, DV.n n2] [DV.b Bool.false]) (
 true))) (
 reqB (sigNG3.post [DV.n n0, DV.n n1, DV.n n2] [DV.b Bool.false]) (
 true))) (
 reqB (sigNG3.post [DV.n n0, DV.n n1, DV.n n2] [DV.b Bool.false]) (
 true)))))))))))))))))))))))))))))))))))))))))))))))))))))))))))))))))))))))))))))))))))))))))))))))))))))))))))))))))))))))))))))) := by kernel_rfl
set_option maxHeartbeats 8000000 in
theorem vt_GoldShifts : vcFn Try.prog [(3, Ext.ctr (ctOf sigTrue0)), (31, Ext.ctr (ctOf sigTurn)), (30, Ext.ctr (ctOf sigDeg)), (11, Ext.ctr (ctOf sigLen)), (15, Ext.ctr (ctOf sigCode)), (13, Ext.ctr (ctOf sigBits)), (19, Ext.ctr (ctOf sigRotd)), (14, Ext.ctr (ctOf sigEquG)), (16, Ext.ctr (ctOf sigSum))] (fun f p _ => at2 f p 8 65530 gsL (at2 f p 8 262138 gs2L (none))) [] 100 8 sigNG3 = true := by
  rw [vc_GoldShifts]
  try simp only [Int.toNat_natCast, List.length_set, List.length_replicate, List.length_take, List.length_drop, List.length_append, List.length_cons, List.length_nil, Nat.min_self, List.take_take, lenCols_i, lenCols_b, List.drop_zero, List.take_length, Nat.add_eq, Nat.mul_eq, Nat.sub_eq, Nat.zero_add, Nat.sub_zero, Nat.mul_one]
  refine all_i fun n0 => ?_
  refine imp_i fun h0 => ?_
  refine imp_i fun h1 => ?_
  refine all_i fun n1 => ?_
  refine imp_i fun h2 => ?_
  refine imp_i fun h3 => ?_
  refine all_i fun n2 => ?_
  refine imp_i fun h4 => ?_
  refine imp_i fun h5 => ?_
  refine imp_i fun h6 => ?_
  try simp only [sigNG3, sigNG, List.cons.injEq, DV.b.injEq, and_true, List.length_cons, List.length_nil] at h6
  refine req_i ?_ ?_
  · -- r0
   first | omega | assumption | grind
  refine all_i fun b3 => ?_
  refine imp_i fun h7 => ?_
  try simp only [sigTrue0, List.cons.injEq, DV.b.injEq, and_true, List.length_cons, List.length_nil] at h7
  have kb : b3 = true := by simpa using h7
  refine req_i ?_ ?_
  · -- r1
   first | omega | assumption | grind
  refine req_i ?_ ?_
  · -- r2
   first | omega | assumption | grind
  refine req_i ?_ ?_
  · -- r3
   first | trivial | assumption | (simp only [sigDeg, degPost, List.cons.injEq, DV.b.injEq, and_true, List.length_cons, List.length_nil]; done) | ((try simp only [sigDeg, degPost, List.cons.injEq, DV.b.injEq, and_true, List.length_cons, List.length_nil]); first | omega | assumption | grind)
  refine all_i fun n4 => ?_
  refine imp_i fun h8 => ?_
  refine imp_i fun h9 => ?_
  refine imp_i fun h10 => ?_
  try simp only [sigDeg, degPost, List.cons.injEq, DV.b.injEq, and_true, List.length_cons, List.length_nil] at h10
  have od := okT_of (d := n4) (by omega) (by omega)
  have sg := shlG od
  have nt := nT_bd od
  refine req_i ?_ ?_
  · -- r4
   first | omega | assumption | grind
  refine req_i ?_ ?_
  · -- r5
   first | omega | assumption | grind
  refine req_i ?_ ?_
  · -- r6
   first | trivial | assumption | (simp only [sigTurn, pickGP, List.cons.injEq, DV.b.injEq, and_true, List.length_cons, List.length_nil]; done) | ((try simp only [sigTurn, pickGP, List.cons.injEq, DV.b.injEq, and_true, List.length_cons, List.length_nil]); first | omega | assumption | grind)
  refine all_i fun n5 => ?_
  refine imp_i fun h11 => ?_
  refine imp_i fun h12 => ?_
  refine imp_i fun h13 => ?_
  try simp only [sigTurn, pickGP, List.cons.injEq, DV.b.injEq, and_true, List.length_cons, List.length_nil] at h13
  refine req_i ?_ ?_
  · -- r7
   first | omega | assumption | grind
  refine req_i ?_ ?_
  · -- r8
   first | omega | assumption | grind
  refine req_i ?_ ?_
  · -- r9
   first | omega | assumption | grind
  refine req_i ?_ ?_
  · -- r10
   first | omega | assumption | grind
  refine req_i ?_ ?_
  · -- r11
   first | trivial | assumption | (simp only [sigBits, sigBitsR, iR, cB, bitsPost, List.cons.injEq, DV.b.injEq, and_true, List.length_cons, List.length_nil]; done) | ((try simp only [sigBits, sigBitsR, iR, cB, bitsPost, List.cons.injEq, DV.b.injEq, and_true, List.length_cons, List.length_nil]); first | omega | assumption | grind)
  refine all_i fun l6 => ?_
  refine imp_i fun h14 => ?_
  refine imp_i fun h15 => ?_
  refine all_i fun n7 => ?_
  refine imp_i fun h16 => ?_
  refine imp_i fun h17 => ?_
  refine imp_i fun h18 => ?_
  try simp only [Int.toNat_natCast, List.length_set, List.length_replicate, List.length_take, List.length_drop, List.length_append, List.length_cons, List.length_nil, Nat.min_self, List.take_take, lenCols_i, lenCols_b, List.drop_zero, List.take_length, Nat.add_eq, Nat.mul_eq, Nat.sub_eq, Nat.zero_add, Nat.sub_zero, Nat.mul_one] at h18
  have hw : 1 + n5 = 1 ∨ 1 + n5 = 2 := by omega
  obtain ⟨_, e7, b6⟩ := (ite_case h18).resolve_right (fun g => g.1 ⟨okT_D od, hw⟩)
  have k6 := bits_len (okT_D od) hw
  rw [← b6] at k6
  refine req_i ?_ ?_
  · -- r12
   first | omega | assumption | grind
  refine req_i ?_ ?_
  · -- r13
   first | omega | assumption | grind
  refine req_i ?_ ?_
  · -- r14
   first | omega | assumption | grind
  refine req_i ?_ ?_
  · -- r15
   first | omega | assumption | grind
  refine req_i ?_ ?_
  · -- r16
   first | trivial | assumption | (simp only [sigCode, cCh, codePost, List.cons.injEq, DV.b.injEq, and_true, List.length_cons, List.length_nil]; done) | ((try simp only [sigCode, cCh, codePost, List.cons.injEq, DV.b.injEq, and_true, List.length_cons, List.length_nil]); first | omega | assumption | grind)
  refine all_i fun l8 => ?_
  refine imp_i fun h19 => ?_
  refine imp_i fun h20 => ?_
  refine all_i fun n9 => ?_
  refine imp_i fun h21 => ?_
  refine imp_i fun h22 => ?_
  refine imp_i fun h23 => ?_
  try simp only [Int.toNat_natCast, List.length_set, List.length_replicate, List.length_take, List.length_drop, List.length_append, List.length_cons, List.length_nil, Nat.min_self, List.take_take, lenCols_i, lenCols_b, List.drop_zero, List.take_length, Nat.add_eq, Nat.mul_eq, Nat.sub_eq, Nat.zero_add, Nat.sub_zero, Nat.mul_one] at h23
  obtain ⟨_, e9, c8⟩ := (ite_case h23).resolve_right (fun g => g.1 ⟨okT_D od, by omega, by omega⟩)
  have k8 := len_code (p := 1 + n5) (okT_D od)
  rw [← c8] at k8
  refine req_i ?_ ?_
  · -- r17
   first | omega | assumption | grind
  refine req_i ?_ ?_
  · -- r18
   first | omega | assumption | grind
  refine req_i ?_ ?_
  · -- r19
   first | trivial | assumption | (simp only [sigLen, sigLenR, iR, lenPost, List.cons.injEq, DV.b.injEq, and_true, List.length_cons, List.length_nil]; done) | ((try simp only [sigLen, sigLenR, iR, lenPost, List.cons.injEq, DV.b.injEq, and_true, List.length_cons, List.length_nil]); first | omega | assumption | grind)
  refine all_i fun n10 => ?_
  refine imp_i fun h24 => ?_
  refine imp_i fun h25 => ?_
  refine all_i fun n11 => ?_
  refine imp_i fun h26 => ?_
  refine imp_i fun h27 => ?_
  refine imp_i fun h28 => ?_
  try simp only [Int.toNat_natCast, List.length_set, List.length_replicate, List.length_take, List.length_drop, List.length_append, List.length_cons, List.length_nil, Nat.min_self, List.take_take, lenCols_i, lenCols_b, List.drop_zero, List.take_length, Nat.add_eq, Nat.mul_eq, Nat.sub_eq, Nat.zero_add, Nat.sub_zero, Nat.mul_one] at h28
  obtain ⟨_, e11, e10⟩ := (ite_case h28).resolve_right (fun g => g.1 (okT_D od))
  refine bR_dec (fun h29 => ?_) (fun h29 => ?_)
  ·
   refine req_i ?_ ?_
   · -- r20
    first | omega | ((try simp only [sigNG3, sigNG, List.cons.injEq, DV.b.injEq, and_true, List.length_cons, List.length_nil]); first | done | omega | assumption | grind [getD_set, getD_rep, toNat_succ, cntN_yes, cntN_no])
   rfl
  ·
   refine bR_dec (fun h30 => ?_) (fun h30 => ?_)
   ·
    refine req_i ?_ ?_
    · -- r21
     first | omega | ((try simp only [sigNG3, sigNG, List.cons.injEq, DV.b.injEq, and_true, List.length_cons, List.length_nil]); first | done | omega | assumption | grind [getD_set, getD_rep, toNat_succ, cntN_yes, cntN_no])
    rfl
   ·
    refine bR_dec (fun h31 => ?_) (fun h31 => ?_)
    ·
     refine req_i ?_ ?_
     · -- r22
      first | omega | ((try simp only [sigNG3, sigNG, List.cons.injEq, DV.b.injEq, and_true, List.length_cons, List.length_nil]); first | done | omega | assumption | grind [getD_set, getD_rep, toNat_succ, cntN_yes, cntN_no])
     rfl
    ·
     refine bR_dec (fun h32 => ?_) (fun h32 => ?_)
     ·
      refine req_i ?_ ?_
      · -- r23
       first | omega | ((try simp only [sigNG3, sigNG, List.cons.injEq, DV.b.injEq, and_true, List.length_cons, List.length_nil]); first | done | omega | assumption | grind [getD_set, getD_rep, toNat_succ, cntN_yes, cntN_no])
      rfl
     ·
      refine bR_dec (fun h33 => ?_) (fun h33 => ?_)
      ·
       refine req_i ?_ ?_
       · -- r24
        first | omega | ((try simp only [sigNG3, sigNG, List.cons.injEq, DV.b.injEq, and_true, List.length_cons, List.length_nil]); first | done | omega | assumption | grind [getD_set, getD_rep, toNat_succ, cntN_yes, cntN_no])
       rfl
      ·
       refine bR_dec (fun h34 => ?_) (fun h34 => ?_)
       ·
        refine req_i ?_ ?_
        · -- r25
         first | omega | ((try simp only [sigNG3, sigNG, List.cons.injEq, DV.b.injEq, and_true, List.length_cons, List.length_nil]); first | done | omega | assumption | grind [getD_set, getD_rep, toNat_succ, cntN_yes, cntN_no])
        rfl
       ·
        refine req_i ?_ ?_
        · -- r26
         first | omega | assumption | grind
        refine req_i ?_ ?_
        · -- r27
         first | omega | assumption | grind
        refine req_i ?_ ?_
        · -- r28
         first | omega | assumption | grind
        refine req_i ?_ ?_
        · -- r29
         first | omega | assumption | grind
        refine req_i ?_ ?_
        · -- r30
         first | omega | ((try simp only [sigTurn, pickGP, List.cons.injEq, DV.b.injEq, and_true, List.length_cons, List.length_nil]); first | done | omega | assumption | grind [getD_set, getD_rep, toNat_succ, cntN_yes, cntN_no])
        refine all_i fun n12 => ?_
        refine imp_i fun h35 => ?_
        refine imp_i fun h36 => ?_
        refine imp_i fun h37 => ?_
        try simp only [sigTurn, pickGP, List.cons.injEq, DV.b.injEq, and_true, List.length_cons, List.length_nil] at h37
        rw [sg] at h37
        have a12 := Int.emod_nonneg n2 (b := nG n4 + 1 - 1 - 1) (by omega)
        have b12 := Int.emod_lt_of_pos n2 (b := nG n4 + 1 - 1 - 1) (by omega)
        refine req_i ?_ ?_
        · -- r31
         first | omega | ((try simp only [Nat.mul_eq]); first | done | omega | assumption | grind [getD_set, getD_rep, toNat_succ, cntN_yes, cntN_no])
        refine req_i ?_ ?_
        · -- r32
         first | omega | ((try simp only [Nat.zero_add]); first | done | omega | assumption | grind [getD_set, getD_rep, toNat_succ, cntN_yes, cntN_no])
        refine req_i ?_ ?_
        · -- r33
         first | omega | ((try simp only [List.length_take, List.take_length, List.take_take, Nat.min_self, List.length_drop, List.drop_zero, List.length_cons, List.length_nil]); first | done | omega | assumption | grind [getD_set, getD_rep, toNat_succ, cntN_yes, cntN_no])
        refine req_i ?_ ?_
        · -- r34
         (try simp only [List.drop_zero, List.take_length]); first | assumption | exact sub_bd (by assumption) (by omega) (by omega)
        refine req_i ?_ ?_
        · -- r35
         first | omega | assumption | grind
        refine req_i ?_ ?_
        · -- r36
         first | omega | assumption | grind
        refine req_i ?_ ?_
        · -- r37
         first | trivial | assumption | (simp only [sigRotd, cC2, rotPost, List.cons.injEq, DV.b.injEq, and_true, List.length_take, List.take_length, List.take_take, Nat.min_self, List.length_drop, List.drop_zero, List.length_cons, List.length_nil]; done) | ((try simp only [sigRotd, cC2, rotPost, List.cons.injEq, DV.b.injEq, and_true, List.length_take, List.take_length, List.take_take, Nat.min_self, List.length_drop, List.drop_zero, List.length_cons, List.length_nil]); first | omega | assumption | grind)
        refine all_i fun l13 => ?_
        refine imp_i fun h38 => ?_
        refine imp_i fun h39 => ?_
        refine imp_i fun h40 => ?_
        try simp only [sigRotd, cC2, rotPost, List.cons.injEq, DV.b.injEq, and_true, List.length_take, List.take_length, List.take_take, Nat.min_self, List.length_drop, List.drop_zero, List.length_cons, List.length_nil] at h40
        refine req_i ?_ ?_
        · -- r38
         first | omega | ((try simp only [Nat.mul_eq]); first | done | omega | assumption | grind [getD_set, getD_rep, toNat_succ, cntN_yes, cntN_no])
        refine req_i ?_ ?_
        · -- r39
         first | omega | ((try simp only [Nat.zero_add]); first | done | omega | assumption | grind [getD_set, getD_rep, toNat_succ, cntN_yes, cntN_no])
        refine req_i ?_ ?_
        · -- r40
         first | omega | ((try simp only [List.length_take, List.take_length, List.take_take, Nat.min_self, List.length_drop, List.drop_zero, List.length_cons, List.length_nil]); first | done | omega | assumption | grind [getD_set, getD_rep, toNat_succ, cntN_yes, cntN_no])
        refine req_i ?_ ?_
        · -- r41
         (try simp only [List.drop_zero, List.take_length]); first | assumption | exact sub_bd (by assumption) (by omega) (by omega)
        refine req_i ?_ ?_
        · -- r42
         first | omega | ((try simp only [Nat.mul_eq]); first | done | omega | assumption | grind [getD_set, getD_rep, toNat_succ, cntN_yes, cntN_no])
        refine req_i ?_ ?_
        · -- r43
         first | omega | ((try simp only [Nat.zero_add]); first | done | omega | assumption | grind [getD_set, getD_rep, toNat_succ, cntN_yes, cntN_no])
        refine req_i ?_ ?_
        · -- r44
         first | omega | ((try simp only [List.length_take, List.take_length, List.take_take, Nat.min_self, List.length_drop, List.drop_zero, List.length_cons, List.length_nil]); first | done | omega | assumption | grind [getD_set, getD_rep, toNat_succ, cntN_yes, cntN_no])
        refine req_i ?_ ?_
        · -- r45
         (try simp only [List.drop_zero, List.take_length]); first | assumption | exact sub_bd (by assumption) (by omega) (by omega)
        refine req_i ?_ ?_
        · -- r46
         first | omega | ((try simp only [Nat.mul_eq]); first | done | omega | assumption | grind [getD_set, getD_rep, toNat_succ, cntN_yes, cntN_no])
        refine req_i ?_ ?_
        · -- r47
         first | omega | ((try simp only [Nat.zero_add]); first | done | omega | assumption | grind [getD_set, getD_rep, toNat_succ, cntN_yes, cntN_no])
        refine req_i ?_ ?_
        · -- r48
         first | omega | ((try simp only [List.length_take, List.take_length, List.take_take, Nat.min_self, List.length_drop, List.drop_zero, List.length_cons, List.length_nil]); first | done | omega | assumption | grind [getD_set, getD_rep, toNat_succ, cntN_yes, cntN_no])
        refine req_i ?_ ?_
        · -- r49
         (try simp only [List.drop_zero, List.take_length]); first | assumption | exact sub_bd (by assumption) (by omega) (by omega)
        refine req_i ?_ ?_
        · -- r50
         first | omega | assumption | grind
        refine req_i ?_ ?_
        · -- r51
         first | omega | assumption | grind
        refine req_i ?_ ?_
        · -- r52
         first | omega | assumption | grind
        refine req_i ?_ ?_
        · -- r53
         first | omega | assumption | grind
        refine req_i ?_ ?_
        · -- r54
         exact ⟨by omega, by omega, rfl, rfl, fun j hj => by omega⟩
        refine all_i fun n14 => ?_
        refine imp_i fun h41 => ?_
        refine imp_i fun h42 => ?_
        refine all_i fun n15 => ?_
        refine imp_i fun h43 => ?_
        refine imp_i fun h44 => ?_
        refine all_i fun l16 => ?_
        refine imp_i fun h45 => ?_
        refine imp_i fun h46 => ?_
        refine imp_i fun h47 => ?_
        try simp only [gsL, cB, cC2, gsInv, mea5n, List.cons.injEq, DV.b.injEq, and_true, List.length_take, List.take_length, List.take_take, Nat.min_self, List.length_drop, List.drop_zero, List.length_cons, List.length_nil] at h47
        refine bR_dec (fun h48 => ?_) (fun h48 => ?_)
        ·
         have sb := sumR_c2 (k := 1 + n12) (n := n14.toNat) h20 h20
         have sb' := sumR_c2 (k := 1 + n12) (n := (n14 + 1).toNat) h20 h20
         have sn := sumR_next (f := fun j => su l8 j * su l8 (j + (1 + n12))) (i := n14) (by omega)
         have tm := tmod_nn (a := n14 + (1 + n12)) (b := opI (.shl .i64) 1 n4 - 1) (by omega)
         have tb := Int.emod_nonneg (n14 + (1 + n12)) (b := opI (.shl .i64) 1 n4 - 1) (by omega)
         have tb' := Int.emod_lt_of_pos (n14 + (1 + n12)) (b := opI (.shl .i64) 1 n4 - 1) (by omega)
         have k13 : l13.length = l6.length := by rw [h40, rotL_len]
         have i8 := su_int (l := l8) (i := n14) (by omega) (by omega)
         have i6 := su_int (l := l6) (i := n14) (by omega) (by omega)
         have i13 : l13.getD n14.toNat 0 = su l6 (n14 + (1 + n12)) := by
           have r := rotL_get (l := l6) (k := 1 + n12) (j := n14.toNat) (by omega)
           rw [Int.toNat_of_nonneg (by omega)] at r
           rw [h40]; exact r
         have e8 := code_own od hw n14
         rw [← c8, ← b6, ← i8, ← i6] at e8
         have u6 := getD_bd (i := n14.toNat) h15 (by omega) (by omega)
         have u13 := su_bd h15 (n14 + (1 + n12))
         rw [← i13] at u13
         have ap := app_next (f := fun j => (su l6 j + su l6 (j + (1 + n12))) % 2) (o := l16) (i := n14) (x := (l6.getD n14.toNat 0 + l13.getD n14.toNat 0).tmod 2) (by omega) h47.2.2.2.2 (by rw [tmod_nn (by omega), i6, i13])
         have tx := tmod_nn (a := l6.getD n14.toNat 0 + l13.getD n14.toNat 0) (b := 2) (by omega)
         have tk := take_snoc (l := l16) (m := l16) (x := (l6.getD n14.toNat 0 + l13.getD n14.toNat 0).tmod 2) rfl
         have pr : n15 + l8.getD n14.toNat 0 * l8.getD ((n14 + (1 + n12)).tmod (opI (.shl .i64) 1 n4 - 1)).toNat 0 = sumR (fun j => su l8 j * su l8 (j + (1 + n12))) (n14 + 1).toNat := by rw [i8, su_tmod (by omega) (by omega), sn, ← h47.2.2.1]
         refine req_i ?_ ?_
         · -- r55
          first | omega | ((try simp only [Int.toNat_natCast, List.length_cons, List.length_nil]); first | done | omega | assumption | grind [getD_set, getD_rep, toNat_succ, cntN_yes, cntN_no])
         refine req_i ?_ ?_
         · -- r56
          first | omega | ((try simp only [Int.toNat_natCast, List.length_cons, List.length_nil, Nat.add_eq, Nat.zero_add]); first | done | omega | assumption | grind [getD_set, getD_rep, toNat_succ, cntN_yes, cntN_no])
         refine req_i ?_ ?_
         · -- r57
          first | omega | ((try simp only [Int.toNat_natCast, List.length_cons, List.length_nil]); first | done | omega | assumption | grind [getD_set, getD_rep, toNat_succ, cntN_yes, cntN_no])
         refine req_i ?_ ?_
         · -- r58
          first | omega | ((try simp only [Int.toNat_natCast, List.length_cons, List.length_nil, Nat.add_eq, Nat.zero_add]); first | done | omega | assumption | grind [getD_set, getD_rep, toNat_succ, cntN_yes, cntN_no])
         refine req_i ?_ ?_
         · -- r59
          first | omega | ((try simp only [Nat.zero_add]); first | done | omega | assumption | grind [getD_set, getD_rep, toNat_succ, cntN_yes, cntN_no])
         refine req_i ?_ ?_
         · -- r60
          first | omega | ((try simp only [Nat.mul_eq]); first | done | omega | assumption | grind [getD_set, getD_rep, toNat_succ, cntN_yes, cntN_no])
         refine req_i ?_ ?_
         · -- r61
          first | omega | ((try simp only [Int.toNat_natCast, List.length_cons, List.length_nil]); first | done | omega | assumption | grind [getD_set, getD_rep, toNat_succ, cntN_yes, cntN_no])
         refine req_i ?_ ?_
         · -- r62
          first | omega | ((try simp only [Int.toNat_natCast, List.length_cons, List.length_nil, Nat.add_eq, Nat.zero_add]); first | done | omega | assumption | grind [getD_set, getD_rep, toNat_succ, cntN_yes, cntN_no])
         refine req_i ?_ ?_
         · -- r63
          first | omega | ((try simp only [Int.toNat_natCast, List.length_cons, List.length_nil]); first | done | omega | assumption | grind [getD_set, getD_rep, toNat_succ, cntN_yes, cntN_no])
         refine req_i ?_ ?_
         · -- r64
          first | omega | ((try simp only [Int.toNat_natCast, List.length_cons, List.length_nil, Nat.add_eq, Nat.zero_add]); first | done | omega | assumption | grind [getD_set, getD_rep, toNat_succ, cntN_yes, cntN_no])
         refine bR_dec (fun h49 => ?_) (fun h49 => ?_)
         ·
          refine req_i ?_ ?_
          · -- r65
           exfalso; (try simp only [Nat.add_eq, Nat.zero_add] at h49); omega
          rfl
         ·
          refine req_i ?_ ?_
          · -- r66
           first | omega | ((try simp only [Int.toNat_natCast, List.length_cons, List.length_nil]); first | done | omega | assumption | grind [getD_set, getD_rep, toNat_succ, cntN_yes, cntN_no])
          refine req_i ?_ ?_
          · -- r67
           first | omega | ((try simp only [Int.toNat_natCast, List.length_cons, List.length_nil, Nat.add_eq, Nat.zero_add]); first | done | omega | assumption | grind [getD_set, getD_rep, toNat_succ, cntN_yes, cntN_no])
          refine req_i ?_ ?_
          · -- r68
           first | omega | ((try simp only [Int.toNat_natCast, List.length_cons, List.length_nil]); first | done | omega | assumption | grind [getD_set, getD_rep, toNat_succ, cntN_yes, cntN_no])
          refine req_i ?_ ?_
          · -- r69
           first | omega | ((try simp only [Int.toNat_natCast, List.length_cons, List.length_nil, Nat.add_eq, Nat.zero_add]); first | done | omega | assumption | grind [getD_set, getD_rep, toNat_succ, cntN_yes, cntN_no])
          refine bR_t ?_ ?_
          · -- g0
           first | rfl | (simp only [bR_iff, bR_iff_f, dec_iff, dec_f, beqB_iff', andB_iff', reduceCtorEq, imp_self, false_implies, and_true, true_and, implies_true, and_self]; done) | (simp [bR_iff, dec_iff, beqB_iff', andB_iff']; done) | (simp [bR_iff, dec_iff, beqB_iff', andB_iff']; omega)
          refine bR_t ?_ ?_
          · -- g1
           first | rfl | (simp only [bR_iff, bR_iff_f, dec_iff, dec_f, beqB_iff', andB_iff', reduceCtorEq, imp_self, false_implies, and_true, true_and, implies_true, and_self]; done) | (simp [bR_iff, dec_iff, beqB_iff', andB_iff']; done) | (simp [bR_iff, dec_iff, beqB_iff', andB_iff']; omega)
          refine req_i ?_ ?_
          · -- r70
           first | omega | assumption | grind
          refine req_i ?_ ?_
          · -- r71
           first | omega | assumption | grind
          refine req_i ?_ ?_
          · -- r72
           (try simp only [Nat.add_eq, Nat.zero_add]); rw [pr]; omega
          refine req_i ?_ ?_
          · -- r73
           (try simp only [Nat.add_eq, Nat.zero_add]); rw [pr]; omega
          refine req_i ?_ ?_
          · -- r74
           first | omega | ((try simp only [Nat.add_eq, Nat.zero_add, Nat.mul_eq]); first | done | omega | assumption | grind [getD_set, getD_rep, toNat_succ, cntN_yes, cntN_no])
          refine req_i ?_ ?_
          · -- r75
           first | omega | ((try simp only [Nat.add_eq, Nat.zero_add]); first | done | omega | assumption | grind [getD_set, getD_rep, toNat_succ, cntN_yes, cntN_no])
          refine req_i ?_ ?_
          · -- r76
           first | omega | ((try simp only [Int.toNat_natCast, List.length_take, List.take_length, List.take_take, Nat.min_self, List.length_drop, List.drop_zero, List.length_append, List.length_cons, List.length_nil, Nat.add_eq, Nat.zero_add]); first | done | omega | assumption | grind [getD_set, getD_rep, toNat_succ, cntN_yes, cntN_no])
          refine req_i ?_ ?_
          · -- r77
           simp only [List.drop_zero, Nat.add_eq, Nat.zero_add, tk]; exact app_bd h46 (one_bd (by omega) (by omega))
          refine req_i ?_ ?_
          · -- r78
           simp only [gsL, gsInv, List.drop_zero, List.take_length, Nat.add_eq, Nat.zero_add, tk]; exact ⟨by omega, by omega, pr, ap.1, ap.2⟩
          refine req_i ?_ ?_
          · -- r79
           first | omega | ((try simp only [gsL, cB, cC2, gsInv, mea5n, List.cons.injEq, DV.b.injEq, and_true, Int.toNat_natCast, List.length_take, List.take_length, List.take_take, Nat.min_self, List.length_drop, List.drop_zero, List.length_append, List.length_cons, List.length_nil, Nat.add_eq, Nat.zero_add]); first | done | omega | assumption | grind [getD_set, getD_rep, toNat_succ, cntN_yes, cntN_no])
          rfl
        ·
         have e15 : n15 = -1 := by rw [h47.2.2.1, c8, show n14.toNat = (nG n4).toNat by omega]; exact corr_own od hw (by omega) (by omega)
         obtain ⟨z, z1, z2, z3⟩ := shift_add od hw (k := 1 + n12) (by omega) (by omega)
         have ez : rotL l6 z = l16 := eq_of_getD (d := 0) (by rw [rotL_len]; omega) fun j hj => by
           rw [rotL_len] at hj
           rw [rotL_get hj, h47.2.2.2.2 j (by omega), b6]; exact (z3 j).symm
         refine req_i ?_ ?_
         · -- r80
          first | omega | ((try simp only [Nat.mul_eq]); first | done | omega | assumption | grind [getD_set, getD_rep, toNat_succ, cntN_yes, cntN_no])
         refine req_i ?_ ?_
         · -- r81
          first | omega | ((try simp only [Nat.zero_add]); first | done | omega | assumption | grind [getD_set, getD_rep, toNat_succ, cntN_yes, cntN_no])
         refine req_i ?_ ?_
         · -- r82
          first | omega | ((try simp only [List.length_take, List.take_length, List.take_take, Nat.min_self, List.length_drop, List.drop_zero, List.length_cons, List.length_nil]); first | done | omega | assumption | grind [getD_set, getD_rep, toNat_succ, cntN_yes, cntN_no])
         refine req_i ?_ ?_
         · -- r83
          (try simp only [List.drop_zero, List.take_length]); first | assumption | exact sub_bd (by assumption) (by omega) (by omega)
         refine req_i ?_ ?_
         · -- r84
          first | omega | ((try simp only [Nat.mul_eq]); first | done | omega | assumption | grind [getD_set, getD_rep, toNat_succ, cntN_yes, cntN_no])
         refine req_i ?_ ?_
         · -- r85
          first | omega | ((try simp only [Nat.zero_add]); first | done | omega | assumption | grind [getD_set, getD_rep, toNat_succ, cntN_yes, cntN_no])
         refine req_i ?_ ?_
         · -- r86
          first | omega | ((try simp only [List.length_take, List.take_length, List.take_take, Nat.min_self, List.length_drop, List.drop_zero, List.length_cons, List.length_nil]); first | done | omega | assumption | grind [getD_set, getD_rep, toNat_succ, cntN_yes, cntN_no])
         refine req_i ?_ ?_
         · -- r87
          (try simp only [List.drop_zero, List.take_length]); first | assumption | exact sub_bd (by assumption) (by omega) (by omega)
         refine req_i ?_ ?_
         · -- r88
          first | omega | assumption | grind
         refine req_i ?_ ?_
         · -- r89
          first | omega | assumption | grind
         refine req_i ?_ ?_
         · -- r90
          exact ⟨by omega, by omega, fun _ i a b => by omega⟩
         refine all_i fun n17 => ?_
         refine imp_i fun h50 => ?_
         refine imp_i fun h51 => ?_
         refine all_i fun b18 => ?_
         refine imp_i fun h52 => ?_
         try simp only [gs2L, cB, gs2Inv, mea3n, List.cons.injEq, DV.b.injEq, and_true, List.length_take, List.take_length, List.take_take, Nat.min_self, List.length_drop, List.drop_zero, List.length_cons, List.length_nil] at h52
         refine bR_dec (fun h53 => ?_) (fun h53 => ?_)
         ·
          refine bR_i (fun h54 => ?_) (fun h54 => ?_)
          ·
           simp only [bR_iff, bR_iff_f, dec_iff, dec_f, Bool.false_eq_true, Bool.true_eq_false, false_implies, imp_false, and_true, true_and, implies_true, Classical.not_not] at h54
           have fb : b18 = false := by simpa using h54
           refine req_i ?_ ?_
           · -- r91
            first | omega | ((try simp only [Nat.mul_eq]); first | done | omega | assumption | grind [getD_set, getD_rep, toNat_succ, cntN_yes, cntN_no])
           refine req_i ?_ ?_
           · -- r92
            first | omega | ((try simp only [Nat.zero_add]); first | done | omega | assumption | grind [getD_set, getD_rep, toNat_succ, cntN_yes, cntN_no])
           refine req_i ?_ ?_
           · -- r93
            first | omega | ((try simp only [List.length_take, List.take_length, List.take_take, Nat.min_self, List.length_drop, List.drop_zero, List.length_cons, List.length_nil]); first | done | omega | assumption | grind [getD_set, getD_rep, toNat_succ, cntN_yes, cntN_no])
           refine req_i ?_ ?_
           · -- r94
            (try simp only [List.drop_zero, List.take_length]); first | assumption | exact sub_bd (by assumption) (by omega) (by omega)
           refine req_i ?_ ?_
           · -- r95
            first | omega | assumption | grind
           refine req_i ?_ ?_
           · -- r96
            first | omega | assumption | grind
           refine req_i ?_ ?_
           · -- r97
            first | trivial | assumption | (simp only [sigRotd, cC2, rotPost, List.cons.injEq, DV.b.injEq, and_true, List.length_take, List.take_length, List.take_take, Nat.min_self, List.length_drop, List.drop_zero, List.length_cons, List.length_nil]; done) | ((try simp only [sigRotd, cC2, rotPost, List.cons.injEq, DV.b.injEq, and_true, List.length_take, List.take_length, List.take_take, Nat.min_self, List.length_drop, List.drop_zero, List.length_cons, List.length_nil]); first | omega | assumption | grind)
           refine all_i fun l19 => ?_
           refine imp_i fun h55 => ?_
           refine imp_i fun h56 => ?_
           refine imp_i fun h57 => ?_
           try simp only [sigRotd, cC2, rotPost, List.cons.injEq, DV.b.injEq, and_true, List.length_take, List.take_length, List.take_take, Nat.min_self, List.length_drop, List.drop_zero, List.length_cons, List.length_nil] at h57
           refine req_i ?_ ?_
           · -- r98
            first | omega | ((try simp only [Nat.mul_eq]); first | done | omega | assumption | grind [getD_set, getD_rep, toNat_succ, cntN_yes, cntN_no])
           refine req_i ?_ ?_
           · -- r99
            first | omega | ((try simp only [Nat.zero_add]); first | done | omega | assumption | grind [getD_set, getD_rep, toNat_succ, cntN_yes, cntN_no])
           refine req_i ?_ ?_
           · -- r100
            first | omega | ((try simp only [List.length_take, List.take_length, List.take_take, Nat.min_self, List.length_drop, List.drop_zero, List.length_cons, List.length_nil]); first | done | omega | assumption | grind [getD_set, getD_rep, toNat_succ, cntN_yes, cntN_no])
           refine req_i ?_ ?_
           · -- r101
            (try simp only [List.drop_zero, List.take_length]); first | assumption | exact sub_bd (by assumption) (by omega) (by omega)
           refine req_i ?_ ?_
           · -- r102
            first | omega | ((try simp only [Nat.mul_eq]); first | done | omega | assumption | grind [getD_set, getD_rep, toNat_succ, cntN_yes, cntN_no])
           refine req_i ?_ ?_
           · -- r103
            first | omega | ((try simp only [Nat.zero_add]); first | done | omega | assumption | grind [getD_set, getD_rep, toNat_succ, cntN_yes, cntN_no])
           refine req_i ?_ ?_
           · -- r104
            first | omega | ((try simp only [List.length_take, List.take_length, List.take_take, Nat.min_self, List.length_drop, List.drop_zero, List.length_cons, List.length_nil]); first | done | omega | assumption | grind [getD_set, getD_rep, toNat_succ, cntN_yes, cntN_no])
           refine req_i ?_ ?_
           · -- r105
            (try simp only [List.drop_zero, List.take_length]); first | assumption | exact sub_bd (by assumption) (by omega) (by omega)
           refine req_i ?_ ?_
           · -- r106
            first | omega | ((try simp only [sigEquG, cW, equGP, List.cons.injEq, DV.b.injEq, and_true, List.length_take, List.take_length, List.take_take, Nat.min_self, List.length_drop, List.drop_zero, List.length_cons, List.length_nil]); first | done | omega | assumption | grind [getD_set, getD_rep, toNat_succ, cntN_yes, cntN_no])
           refine all_i fun b20 => ?_
           refine imp_i fun h58 => ?_
           try simp only [sigEquG, cW, equGP, List.cons.injEq, DV.b.injEq, and_true, List.length_take, List.take_length, List.take_take, Nat.min_self, List.length_drop, List.drop_zero, List.length_cons, List.length_nil] at h58
           refine bR_t ?_ ?_
           · -- g2
            first | rfl | (simp only [bR_iff, bR_iff_f, dec_iff, dec_f, beqB_iff', andB_iff', reduceCtorEq, imp_self, false_implies, and_true, true_and, implies_true, and_self]; done) | (simp [bR_iff, dec_iff, beqB_iff', andB_iff']; done) | (simp [bR_iff, dec_iff, beqB_iff', andB_iff']; omega)
           refine bR_t ?_ ?_
           · -- g3
            first | rfl | (simp only [bR_iff, bR_iff_f, dec_iff, dec_f, beqB_iff', andB_iff', reduceCtorEq, imp_self, false_implies, and_true, true_and, implies_true, and_self]; done) | (simp [bR_iff, dec_iff, beqB_iff', andB_iff']; done) | (simp [bR_iff, dec_iff, beqB_iff', andB_iff']; omega)
           refine req_i ?_ ?_
           · -- r107
            first | omega | assumption | grind
           refine req_i ?_ ?_
           · -- r108
            first | omega | assumption | grind
           refine req_i ?_ ?_
           · -- r109
            simp only [gs2L, gs2Inv, List.drop_zero, List.take_length]; exact ⟨by omega, by omega, fun g => below_next (P := fun i => rotL l6 i = l16) (h52.2.2 fb) (fun e => by have hh := h58.2 (by rw [h57]; exact e); rw [g] at hh; cases hh)⟩
           refine req_i ?_ ?_
           · -- r110
            first | omega | ((try simp only [gs2L, cB, gs2Inv, mea3n, List.cons.injEq, DV.b.injEq, and_true, List.length_take, List.take_length, List.take_take, Nat.min_self, List.length_drop, List.drop_zero, List.length_cons, List.length_nil]); first | done | omega | assumption | grind [getD_set, getD_rep, toNat_succ, cntN_yes, cntN_no])
           rfl
          ·
           simp only [bR_iff, bR_iff_f, dec_iff, dec_f, Bool.false_eq_true, Bool.true_eq_false, false_implies, imp_false, and_true, true_and, implies_true, Classical.not_not] at h54
           have fb : b18 = true := by simpa using h54
           refine req_i ?_ ?_
           · -- r111
            first | omega | assumption | grind
           refine req_i ?_ ?_
           · -- r112
            first | omega | assumption | grind
           refine req_i ?_ ?_
           · -- r113
            first | omega | assumption | grind
           refine req_i ?_ ?_
           · -- r114
            first | omega | assumption | grind
           refine req_i ?_ ?_
           · -- r115
            first | trivial | assumption | (simp only [sigSum, sumPost, List.cons.injEq, DV.b.injEq, and_true, List.length_cons, List.length_nil]; done) | ((try simp only [sigSum, sumPost, List.cons.injEq, DV.b.injEq, and_true, List.length_cons, List.length_nil]); first | omega | assumption | grind)
           refine all_i fun n21 => ?_
           refine imp_i fun h59 => ?_
           refine imp_i fun h60 => ?_
           refine all_i fun n22 => ?_
           refine imp_i fun h61 => ?_
           refine imp_i fun h62 => ?_
           refine imp_i fun h63 => ?_
           try simp only [Int.toNat_natCast, List.length_set, List.length_replicate, List.length_take, List.length_drop, List.length_append, List.length_cons, List.length_nil, Nat.min_self, List.take_take, lenCols_i, lenCols_b, List.drop_zero, List.take_length, Nat.add_eq, Nat.mul_eq, Nat.sub_eq, Nat.zero_add, Nat.sub_zero, Nat.mul_one] at h63
           obtain ⟨_, e22, s21⟩ := (ite_case h63).resolve_right (fun g => g.1 ⟨okT_D od, by omega, by omega⟩)
           have s1 := sum_w od hw
           rw [← s21] at s1
           refine bR_i (fun h64 => ?_) (fun h64 => ?_)
           ·
            refine bR_i (fun h65 => ?_) (fun h65 => ?_)
            ·
             refine bR_dec (fun h66 => ?_) (fun h66 => ?_)
             ·
              refine bR_dec (fun h67 => ?_) (fun h67 => ?_)
              ·
               refine req_i ?_ ?_
               · -- r116
                first | omega | ((try simp only [sigNG3, sigNG, List.cons.injEq, DV.b.injEq, and_true, List.length_cons, List.length_nil, dec_iff]); first | done | omega | assumption | grind [getD_set, getD_rep, toNat_succ, cntN_yes, cntN_no])
               rfl
              ·
               refine req_i ?_ ?_
               · -- r117
                first | omega | ((try simp only [sigNG3, sigNG, List.cons.injEq, DV.b.injEq, and_true, List.length_cons, List.length_nil]); first | done | omega | assumption | grind [getD_set, getD_rep, toNat_succ, cntN_yes, cntN_no])
               rfl
             ·
              refine req_i ?_ ?_
              · -- r118
               first | omega | ((try simp only [sigNG3, sigNG, List.cons.injEq, DV.b.injEq, and_true, List.length_cons, List.length_nil]); first | done | omega | assumption | grind [getD_set, getD_rep, toNat_succ, cntN_yes, cntN_no])
              rfl
            ·
             refine req_i ?_ ?_
             · -- r119
              rw [fb] at h65; cases h65
             rfl
           ·
            refine req_i ?_ ?_
            · -- r120
             rw [kb] at h64; cases h64
            rfl
         ·
          have fb : b18 = true := by cases hb : b18; exact absurd ez (h52.2.2 hb z z1 (by omega)); rfl
          refine req_i ?_ ?_
          · -- r121
           first | omega | assumption | grind
          refine req_i ?_ ?_
          · -- r122
           first | omega | assumption | grind
          refine req_i ?_ ?_
          · -- r123
           first | omega | assumption | grind
          refine req_i ?_ ?_
          · -- r124
           first | omega | assumption | grind
          refine req_i ?_ ?_
          · -- r125
           first | trivial | assumption | (simp only [sigSum, sumPost, List.cons.injEq, DV.b.injEq, and_true, List.length_cons, List.length_nil]; done) | ((try simp only [sigSum, sumPost, List.cons.injEq, DV.b.injEq, and_true, List.length_cons, List.length_nil]); first | omega | assumption | grind)
          refine all_i fun n23 => ?_
          refine imp_i fun h68 => ?_
          refine imp_i fun h69 => ?_
          refine all_i fun n24 => ?_
          refine imp_i fun h70 => ?_
          refine imp_i fun h71 => ?_
          refine imp_i fun h72 => ?_
          try simp only [Int.toNat_natCast, List.length_set, List.length_replicate, List.length_take, List.length_drop, List.length_append, List.length_cons, List.length_nil, Nat.min_self, List.take_take, lenCols_i, lenCols_b, List.drop_zero, List.take_length, Nat.add_eq, Nat.mul_eq, Nat.sub_eq, Nat.zero_add, Nat.sub_zero, Nat.mul_one] at h72
          obtain ⟨_, e24, s23⟩ := (ite_case h72).resolve_right (fun g => g.1 ⟨okT_D od, by omega, by omega⟩)
          have s1 := sum_w od hw
          rw [← s23] at s1
          refine bR_i (fun h73 => ?_) (fun h73 => ?_)
          ·
           refine bR_i (fun h74 => ?_) (fun h74 => ?_)
           ·
            refine bR_dec (fun h75 => ?_) (fun h75 => ?_)
            ·
             refine bR_dec (fun h76 => ?_) (fun h76 => ?_)
             ·
              refine req_i ?_ ?_
              · -- r126
               first | omega | ((try simp only [sigNG3, sigNG, List.cons.injEq, DV.b.injEq, and_true, List.length_cons, List.length_nil, dec_iff]); first | done | omega | assumption | grind [getD_set, getD_rep, toNat_succ, cntN_yes, cntN_no])
              rfl
             ·
              refine req_i ?_ ?_
              · -- r127
               first | omega | ((try simp only [sigNG3, sigNG, List.cons.injEq, DV.b.injEq, and_true, List.length_cons, List.length_nil]); first | done | omega | assumption | grind [getD_set, getD_rep, toNat_succ, cntN_yes, cntN_no])
              rfl
            ·
             refine req_i ?_ ?_
             · -- r128
              first | omega | ((try simp only [sigNG3, sigNG, List.cons.injEq, DV.b.injEq, and_true, List.length_cons, List.length_nil]); first | done | omega | assumption | grind [getD_set, getD_rep, toNat_succ, cntN_yes, cntN_no])
             rfl
           ·
            refine req_i ?_ ?_
            · -- r129
             rw [fb] at h74; cases h74
            rfl
          ·
           refine req_i ?_ ?_
           · -- r130
            rw [kb] at h73; cases h73
           rfl
theorem ext_GoldShifts : ∀ p ∈ ([(3, Ext.ctr (ctOf sigTrue0)), (31, Ext.ctr (ctOf sigTurn)), (30, Ext.ctr (ctOf sigDeg)), (11, Ext.ctr (ctOf sigLen)), (15, Ext.ctr (ctOf sigCode)), (13, Ext.ctr (ctOf sigBits)), (19, Ext.ctr (ctOf sigRotd)), (14, Ext.ctr (ctOf sigEquG)), (16, Ext.ctr (ctOf sigSum))] : List (Nat × Ext)), ExtRow Try.prog p.1 p.2 := by
  intro p hp
  simp only [List.mem_cons, List.not_mem_nil, or_false] at hp
  rcases hp with rfl | rfl | rfl | rfl | rfl | rfl | rfl | rfl | rfl
  · trivial
  · trivial
  · trivial
  · trivial
  · trivial
  · trivial
  · trivial
  · trivial
  · trivial
theorem cts_GoldShifts : CtsOk Try.prog [(3, Ext.ctr (ctOf sigTrue0)), (31, Ext.ctr (ctOf sigTurn)), (30, Ext.ctr (ctOf sigDeg)), (11, Ext.ctr (ctOf sigLen)), (15, Ext.ctr (ctOf sigCode)), (13, Ext.ctr (ctOf sigBits)), (19, Ext.ctr (ctOf sigRotd)), (14, Ext.ctr (ctOf sigEquG)), (16, Ext.ctr (ctOf sigSum))] := ctsOk_of (cs := [(3, sigTrue0), (31, sigTurn), (30, sigDeg), (11, sigLen), (15, sigCode), (13, sigBits), (19, sigRotd), (14, sigEquG), (16, sigSum)])
  (fun p hp => by
    simp only [List.mem_cons, List.not_mem_nil, or_false] at hp
    rcases hp with rfl | rfl | rfl | rfl | rfl | rfl | rfl | rfl | rfl
    · exact fn_known
    · exact fn_turn
    · exact fn_deg
    · exact fn_len
    · exact fn_code
    · exact fn_bits
    · exact fn_rotd
    · exact fn_equ
    · exact fn_sum
)
  (fun f c h => by
    simp only [List.lookup_cons] at h
    repeat' split at h
    all_goals first | (cases h; done) | (rename_i e; have e := beq_iff_eq.1 e; subst e; cases h; refine ⟨_, ?_, rfl⟩; simp))
theorem fn_GoldShifts : FnOk Try.prog 8 sigNG3 [] := fn_sound (by kernel_rfl) ext_GoldShifts cts_GoldShifts names vt_GoldShifts
end Go.Proofs.Ytpmlodchbgfmeaa

