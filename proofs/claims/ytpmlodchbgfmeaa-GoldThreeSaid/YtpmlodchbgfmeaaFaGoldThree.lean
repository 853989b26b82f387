import Derived.Test.YtpmlodchbgfmeaaSpec08e
import Derived.Test.YtpmlodchbgfmeaaRows
import Derived.Test.YtpmlodchbgfmeaaEvSS
import Derived.Test.YtpmlodchbgfmeaaFnames
namespace Go.Proofs.Ytpmlodchbgfmeaa
open Go.Ev Go.Sp
set_option maxRecDepth 100000
theorem vc_known : vcFn Try.prog [] noA [] 2500 3 sigTrue0 = (impB (sigTrue0.pre []) (
reqB (sigTrue0.post [] [DV.b (eqI (3 : Int) (3 : Int))]) (
true))) := by kernel_rfl
set_option maxHeartbeats 8000000 in
theorem vt_known : vcFn Try.prog [] noA [] 2500 3 sigTrue0 = true := by
  rw [vc_known]
  try simp only [Int.toNat_natCast, List.length_set, List.length_replicate, List.length_take, List.length_drop, List.length_append, List.length_cons, List.length_nil, Nat.min_self, List.take_take, lenCols_i, lenCols_b, List.drop_zero, List.take_length, Nat.add_eq, Nat.mul_eq, Nat.sub_eq, Nat.zero_add, Nat.sub_zero, Nat.mul_one]
  refine imp_i fun h0 => ?_
  try simp only [sigTrue0, List.cons.injEq, DV.b.injEq, and_true, List.length_cons, List.length_nil] at h0
  refine req_i ?_ ?_
  · -- r0
   exact rfl
  rfl
theorem ext_known : ∀ p ∈ ([] : List (Nat × Ext)), ExtRow Try.prog p.1 p.2 := by
  intro p hp
  cases hp
theorem cts_known : CtsOk Try.prog [] := fun f c h => by cases h
theorem fn_known : FnOk Try.prog 3 sigTrue0 [] := fn_sound (by kernel_rfl) ext_known cts_known names vt_known
end Go.Proofs.Ytpmlodchbgfmeaa

namespace Go.Proofs.Ytpmlodchbgfmeaa
open Go.Ev Go.Sp
set_option maxRecDepth 100000
theorem vc_turn : vcFn Try.prog [] noA [] 100 31 sigTurn = (allB fun n0 : Int => 
impB ((-9223372036854775808 : Int) ≤ n0) (
impB (n0 ≤ (9223372036854775807 : Int)) (
allB fun n1 : Int => 
impB ((1 : Int) ≤ n1) (
impB (n1 ≤ (4000000000 : Int)) (
impB (sigTurn.pre [DV.n n0, DV.n n1]) (
bR (dec (n0.tmod n1 < (0 : Int))) (
 reqB ((0 : Int) ≤ n0.tmod n1 + n1) (
 reqB (n0.tmod n1 + n1 ≤ (4000000000 : Int)) (
 reqB (sigTurn.post [DV.n n0, DV.n n1] [DV.n (n0.tmod n1 + n1)]) (
 true)))) (
 reqB ((0 : Int) ≤ n0.tmod n1) (
 reqB (n0.tmod n1 ≤ (4000000000 : Int)) (
 reqB (sigTurn.post [DV.n n0, DV.n n1] [DV.n (n0.tmod n1)]) (
 true)))))))))) := by kernel_rfl
set_option maxHeartbeats 8000000 in
theorem vt_turn : vcFn Try.prog [] noA [] 100 31 sigTurn = true := by
  rw [vc_turn]
  try simp only [Int.toNat_natCast, List.length_set, List.length_replicate, List.length_take, List.length_drop, List.length_append, List.length_cons, List.length_nil, Nat.min_self, List.take_take, lenCols_i, lenCols_b, List.drop_zero, List.take_length, Nat.add_eq, Nat.mul_eq, Nat.sub_eq, Nat.zero_add, Nat.sub_zero, Nat.mul_one]
  refine all_i fun n0 => ?_
  refine imp_i fun h0 => ?_
  refine imp_i fun h1 => ?_
  refine all_i fun n1 => ?_
  refine imp_i fun h2 => ?_
  refine imp_i fun h3 => ?_
  refine imp_i fun h4 => ?_
  try simp only [sigTurn, pickGP, List.cons.injEq, DV.b.injEq, and_true, List.length_cons, List.length_nil] at h4
  have tm := tmod_of (x := n0) (n := n1) (by omega)
  refine bR_dec (fun h5 => ?_) (fun h5 => ?_)
  ·
   refine req_i ?_ ?_
   · -- r0
    first | omega | assumption | grind
   refine req_i ?_ ?_
   · -- r1
    first | omega | assumption | grind
   refine req_i ?_ ?_
   · -- r2
    first | omega | ((try simp only [sigTurn, pickGP, List.cons.injEq, DV.b.injEq, and_true, List.length_cons, List.length_nil]); first | done | omega | assumption | grind [getD_set, getD_rep, toNat_succ, cntN_yes, cntN_no])
   rfl
  ·
   refine req_i ?_ ?_
   · -- r3
    first | omega | assumption | grind
   refine req_i ?_ ?_
   · -- r4
    first | omega | assumption | grind
   refine req_i ?_ ?_
   · -- r5
    first | omega | ((try simp only [sigTurn, pickGP, List.cons.injEq, DV.b.injEq, and_true, List.length_cons, List.length_nil]); first | done | omega | assumption | grind [getD_set, getD_rep, toNat_succ, cntN_yes, cntN_no])
   rfl
theorem ext_turn : ∀ p ∈ ([] : List (Nat × Ext)), ExtRow Try.prog p.1 p.2 := by
  intro p hp
  cases hp
theorem cts_turn : CtsOk Try.prog [] := fun f c h => by cases h
theorem fn_turn : FnOk Try.prog 31 sigTurn [] := fn_sound (by kernel_rfl) ext_turn cts_turn names vt_turn
end Go.Proofs.Ytpmlodchbgfmeaa

namespace Go.Proofs.Ytpmlodchbgfmeaa
open Go.Ev Go.Sp
set_option maxRecDepth 100000
theorem vc_deg : vcFn Try.prog [(31, Ext.ctr (ctOf sigTurn))] noA [] 100 30 sigDeg = (allB fun n0 : Int => 
impB ((-9223372036854775808 : Int) ≤ n0) (
impB (n0 ≤ (9223372036854775807 : Int)) (
impB (sigDeg.pre [DV.n n0]) (
reqB ((-9223372036854775808 : Int) ≤ n0) (
reqB (n0 ≤ (9223372036854775807 : Int)) (
reqB (sigTurn.pre [DV.n n0, DV.n (3 : Int)]) (
allB fun n1 : Int => 
impB ((0 : Int) ≤ n1) (
impB (n1 ≤ (4000000000 : Int)) (
impB (sigTurn.post [DV.n n0, DV.n (3 : Int)] [DV.n n1]) (
reqB ((5 : Int) ≤ (5 : Int) + n1) (
reqB ((5 : Int) + n1 ≤ (7 : Int)) (
reqB (sigDeg.post [DV.n n0] [DV.n ((5 : Int) + n1)]) (
true))))))))))))) := by kernel_rfl
set_option maxHeartbeats 8000000 in
theorem vt_deg : vcFn Try.prog [(31, Ext.ctr (ctOf sigTurn))] noA [] 100 30 sigDeg = true := by
  rw [vc_deg]
  try simp only [Int.toNat_natCast, List.length_set, List.length_replicate, List.length_take, List.length_drop, List.length_append, List.length_cons, List.length_nil, Nat.min_self, List.take_take, lenCols_i, lenCols_b, List.drop_zero, List.take_length, Nat.add_eq, Nat.mul_eq, Nat.sub_eq, Nat.zero_add, Nat.sub_zero, Nat.mul_one]
  refine all_i fun n0 => ?_
  refine imp_i fun h0 => ?_
  refine imp_i fun h1 => ?_
  refine imp_i fun h2 => ?_
  try simp only [sigDeg, degPost, List.cons.injEq, DV.b.injEq, and_true, List.length_cons, List.length_nil] at h2
  refine req_i ?_ ?_
  · -- r0
   first | omega | assumption | grind
  refine req_i ?_ ?_
  · -- r1
   first | omega | assumption | grind
  refine req_i ?_ ?_
  · -- r2
   first | trivial | assumption | (simp only [sigTurn, pickGP, List.cons.injEq, DV.b.injEq, and_true, List.length_cons, List.length_nil]; done) | ((try simp only [sigTurn, pickGP, List.cons.injEq, DV.b.injEq, and_true, List.length_cons, List.length_nil]); first | omega | assumption | grind)
  refine all_i fun n1 => ?_
  refine imp_i fun h3 => ?_
  refine imp_i fun h4 => ?_
  refine imp_i fun h5 => ?_
  try simp only [sigTurn, pickGP, List.cons.injEq, DV.b.injEq, and_true, List.length_cons, List.length_nil] at h5
  refine req_i ?_ ?_
  · -- r3
   first | omega | assumption | grind
  refine req_i ?_ ?_
  · -- r4
   first | omega | assumption | grind
  refine req_i ?_ ?_
  · -- r5
   first | omega | ((try simp only [sigDeg, degPost, List.cons.injEq, DV.b.injEq, and_true, List.length_cons, List.length_nil]); first | done | omega | assumption | grind [getD_set, getD_rep, toNat_succ, cntN_yes, cntN_no])
  rfl
theorem ext_deg : ∀ p ∈ ([(31, Ext.ctr (ctOf sigTurn))] : List (Nat × Ext)), ExtRow Try.prog p.1 p.2 := by
  intro p hp
  simp only [List.mem_cons, List.not_mem_nil, or_false] at hp
  rcases hp with rfl
  · trivial
theorem cts_deg : CtsOk Try.prog [(31, Ext.ctr (ctOf sigTurn))] := ctsOk_of (cs := [(31, sigTurn)])
  (fun p hp => by
    simp only [List.mem_cons, List.not_mem_nil, or_false] at hp
    rcases hp with rfl
    · exact fn_turn
)
  (fun f c h => by
    simp only [List.lookup_cons] at h
    repeat' split at h
    all_goals first | (cases h; done) | (rename_i e; have e := beq_iff_eq.1 e; subst e; cases h; refine ⟨_, ?_, rfl⟩; simp))
theorem fn_deg : FnOk Try.prog 30 sigDeg [] := fn_sound (by kernel_rfl) ext_deg cts_deg names vt_deg
end Go.Proofs.Ytpmlodchbgfmeaa

namespace Go.Proofs.Ytpmlodchbgfmeaa
open Go.Ev Go.Sp
set_option maxRecDepth 100000
theorem vc_len0 : vcFn Try.prog [] noA [] 100 11 (sigLenR 5 5) = (impB ((sigLenR (5 : Int) (5 : Int)).pre [DV.n (5 : Int)]) (
reqB ((sigLenR (5 : Int) (5 : Int)).post [DV.n (5 : Int)]
 [DV.n (Int.ofNat (31 : Nat)), DV.n (0 : Int)]) (
true))) := by kernel_rfl
set_option maxHeartbeats 8000000 in
theorem vt_len0 : vcFn Try.prog [] noA [] 100 11 (sigLenR 5 5) = true := by
  rw [vc_len0]
  try simp only [Int.toNat_natCast, List.length_set, List.length_replicate, List.length_take, List.length_drop, List.length_append, List.length_cons, List.length_nil, Nat.min_self, List.take_take, lenCols_i, lenCols_b, List.drop_zero, List.take_length, Nat.add_eq, Nat.mul_eq, Nat.sub_eq, Nat.zero_add, Nat.sub_zero, Nat.mul_one]
  refine imp_i fun h0 => ?_
  try simp only [sigLenR, iR, lenPost, List.cons.injEq, DV.b.injEq, and_true, List.length_cons, List.length_nil] at h0
  refine req_i ?_ ?_
  · -- r0
   first | exact ⟨rfl, rfl⟩ | exact ⟨rfl, by decide +kernel⟩
  rfl
theorem ext_len0 : ∀ p ∈ ([] : List (Nat × Ext)), ExtRow Try.prog p.1 p.2 := by
  intro p hp
  cases hp
theorem cts_len0 : CtsOk Try.prog [] := fun f c h => by cases h
theorem fn_len0 : FnOk Try.prog 11 (sigLenR 5 5) [] := fn_sound (by kernel_rfl) ext_len0 cts_len0 names vt_len0
end Go.Proofs.Ytpmlodchbgfmeaa

namespace Go.Proofs.Ytpmlodchbgfmeaa
open Go.Ev Go.Sp
set_option maxRecDepth 100000
theorem vc_len1 : vcFn Try.prog [] noA [] 100 11 (sigLenR 6 6) = (impB ((sigLenR (6 : Int) (6 : Int)).pre [DV.n (6 : Int)]) (
reqB ((sigLenR (6 : Int) (6 : Int)).post [DV.n (6 : Int)]
 [DV.n (Int.ofNat (63 : Nat)), DV.n (0 : Int)]) (
true))) := by kernel_rfl
set_option maxHeartbeats 8000000 in
theorem vt_len1 : vcFn Try.prog [] noA [] 100 11 (sigLenR 6 6) = true := by
  rw [vc_len1]
  try simp only [Int.toNat_natCast, List.length_set, List.length_replicate, List.length_take, List.length_drop, List.length_append, List.length_cons, List.length_nil, Nat.min_self, List.take_take, lenCols_i, lenCols_b, List.drop_zero, List.take_length, Nat.add_eq, Nat.mul_eq, Nat.sub_eq, Nat.zero_add, Nat.sub_zero, Nat.mul_one]
  refine imp_i fun h0 => ?_
  try simp only [sigLenR, iR, lenPost, List.cons.injEq, DV.b.injEq, and_true, List.length_cons, List.length_nil] at h0
  refine req_i ?_ ?_
  · -- r0
   first | exact ⟨rfl, rfl⟩ | exact ⟨rfl, by decide +kernel⟩
  rfl
theorem ext_len1 : ∀ p ∈ ([] : List (Nat × Ext)), ExtRow Try.prog p.1 p.2 := by
  intro p hp
  cases hp
theorem cts_len1 : CtsOk Try.prog [] := fun f c h => by cases h
theorem fn_len1 : FnOk Try.prog 11 (sigLenR 6 6) [] := fn_sound (by kernel_rfl) ext_len1 cts_len1 names vt_len1
end Go.Proofs.Ytpmlodchbgfmeaa

namespace Go.Proofs.Ytpmlodchbgfmeaa
open Go.Ev Go.Sp
set_option maxRecDepth 100000
theorem vc_len2 : vcFn Try.prog [] noA [] 100 11 (sigLenR 7 7) = (impB ((sigLenR (7 : Int) (7 : Int)).pre [DV.n (7 : Int)]) (
reqB ((sigLenR (7 : Int) (7 : Int)).post [DV.n (7 : Int)]
 [DV.n (Int.ofNat (127 : Nat)), DV.n (0 : Int)]) (
true))) := by kernel_rfl
set_option maxHeartbeats 8000000 in
theorem vt_len2 : vcFn Try.prog [] noA [] 100 11 (sigLenR 7 7) = true := by
  rw [vc_len2]
  try simp only [Int.toNat_natCast, List.length_set, List.length_replicate, List.length_take, List.length_drop, List.length_append, List.length_cons, List.length_nil, Nat.min_self, List.take_take, lenCols_i, lenCols_b, List.drop_zero, List.take_length, Nat.add_eq, Nat.mul_eq, Nat.sub_eq, Nat.zero_add, Nat.sub_zero, Nat.mul_one]
  refine imp_i fun h0 => ?_
  try simp only [sigLenR, iR, lenPost, List.cons.injEq, DV.b.injEq, and_true, List.length_cons, List.length_nil] at h0
  refine req_i ?_ ?_
  · -- r0
   first | exact ⟨rfl, rfl⟩ | exact ⟨rfl, by decide +kernel⟩
  rfl
theorem ext_len2 : ∀ p ∈ ([] : List (Nat × Ext)), ExtRow Try.prog p.1 p.2 := by
  intro p hp
  cases hp
theorem cts_len2 : CtsOk Try.prog [] := fun f c h => by cases h
theorem fn_len2 : FnOk Try.prog 11 (sigLenR 7 7) [] := fn_sound (by kernel_rfl) ext_len2 cts_len2 names vt_len2
end Go.Proofs.Ytpmlodchbgfmeaa

namespace Go.Proofs.Ytpmlodchbgfmeaa
open Go.Ev Go.Sp
set_option maxRecDepth 100000
theorem vc_len3 : vcFn Try.prog [] noA [] 100 11 (sigLenR 9 9) = (impB ((sigLenR (9 : Int) (9 : Int)).pre [DV.n (9 : Int)]) (
reqB ((sigLenR (9 : Int) (9 : Int)).post [DV.n (9 : Int)]
 [DV.n (Int.ofNat (511 : Nat)), DV.n (0 : Int)]) (
true))) := by kernel_rfl
set_option maxHeartbeats 8000000 in
theorem vt_len3 : vcFn Try.prog [] noA [] 100 11 (sigLenR 9 9) = true := by
  rw [vc_len3]
  try simp only [Int.toNat_natCast, List.length_set, List.length_replicate, List.length_take, List.length_drop, List.length_append, List.length_cons, List.length_nil, Nat.min_self, List.take_take, lenCols_i, lenCols_b, List.drop_zero, List.take_length, Nat.add_eq, Nat.mul_eq, Nat.sub_eq, Nat.zero_add, Nat.sub_zero, Nat.mul_one]
  refine imp_i fun h0 => ?_
  try simp only [sigLenR, iR, lenPost, List.cons.injEq, DV.b.injEq, and_true, List.length_cons, List.length_nil] at h0
  refine req_i ?_ ?_
  · -- r0
   first | exact ⟨rfl, rfl⟩ | exact ⟨rfl, by decide +kernel⟩
  rfl
theorem ext_len3 : ∀ p ∈ ([] : List (Nat × Ext)), ExtRow Try.prog p.1 p.2 := by
  intro p hp
  cases hp
theorem cts_len3 : CtsOk Try.prog [] := fun f c h => by cases h
theorem fn_len3 : FnOk Try.prog 11 (sigLenR 9 9) [] := fn_sound (by kernel_rfl) ext_len3 cts_len3 names vt_len3
end Go.Proofs.Ytpmlodchbgfmeaa

namespace Go.Proofs.Ytpmlodchbgfmeaa
open Go.Ev Go.Sp
set_option maxRecDepth 100000
theorem vc_len4 : vcFn Try.prog [] noA [] 100 11 (sigLenR 10 10) = (impB ((sigLenR (10 : Int) (10 : Int)).pre [DV.n (10 : Int)]) (
reqB ((sigLenR (10 : Int) (10 : Int)).post [DV.n (10 : Int)]
 [DV.n (Int.ofNat (1023 : Nat)), DV.n (0 : Int)]) (
true))) := by kernel_rfl
set_option maxHeartbeats 8000000 in
theorem vt_len4 : vcFn Try.prog [] noA [] 100 11 (sigLenR 10 10) = true := by
  rw [vc_len4]
  try simp only [Int.toNat_natCast, List.length_set, List.length_replicate, List.length_take, List.length_drop, List.length_append, List.length_cons, List.length_nil, Nat.min_self, List.take_take, lenCols_i, lenCols_b, List.drop_zero, List.take_length, Nat.add_eq, Nat.mul_eq, Nat.sub_eq, Nat.zero_add, Nat.sub_zero, Nat.mul_one]
  refine imp_i fun h0 => ?_
  try simp only [sigLenR, iR, lenPost, List.cons.injEq, DV.b.injEq, and_true, List.length_cons, List.length_nil] at h0
  refine req_i ?_ ?_
  · -- r0
   first | exact ⟨rfl, rfl⟩ | exact ⟨rfl, by decide +kernel⟩
  rfl
theorem ext_len4 : ∀ p ∈ ([] : List (Nat × Ext)), ExtRow Try.prog p.1 p.2 := by
  intro p hp
  cases hp
theorem cts_len4 : CtsOk Try.prog [] := fun f c h => by cases h
theorem fn_len4 : FnOk Try.prog 11 (sigLenR 10 10) [] := fn_sound (by kernel_rfl) ext_len4 cts_len4 names vt_len4
end Go.Proofs.Ytpmlodchbgfmeaa

namespace Go.Proofs.Ytpmlodchbgfmeaa
open Go.Ev Go.Sp
set_option maxRecDepth 100000
theorem vc_len5 : vcFn Try.prog [] noA [] 100 11 (sigLenR (-9223372036854775808) 4) = (allB fun n0 : Int => 
impB ((-9223372036854775808 : Int) ≤ n0) (
impB (n0 ≤ (4 : Int)) (
impB ((sigLenR (-9223372036854775808 : Int) (4 : Int)).pre [DV.n n0]) (
reqB ((sigLenR (-9223372036854775808 : Int) (4 : Int)).post [DV.n n0] [DV.n (0 : Int), DV.n (2 : Int)]) (
true))))) := by kernel_rfl
set_option maxHeartbeats 8000000 in
theorem vt_len5 : vcFn Try.prog [] noA [] 100 11 (sigLenR (-9223372036854775808) 4) = true := by
  rw [vc_len5]
  try simp only [Int.toNat_natCast, List.length_set, List.length_replicate, List.length_take, List.length_drop, List.length_append, List.length_cons, List.length_nil, Nat.min_self, List.take_take, lenCols_i, lenCols_b, List.drop_zero, List.take_length, Nat.add_eq, Nat.mul_eq, Nat.sub_eq, Nat.zero_add, Nat.sub_zero, Nat.mul_one]
  refine all_i fun n0 => ?_
  refine imp_i fun h0 => ?_
  refine imp_i fun h1 => ?_
  refine imp_i fun h2 => ?_
  try simp only [sigLenR, iR, lenPost, List.cons.injEq, DV.b.injEq, and_true, List.length_cons, List.length_nil] at h2
  refine req_i ?_ ?_
  · -- r0
   (simp only [sigBitsR, bitsPost, sigTapsR, tapsPost, sigLenR, lenPost]; exact ite_no (by unfold okD; omega) (by simp))
  rfl
theorem ext_len5 : ∀ p ∈ ([] : List (Nat × Ext)), ExtRow Try.prog p.1 p.2 := by
  intro p hp
  cases hp
theorem cts_len5 : CtsOk Try.prog [] := fun f c h => by cases h
theorem fn_len5 : FnOk Try.prog 11 (sigLenR (-9223372036854775808) 4) [] := fn_sound (by kernel_rfl) ext_len5 cts_len5 names vt_len5
end Go.Proofs.Ytpmlodchbgfmeaa

namespace Go.Proofs.Ytpmlodchbgfmeaa
open Go.Ev Go.Sp
set_option maxRecDepth 100000
theorem vc_len6 : vcFn Try.prog [] noA [] 100 11 (sigLenR 8 8) = (impB ((sigLenR (8 : Int) (8 : Int)).pre [DV.n (8 : Int)]) (
reqB ((sigLenR (8 : Int) (8 : Int)).post [DV.n (8 : Int)] [DV.n (0 : Int), DV.n (2 : Int)]) (
true))) := by kernel_rfl
set_option maxHeartbeats 8000000 in
theorem vt_len6 : vcFn Try.prog [] noA [] 100 11 (sigLenR 8 8) = true := by
  rw [vc_len6]
  try simp only [Int.toNat_natCast, List.length_set, List.length_replicate, List.length_take, List.length_drop, List.length_append, List.length_cons, List.length_nil, Nat.min_self, List.take_take, lenCols_i, lenCols_b, List.drop_zero, List.take_length, Nat.add_eq, Nat.mul_eq, Nat.sub_eq, Nat.zero_add, Nat.sub_zero, Nat.mul_one]
  refine imp_i fun h0 => ?_
  try simp only [sigLenR, iR, lenPost, List.cons.injEq, DV.b.injEq, and_true, List.length_cons, List.length_nil] at h0
  refine req_i ?_ ?_
  · -- r0
   (simp only [sigBitsR, bitsPost, sigTapsR, tapsPost, sigLenR, lenPost]; exact ite_no (by unfold okD; omega) (by simp))
  rfl
theorem ext_len6 : ∀ p ∈ ([] : List (Nat × Ext)), ExtRow Try.prog p.1 p.2 := by
  intro p hp
  cases hp
theorem cts_len6 : CtsOk Try.prog [] := fun f c h => by cases h
theorem fn_len6 : FnOk Try.prog 11 (sigLenR 8 8) [] := fn_sound (by kernel_rfl) ext_len6 cts_len6 names vt_len6
end Go.Proofs.Ytpmlodchbgfmeaa

namespace Go.Proofs.Ytpmlodchbgfmeaa
open Go.Ev Go.Sp
set_option maxRecDepth 100000
theorem vc_len7 : vcFn Try.prog [] noA [] 100 11 (sigLenR 11 9223372036854775807) = (allB fun n0 : Int => 
impB ((11 : Int) ≤ n0) (
impB (n0 ≤ (9223372036854775807 : Int)) (
impB ((sigLenR (11 : Int) (9223372036854775807 : Int)).pre [DV.n n0]) (
reqB ((sigLenR (11 : Int) (9223372036854775807 : Int)).post [DV.n n0] [DV.n (0 : Int), DV.n (2 : Int)]) (
true))))) := by kernel_rfl
set_option maxHeartbeats 8000000 in
theorem vt_len7 : vcFn Try.prog [] noA [] 100 11 (sigLenR 11 9223372036854775807) = true := by
  rw [vc_len7]
  try simp only [Int.toNat_natCast, List.length_set, List.length_replicate, List.length_take, List.length_drop, List.length_append, List.length_cons, List.length_nil, Nat.min_self, List.take_take, lenCols_i, lenCols_b, List.drop_zero, List.take_length, Nat.add_eq, Nat.mul_eq, Nat.sub_eq, Nat.zero_add, Nat.sub_zero, Nat.mul_one]
  refine all_i fun n0 => ?_
  refine imp_i fun h0 => ?_
  refine imp_i fun h1 => ?_
  refine imp_i fun h2 => ?_
  try simp only [sigLenR, iR, lenPost, List.cons.injEq, DV.b.injEq, and_true, List.length_cons, List.length_nil] at h2
  refine req_i ?_ ?_
  · -- r0
   (simp only [sigBitsR, bitsPost, sigTapsR, tapsPost, sigLenR, lenPost]; exact ite_no (by unfold okD; omega) (by simp))
  rfl
theorem ext_len7 : ∀ p ∈ ([] : List (Nat × Ext)), ExtRow Try.prog p.1 p.2 := by
  intro p hp
  cases hp
theorem cts_len7 : CtsOk Try.prog [] := fun f c h => by cases h
theorem fn_len7 : FnOk Try.prog 11 (sigLenR 11 9223372036854775807) [] := fn_sound (by kernel_rfl) ext_len7 cts_len7 names vt_len7
end Go.Proofs.Ytpmlodchbgfmeaa

namespace Go.Proofs.Ytpmlodchbgfmeaa
open Go.Ev Go.Sp
theorem fn_len : FnOk Try.prog 11 sigLen [] := by
  exact (fn_cover1 covD covD_ok fun t ht => by
    simp only [covD, List.mem_cons, List.not_mem_nil, or_false] at ht
    rcases ht with rfl | rfl | rfl | rfl | rfl | rfl | rfl | rfl
    · exact fn_len0
    · exact fn_len1
    · exact fn_len2
    · exact fn_len3
    · exact fn_len4
    · exact fn_len5
    · exact fn_len6
    · exact fn_len7)
end Go.Proofs.Ytpmlodchbgfmeaa

namespace Go.Proofs.Ytpmlodchbgfmeaa
open Go.Ev Go.Sp
set_option maxRecDepth 100000
theorem vc_bits0 : vcFn Try.prog [] noA [] 200 13 (sigBitsR 5 5 1 1) = (impB ((sigBitsR (5 : Int) (5 : Int) (1 : Int) (1 : Int)).pre [DV.n (5 : Int), DV.n (1 : Int)]) (
reqB ((31 : Nat) ≤ (1100 : Nat)) (
reqB ((bitsL 5 1).length =
 (31 : Nat)) (
reqB (∀ (y : Int),
 y ∈
 (bitsL 5 1) →
 (0 : Int) ≤ y ∧ y ≤ (1 : Int)) (
reqB ((sigBitsR (5 : Int) (5 : Int) (1 : Int) (1 : Int)).post [DV.n (5 : Int), DV.n (1 : Int)]
 [DV.l
 (bitsL 5 1),
 DV.n (0 : Int)]) (
true)))))) := by kernel_rfl
set_option maxHeartbeats 8000000 in
theorem vt_bits0 : vcFn Try.prog [] noA [] 200 13 (sigBitsR 5 5 1 1) = true := by
  rw [vc_bits0]
  try simp only [Int.toNat_natCast, List.length_set, List.length_replicate, List.length_take, List.length_drop, List.length_append, List.length_cons, List.length_nil, Nat.min_self, List.take_take, lenCols_i, lenCols_b, List.drop_zero, List.take_length, Nat.add_eq, Nat.mul_eq, Nat.sub_eq, Nat.zero_add, Nat.sub_zero, Nat.mul_one]
  refine imp_i fun h0 => ?_
  try simp only [sigBitsR, iR, cB, bitsPost, List.cons.injEq, DV.b.injEq, and_true, List.length_cons, List.length_nil] at h0
  refine req_i ?_ ?_
  · -- r0
   first | omega | assumption | grind
  refine req_i ?_ ?_
  · -- r1
   decide +kernel
  refine req_i ?_ ?_
  · -- r2
   exact all01 (by decide +kernel)
  refine req_i ?_ ?_
  · -- r3
   first | exact ⟨rfl, rfl⟩ | exact ⟨rfl, by decide +kernel⟩
  rfl
theorem ext_bits0 : ∀ p ∈ ([] : List (Nat × Ext)), ExtRow Try.prog p.1 p.2 := by
  intro p hp
  cases hp
theorem cts_bits0 : CtsOk Try.prog [] := fun f c h => by cases h
theorem fn_bits0 : FnOk Try.prog 13 (sigBitsR 5 5 1 1) [] := fn_sound (by kernel_rfl) ext_bits0 cts_bits0 names vt_bits0
end Go.Proofs.Ytpmlodchbgfmeaa

namespace Go.Proofs.Ytpmlodchbgfmeaa
open Go.Ev Go.Sp
set_option maxRecDepth 100000
theorem vc_bits1 : vcFn Try.prog [] noA [] 200 13 (sigBitsR 5 5 2 2) = (impB ((sigBitsR (5 : Int) (5 : Int) (2 : Int) (2 : Int)).pre [DV.n (5 : Int), DV.n (2 : Int)]) (
reqB ((31 : Nat) ≤ (1100 : Nat)) (
reqB ((bitsL 5 2).length =
 (31 : Nat)) (
reqB (∀ (y : Int),
 y ∈
 (bitsL 5 2) →
 (0 : Int) ≤ y ∧ y ≤ (1 : Int)) (
reqB ((sigBitsR (5 : Int) (5 : Int) (2 : Int) (2 : Int)).post [DV.n (5 : Int), DV.n (2 : Int)]
 [DV.l
 (bitsL 5 2),
 DV.n (0 : Int)]) (
true)))))) := by kernel_rfl
set_option maxHeartbeats 8000000 in
theorem vt_bits1 : vcFn Try.prog [] noA [] 200 13 (sigBitsR 5 5 2 2) = true := by
  rw [vc_bits1]
  try simp only [Int.toNat_natCast, List.length_set, List.length_replicate, List.length_take, List.length_drop, List.length_append, List.length_cons, List.length_nil, Nat.min_self, List.take_take, lenCols_i, lenCols_b, List.drop_zero, List.take_length, Nat.add_eq, Nat.mul_eq, Nat.sub_eq, Nat.zero_add, Nat.sub_zero, Nat.mul_one]
  refine imp_i fun h0 => ?_
  try simp only [sigBitsR, iR, cB, bitsPost, List.cons.injEq, DV.b.injEq, and_true, List.length_cons, List.length_nil] at h0
  refine req_i ?_ ?_
  · -- r0
   first | omega | assumption | grind
  refine req_i ?_ ?_
  · -- r1
   decide +kernel
  refine req_i ?_ ?_
  · -- r2
   exact all01 (by decide +kernel)
  refine req_i ?_ ?_
  · -- r3
   first | exact ⟨rfl, rfl⟩ | exact ⟨rfl, by decide +kernel⟩
  rfl
theorem ext_bits1 : ∀ p ∈ ([] : List (Nat × Ext)), ExtRow Try.prog p.1 p.2 := by
  intro p hp
  cases hp
theorem cts_bits1 : CtsOk Try.prog [] := fun f c h => by cases h
theorem fn_bits1 : FnOk Try.prog 13 (sigBitsR 5 5 2 2) [] := fn_sound (by kernel_rfl) ext_bits1 cts_bits1 names vt_bits1
end Go.Proofs.Ytpmlodchbgfmeaa

namespace Go.Proofs.Ytpmlodchbgfmeaa
open Go.Ev Go.Sp
set_option maxRecDepth 100000
theorem vc_bits2 : vcFn Try.prog [] noA [] 400 13 (sigBitsR 6 6 1 1) = (impB ((sigBitsR (6 : Int) (6 : Int) (1 : Int) (1 : Int)).pre [DV.n (6 : Int), DV.n (1 : Int)]) (
reqB ((63 : Nat) ≤ (1100 : Nat)) (
reqB ((bitsL 6 1).length =
 (63 : Nat)) (
reqB (∀ (y : Int),
 y ∈
 (bitsL 6 1) →
 (0 : Int) ≤ y ∧ y ≤ (1 : Int)) (
reqB ((sigBitsR (6 : Int) (6 : Int) (1 : Int) (1 : Int)).post [DV.n (6 : Int), DV.n (1 : Int)]
 [DV.l
 (bitsL 6 1),
 DV.n (0 : Int)]) (
true)))))) := by kernel_rfl
set_option maxHeartbeats 8000000 in
theorem vt_bits2 : vcFn Try.prog [] noA [] 400 13 (sigBitsR 6 6 1 1) = true := by
  rw [vc_bits2]
  try simp only [Int.toNat_natCast, List.length_set, List.length_replicate, List.length_take, List.length_drop, List.length_append, List.length_cons, List.length_nil, Nat.min_self, List.take_take, lenCols_i, lenCols_b, List.drop_zero, List.take_length, Nat.add_eq, Nat.mul_eq, Nat.sub_eq, Nat.zero_add, Nat.sub_zero, Nat.mul_one]
  refine imp_i fun h0 => ?_
  try simp only [sigBitsR, iR, cB, bitsPost, List.cons.injEq, DV.b.injEq, and_true, List.length_cons, List.length_nil] at h0
  refine req_i ?_ ?_
  · -- r0
   first | omega | assumption | grind
  refine req_i ?_ ?_
  · -- r1
   decide +kernel
  refine req_i ?_ ?_
  · -- r2
   exact all01 (by decide +kernel)
  refine req_i ?_ ?_
  · -- r3
   first | exact ⟨rfl, rfl⟩ | exact ⟨rfl, by decide +kernel⟩
  rfl
theorem ext_bits2 : ∀ p ∈ ([] : List (Nat × Ext)), ExtRow Try.prog p.1 p.2 := by
  intro p hp
  cases hp
theorem cts_bits2 : CtsOk Try.prog [] := fun f c h => by cases h
theorem fn_bits2 : FnOk Try.prog 13 (sigBitsR 6 6 1 1) [] := fn_sound (by kernel_rfl) ext_bits2 cts_bits2 names vt_bits2
end Go.Proofs.Ytpmlodchbgfmeaa

namespace Go.Proofs.Ytpmlodchbgfmeaa
open Go.Ev Go.Sp
set_option maxRecDepth 100000
theorem vc_bits3 : vcFn Try.prog [] noA [] 400 13 (sigBitsR 6 6 2 2) = (impB ((sigBitsR (6 : Int) (6 : Int) (2 : Int) (2 : Int)).pre [DV.n (6 : Int), DV.n (2 : Int)]) (
reqB ((63 : Nat) ≤ (1100 : Nat)) (
reqB ((bitsL 6 2).length =
 (63 : Nat)) (
reqB (∀ (y : Int),
 y ∈
 (bitsL 6 2) →
 (0 : Int) ≤ y ∧ y ≤ (1 : Int)) (
reqB ((sigBitsR (6 : Int) (6 : Int) (2 : Int) (2 : Int)).post [DV.n (6 : Int), DV.n (2 : Int)]
 [DV.l
 (bitsL 6 2),
 DV.n (0 : Int)]) (
true)))))) := by kernel_rfl
set_option maxHeartbeats 8000000 in
theorem vt_bits3 : vcFn Try.prog [] noA [] 400 13 (sigBitsR 6 6 2 2) = true := by
  rw [vc_bits3]
  try simp only [Int.toNat_natCast, List.length_set, List.length_replicate, List.length_take, List.length_drop, List.length_append, List.length_cons, List.length_nil, Nat.min_self, List.take_take, lenCols_i, lenCols_b, List.drop_zero, List.take_length, Nat.add_eq, Nat.mul_eq, Nat.sub_eq, Nat.zero_add, Nat.sub_zero, Nat.mul_one]
  refine imp_i fun h0 => ?_
  try simp only [sigBitsR, iR, cB, bitsPost, List.cons.injEq, DV.b.injEq, and_true, List.length_cons, List.length_nil] at h0
  refine req_i ?_ ?_
  · -- r0
   first | omega | assumption | grind
  refine req_i ?_ ?_
  · -- r1
   decide +kernel
  refine req_i ?_ ?_
  · -- r2
   exact all01 (by decide +kernel)
  refine req_i ?_ ?_
  · -- r3
   first | exact ⟨rfl, rfl⟩ | exact ⟨rfl, by decide +kernel⟩
  rfl
theorem ext_bits3 : ∀ p ∈ ([] : List (Nat × Ext)), ExtRow Try.prog p.1 p.2 := by
  intro p hp
  cases hp
theorem cts_bits3 : CtsOk Try.prog [] := fun f c h => by cases h
theorem fn_bits3 : FnOk Try.prog 13 (sigBitsR 6 6 2 2) [] := fn_sound (by kernel_rfl) ext_bits3 cts_bits3 names vt_bits3
end Go.Proofs.Ytpmlodchbgfmeaa

namespace Go.Proofs.Ytpmlodchbgfmeaa
open Go.Ev Go.Sp
set_option maxRecDepth 100000
theorem vc_bits4 : vcFn Try.prog [] noA [] 1000 13 (sigBitsR 7 7 1 1) = (impB ((sigBitsR (7 : Int) (7 : Int) (1 : Int) (1 : Int)).pre [DV.n (7 : Int), DV.n (1 : Int)]) (
reqB ((127 : Nat) ≤ (1100 : Nat)) (
reqB ((bitsL 7 1).length =
 (127 : Nat)) (
reqB (∀ (y : Int),
 y ∈
 (bitsL 7 1) →
 (0 : Int) ≤ y ∧ y ≤ (1 : Int)) (
reqB ((sigBitsR (7 : Int) (7 : Int) (1 : Int) (1 : Int)).post [DV.n (7 : Int), DV.n (1 : Int)]
 [DV.l
 (bitsL 7 1),
 DV.n (0 : Int)]) (
true)))))) := by kernel_rfl
set_option maxHeartbeats 8000000 in
theorem vt_bits4 : vcFn Try.prog [] noA [] 1000 13 (sigBitsR 7 7 1 1) = true := by
  rw [vc_bits4]
  try simp only [Int.toNat_natCast, List.length_set, List.length_replicate, List.length_take, List.length_drop, List.length_append, List.length_cons, List.length_nil, Nat.min_self, List.take_take, lenCols_i, lenCols_b, List.drop_zero, List.take_length, Nat.add_eq, Nat.mul_eq, Nat.sub_eq, Nat.zero_add, Nat.sub_zero, Nat.mul_one]
  refine imp_i fun h0 => ?_
  try simp only [sigBitsR, iR, cB, bitsPost, List.cons.injEq, DV.b.injEq, and_true, List.length_cons, List.length_nil] at h0
  refine req_i ?_ ?_
  · -- r0
   first | omega | assumption | grind
  refine req_i ?_ ?_
  · -- r1
   decide +kernel
  refine req_i ?_ ?_
  · -- r2
   exact all01 (by decide +kernel)
  refine req_i ?_ ?_
  · -- r3
   first | exact ⟨rfl, rfl⟩ | exact ⟨rfl, by decide +kernel⟩
  rfl
theorem ext_bits4 : ∀ p ∈ ([] : List (Nat × Ext)), ExtRow Try.prog p.1 p.2 := by
  intro p hp
  cases hp
theorem cts_bits4 : CtsOk Try.prog [] := fun f c h => by cases h
theorem fn_bits4 : FnOk Try.prog 13 (sigBitsR 7 7 1 1) [] := fn_sound (by kernel_rfl) ext_bits4 cts_bits4 names vt_bits4
end Go.Proofs.Ytpmlodchbgfmeaa

namespace Go.Proofs.Ytpmlodchbgfmeaa
open Go.Ev Go.Sp
set_option maxRecDepth 100000
theorem vc_bits5 : vcFn Try.prog [] noA [] 1000 13 (sigBitsR 7 7 2 2) = (impB ((sigBitsR (7 : Int) (7 : Int) (2 : Int) (2 : Int)).pre [DV.n (7 : Int), DV.n (2 : Int)]) (
reqB ((127 : Nat) ≤ (1100 : Nat)) (
reqB ((bitsL 7 2).length =
 (127 : Nat)) (
reqB (∀ (y : Int),
 y ∈
 (bitsL 7 2) →
 (0 : Int) ≤ y ∧ y ≤ (1 : Int)) (
reqB ((sigBitsR (7 : Int) (7 : Int) (2 : Int) (2 : Int)).post [DV.n (7 : Int), DV.n (2 : Int)]
 [DV.l
 (bitsL 7 2),
 DV.n (0 : Int)]) (
true)))))) := by kernel_rfl
set_option maxHeartbeats 8000000 in
theorem vt_bits5 : vcFn Try.prog [] noA [] 1000 13 (sigBitsR 7 7 2 2) = true := by
  rw [vc_bits5]
  try simp only [Int.toNat_natCast, List.length_set, List.length_replicate, List.length_take, List.length_drop, List.length_append, List.length_cons, List.length_nil, Nat.min_self, List.take_take, lenCols_i, lenCols_b, List.drop_zero, List.take_length, Nat.add_eq, Nat.mul_eq, Nat.sub_eq, Nat.zero_add, Nat.sub_zero, Nat.mul_one]
  refine imp_i fun h0 => ?_
  try simp only [sigBitsR, iR, cB, bitsPost, List.cons.injEq, DV.b.injEq, and_true, List.length_cons, List.length_nil] at h0
  refine req_i ?_ ?_
  · -- r0
   first | omega | assumption | grind
  refine req_i ?_ ?_
  · -- r1
   decide +kernel
  refine req_i ?_ ?_
  · -- r2
   exact all01 (by decide +kernel)
  refine req_i ?_ ?_
  · -- r3
   first | exact ⟨rfl, rfl⟩ | exact ⟨rfl, by decide +kernel⟩
  rfl
theorem ext_bits5 : ∀ p ∈ ([] : List (Nat × Ext)), ExtRow Try.prog p.1 p.2 := by
  intro p hp
  cases hp
theorem cts_bits5 : CtsOk Try.prog [] := fun f c h => by cases h
theorem fn_bits5 : FnOk Try.prog 13 (sigBitsR 7 7 2 2) [] := fn_sound (by kernel_rfl) ext_bits5 cts_bits5 names vt_bits5
end Go.Proofs.Ytpmlodchbgfmeaa

namespace Go.Proofs.Ytpmlodchbgfmeaa
open Go.Ev Go.Sp
set_option maxRecDepth 100000
theorem vc_bits6 : vcFn Try.prog [] noA [] 2500 13 (sigBitsR 9 9 1 1) = (impB ((sigBitsR (9 : Int) (9 : Int) (1 : Int) (1 : Int)).pre [DV.n (9 : Int), DV.n (1 : Int)]) (
reqB ((511 : Nat) ≤ (1100 : Nat)) (
reqB ((bitsL 9 1).length =
 (511 : Nat)) (
reqB (∀ (y : Int),
 y ∈
 (bitsL 9 1) →
 (0 : Int) ≤ y ∧ y ≤ (1 : Int)) (
reqB ((sigBitsR (9 : Int) (9 : Int) (1 : Int) (1 : Int)).post [DV.n (9 : Int), DV.n (1 : Int)]
 [DV.l
 (bitsL 9 1),
 DV.n (0 : Int)]) (
true)))))) := by kernel_rfl
set_option maxHeartbeats 8000000 in
theorem vt_bits6 : vcFn Try.prog [] noA [] 2500 13 (sigBitsR 9 9 1 1) = true := by
  rw [vc_bits6]
  try simp only [Int.toNat_natCast, List.length_set, List.length_replicate, List.length_take, List.length_drop, List.length_append, List.length_cons, List.length_nil, Nat.min_self, List.take_take, lenCols_i, lenCols_b, List.drop_zero, List.take_length, Nat.add_eq, Nat.mul_eq, Nat.sub_eq, Nat.zero_add, Nat.sub_zero, Nat.mul_one]
  refine imp_i fun h0 => ?_
  try simp only [sigBitsR, iR, cB, bitsPost, List.cons.injEq, DV.b.injEq, and_true, List.length_cons, List.length_nil] at h0
  refine req_i ?_ ?_
  · -- r0
   first | omega | assumption | grind
  refine req_i ?_ ?_
  · -- r1
   decide +kernel
  refine req_i ?_ ?_
  · -- r2
   exact all01 (by decide +kernel)
  refine req_i ?_ ?_
  · -- r3
   first | exact ⟨rfl, rfl⟩ | exact ⟨rfl, by decide +kernel⟩
  rfl
theorem ext_bits6 : ∀ p ∈ ([] : List (Nat × Ext)), ExtRow Try.prog p.1 p.2 := by
  intro p hp
  cases hp
theorem cts_bits6 : CtsOk Try.prog [] := fun f c h => by cases h
theorem fn_bits6 : FnOk Try.prog 13 (sigBitsR 9 9 1 1) [] := fn_sound (by kernel_rfl) ext_bits6 cts_bits6 names vt_bits6
end Go.Proofs.Ytpmlodchbgfmeaa

namespace Go.Proofs.Ytpmlodchbgfmeaa
open Go.Ev Go.Sp
set_option maxRecDepth 100000
theorem vc_bits7 : vcFn Try.prog [] noA [] 2500 13 (sigBitsR 9 9 2 2) = (impB ((sigBitsR (9 : Int) (9 : Int) (2 : Int) (2 : Int)).pre [DV.n (9 : Int), DV.n (2 : Int)]) (
reqB ((511 : Nat) ≤ (1100 : Nat)) (
reqB ((bitsL 9 2).length =
 (511 : Nat)) (
reqB (∀ (y : Int),
 y ∈
 (bitsL 9 2) →
 (0 : Int) ≤ y ∧ y ≤ (1 : Int)) (
reqB ((sigBitsR (9 : Int) (9 : Int) (2 : Int) (2 : Int)).post [DV.n (9 : Int), DV.n (2 : Int)]
 [DV.l
 (bitsL 9 2),
 DV.n (0 : Int)]) (
true)))))) := by kernel_rfl
set_option maxHeartbeats 8000000 in
theorem vt_bits7 : vcFn Try.prog [] noA [] 2500 13 (sigBitsR 9 9 2 2) = true := by
  rw [vc_bits7]
  try simp only [Int.toNat_natCast, List.length_set, List.length_replicate, List.length_take, List.length_drop, List.length_append, List.length_cons, List.length_nil, Nat.min_self, List.take_take, lenCols_i, lenCols_b, List.drop_zero, List.take_length, Nat.add_eq, Nat.mul_eq, Nat.sub_eq, Nat.zero_add, Nat.sub_zero, Nat.mul_one]
  refine imp_i fun h0 => ?_
  try simp only [sigBitsR, iR, cB, bitsPost, List.cons.injEq, DV.b.injEq, and_true, List.length_cons, List.length_nil] at h0
  refine req_i ?_ ?_
  · -- r0
   first | omega | assumption | grind
  refine req_i ?_ ?_
  · -- r1
   decide +kernel
  refine req_i ?_ ?_
  · -- r2
   exact all01 (by decide +kernel)
  refine req_i ?_ ?_
  · -- r3
   first | exact ⟨rfl, rfl⟩ | exact ⟨rfl, by decide +kernel⟩
  rfl
theorem ext_bits7 : ∀ p ∈ ([] : List (Nat × Ext)), ExtRow Try.prog p.1 p.2 := by
  intro p hp
  cases hp
theorem cts_bits7 : CtsOk Try.prog [] := fun f c h => by cases h
theorem fn_bits7 : FnOk Try.prog 13 (sigBitsR 9 9 2 2) [] := fn_sound (by kernel_rfl) ext_bits7 cts_bits7 names vt_bits7
end Go.Proofs.Ytpmlodchbgfmeaa

namespace Go.Proofs.Ytpmlodchbgfmeaa
open Go.Ev Go.Sp
set_option maxRecDepth 100000
theorem vc_bits8 : vcFn Try.prog [] noA [] 4000 13 (sigBitsR 10 10 1 1) = (impB ((sigBitsR (10 : Int) (10 : Int) (1 : Int) (1 : Int)).pre [DV.n (10 : Int), DV.n (1 : Int)]) (
reqB ((1023 : Nat) ≤ (1100 : Nat)) (
reqB ((bitsL 10 1).length =
 (1023 : Nat)) (
reqB (∀ (y : Int),
 y ∈
 (bitsL 10 1) →
 (0 : Int) ≤ y ∧ y ≤ (1 : Int)) (
reqB ((sigBitsR (10 : Int) (10 : Int) (1 : Int) (1 : Int)).post [DV.n (10 : Int), DV.n (1 : Int)]
 [DV.l
 (bitsL 10 1),
 DV.n (0 : Int)]) (
true)))))) := by kernel_rfl
set_option maxHeartbeats 8000000 in
theorem vt_bits8 : vcFn Try.prog [] noA [] 4000 13 (sigBitsR 10 10 1 1) = true := by
  rw [vc_bits8]
  try simp only [Int.toNat_natCast, List.length_set, List.length_replicate, List.length_take, List.length_drop, List.length_append, List.length_cons, List.length_nil, Nat.min_self, List.take_take, lenCols_i, lenCols_b, List.drop_zero, List.take_length, Nat.add_eq, Nat.mul_eq, Nat.sub_eq, Nat.zero_add, Nat.sub_zero, Nat.mul_one]
  refine imp_i fun h0 => ?_
  try simp only [sigBitsR, iR, cB, bitsPost, List.cons.injEq, DV.b.injEq, and_true, List.length_cons, List.length_nil] at h0
  refine req_i ?_ ?_
  · -- r0
   first | omega | assumption | grind
  refine req_i ?_ ?_
  · -- r1
   decide +kernel
  refine req_i ?_ ?_
  · -- r2
   exact all01 (by decide +kernel)
  refine req_i ?_ ?_
  · -- r3
   first | exact ⟨rfl, rfl⟩ | exact ⟨rfl, by decide +kernel⟩
  rfl
theorem ext_bits8 : ∀ p ∈ ([] : List (Nat × Ext)), ExtRow Try.prog p.1 p.2 := by
  intro p hp
  cases hp
theorem cts_bits8 : CtsOk Try.prog [] := fun f c h => by cases h
theorem fn_bits8 : FnOk Try.prog 13 (sigBitsR 10 10 1 1) [] := fn_sound (by kernel_rfl) ext_bits8 cts_bits8 names vt_bits8
end Go.Proofs.Ytpmlodchbgfmeaa

namespace Go.Proofs.Ytpmlodchbgfmeaa
open Go.Ev Go.Sp
set_option maxRecDepth 100000
theorem vc_bits9 : vcFn Try.prog [] noA [] 4000 13 (sigBitsR 10 10 2 2) = (impB ((sigBitsR (10 : Int) (10 : Int) (2 : Int) (2 : Int)).pre [DV.n (10 : Int), DV.n (2 : Int)]) (
reqB ((1023 : Nat) ≤ (1100 : Nat)) (
reqB ((bitsL 10 2).length =
 (1023 : Nat)) (
reqB (∀ (y : Int),
 y ∈
 (bitsL 10 2) →
 (0 : Int) ≤ y ∧ y ≤ (1 : Int)) (
reqB ((sigBitsR (10 : Int) (10 : Int) (2 : Int) (2 : Int)).post [DV.n (10 : Int), DV.n (2 : Int)]
 [DV.l
 (bitsL 10 2),
 DV.n (0 : Int)]) (
true)))))) := by kernel_rfl
set_option maxHeartbeats 8000000 in
theorem vt_bits9 : vcFn Try.prog [] noA [] 4000 13 (sigBitsR 10 10 2 2) = true := by
  rw [vc_bits9]
  try simp only [Int.toNat_natCast, List.length_set, List.length_replicate, List.length_take, List.length_drop, List.length_append, List.length_cons, List.length_nil, Nat.min_self, List.take_take, lenCols_i, lenCols_b, List.drop_zero, List.take_length, Nat.add_eq, Nat.mul_eq, Nat.sub_eq, Nat.zero_add, Nat.sub_zero, Nat.mul_one]
  refine imp_i fun h0 => ?_
  try simp only [sigBitsR, iR, cB, bitsPost, List.cons.injEq, DV.b.injEq, and_true, List.length_cons, List.length_nil] at h0
  refine req_i ?_ ?_
  · -- r0
   first | omega | assumption | grind
  refine req_i ?_ ?_
  · -- r1
   decide +kernel
  refine req_i ?_ ?_
  · -- r2
   exact all01 (by decide +kernel)
  refine req_i ?_ ?_
  · -- r3
   first | exact ⟨rfl, rfl⟩ | exact ⟨rfl, by decide +kernel⟩
  rfl
theorem ext_bits9 : ∀ p ∈ ([] : List (Nat × Ext)), ExtRow Try.prog p.1 p.2 := by
  intro p hp
  cases hp
theorem cts_bits9 : CtsOk Try.prog [] := fun f c h => by cases h
theorem fn_bits9 : FnOk Try.prog 13 (sigBitsR 10 10 2 2) [] := fn_sound (by kernel_rfl) ext_bits9 cts_bits9 names vt_bits9
end Go.Proofs.Ytpmlodchbgfmeaa

namespace Go.Proofs.Ytpmlodchbgfmeaa
open Go.Ev Go.Sp
set_option maxRecDepth 100000
theorem vc_bits10 : vcFn Try.prog [] noA [] 100 13 (sigBitsR (-9223372036854775808) 4 (-9223372036854775808) 9223372036854775807) = (allB fun n0 : Int => 
impB ((-9223372036854775808 : Int) ≤ n0) (
impB (n0 ≤ (4 : Int)) (
allB fun n1 : Int => 
impB ((-9223372036854775808 : Int) ≤ n1) (
impB (n1 ≤ (9223372036854775807 : Int)) (
impB ((sigBitsR (-9223372036854775808 : Int) (4 : Int) (-9223372036854775808 : Int) (9223372036854775807 : Int)).pre
 [DV.n n0, DV.n n1]) (
reqB ((sigBitsR (-9223372036854775808 : Int) (4 : Int) (-9223372036854775808 : Int) (9223372036854775807 : Int)).post
 [DV.n n0, DV.n n1] [DV.l [], DV.n (2 : Int)]) (
true))))))) := by kernel_rfl
set_option maxHeartbeats 8000000 in
theorem vt_bits10 : vcFn Try.prog [] noA [] 100 13 (sigBitsR (-9223372036854775808) 4 (-9223372036854775808) 9223372036854775807) = true := by
  rw [vc_bits10]
  try simp only [Int.toNat_natCast, List.length_set, List.length_replicate, List.length_take, List.length_drop, List.length_append, List.length_cons, List.length_nil, Nat.min_self, List.take_take, lenCols_i, lenCols_b, List.drop_zero, List.take_length, Nat.add_eq, Nat.mul_eq, Nat.sub_eq, Nat.zero_add, Nat.sub_zero, Nat.mul_one]
  refine all_i fun n0 => ?_
  refine imp_i fun h0 => ?_
  refine imp_i fun h1 => ?_
  refine all_i fun n1 => ?_
  refine imp_i fun h2 => ?_
  refine imp_i fun h3 => ?_
  refine imp_i fun h4 => ?_
  try simp only [sigBitsR, iR, cB, bitsPost, List.cons.injEq, DV.b.injEq, and_true, List.length_cons, List.length_nil] at h4
  refine req_i ?_ ?_
  · -- r0
   (simp only [sigBitsR, bitsPost, sigTapsR, tapsPost, sigLenR, lenPost]; exact ite_no (by unfold okD; omega) (by simp))
  rfl
theorem ext_bits10 : ∀ p ∈ ([] : List (Nat × Ext)), ExtRow Try.prog p.1 p.2 := by
  intro p hp
  cases hp
theorem cts_bits10 : CtsOk Try.prog [] := fun f c h => by cases h
theorem fn_bits10 : FnOk Try.prog 13 (sigBitsR (-9223372036854775808) 4 (-9223372036854775808) 9223372036854775807) [] := fn_sound (by kernel_rfl) ext_bits10 cts_bits10 names vt_bits10
end Go.Proofs.Ytpmlodchbgfmeaa

namespace Go.Proofs.Ytpmlodchbgfmeaa
open Go.Ev Go.Sp
set_option maxRecDepth 100000
theorem vc_bits11 : vcFn Try.prog [] noA [] 100 13 (sigBitsR 8 8 (-9223372036854775808) 9223372036854775807) = (allB fun n0 : Int => 
impB ((-9223372036854775808 : Int) ≤ n0) (
impB (n0 ≤ (9223372036854775807 : Int)) (
impB ((sigBitsR (8 : Int) (8 : Int) (-9223372036854775808 : Int) (9223372036854775807 : Int)).pre
 [DV.n (8 : Int), DV.n n0]) (
reqB ((sigBitsR (8 : Int) (8 : Int) (-9223372036854775808 : Int) (9223372036854775807 : Int)).post
 [DV.n (8 : Int), DV.n n0] [DV.l [], DV.n (2 : Int)]) (
true))))) := by kernel_rfl
set_option maxHeartbeats 8000000 in
theorem vt_bits11 : vcFn Try.prog [] noA [] 100 13 (sigBitsR 8 8 (-9223372036854775808) 9223372036854775807) = true := by
  rw [vc_bits11]
  try simp only [Int.toNat_natCast, List.length_set, List.length_replicate, List.length_take, List.length_drop, List.length_append, List.length_cons, List.length_nil, Nat.min_self, List.take_take, lenCols_i, lenCols_b, List.drop_zero, List.take_length, Nat.add_eq, Nat.mul_eq, Nat.sub_eq, Nat.zero_add, Nat.sub_zero, Nat.mul_one]
  refine all_i fun n0 => ?_
  refine imp_i fun h0 => ?_
  refine imp_i fun h1 => ?_
  refine imp_i fun h2 => ?_
  try simp only [sigBitsR, iR, cB, bitsPost, List.cons.injEq, DV.b.injEq, and_true, List.length_cons, List.length_nil] at h2
  refine req_i ?_ ?_
  · -- r0
   (simp only [sigBitsR, bitsPost, sigTapsR, tapsPost, sigLenR, lenPost]; exact ite_no (by unfold okD; omega) (by simp))
  rfl
theorem ext_bits11 : ∀ p ∈ ([] : List (Nat × Ext)), ExtRow Try.prog p.1 p.2 := by
  intro p hp
  cases hp
theorem cts_bits11 : CtsOk Try.prog [] := fun f c h => by cases h
theorem fn_bits11 : FnOk Try.prog 13 (sigBitsR 8 8 (-9223372036854775808) 9223372036854775807) [] := fn_sound (by kernel_rfl) ext_bits11 cts_bits11 names vt_bits11
end Go.Proofs.Ytpmlodchbgfmeaa

namespace Go.Proofs.Ytpmlodchbgfmeaa
open Go.Ev Go.Sp
set_option maxRecDepth 100000
theorem vc_bits12 : vcFn Try.prog [] noA [] 100 13 (sigBitsR 11 9223372036854775807 (-9223372036854775808) 9223372036854775807) = (allB fun n0 : Int => 
impB ((11 : Int) ≤ n0) (
impB (n0 ≤ (9223372036854775807 : Int)) (
allB fun n1 : Int => 
impB ((-9223372036854775808 : Int) ≤ n1) (
impB (n1 ≤ (9223372036854775807 : Int)) (
impB ((sigBitsR (11 : Int) (9223372036854775807 : Int) (-9223372036854775808 : Int) (9223372036854775807 : Int)).pre
 [DV.n n0, DV.n n1]) (
reqB ((sigBitsR (11 : Int) (9223372036854775807 : Int) (-9223372036854775808 : Int) (9223372036854775807 : Int)).post
 [DV.n n0, DV.n n1] [DV.l [], DV.n (2 : Int)]) (
true))))))) := by kernel_rfl
set_option maxHeartbeats 8000000 in
theorem vt_bits12 : vcFn Try.prog [] noA [] 100 13 (sigBitsR 11 9223372036854775807 (-9223372036854775808) 9223372036854775807) = true := by
  rw [vc_bits12]
  try simp only [Int.toNat_natCast, List.length_set, List.length_replicate, List.length_take, List.length_drop, List.length_append, List.length_cons, List.length_nil, Nat.min_self, List.take_take, lenCols_i, lenCols_b, List.drop_zero, List.take_length, Nat.add_eq, Nat.mul_eq, Nat.sub_eq, Nat.zero_add, Nat.sub_zero, Nat.mul_one]
  refine all_i fun n0 => ?_
  refine imp_i fun h0 => ?_
  refine imp_i fun h1 => ?_
  refine all_i fun n1 => ?_
  refine imp_i fun h2 => ?_
  refine imp_i fun h3 => ?_
  refine imp_i fun h4 => ?_
  try simp only [sigBitsR, iR, cB, bitsPost, List.cons.injEq, DV.b.injEq, and_true, List.length_cons, List.length_nil] at h4
  refine req_i ?_ ?_
  · -- r0
   (simp only [sigBitsR, bitsPost, sigTapsR, tapsPost, sigLenR, lenPost]; exact ite_no (by unfold okD; omega) (by simp))
  rfl
theorem ext_bits12 : ∀ p ∈ ([] : List (Nat × Ext)), ExtRow Try.prog p.1 p.2 := by
  intro p hp
  cases hp
theorem cts_bits12 : CtsOk Try.prog [] := fun f c h => by cases h
theorem fn_bits12 : FnOk Try.prog 13 (sigBitsR 11 9223372036854775807 (-9223372036854775808) 9223372036854775807) [] := fn_sound (by kernel_rfl) ext_bits12 cts_bits12 names vt_bits12
end Go.Proofs.Ytpmlodchbgfmeaa

namespace Go.Proofs.Ytpmlodchbgfmeaa
open Go.Ev Go.Sp
set_option maxRecDepth 100000
theorem vc_bits13 : vcFn Try.prog [] noA [] 100 13 (sigBitsR 5 10 (-9223372036854775808) 0) = (allB fun n0 : Int => 
impB ((5 : Int) ≤ n0) (
impB (n0 ≤ (10 : Int)) (
allB fun n1 : Int => 
impB ((-9223372036854775808 : Int) ≤ n1) (
impB (n1 ≤ (0 : Int)) (
impB ((sigBitsR (5 : Int) (10 : Int) (-9223372036854775808 : Int) (0 : Int)).pre [DV.n n0, DV.n n1]) (
bR (dec ((5 : Int) = n0)) (
 reqB ((sigBitsR (5 : Int) (10 : Int) (-9223372036854775808 : Int) (0 : Int)).post [DV.n n0, DV.n n1]
 [DV.l [], DV.n (2 : Int)]) (
 true)) (
 bR (dec ((6 : Int) = n0)) (
 reqB ((sigBitsR (5 : Int) (10 : Int) (-9223372036854775808 : Int) (0 : Int)).post [DV.n n0, DV.n n1]
 [DV.l [], DV.n (2 : Int)]) (
 true)) (
 bR (dec ((7 : Int) = n0)) (
 reqB ((sigBitsR (5 : Int) (10 : Int) (-9223372036854775808 : Int) (0 : Int)).post [DV.n n0, DV.n n1]
 [DV.l [], DV.n (2 : Int)]) (
 true)) (
 bR (dec ((9 : Int) = n0)) (
 reqB ((sigBitsR (5 : Int) (10 : Int) (-9223372036854775808 : Int) (0 : Int)).post [DV.n n0, DV.n n1]
 [DV.l [], DV.n (2 : Int)]) (
 true)) (
 bR (dec ((10 : Int) = n0)) (
 reqB ((sigBitsR (5 : Int) (10 : Int) (-9223372036854775808 : Int) (0 : Int)).post [DV.n n0, DV.n n1]
 [DV.l [], DV.n (2 : Int)]) (
 true)) (
 reqB ((sigBitsR (5 : Int) (10 : Int) (-9223372036854775808 : Int) (0 : Int)).post [DV.n n0, DV.n n1]
 [DV.l [], DV.n (2 : Int)]) (
 true)))))))))))) := by kernel_rfl
set_option maxHeartbeats 8000000 in
theorem vt_bits13 : vcFn Try.prog [] noA [] 100 13 (sigBitsR 5 10 (-9223372036854775808) 0) = true := by
  rw [vc_bits13]
  try simp only [Int.toNat_natCast, List.length_set, List.length_replicate, List.length_take, List.length_drop, List.length_append, List.length_cons, List.length_nil, Nat.min_self, List.take_take, lenCols_i, lenCols_b, List.drop_zero, List.take_length, Nat.add_eq, Nat.mul_eq, Nat.sub_eq, Nat.zero_add, Nat.sub_zero, Nat.mul_one]
  refine all_i fun n0 => ?_
  refine imp_i fun h0 => ?_
  refine imp_i fun h1 => ?_
  refine all_i fun n1 => ?_
  refine imp_i fun h2 => ?_
  refine imp_i fun h3 => ?_
  refine imp_i fun h4 => ?_
  try simp only [sigBitsR, iR, cB, bitsPost, List.cons.injEq, DV.b.injEq, and_true, List.length_cons, List.length_nil] at h4
  refine bR_dec (fun h5 => ?_) (fun h5 => ?_)
  ·
   refine req_i ?_ ?_
   · -- r0
    (simp only [sigBitsR, bitsPost, sigTapsR, tapsPost, sigLenR, lenPost]; exact ite_no (by unfold okD; omega) (by simp))
   rfl
  ·
   refine bR_dec (fun h6 => ?_) (fun h6 => ?_)
   ·
    refine req_i ?_ ?_
    · -- r1
     (simp only [sigBitsR, bitsPost, sigTapsR, tapsPost, sigLenR, lenPost]; exact ite_no (by unfold okD; omega) (by simp))
    rfl
   ·
    refine bR_dec (fun h7 => ?_) (fun h7 => ?_)
    ·
     refine req_i ?_ ?_
     · -- r2
      (simp only [sigBitsR, bitsPost, sigTapsR, tapsPost, sigLenR, lenPost]; exact ite_no (by unfold okD; omega) (by simp))
     rfl
    ·
     refine bR_dec (fun h8 => ?_) (fun h8 => ?_)
     ·
      refine req_i ?_ ?_
      · -- r3
       (simp only [sigBitsR, bitsPost, sigTapsR, tapsPost, sigLenR, lenPost]; exact ite_no (by unfold okD; omega) (by simp))
      rfl
     ·
      refine bR_dec (fun h9 => ?_) (fun h9 => ?_)
      ·
       refine req_i ?_ ?_
       · -- r4
        (simp only [sigBitsR, bitsPost, sigTapsR, tapsPost, sigLenR, lenPost]; exact ite_no (by unfold okD; omega) (by simp))
       rfl
      ·
       refine req_i ?_ ?_
       · -- r5
        (simp only [sigBitsR, bitsPost, sigTapsR, tapsPost, sigLenR, lenPost]; exact ite_no (by unfold okD; omega) (by simp))
       rfl
theorem ext_bits13 : ∀ p ∈ ([] : List (Nat × Ext)), ExtRow Try.prog p.1 p.2 := by
  intro p hp
  cases hp
theorem cts_bits13 : CtsOk Try.prog [] := fun f c h => by cases h
theorem fn_bits13 : FnOk Try.prog 13 (sigBitsR 5 10 (-9223372036854775808) 0) [] := fn_sound (by kernel_rfl) ext_bits13 cts_bits13 names vt_bits13
end Go.Proofs.Ytpmlodchbgfmeaa

namespace Go.Proofs.Ytpmlodchbgfmeaa
open Go.Ev Go.Sp
set_option maxRecDepth 100000
theorem vc_bits14 : vcFn Try.prog [] noA [] 100 13 (sigBitsR 5 10 3 9223372036854775807) = (allB fun n0 : Int => 
impB ((5 : Int) ≤ n0) (
impB (n0 ≤ (10 : Int)) (
allB fun n1 : Int => 
impB ((3 : Int) ≤ n1) (
impB (n1 ≤ (9223372036854775807 : Int)) (
impB ((sigBitsR (5 : Int) (10 : Int) (3 : Int) (9223372036854775807 : Int)).pre [DV.n n0, DV.n n1]) (
bR (dec ((5 : Int) = n0)) (
 reqB ((sigBitsR (5 : Int) (10 : Int) (3 : Int) (9223372036854775807 : Int)).post [DV.n n0, DV.n n1]
 [DV.l [], DV.n (2 : Int)]) (
 true)) (
 bR (dec ((6 : Int) = n0)) (
 reqB ((sigBitsR (5 : Int) (10 : Int) (3 : Int) (9223372036854775807 : Int)).post [DV.n n0, DV.n n1]
 [DV.l [], DV.n (2 : Int)]) (
 true)) (
 bR (dec ((7 : Int) = n0)) (
 reqB ((sigBitsR (5 : Int) (10 : Int) (3 : Int) (9223372036854775807 : Int)).post [DV.n n0, DV.n n1]
 [DV.l [], DV.n (2 : Int)]) (
 true)) (
 bR (dec ((9 : Int) = n0)) (
 reqB ((sigBitsR (5 : Int) (10 : Int) (3 : Int) (9223372036854775807 : Int)).post [DV.n n0, DV.n n1]
 [DV.l [], DV.n (2 : Int)]) (
 true)) (
 bR (dec ((10 : Int) = n0)) (
 reqB ((sigBitsR (5 : Int) (10 : Int) (3 : Int) (9223372036854775807 : Int)).post [DV.n n0, DV.n n1]
 [DV.l [], DV.n (2 : Int)]) (
 true)) (
 reqB ((sigBitsR (5 : Int) (10 : Int) (3 : Int) (9223372036854775807 : Int)).post [DV.n n0, DV.n n1]
 [DV.l [], DV.n (2 : Int)]) (
 true)))))))))))) := by kernel_rfl
set_option maxHeartbeats 8000000 in
theorem vt_bits14 : vcFn Try.prog [] noA [] 100 13 (sigBitsR 5 10 3 9223372036854775807) = true := by
  rw [vc_bits14]
  try simp only [Int.toNat_natCast, List.length_set, List.length_replicate, List.length_take, List.length_drop, List.length_append, List.length_cons, List.length_nil, Nat.min_self, List.take_take, lenCols_i, lenCols_b, List.drop_zero, List.take_length, Nat.add_eq, Nat.mul_eq, Nat.sub_eq, Nat.zero_add, Nat.sub_zero, Nat.mul_one]
  refine all_i fun n0 => ?_
  refine imp_i fun h0 => ?_
  refine imp_i fun h1 => ?_
  refine all_i fun n1 => ?_
  refine imp_i fun h2 => ?_
  refine imp_i fun h3 => ?_
  refine imp_i fun h4 => ?_
  try simp only [sigBitsR, iR, cB, bitsPost, List.cons.injEq, DV.b.injEq, and_true, List.length_cons, List.length_nil] at h4
  refine bR_dec (fun h5 => ?_) (fun h5 => ?_)
  ·
   refine req_i ?_ ?_
   · -- r0
    (simp only [sigBitsR, bitsPost, sigTapsR, tapsPost, sigLenR, lenPost]; exact ite_no (by unfold okD; omega) (by simp))
   rfl
  ·
   refine bR_dec (fun h6 => ?_) (fun h6 => ?_)
   ·
    refine req_i ?_ ?_
    · -- r1
     (simp only [sigBitsR, bitsPost, sigTapsR, tapsPost, sigLenR, lenPost]; exact ite_no (by unfold okD; omega) (by simp))
    rfl
   ·
    refine bR_dec (fun h7 => ?_) (fun h7 => ?_)
    ·
     refine req_i ?_ ?_
     · -- r2
      (simp only [sigBitsR, bitsPost, sigTapsR, tapsPost, sigLenR, lenPost]; exact ite_no (by unfold okD; omega) (by simp))
     rfl
    ·
     refine bR_dec (fun h8 => ?_) (fun h8 => ?_)
     ·
      refine req_i ?_ ?_
      · -- r3
       (simp only [sigBitsR, bitsPost, sigTapsR, tapsPost, sigLenR, lenPost]; exact ite_no (by unfold okD; omega) (by simp))
      rfl
     ·
      refine bR_dec (fun h9 => ?_) (fun h9 => ?_)
      ·
       refine req_i ?_ ?_
       · -- r4
        (simp only [sigBitsR, bitsPost, sigTapsR, tapsPost, sigLenR, lenPost]; exact ite_no (by unfold okD; omega) (by simp))
       rfl
      ·
       refine req_i ?_ ?_
       · -- r5
        (simp only [sigBitsR, bitsPost, sigTapsR, tapsPost, sigLenR, lenPost]; exact ite_no (by unfold okD; omega) (by simp))
       rfl
theorem ext_bits14 : ∀ p ∈ ([] : List (Nat × Ext)), ExtRow Try.prog p.1 p.2 := by
  intro p hp
  cases hp
theorem cts_bits14 : CtsOk Try.prog [] := fun f c h => by cases h
theorem fn_bits14 : FnOk Try.prog 13 (sigBitsR 5 10 3 9223372036854775807) [] := fn_sound (by kernel_rfl) ext_bits14 cts_bits14 names vt_bits14
end Go.Proofs.Ytpmlodchbgfmeaa

namespace Go.Proofs.Ytpmlodchbgfmeaa
open Go.Ev Go.Sp
theorem fn_bits : FnOk Try.prog 13 sigBits [] := by
  exact (fn_cover covG covG_ok fun t ht => by
    simp only [covG, List.mem_cons, List.not_mem_nil, or_false] at ht
    rcases ht with rfl | rfl | rfl | rfl | rfl | rfl | rfl | rfl | rfl | rfl | rfl | rfl | rfl | rfl | rfl
    · exact fn_bits0
    · exact fn_bits1
    · exact fn_bits2
    · exact fn_bits3
    · exact fn_bits4
    · exact fn_bits5
    · exact fn_bits6
    · exact fn_bits7
    · exact fn_bits8
    · exact fn_bits9
    · exact fn_bits10
    · exact fn_bits11
    · exact fn_bits12
    · exact fn_bits13
    · exact fn_bits14)
end Go.Proofs.Ytpmlodchbgfmeaa

namespace Go.Proofs.Ytpmlodchbgfmeaa
open Go.Ev Go.Sp
set_option maxRecDepth 100000
theorem vc_codeF : vcFn Try.prog [] (fun f p _ => at2 f p 37 58 codeFL (none)) [] 100 37 sigCodeF = (allB fun l0 : List Int => 
impB (l0.length ≤ (1100 : Nat)) (
impB (∀ (y : Int), y ∈ l0 → (0 : Int) ≤ y ∧ y ≤ (1 : Int)) (
allB fun l1 : List Int => 
impB (l1.length ≤ (1100 : Nat)) (
impB (∀ (y : Int), y ∈ l1 → (0 : Int) ≤ y ∧ y ≤ (1 : Int)) (
allB fun n2 : Int => 
impB ((1 : Int) ≤ n2) (
impB (n2 ≤ (1100 : Int)) (
impB (sigCodeF.pre [DV.l l0, DV.l l1, DV.n n2]) (
reqB ((↑l0.length : Int).toNat ≤ (↑l0.length : Int).toNat) (
reqB ((↑l0.length : Int).toNat ≤ (1000000 : Nat)) (
reqB (((0 : Nat) + l0.length) * (1 : Nat) ≤ l0.length.mul (1 : Nat)) (
reqB (l0.length ≤ (1100 : Nat)) (
reqB ((List.take l0.length (List.drop (0 : Nat) l0)).length = l0.length) (
reqB (∀ (y : Int), y ∈ List.take l0.length (List.drop (0 : Nat) l0) → (0 : Int) ≤ y ∧ y ≤ (1 : Int)) (
reqB (((0 : Nat) + l1.length) * (1 : Nat) ≤ l1.length.mul (1 : Nat)) (
reqB (l1.length ≤ (1100 : Nat)) (
reqB ((List.take l1.length (List.drop (0 : Nat) l1)).length = l1.length) (
reqB (∀ (y : Int), y ∈ List.take l1.length (List.drop (0 : Nat) l1) → (0 : Int) ≤ y ∧ y ≤ (1 : Int)) (
reqB ((1 : Int) ≤ n2) (
reqB (n2 ≤ (1100 : Int)) (
reqB (lenCols
 [Col.i Go.IntKind.i64 (Int.negSucc (9223372036854775807 : Nat)) (Int.ofNat (9223372036854775807 : Nat))
 (List.replicate (↑l0.length : Int).toNat (0 : Int))] ≤
 (1000000 : Nat)) (
reqB ((List.replicate (↑l0.length : Int).toNat (0 : Int)).length =
 lenCols
 [Col.i Go.IntKind.i64 (Int.negSucc (9223372036854775807 : Nat)) (Int.ofNat (9223372036854775807 : Nat))
 (List.replicate (↑l0.length : Int).toNat (0 : Int))]) (
reqB (∀ (y : Int),
 y ∈ List.replicate (↑l0.length : Int).toNat (0 : Int) →
 (-9223372036854775808 : Int) ≤ y ∧ y ≤ (9223372036854775807 : Int)) (
reqB (codeFL.inv
 [DV.l (List.take l0.length (List.drop (0 : Nat) l0)), DV.l (List.take l1.length (List.drop (0 : Nat) l1)),
 DV.n n2]
 [DV.n (0 : Int), DV.l (List.replicate (↑l0.length : Int).toNat (0 : Int))]) (
allB fun n3 : Int => 
impB ((0 : Int) ≤ n3) (
impB (n3 ≤ (1100 : Int)) (
allB fun l4 : List Int => 
impB (l4.length ≤ (1000000 : Nat)) (
impB (∀ (y : Int), y ∈ l4 → (-9223372036854775808 : Int) ≤ y ∧ y ≤ (9223372036854775807 : Int)) (
impB (codeFL.inv
 [DV.l (List.take l0.length (List.drop (0 : Nat) l0)), DV.l (List.take l1.length (List.drop (0 : Nat) l1)),
 DV.n n2]
 [DV.n n3, DV.l l4]) (
bR (dec (n3 < (↑(↑l0.length : Int).toNat : Int))) (
 reqB (n3.toNat < l0.length) (
 reqB (Nat.add (0 : Nat) n3.toNat < l0.length) (
 bR (dec (n2 = (2 : Int))) (
 reqB (n3.toNat < l1.length) (
 reqB (Nat.add (0 : Nat) n3.toNat < l1.length) (
 reqB (n3.toNat < (↑l0.length : Int).toNat) (
 reqB (Nat.add (0 : Nat) n3.toNat < l4.length) (
 bR (bR (bR (dec ((0 : Nat) = (0 : Nat))) (
 dec (l0.length = l0.length)) (
 false)) (
 bR (bR (dec ((0 : Nat) = (0 : Nat))) (
 dec (l1.length = l1.length)) (
 false)) (
 bR (dec (n2 = n2)) (
 bR (bR (dec ((0 : Nat) = (0 : Nat))) (
 dec ((↑l0.length : Int).toNat = (↑l0.length : Int).toNat)) (
 false)) (
 bR (bR (dec ((0 : Nat) = (0 : Nat))) (
 dec ((↑l0.length : Int).toNat = (↑l0.length : Int).toNat)) (
 false)) (
 bR (dec ((↑(↑l0.length : Int).toNat : Int) = (↑(↑l0.length : Int).toNat : Int))) (
 true) (
 false)) (
 false)) (
 false)) (
 false)) (
 false)) (
 false)) (
 reqB ((0 : Int) ≤ n3 + (1 : Int)) (
 reqB (n3 + (1 : Int) ≤ (1100 : Int)) (
 reqB (lenCols
 [Col.i Go.IntKind.i64 (-9223372036854775808 : Int) (9223372036854775807 : Int)
 (l4.set (Nat.add (0 : Nat) n3.toNat)
 ((1 : Int) - (2 : Int) * l1.getD (Nat.add (0 : Nat) n3.toNat) (0 : Int)))] ≤
 (1000000 : Nat)) (
 reqB ((l4.set (Nat.add (0 : Nat) n3.toNat) ((1 : Int) - (2 : Int) * l1.getD (Nat.add (0 : Nat) n3.toNat) (0 : Int))).length =
 lenCols
 [Col.i Go.IntKind.i64 (-9223372036854775808 : Int) (9223372036854775807 : Int)
 (l4.set (Nat.add (0 : Nat) n3.toNat) ((1 : Int) - (2 : Int) * l1.getD (Nat.add (0 : Nat) n3.toNat) (0 : Int)))]) (
 reqB (∀ (y : Int),
 y ∈ l4.set (Nat.add (0 : Nat) n3.toNat) ((1 : Int) - (2 : Int) * l1.getD (Nat.add (0 : Nat) n3.toNat) (0 : Int)) →
 (-9223372036854775808 : Int) ≤ y ∧ y ≤ (9223372036854775807 : Int)) (
 reqB (codeFL.inv
 [DV.l (List.take l0.length (List.drop (0 : Nat) l0)), DV.l (List.take l1.length (List.drop (0 : Nat) l1)),
 DV.n n2]
 [DV.n (n3 + (1 : Int)),
 DV.l
 (l4.set (Nat.add (0 : Nat) n3.toNat) ((1 : Int) - (2 : Int) * l1.getD (Nat.add (0 : Nat) n3.toNat) (0 : Int)))]) (
 reqB (codeFL.mea
 [DV.l (List.take l0.length (List.drop (0 : Nat) l0)),
 DV.l (List.take l1.length (List.drop (0 : Nat) l1)), DV.n n2]
 [DV.n (n3 + (1 : Int)),
 DV.l
 (l4.set (Nat.add (0 : Nat) n3.toNat)
 ((1 : Int) - (2 : Int) * l1.getD (Nat.add (0 : Nat) n3.toNat) (0 : Int)))] <
 codeFL.mea
 [DV.l (List.take l0.length (List.drop (0 : Nat) l0)),
 DV.l (List.take l1.length (List.drop (0 : Nat) l1)), DV.n n2]
 [DV.n n3, DV.l l4]) (
 true)))))))) (
 false)))))) (
 bR (dec ((2 : Int) < n2)) (
 reqB ((↑l1.length : Int) ≠ (0 : Int)) (
 reqB ((0 : Int) ≤ (n3 + n2 - (3 : Int)).tmod (↑l1.length : Int)) (
 reqB (((n3 + n2 - (3 : Int)).tmod (↑l1.length : Int)).toNat < l1.length) (
 reqB (Nat.add (0 : Nat) ((n3 + n2 - (3 : Int)).tmod (↑l1.length : Int)).toNat < l1.length) (
 reqB (n3.toNat < (↑l0.length : Int).toNat) (
 reqB (Nat.add (0 : Nat) n3.toNat < l4.length) (
 bR (bR (bR (dec ((0 : Nat) = (0 : Nat))) (
 dec (l0.length = l0.length)) (
 false)) (
 bR (bR (dec ((0 : Nat) = (0 : Nat))) (
 dec (l1.length = l1.length)) (
 false)) (
 bR (dec (n2 = n2)) (
 bR (bR (dec ((0 : Nat) = (0 : Nat))) (
 dec ((↑l0.length : Int).toNat = (↑l0.length : Int).toNat)) (
 false)) (
 bR (bR (dec ((0 : Nat) = (0 : Nat))) (
 dec ((↑l0.length : Int).toNat = (↑l0.length : Int).toNat)) (
 false)) (
 bR (dec ((↑(↑l0.length : Int).toNat : Int) = (↑(↑l0.length : Int).toNat : Int))) (
 true) (
 false)) (
 false)) (
 false)) (
 false)) (
 false)) (
 false)) (
 reqB ((0 : Int) ≤ n3 + (1 : Int)) (
 reqB (n3 + (1 : Int) ≤ (1100 : Int)) (
 reqB (lenCols
 [Col.i Go.IntKind.i64 (-9223372036854775808 : Int) (9223372036854775807 : Int)
 (l4.set (Nat.add (0 : Nat) n3.toNat)
 ((1 : Int) -
 (2 : Int) *
 opI (SO.xor Go.IntKind.i64) (l0.getD (Nat.add (0 : Nat) n3.toNat) (0 : Int))
 (l1.getD (Nat.add (0 : Nat) ((n3 + n2 - (3 : Int)).tmod (↑l1.length : Int)).toNat) (0 : Int))))] ≤
 (1000000 : Nat)) (
 reqB ((l4.set (Nat.add (0 : Nat) n3.toNat)
 ((1 : Int) -
 (2 : Int) *
 opI (SO.xor Go.IntKind.i64) (l0.getD (Nat.add (0 : Nat) n3.toNat) (0 : Int))
 (l1.getD (Nat.add (0 : Nat) ((n3 + n2 - (3 : Int)).tmod (↑l1.length : Int)).toNat) (0 : Int)))).length =
 lenCols
 [Col.i Go.IntKind.i64 (-9223372036854775808 : Int) (9223372036854775807 : Int)
 (l4.set (Nat.add (0 : Nat) n3.toNat)
 ((1 : Int) -
 (2 : Int) *
 opI (SO.xor Go.IntKind.i64) (l0.getD (Nat.add (0 : Nat) n3.toNat) (0 : Int))
 (l1.getD (Nat.add (0 : Nat) ((n3 + n2 - (3 : Int)).tmod (↑l1.length : Int)).toNat) (0 : Int))))]) (
 reqB (∀ (y : Int),
 y ∈
 l4.set (Nat.add (0 : Nat) n3.toNat)
 ((1 : Int) -
 (2 : Int) *
 opI (SO.xor Go.IntKind.i64) (l0.getD (Nat.add (0 : Nat) n3.toNat) (0 : Int))
 (l1.getD (Nat.add (0 : Nat) ((n3 + n2 - (3 : Int)).tmod (↑l1.length : Int)).toNat) (0 : Int))) →
 (-9223372036854775808 : Int) ≤ y ∧ y ≤ (9223372036854775807 : Int)) (
 reqB (codeFL.inv
 [DV.l (List.take l0.length (List.drop (0 : Nat) l0)), DV.l (List.take l1.length (List.drop (0 : Nat) l1)),
 DV.n n2]
 [DV.n (n3 + (1 : Int)),
 DV.l
 (l4.set (Nat.add (0 : Nat) n3.toNat)
 ((1 : Int) -
 (2 : Int) *
 opI (SO.xor Go.IntKind.i64) (l0.getD (Nat.add (0 : Nat) n3.toNat) (0 : Int))
 (l1.getD (Nat.add (0 : Nat) ((n3 + n2 - (3 : Int)).tmod (↑l1.length : Int)).toNat) (0 : Int))))]) (
 reqB (codeFL.mea
 [DV.l (List.take l0.length (List.drop (0 : Nat) l0)),
 DV.l (List.take l1.length (List.drop (0 : Nat) l1)), DV.n n2]
 [DV.n (n3 + (1 : Int)),
 DV.l
 (l4.set (Nat.add (0 : Nat) n3.toNat)
 ((1 : Int) -
 (2 : Int) *
 opI (SO.xor Go.IntKind.i64) (l0.getD (Nat.add (0 : Nat) n3.toNat) (0 : Int))
 (l1.getD (Nat.add (0 : Nat) ((n3 + n2 - (3 : Int)).tmod (↑l1.length : Int)).toNat) (0 : Int))))] <
 codeFL.mea
 [DV.l (List.take l0.length (List.drop (0 : Nat) l0)),
 DV.l (List.take l1.length (List.drop (0 : Nat) l1)), DV.n n2]
 [DV.n n3, DV.l l4]) (
 true)))))))) (
 false)))))))) (
 reqB (n3.toNat < (↑l0.length : Int).toNat) (
 reqB (Nat.add (0 : Nat) n3.toNat < l4.length) (
 bR (bR (bR (dec ((0 : Nat) = (0 : Nat))) (
 dec (l0.length = l0.length)) (
 false)) (
 bR (bR (dec ((0 : Nat) = (0 : Nat))) (
 dec (l1.length = l1.length)) (
 false)) (
 bR (dec (n2 = n2)) (
 bR (bR (dec ((0 : Nat) = (0 : Nat))) (
 dec ((↑l0.length : Int).toNat = (↑l0.length : Int).toNat)) (
 false)) (
 bR (bR (dec ((0 : Nat) = (0 : Nat))) (
 dec ((↑l0.length : Int).toNat = (↑l0.length : Int).toNat)) (
 false)) (
 bR (dec ((↑(↑l0.length : Int).toNat : Int) = (↑(↑l0.length : Int).toNat : Int))) (
 true) (
 false)) (
 false)) (
 false)) (
 false)) (
 false)) (
 false)) (
 reqB ((0 : Int) ≤ n3 + (1 : Int)) (
 reqB (n3 + (1 : Int) ≤ (1100 : Int)) (
 reqB (lenCols
 [Col.i Go.IntKind.i64 (-9223372036854775808 : Int) (9223372036854775807 : Int)
 (l4.set (Nat.add (0 : Nat) n3.toNat)
 ((1 : Int) - (2 : Int) * l0.getD (Nat.add (0 : Nat) n3.toNat) (0 : Int)))] ≤
 (1000000 : Nat)) (
 reqB ((l4.set (Nat.add (0 : Nat) n3.toNat) ((1 : Int) - (2 : Int) * l0.getD (Nat.add (0 : Nat) n3.toNat) (0 : Int))).length =
 lenCols
 [Col.i Go.IntKind.i64 (-9223372036854775808 : Int) (9223372036854775807 : Int)
 (l4.set (Nat.add (0 : Nat) n3.toNat) ((1 : Int) - (2 : Int) * l0.getD (Nat.add (0 : Nat) n3.toNat) (0 : Int)))]) (
 reqB (∀ (y : Int),
 y ∈ l4.set (Nat.add (0 : Nat) n3.toNat) ((1 : Int) - (2 : Int) * l0.getD (Nat.add (0 : Nat) n3.toNat) (0 : Int)) →
 (-9223372036854775808 : Int) ≤ y ∧ y ≤ (9223372036854775807 : Int)) (
 reqB (codeFL.inv
 [DV.l (List.take l0.length (List.drop (0 : Nat) l0)), DV.l (List.take l1.length (List.drop (0 : Nat) l1)),
 DV.n n2]
 [DV.n (n3 + (1 : Int)),
 DV.l
 (l4.set (Nat.add (0 : Nat) n3.toNat) ((1 : Int) - (2 : Int) * l0.getD (Nat.add (0 : Nat) n3.toNat) (0 : Int)))]) (
 reqB (codeFL.mea
 [DV.l (List.take l0.length (List.drop (0 : Nat) l0)),
 DV.l (List.take l1.length (List.drop (0 : Nat) l1)), DV.n n2]
 [DV.n (n3 + (1 : Int)),
 DV.l
 (l4.set (Nat.add (0 : Nat) n3.toNat)
 ((1 : Int) - (2 : Int) * l0.getD (Nat.add (0 : Nat) n3.toNat) (0 : Int)))] <
 codeFL.mea
 [DV.l (List.take l0.length (List.drop (0 : Nat) l0)),
 DV.l (List.take l1.length (List.drop (0 : Nat) l1)), DV.n n2]
 [DV.n n3, DV.l l4]) (
 true)))))))) (
 false)))))))) (
 reqB (((0 : Nat) + (↑l0.length : Int).toNat) * (1 : Nat) ≤ l4.length.mul (1 : Nat)) (
 reqB ((↑l0.length : Int).toNat ≤ (1100 : Nat)) (
 reqB ((List.take (↑l0.length : Int).toNat (List.drop (0 : Nat) l4)).length = (↑l0.length : Int).toNat) (
 reqB (∀ (y : Int), y ∈ List.take (↑l0.length : Int).toNat (List.drop (0 : Nat) l4) → (-1 : Int) ≤ y ∧ y ≤ (1 : Int)) (
 reqB (sigCodeF.post [DV.l l0, DV.l l1, DV.n n2]
 [DV.l (List.take (↑l0.length : Int).toNat (List.drop (0 : Nat) l4))]) (
 true))))))))))))))))))))))))))))))))))) := by kernel_rfl
set_option maxHeartbeats 8000000 in
theorem vt_codeF : vcFn Try.prog [] (fun f p _ => at2 f p 37 58 codeFL (none)) [] 100 37 sigCodeF = true := by
  rw [vc_codeF]
  try simp only [Int.toNat_natCast, List.length_set, List.length_replicate, List.length_take, List.length_drop, List.length_append, List.length_cons, List.length_nil, Nat.min_self, List.take_take, lenCols_i, lenCols_b, List.drop_zero, List.take_length, Nat.add_eq, Nat.mul_eq, Nat.sub_eq, Nat.zero_add, Nat.sub_zero, Nat.mul_one]
  refine all_i fun l0 => ?_
  refine imp_i fun h0 => ?_
  refine imp_i fun h1 => ?_
  refine all_i fun l1 => ?_
  refine imp_i fun h2 => ?_
  refine imp_i fun h3 => ?_
  refine all_i fun n2 => ?_
  refine imp_i fun h4 => ?_
  refine imp_i fun h5 => ?_
  refine imp_i fun h6 => ?_
  try simp only [sigCodeF, cB, cCh, codeFPre, codeFPost, List.cons.injEq, DV.b.injEq, and_true, List.length_cons, List.length_nil] at h6
  refine req_i ?_ ?_
  · -- r0
   first | omega | ((try simp only [Int.toNat_natCast, List.length_cons, List.length_nil]); first | done | omega | assumption | grind [getD_set, getD_rep, toNat_succ, cntN_yes, cntN_no])
  refine req_i ?_ ?_
  · -- r1
   first | omega | ((try simp only [Int.toNat_natCast, List.length_cons, List.length_nil]); first | done | omega | assumption | grind [getD_set, getD_rep, toNat_succ, cntN_yes, cntN_no])
  refine req_i ?_ ?_
  · -- r2
   first | omega | ((try simp only [Nat.mul_eq]); first | done | omega | assumption | grind [getD_set, getD_rep, toNat_succ, cntN_yes, cntN_no])
  refine req_i ?_ ?_
  · -- r3
   first | omega | ((try simp only [Nat.zero_add]); first | done | omega | assumption | grind [getD_set, getD_rep, toNat_succ, cntN_yes, cntN_no])
  refine req_i ?_ ?_
  · -- r4
   first | omega | ((try simp only [List.length_take, List.take_length, List.take_take, Nat.min_self, List.length_drop, List.drop_zero, List.length_cons, List.length_nil]); first | done | omega | assumption | grind [getD_set, getD_rep, toNat_succ, cntN_yes, cntN_no])
  refine req_i ?_ ?_
  · -- r5
   first | assumption | exact rep_bd (by omega) (by omega) | exact set_bd (by assumption) (by omega) (by omega) | exact take_bd (by assumption) | ((try simp only [List.length_take, List.take_length, List.take_take, Nat.min_self, List.length_drop, List.drop_zero, List.length_cons, List.length_nil]); first | assumption | exact rep_bd (by omega) (by omega) | exact set_bd (by assumption) (by omega) (by omega) | exact take_bd (by assumption) | grind [getD_set, getD_rep, toNat_succ, cntN_yes, cntN_no])
  refine req_i ?_ ?_
  · -- r6
   first | omega | ((try simp only [Nat.mul_eq]); first | done | omega | assumption | grind [getD_set, getD_rep, toNat_succ, cntN_yes, cntN_no])
  refine req_i ?_ ?_
  · -- r7
   first | omega | ((try simp only [Nat.zero_add]); first | done | omega | assumption | grind [getD_set, getD_rep, toNat_succ, cntN_yes, cntN_no])
  refine req_i ?_ ?_
  · -- r8
   first | omega | ((try simp only [List.length_take, List.take_length, List.take_take, Nat.min_self, List.length_drop, List.drop_zero, List.length_cons, List.length_nil]); first | done | omega | assumption | grind [getD_set, getD_rep, toNat_succ, cntN_yes, cntN_no])
  refine req_i ?_ ?_
  · -- r9
   first | assumption | exact rep_bd (by omega) (by omega) | exact set_bd (by assumption) (by omega) (by omega) | exact take_bd (by assumption) | ((try simp only [List.length_take, List.take_length, List.take_take, Nat.min_self, List.length_drop, List.drop_zero, List.length_cons, List.length_nil]); first | assumption | exact rep_bd (by omega) (by omega) | exact set_bd (by assumption) (by omega) (by omega) | exact take_bd (by assumption) | grind [getD_set, getD_rep, toNat_succ, cntN_yes, cntN_no])
  refine req_i ?_ ?_
  · -- r10
   first | omega | assumption | grind
  refine req_i ?_ ?_
  · -- r11
   first | omega | assumption | grind
  refine req_i ?_ ?_
  · -- r12
   first | omega | ((try simp only [Int.toNat_natCast, List.length_replicate, List.length_cons, List.length_nil, lenCols_i, lenCols_b]); first | done | omega | assumption | grind [getD_set, getD_rep, toNat_succ, cntN_yes, cntN_no])
  refine req_i ?_ ?_
  · -- r13
   first | omega | ((try simp only [Int.toNat_natCast, List.length_replicate, List.length_cons, List.length_nil, lenCols_i, lenCols_b]); first | done | omega | assumption | grind [getD_set, getD_rep, toNat_succ, cntN_yes, cntN_no])
  refine req_i ?_ ?_
  · -- r14
   first | assumption | exact rep_bd (by omega) (by omega) | exact set_bd (by assumption) (by omega) (by omega) | exact take_bd (by assumption) | ((try simp only [Int.toNat_natCast, List.length_replicate, List.length_cons, List.length_nil]); first | assumption | exact rep_bd (by omega) (by omega) | exact set_bd (by assumption) (by omega) (by omega) | exact take_bd (by assumption) | grind [getD_set, getD_rep, toNat_succ, cntN_yes, cntN_no])
  refine req_i ?_ ?_
  · -- r15
   first | omega | ((try simp only [codeFL, cB, codeFInv, meaC, List.cons.injEq, DV.b.injEq, and_true, Int.toNat_natCast, List.length_replicate, List.length_take, List.take_length, List.take_take, Nat.min_self, List.length_drop, List.drop_zero, List.length_cons, List.length_nil]); first | done | omega | assumption | grind [getD_set, getD_rep, toNat_succ, cntN_yes, cntN_no])
  refine all_i fun n3 => ?_
  refine imp_i fun h7 => ?_
  refine imp_i fun h8 => ?_
  refine all_i fun l4 => ?_
  refine imp_i fun h9 => ?_
  refine imp_i fun h10 => ?_
  refine imp_i fun h11 => ?_
  try simp only [codeFL, cB, codeFInv, meaC, List.cons.injEq, DV.b.injEq, and_true, List.length_take, List.take_length, List.take_take, Nat.min_self, List.length_drop, List.drop_zero, List.length_cons, List.length_nil] at h11
  refine bR_dec (fun h12 => ?_) (fun h12 => ?_)
  ·
   have a0 := getD_bd (i := n3.toNat) h1 (by omega) (by omega)
   have a1 := getD_bd (i := n3.toNat) h3 (by omega) (by omega)
   refine req_i ?_ ?_
   · -- r16
    first | omega | ((try simp only [Int.toNat_natCast, List.length_cons, List.length_nil]); first | done | omega | assumption | grind [getD_set, getD_rep, toNat_succ, cntN_yes, cntN_no])
   refine req_i ?_ ?_
   · -- r17
    first | omega | ((try simp only [Int.toNat_natCast, List.length_cons, List.length_nil, Nat.add_eq, Nat.zero_add]); first | done | omega | assumption | grind [getD_set, getD_rep, toNat_succ, cntN_yes, cntN_no])
   refine bR_dec (fun h13 => ?_) (fun h13 => ?_)
   ·
    refine req_i ?_ ?_
    · -- r18
     first | omega | ((try simp only [Int.toNat_natCast, List.length_cons, List.length_nil]); first | done | omega | assumption | grind [getD_set, getD_rep, toNat_succ, cntN_yes, cntN_no])
    refine req_i ?_ ?_
    · -- r19
     first | omega | ((try simp only [Int.toNat_natCast, List.length_cons, List.length_nil, Nat.add_eq, Nat.zero_add]); first | done | omega | assumption | grind [getD_set, getD_rep, toNat_succ, cntN_yes, cntN_no])
    refine req_i ?_ ?_
    · -- r20
     first | omega | ((try simp only [Int.toNat_natCast, List.length_cons, List.length_nil]); first | done | omega | assumption | grind [getD_set, getD_rep, toNat_succ, cntN_yes, cntN_no])
    refine req_i ?_ ?_
    · -- r21
     first | omega | ((try simp only [Int.toNat_natCast, List.length_cons, List.length_nil, Nat.add_eq, Nat.zero_add]); first | done | omega | assumption | grind [getD_set, getD_rep, toNat_succ, cntN_yes, cntN_no])
    refine bR_t ?_ ?_
    · -- g0
     first | rfl | (simp only [bR_iff, bR_iff_f, dec_iff, dec_f, beqB_iff', andB_iff', reduceCtorEq, imp_self, false_implies, and_true, true_and, implies_true, and_self]; done) | (simp [bR_iff, dec_iff, beqB_iff', andB_iff']; done) | (simp [bR_iff, dec_iff, beqB_iff', andB_iff']; omega)
    refine req_i ?_ ?_
    · -- r22
     first | omega | assumption | grind
    refine req_i ?_ ?_
    · -- r23
     first | omega | assumption | grind
    refine req_i ?_ ?_
    · -- r24
     first | omega | ((try simp only [Int.toNat_natCast, List.length_set, List.length_cons, List.length_nil, lenCols_i, lenCols_b, Nat.add_eq, Nat.zero_add]); first | done | omega | assumption | grind [getD_set, getD_rep, toNat_succ, cntN_yes, cntN_no])
    refine req_i ?_ ?_
    · -- r25
     first | omega | ((try simp only [Int.toNat_natCast, List.length_set, List.length_cons, List.length_nil, lenCols_i, lenCols_b, Nat.add_eq, Nat.zero_add]); first | done | omega | assumption | grind [getD_set, getD_rep, toNat_succ, cntN_yes, cntN_no])
    refine req_i ?_ ?_
    · -- r26
     first | assumption | exact rep_bd (by omega) (by omega) | exact set_bd (by assumption) (by omega) (by omega) | exact take_bd (by assumption) | ((try simp only [Int.toNat_natCast, List.length_set, List.length_cons, List.length_nil, Nat.add_eq, Nat.zero_add]); first | assumption | exact rep_bd (by omega) (by omega) | exact set_bd (by assumption) (by omega) (by omega) | exact take_bd (by assumption) | grind [getD_set, getD_rep, toNat_succ, cntN_yes, cntN_no])
    refine req_i ?_ ?_
    · -- r27
     simp only [codeFL, codeFInv, List.drop_zero, List.take_length, Nat.add_eq, Nat.zero_add]; exact codeF_step h11.1 (by omega) h11.2.2.1 h11.2.2.2 (by rw [h13, chipB2])
    refine req_i ?_ ?_
    · -- r28
     first | omega | ((try simp only [codeFL, cB, codeFInv, meaC, List.cons.injEq, DV.b.injEq, and_true, Int.toNat_natCast, List.length_set, List.length_take, List.take_length, List.take_take, Nat.min_self, List.length_drop, List.drop_zero, List.length_cons, List.length_nil, Nat.add_eq, Nat.zero_add]); first | done | omega | assumption | grind [getD_set, getD_rep, toNat_succ, cntN_yes, cntN_no])
    rfl
   ·
    refine bR_dec (fun h14 => ?_) (fun h14 => ?_)
    ·
     have a2 := getD_bd (i := ((n3 + n2 - 3).tmod (l1.length : Int)).toNat) h3 (by omega) (by omega)
     have a3 := xor_bit a0.1 a0.2 a2.1 a2.2
     have a4 := tmod_nn (a := n3 + n2 - 3) (b := (l1.length : Int)) (by omega)
     have a5 := Int.emod_nonneg (n3 + n2 - 3) (b := (l1.length : Int)) (by omega)
     have a6 := Int.emod_lt_of_pos (n3 + n2 - 3) (b := (l1.length : Int)) (by omega)
     refine req_i ?_ ?_
     · -- r29
      first | omega | ((try simp only [Nat.zero_add]); first | done | omega | assumption | grind [getD_set, getD_rep, toNat_succ, cntN_yes, cntN_no])
     refine req_i ?_ ?_
     · -- r30
      first | omega | ((try simp only [Nat.zero_add]); first | done | omega | assumption | grind [getD_set, getD_rep, toNat_succ, cntN_yes, cntN_no])
     refine req_i ?_ ?_
     · -- r31
      first | omega | ((try simp only [Int.toNat_natCast, List.length_cons, List.length_nil]); first | done | omega | assumption | grind [getD_set, getD_rep, toNat_succ, cntN_yes, cntN_no])
     refine req_i ?_ ?_
     · -- r32
      first | omega | ((try simp only [Int.toNat_natCast, List.length_cons, List.length_nil, Nat.add_eq, Nat.zero_add]); first | done | omega | assumption | grind [getD_set, getD_rep, toNat_succ, cntN_yes, cntN_no])
     refine req_i ?_ ?_
     · -- r33
      first | omega | ((try simp only [Int.toNat_natCast, List.length_cons, List.length_nil]); first | done | omega | assumption | grind [getD_set, getD_rep, toNat_succ, cntN_yes, cntN_no])
     refine req_i ?_ ?_
     · -- r34
      first | omega | ((try simp only [Int.toNat_natCast, List.length_cons, List.length_nil, Nat.add_eq, Nat.zero_add]); first | done | omega | assumption | grind [getD_set, getD_rep, toNat_succ, cntN_yes, cntN_no])
     refine bR_t ?_ ?_
     · -- g1
      first | rfl | (simp only [bR_iff, bR_iff_f, dec_iff, dec_f, beqB_iff', andB_iff', reduceCtorEq, imp_self, false_implies, and_true, true_and, implies_true, and_self]; done) | (simp [bR_iff, dec_iff, beqB_iff', andB_iff']; done) | (simp [bR_iff, dec_iff, beqB_iff', andB_iff']; omega)
     refine req_i ?_ ?_
     · -- r35
      first | omega | assumption | grind
     refine req_i ?_ ?_
     · -- r36
      first | omega | assumption | grind
     refine req_i ?_ ?_
     · -- r37
      first | omega | ((try simp only [Int.toNat_natCast, List.length_set, List.length_cons, List.length_nil, lenCols_i, lenCols_b, Nat.add_eq, Nat.zero_add]); first | done | omega | assumption | grind [getD_set, getD_rep, toNat_succ, cntN_yes, cntN_no])
     refine req_i ?_ ?_
     · -- r38
      first | omega | ((try simp only [Int.toNat_natCast, List.length_set, List.length_cons, List.length_nil, lenCols_i, lenCols_b, Nat.add_eq, Nat.zero_add]); first | done | omega | assumption | grind [getD_set, getD_rep, toNat_succ, cntN_yes, cntN_no])
     refine req_i ?_ ?_
     · -- r39
      first | assumption | exact rep_bd (by omega) (by omega) | exact set_bd (by assumption) (by omega) (by omega) | exact take_bd (by assumption) | ((try simp only [Int.toNat_natCast, List.length_set, List.length_cons, List.length_nil, Nat.add_eq, Nat.zero_add]); first | assumption | exact rep_bd (by omega) (by omega) | exact set_bd (by assumption) (by omega) (by omega) | exact take_bd (by assumption) | grind [getD_set, getD_rep, toNat_succ, cntN_yes, cntN_no])
     refine req_i ?_ ?_
     · -- r40
      simp only [codeFL, codeFInv, List.drop_zero, List.take_length, Nat.add_eq, Nat.zero_add]; exact codeF_step h11.1 (by omega) h11.2.2.1 h11.2.2.2 (by rw [a3, chipB3 (by omega) (by omega) a4])
     refine req_i ?_ ?_
     · -- r41
      first | omega | ((try simp only [codeFL, cB, codeFInv, meaC, List.cons.injEq, DV.b.injEq, and_true, Int.toNat_natCast, List.length_set, List.length_take, List.take_length, List.take_take, Nat.min_self, List.length_drop, List.drop_zero, List.length_cons, List.length_nil, Nat.add_eq, Nat.zero_add]); first | done | omega | assumption | grind [getD_set, getD_rep, toNat_succ, cntN_yes, cntN_no])
     rfl
    ·
     refine req_i ?_ ?_
     · -- r42
      first | omega | ((try simp only [Int.toNat_natCast, List.length_cons, List.length_nil]); first | done | omega | assumption | grind [getD_set, getD_rep, toNat_succ, cntN_yes, cntN_no])
     refine req_i ?_ ?_
     · -- r43
      first | omega | ((try simp only [Int.toNat_natCast, List.length_cons, List.length_nil, Nat.add_eq, Nat.zero_add]); first | done | omega | assumption | grind [getD_set, getD_rep, toNat_succ, cntN_yes, cntN_no])
     refine bR_t ?_ ?_
     · -- g2
      first | rfl | (simp only [bR_iff, bR_iff_f, dec_iff, dec_f, beqB_iff', andB_iff', reduceCtorEq, imp_self, false_implies, and_true, true_and, implies_true, and_self]; done) | (simp [bR_iff, dec_iff, beqB_iff', andB_iff']; done) | (simp [bR_iff, dec_iff, beqB_iff', andB_iff']; omega)
     refine req_i ?_ ?_
     · -- r44
      first | omega | assumption | grind
     refine req_i ?_ ?_
     · -- r45
      first | omega | assumption | grind
     refine req_i ?_ ?_
     · -- r46
      first | omega | ((try simp only [Int.toNat_natCast, List.length_set, List.length_cons, List.length_nil, lenCols_i, lenCols_b, Nat.add_eq, Nat.zero_add]); first | done | omega | assumption | grind [getD_set, getD_rep, toNat_succ, cntN_yes, cntN_no])
     refine req_i ?_ ?_
     · -- r47
      first | omega | ((try simp only [Int.toNat_natCast, List.length_set, List.length_cons, List.length_nil, lenCols_i, lenCols_b, Nat.add_eq, Nat.zero_add]); first | done | omega | assumption | grind [getD_set, getD_rep, toNat_succ, cntN_yes, cntN_no])
     refine req_i ?_ ?_
     · -- r48
      first | assumption | exact rep_bd (by omega) (by omega) | exact set_bd (by assumption) (by omega) (by omega) | exact take_bd (by assumption) | ((try simp only [Int.toNat_natCast, List.length_set, List.length_cons, List.length_nil, Nat.add_eq, Nat.zero_add]); first | assumption | exact rep_bd (by omega) (by omega) | exact set_bd (by assumption) (by omega) (by omega) | exact take_bd (by assumption) | grind [getD_set, getD_rep, toNat_succ, cntN_yes, cntN_no])
     refine req_i ?_ ?_
     · -- r49
      simp only [codeFL, codeFInv, List.drop_zero, List.take_length, Nat.add_eq, Nat.zero_add]; exact codeF_step h11.1 (by omega) h11.2.2.1 h11.2.2.2 (by rw [show n2 = 1 by omega, chipB1])
     refine req_i ?_ ?_
     · -- r50
      first | omega | ((try simp only [codeFL, cB, codeFInv, meaC, List.cons.injEq, DV.b.injEq, and_true, Int.toNat_natCast, List.length_set, List.length_take, List.take_length, List.take_take, Nat.min_self, List.length_drop, List.drop_zero, List.length_cons, List.length_nil, Nat.add_eq, Nat.zero_add]); first | done | omega | assumption | grind [getD_set, getD_rep, toNat_succ, cntN_yes, cntN_no])
     rfl
  ·
   refine req_i ?_ ?_
   · -- r51
    first | omega | ((try simp only [Int.toNat_natCast, List.length_cons, List.length_nil, Nat.mul_eq]); first | done | omega | assumption | grind [getD_set, getD_rep, toNat_succ, cntN_yes, cntN_no])
   refine req_i ?_ ?_
   · -- r52
    first | omega | ((try simp only [Int.toNat_natCast, List.length_cons, List.length_nil]); first | done | omega | assumption | grind [getD_set, getD_rep, toNat_succ, cntN_yes, cntN_no])
   refine req_i ?_ ?_
   · -- r53
    first | omega | ((try simp only [Int.toNat_natCast, List.length_take, List.take_length, List.take_take, Nat.min_self, List.length_drop, List.drop_zero, List.length_cons, List.length_nil]); first | done | omega | assumption | grind [getD_set, getD_rep, toNat_succ, cntN_yes, cntN_no])
   refine req_i ?_ ?_
   · -- r54
    (try simp only [List.drop_zero, Int.toNat_natCast]); rw [List.take_of_length_le (by omega), chips_of (p := n2) (u := l0) (v := l1) h11.2.2.1 fun j hj => h11.2.2.2 j (by omega)]; exact chips_bd h1 h3
   refine req_i ?_ ?_
   · -- r55
    simp only [sigCodeF, codeFPost, List.drop_zero, Int.toNat_natCast]; rw [List.take_of_length_le (by omega)]; exact chips_of h11.2.2.1 fun j hj => h11.2.2.2 j (by omega)
   rfl
theorem ext_codeF : ∀ p ∈ ([] : List (Nat × Ext)), ExtRow Try.prog p.1 p.2 := by
  intro p hp
  cases hp
theorem cts_codeF : CtsOk Try.prog [] := fun f c h => by cases h
theorem fn_codeF : FnOk Try.prog 37 sigCodeF [] := fn_sound (by kernel_rfl) ext_codeF cts_codeF names vt_codeF
end Go.Proofs.Ytpmlodchbgfmeaa

namespace Go.Proofs.Ytpmlodchbgfmeaa
open Go.Ev Go.Sp
set_option maxRecDepth 100000
theorem vc_code : vcFn Try.prog [(13, Ext.ctr (ctOf sigBits)), (37, Ext.ctr (ctOf sigCodeF))] noA [] 100 15 sigCode = (allB fun n0 : Int => 
impB ((-9223372036854775808 : Int) ≤ n0) (
impB (n0 ≤ (9223372036854775807 : Int)) (
allB fun n1 : Int => 
impB ((-9223372036854775808 : Int) ≤ n1) (
impB (n1 ≤ (9223372036854775807 : Int)) (
impB (sigCode.pre [DV.n n0, DV.n n1]) (
reqB ((-9223372036854775808 : Int) ≤ n0) (
reqB (n0 ≤ (9223372036854775807 : Int)) (
reqB (sigBits.pre [DV.n n0, DV.n (1 : Int)]) (
allB fun l2 : List Int => 
impB (l2.length ≤ (1100 : Nat)) (
impB (∀ (y : Int), y ∈ l2 → (0 : Int) ≤ y ∧ y ≤ (1 : Int)) (
allB fun n3 : Int => 
impB ((0 : Int) ≤ n3) (
impB (n3 ≤ (18 : Int)) (
impB (sigBits.post [DV.n n0, DV.n (1 : Int)] [DV.l l2, DV.n n3]) (
bR (dec (n3 ≠ (0 : Int))) (
 reqB ((0 : Int) ≤ n3) (
 reqB (n3 ≤ (18 : Int)) (
 reqB (sigCode.post [DV.n n0, DV.n n1] [DV.l [], DV.n n3]) (
 true)))) (
 bR (dec (n1 < (1 : Int))) (
 reqB (sigCode.post [DV.n n0, DV.n n1] [DV.l [], DV.n (2 : Int)]) (
 true)) (
 bR (dec ((↑l2.length : Int) + (2 : Int) < n1)) (
 reqB (sigCode.post [DV.n n0, DV.n n1] [DV.l [], DV.n (2 : Int)]) (
 true)) (
 reqB ((-9223372036854775808 : Int) ≤ n0) (
 reqB (n0 ≤ (9223372036854775807 : Int)) (
 reqB (sigBits.pre [DV.n n0, DV.n (2 : Int)]) (
 allB fun l4 : List Int => 
 impB (l4.length ≤ (1100 : Nat)) (
 impB (∀ (y : Int), y ∈ l4 → (0 : Int) ≤ y ∧ y ≤ (1 : Int)) (
 allB fun n5 : Int => 
 impB ((0 : Int) ≤ n5) (
 impB (n5 ≤ (18 : Int)) (
 impB (sigBits.post [DV.n n0, DV.n (2 : Int)] [DV.l l4, DV.n n5]) (
 reqB (((0 : Nat) + l2.length) * (1 : Nat) ≤ l2.length.mul (1 : Nat)) (
 reqB (l2.length ≤ (1100 : Nat)) (
 reqB ((List.take l2.length (List.drop (0 : Nat) l2)).length = l2.length) (
 reqB (∀ (y : Int), y ∈ List.take l2.length (List.drop (0 : Nat) l2) → (0 : Int) ≤ y ∧ y ≤ (1 : Int)) (
 reqB (((0 : Nat) + l4.length) * (1 : Nat) ≤ l4.length.mul (1 : Nat)) (
 reqB (l4.length ≤ (1100 : Nat)) (
 reqB ((List.take l4.length (List.drop (0 : Nat) l4)).length = l4.length) (
 reqB (∀ (y : Int), y ∈ List.take l4.length (List.drop (0 : Nat) l4) → (0 : Int) ≤ y ∧ y ≤ (1 : Int)) (
 reqB ((1 : Int) ≤ n1) (
 reqB (n1 ≤ (1100 : Int)) (
 reqB (sigCodeF.pre
 [DV.l (List.take l2.length (List.drop (0 : Nat) l2)), DV.l (List.take l4.length (List.drop (0 : Nat) l4)),
 DV.n n1]) (
 allB fun l6 : List Int => 
 impB (l6.length ≤ (1100 : Nat)) (
 impB (∀ (y : Int), y ∈ l6 → (-1 : Int) ≤ y ∧ y ≤ (1 : Int)) (
 impB (sigCodeF.post
 [DV.l (List.take l2.length (List.drop (0 : Nat) l2)), DV.l (List.take l4.length (List.drop (0 : Nat) l4)),
 DV.n n1]
 [DV.l l6]) (
 reqB (((0 : Nat) + l6.length) * (1 : Nat) ≤ l6.length.mul (1 : Nat)) (
 reqB (l6.length ≤ (1100 : Nat)) (
 reqB ((List.take l6.length (List.drop (0 : Nat) l6)).length = l6.length) (
 reqB (∀ (y : Int), y ∈ List.take l6.length (List.drop (0 : Nat) l6) → (-1 : Int) ≤ y ∧ y ≤ (1 : Int)) (
 reqB (sigCode.post [DV.n n0, DV.n n1]
 [DV.l (List.take l6.length (List.drop (0 : Nat) l6)), DV.n (0 : Int)]) (
 true)))))))))))))))))))))))))))))))))))))))))))) := by kernel_rfl
set_option maxHeartbeats 8000000 in
theorem vt_code : vcFn Try.prog [(13, Ext.ctr (ctOf sigBits)), (37, Ext.ctr (ctOf sigCodeF))] noA [] 100 15 sigCode = true := by
  rw [vc_code]
  try simp only [Int.toNat_natCast, List.length_set, List.length_replicate, List.length_take, List.length_drop, List.length_append, List.length_cons, List.length_nil, Nat.min_self, List.take_take, lenCols_i, lenCols_b, List.drop_zero, List.take_length, Nat.add_eq, Nat.mul_eq, Nat.sub_eq, Nat.zero_add, Nat.sub_zero, Nat.mul_one]
  refine all_i fun n0 => ?_
  refine imp_i fun h0 => ?_
  refine imp_i fun h1 => ?_
  refine all_i fun n1 => ?_
  refine imp_i fun h2 => ?_
  refine imp_i fun h3 => ?_
  refine imp_i fun h4 => ?_
  try simp only [sigCode, cCh, codePost, List.cons.injEq, DV.b.injEq, and_true, List.length_cons, List.length_nil] at h4
  refine req_i ?_ ?_
  · -- r0
   first | omega | assumption | grind
  refine req_i ?_ ?_
  · -- r1
   first | omega | assumption | grind
  refine req_i ?_ ?_
  · -- r2
   first | trivial | assumption | (simp only [sigBits, sigBitsR, iR, cB, bitsPost, List.cons.injEq, DV.b.injEq, and_true, List.length_cons, List.length_nil]; done) | ((try simp only [sigBits, sigBitsR, iR, cB, bitsPost, List.cons.injEq, DV.b.injEq, and_true, List.length_cons, List.length_nil]); first | omega | assumption | grind)
  refine all_i fun l2 => ?_
  refine imp_i fun h5 => ?_
  refine imp_i fun h6 => ?_
  refine all_i fun n3 => ?_
  refine imp_i fun h7 => ?_
  refine imp_i fun h8 => ?_
  refine imp_i fun h9 => ?_
  try simp only [Int.toNat_natCast, List.length_set, List.length_replicate, List.length_take, List.length_drop, List.length_append, List.length_cons, List.length_nil, Nat.min_self, List.take_take, lenCols_i, lenCols_b, List.drop_zero, List.take_length, Nat.add_eq, Nat.mul_eq, Nat.sub_eq, Nat.zero_add, Nat.sub_zero, Nat.mul_one] at h9
  have hb := ite_case h9
  have nb := @nG_bd n0
  refine bR_dec (fun h10 => ?_) (fun h10 => ?_)
  ·
   refine req_i ?_ ?_
   · -- r3
    first | omega | assumption | grind
   refine req_i ?_ ?_
   · -- r4
    first | omega | assumption | grind
   refine req_i ?_ ?_
   · -- r5
    obtain ⟨k1, k2, k3⟩ := hb.resolve_left (fun g => h10 g.2.1); exact code_no (fun g => k1 ⟨g.1, .inl rfl⟩) k2
   rfl
  ·
   obtain ⟨⟨ok, _⟩, _, e2⟩ := hb.resolve_right (fun g => h10 (by rw [g.2.1]; decide))
   have bl := bits_len (w := 1) ok (.inl rfl)
   rw [← e2] at bl
   refine bR_dec (fun h11 => ?_) (fun h11 => ?_)
   ·
    refine req_i ?_ ?_
    · -- r6
     exact code_no (fun g => by omega) rfl
    rfl
   ·
    refine bR_dec (fun h12 => ?_) (fun h12 => ?_)
    ·
     refine req_i ?_ ?_
     · -- r7
      exact code_no (fun g => by omega) rfl
     rfl
    ·
     refine req_i ?_ ?_
     · -- r8
      first | omega | assumption | grind
     refine req_i ?_ ?_
     · -- r9
      first | omega | assumption | grind
     refine req_i ?_ ?_
     · -- r10
      first | trivial | assumption | (simp only [sigBits, sigBitsR, iR, cB, bitsPost, List.cons.injEq, DV.b.injEq, and_true, List.length_cons, List.length_nil]; done) | ((try simp only [sigBits, sigBitsR, iR, cB, bitsPost, List.cons.injEq, DV.b.injEq, and_true, List.length_cons, List.length_nil]); first | omega | assumption | grind)
     refine all_i fun l4 => ?_
     refine imp_i fun h13 => ?_
     refine imp_i fun h14 => ?_
     refine all_i fun n5 => ?_
     refine imp_i fun h15 => ?_
     refine imp_i fun h16 => ?_
     refine imp_i fun h17 => ?_
     try simp only [Int.toNat_natCast, List.length_set, List.length_replicate, List.length_take, List.length_drop, List.length_append, List.length_cons, List.length_nil, Nat.min_self, List.take_take, lenCols_i, lenCols_b, List.drop_zero, List.take_length, Nat.add_eq, Nat.mul_eq, Nat.sub_eq, Nat.zero_add, Nat.sub_zero, Nat.mul_one] at h17
     obtain ⟨_, e4⟩ := (ite_case h17).resolve_right (fun g => g.1 ⟨ok, .inr rfl⟩) |>.2
     have bl4 := bits_len (w := 2) ok (.inr rfl)
     rw [← e4] at bl4
     refine req_i ?_ ?_
     · -- r11
      first | omega | ((try simp only [Nat.mul_eq]); first | done | omega | assumption | grind [getD_set, getD_rep, toNat_succ, cntN_yes, cntN_no])
     refine req_i ?_ ?_
     · -- r12
      first | omega | ((try simp only [Nat.zero_add]); first | done | omega | assumption | grind [getD_set, getD_rep, toNat_succ, cntN_yes, cntN_no])
     refine req_i ?_ ?_
     · -- r13
      first | omega | ((try simp only [List.length_take, List.take_length, List.take_take, Nat.min_self, List.length_drop, List.drop_zero, List.length_cons, List.length_nil]); first | done | omega | assumption | grind [getD_set, getD_rep, toNat_succ, cntN_yes, cntN_no])
     refine req_i ?_ ?_
     · -- r14
      first | assumption | exact rep_bd (by omega) (by omega) | exact set_bd (by assumption) (by omega) (by omega) | exact take_bd (by assumption) | ((try simp only [List.length_take, List.take_length, List.take_take, Nat.min_self, List.length_drop, List.drop_zero, List.length_cons, List.length_nil]); first | assumption | exact rep_bd (by omega) (by omega) | exact set_bd (by assumption) (by omega) (by omega) | exact take_bd (by assumption) | grind [getD_set, getD_rep, toNat_succ, cntN_yes, cntN_no])
     refine req_i ?_ ?_
     · -- r15
      first | omega | ((try simp only [Nat.mul_eq]); first | done | omega | assumption | grind [getD_set, getD_rep, toNat_succ, cntN_yes, cntN_no])
     refine req_i ?_ ?_
     · -- r16
      first | omega | ((try simp only [Nat.zero_add]); first | done | omega | assumption | grind [getD_set, getD_rep, toNat_succ, cntN_yes, cntN_no])
     refine req_i ?_ ?_
     · -- r17
      first | omega | ((try simp only [List.length_take, List.take_length, List.take_take, Nat.min_self, List.length_drop, List.drop_zero, List.length_cons, List.length_nil]); first | done | omega | assumption | grind [getD_set, getD_rep, toNat_succ, cntN_yes, cntN_no])
     refine req_i ?_ ?_
     · -- r18
      first | assumption | exact rep_bd (by omega) (by omega) | exact set_bd (by assumption) (by omega) (by omega) | exact take_bd (by assumption) | ((try simp only [List.length_take, List.take_length, List.take_take, Nat.min_self, List.length_drop, List.drop_zero, List.length_cons, List.length_nil]); first | assumption | exact rep_bd (by omega) (by omega) | exact set_bd (by assumption) (by omega) (by omega) | exact take_bd (by assumption) | grind [getD_set, getD_rep, toNat_succ, cntN_yes, cntN_no])
     refine req_i ?_ ?_
     · -- r19
      first | omega | assumption | grind
     refine req_i ?_ ?_
     · -- r20
      first | omega | assumption | grind
     refine req_i ?_ ?_
     · -- r21
      simp only [sigCodeF, codeFPre, List.drop_zero, List.take_length]; omega
     refine all_i fun l6 => ?_
     refine imp_i fun h18 => ?_
     refine imp_i fun h19 => ?_
     refine imp_i fun h20 => ?_
     try simp only [sigCodeF, cB, cCh, codeFPre, codeFPost, List.cons.injEq, DV.b.injEq, and_true, List.length_take, List.take_length, List.take_take, Nat.min_self, List.length_drop, List.drop_zero, List.length_cons, List.length_nil] at h20
     refine req_i ?_ ?_
     · -- r22
      first | omega | ((try simp only [Nat.mul_eq]); first | done | omega | assumption | grind [getD_set, getD_rep, toNat_succ, cntN_yes, cntN_no])
     refine req_i ?_ ?_
     · -- r23
      first | omega | ((try simp only [Nat.zero_add]); first | done | omega | assumption | grind [getD_set, getD_rep, toNat_succ, cntN_yes, cntN_no])
     refine req_i ?_ ?_
     · -- r24
      first | omega | ((try simp only [List.length_take, List.take_length, List.take_take, Nat.min_self, List.length_drop, List.drop_zero, List.length_cons, List.length_nil]); first | done | omega | assumption | grind [getD_set, getD_rep, toNat_succ, cntN_yes, cntN_no])
     refine req_i ?_ ?_
     · -- r25
      first | assumption | exact rep_bd (by omega) (by omega) | exact set_bd (by assumption) (by omega) (by omega) | exact take_bd (by assumption) | ((try simp only [List.length_take, List.take_length, List.take_take, Nat.min_self, List.length_drop, List.drop_zero, List.length_cons, List.length_nil]); first | assumption | exact rep_bd (by omega) (by omega) | exact set_bd (by assumption) (by omega) (by omega) | exact take_bd (by assumption) | grind [getD_set, getD_rep, toNat_succ, cntN_yes, cntN_no])
     refine req_i ?_ ?_
     · -- r26
      (try simp only [List.drop_zero, List.take_length]); exact code_yes ⟨ok, by omega, by omega⟩ rfl (by rw [h20, e2, e4]; rfl)
     rfl
theorem ext_code : ∀ p ∈ ([(13, Ext.ctr (ctOf sigBits)), (37, Ext.ctr (ctOf sigCodeF))] : List (Nat × Ext)), ExtRow Try.prog p.1 p.2 := by
  intro p hp
  simp only [List.mem_cons, List.not_mem_nil, or_false] at hp
  rcases hp with rfl | rfl
  · trivial
  · trivial
theorem cts_code : CtsOk Try.prog [(13, Ext.ctr (ctOf sigBits)), (37, Ext.ctr (ctOf sigCodeF))] := ctsOk_of (cs := [(13, sigBits), (37, sigCodeF)])
  (fun p hp => by
    simp only [List.mem_cons, List.not_mem_nil, or_false] at hp
    rcases hp with rfl | rfl
    · exact fn_bits
    · exact fn_codeF
)
  (fun f c h => by
    simp only [List.lookup_cons] at h
    repeat' split at h
    all_goals first | (cases h; done) | (rename_i e; have e := beq_iff_eq.1 e; subst e; cases h; refine ⟨_, ?_, rfl⟩; simp))
theorem fn_code : FnOk Try.prog 15 sigCode [] := fn_sound (by kernel_rfl) ext_code cts_code names vt_code
end Go.Proofs.Ytpmlodchbgfmeaa

namespace Go.Proofs.Ytpmlodchbgfmeaa
open Go.Ev Go.Sp
set_option maxRecDepth 100000
theorem vc_GoldThree : vcFn Try.prog [(3, Ext.ctr (ctOf sigTrue0)), (31, Ext.ctr (ctOf sigTurn)), (30, Ext.ctr (ctOf sigDeg)), (11, Ext.ctr (ctOf sigLen)), (15, Ext.ctr (ctOf sigCode))] (fun f p _ => at2 f p 9 32762 g3L (none)) [] 100 9 sigNG4 = (allB fun n0 : Int => 
impB ((-9223372036854775808 : Int) ≤ n0) (
impB (n0 ≤ (9223372036854775807 : Int)) (
allB fun n1 : Int => 
impB ((-9223372036854775808 : Int) ≤ n1) (
impB (n1 ≤ (9223372036854775807 : Int)) (
allB fun n2 : Int => 
impB ((-9223372036854775808 : Int) ≤ n2) (
impB (n2 ≤ (9223372036854775807 : Int)) (
allB fun n3 : Int => 
impB ((-9223372036854775808 : Int) ≤ n3) (
impB (n3 ≤ (9223372036854775807 : Int)) (
impB (sigNG4.pre [DV.n n0, DV.n n1, DV.n n2, DV.n n3]) (
reqB (sigTrue0.pre []) (
allB fun b4 : Bool => 
impB (sigTrue0.post [] [DV.b b4]) (
reqB ((-9223372036854775808 : Int) ≤ n0) (
reqB (n0 ≤ (9223372036854775807 : Int)) (
reqB (sigDeg.pre [DV.n n0]) (
allB fun n5 : Int => 
impB ((5 : Int) ≤ n5) (
impB (n5 ≤ (7 : Int)) (
impB (sigDeg.post [DV.n n0] [DV.n n5]) (
reqB ((-9223372036854775808 : Int) ≤ n5) (
reqB (n5 ≤ (9223372036854775807 : Int)) (
reqB (sigLen.pre [DV.n n5]) (
allB fun n6 : Int => 
impB ((0 : Int) ≤ n6) (
impB (n6 ≤ (1023 : Int)) (
allB fun n7 : Int => 
impB ((0 : Int) ≤ n7) (
impB (n7 ≤ (18 : Int)) (
impB (sigLen.post [DV.n n5] [DV.n n6, DV.n n7]) (
bR (dec (n7 ≠ (0 : Int))) (
 reqB (sigNG4.post [DV.n n0, DV.n n1, DV.n n2, DV.n n3] [DV.b Bool.false]) (
 true)) (
 bR (dec (n6 ≠ opI (SO.shl Go.IntKind.i64) (1 : Int) n5 - (1 : Int))) (
 reqB (sigNG4.post [DV.n n0, DV.n n1, DV.n n2, DV.n n3] [DV.b Bool.false]) (
 true)) (
 reqB ((-9223372036854775808 : Int) ≤ n1) (
 reqB (n1 ≤ (9223372036854775807 : Int)) (
 reqB ((1 : Int) ≤ opI (SO.shl Go.IntKind.i64) (1 : Int) n5 - (1 : Int) + (2 : Int)) (
 reqB (opI (SO.shl Go.IntKind.i64) (1 : Int) n5 - (1 : Int) + (2 : Int) ≤ (4000000000 : Int)) (
 reqB (sigTurn.pre
 [DV.n n1, DV.n (opI (SO.shl Go.IntKind.i64) (1 : Int) n5 - (1 : Int) + (2 : Int))]) (
 allB fun n8 : Int => 
 impB ((0 : Int) ≤ n8) (
 impB (n8 ≤ (4000000000 : Int)) (
 impB (sigTurn.post
 [DV.n n1, DV.n (opI (SO.shl Go.IntKind.i64) (1 : Int) n5 - (1 : Int) + (2 : Int))]
 [DV.n n8]) (
 reqB ((-9223372036854775808 : Int) ≤ n2) (
 reqB (n2 ≤ (9223372036854775807 : Int)) (
 reqB ((1 : Int) ≤ opI (SO.shl Go.IntKind.i64) (1 : Int) n5 - (1 : Int) + (2 : Int)) (
 reqB (opI (SO.shl Go.IntKind.i64) (1 : Int) n5 - (1 : Int) + (2 : Int) ≤ (4000000000 : Int)) (
 reqB (sigTurn.pre
 [DV.n n2, DV.n (opI (SO.shl Go.IntKind.i64) (1 : Int) n5 - (1 : Int) + (2 : Int))]) (
 allB fun n9 : Int => 
 impB ((0 : Int) ≤ n9) (
 impB (n9 ≤ (4000000000 : Int)) (
 impB (sigTurn.post
 [DV.n n2, DV.n (opI (SO.shl Go.IntKind.i64) (1 : Int) n5 - (1 : Int) + (2 : Int))]
 [DV.n n9]) (
 reqB ((-9223372036854775808 : Int) ≤ n3) (
 reqB (n3 ≤ (9223372036854775807 : Int)) (
 reqB ((1 : Int) ≤ opI (SO.shl Go.IntKind.i64) (1 : Int) n5 - (1 : Int)) (
 reqB (opI (SO.shl Go.IntKind.i64) (1 : Int) n5 - (1 : Int) ≤ (4000000000 : Int)) (
 reqB (sigTurn.pre [DV.n n3, DV.n (opI (SO.shl Go.IntKind.i64) (1 : Int) n5 - (1 : Int))]) (
 allB fun n10 : Int => 
 impB ((0 : Int) ≤ n10) (
 impB (n10 ≤ (4000000000 : Int)) (
 impB (sigTurn.post [DV.n n3, DV.n (opI (SO.shl Go.IntKind.i64) (1 : Int) n5 - (1 : Int))]
 [DV.n n10]) (
 reqB ((-9223372036854775808 : Int) ≤ n5) (
 reqB (n5 ≤ (9223372036854775807 : Int)) (
 reqB ((-9223372036854775808 : Int) ≤ (1 : Int) + n8) (
 reqB ((1 : Int) + n8 ≤ (9223372036854775807 : Int)) (
 reqB (sigCode.pre [DV.n n5, DV.n ((1 : Int) + n8)]) (
 allB fun l11 : List Int => 
 impB (l11.length ≤ (1100 : Nat)) (
 impB (∀ (y : Int), y ∈ l11 → (-1 : Int) ≤ y ∧ y ≤ (1 : Int)) (
 allB fun n12 : Int => 
 impB ((0 : Int) ≤ n12) (
 impB (n12 ≤ (18 : Int)) (
 impB (sigCode.post [DV.n n5, DV.n ((1 : Int) + n8)] [DV.l l11, DV.n n12]) (
 reqB ((-9223372036854775808 : Int) ≤ n5) (
 reqB (n5 ≤ (9223372036854775807 : Int)) (
 reqB ((-9223372036854775808 : Int) ≤ (1 : Int) + n9) (
 reqB ((1 : Int) + n9 ≤ (9223372036854775807 : Int)) (
 reqB (sigCode.pre [DV.n n5, DV.n ((1 : Int) + n9)]) (
 allB fun l13 : List Int => 
 impB (l13.length ≤ (1100 : Nat)) (
 impB (∀ (y : Int), y ∈ l13 → (-1 : Int) ≤ y ∧ y ≤ (1 : Int)) (
 allB fun n14 : Int => 
 impB ((0 : Int) ≤ n14) (
 impB (n14 ≤ (18 : Int)) (
 impB (sigCode.post [DV.n n5, DV.n ((1 : Int) + n9)] [DV.l l13, DV.n n14]) (
 bR (dec (n12 ≠ (0 : Int))) (
 reqB (sigNG4.post [DV.n n0, DV.n n1, DV.n n2, DV.n n3] [DV.b Bool.false]) (
 true)) (
 bR (dec (n14 ≠ (0 : Int))) (
 reqB (sigNG4.post [DV.n n0, DV.n n1, DV.n n2, DV.n n3] [DV.b Bool.false]) (
 true)) (
 bR (dec ((↑l11.length : Int) ≠ opI (SO.shl Go.IntKind.i64) (1 : Int) n5 - (1 : Int))) (
 reqB (sigNG4.post [DV.n n0, DV.n n1, DV.n n2, DV.n n3] [DV.b Bool.false]) (
 true)) (
 bR (dec ((↑l13.length : Int) ≠ opI (SO.shl Go.IntKind.i64) (1 : Int) n5 - (1 : Int))) (
 reqB (sigNG4.post [DV.n n0, DV.n n1, DV.n n2, DV.n n3] [DV.b Bool.false]) (
 true)) (
 reqB (((0 : Nat) + l11.length) * (1 : Nat) ≤ l11.length.mul (1 : Nat)) (
 reqB (l11.length ≤ (1100 : Nat)) (
 reqB ((List.take l11.length (List.drop (0 : Nat) l11)).length = l11.length) (
 reqB (∀ (y : Int), y ∈ List.take l11.length (List.drop (0 : Nat) l11) → (-1 : Int) ≤ y ∧ y ≤ (1 : Int)) (
 reqB (((0 : Nat) + l13.length) * (1 : Nat) ≤ l13.length.mul (1 : Nat)) (
 reqB (l13.length ≤ (1100 : Nat)) (
 reqB ((List.take l13.length (List.drop (0 : Nat) l13)).length = l13.length) (
 reqB (∀ (y : Int), y ∈ List.take l13.length (List.drop (0 : Nat) l13) → (-1 : Int) ≤ y ∧ y ≤ (1 : Int)) (
 reqB ((0 : Int) ≤ n10) (
 reqB (n10 ≤ (200 : Int)) (
 reqB ((31 : Int) ≤ opI (SO.shl Go.IntKind.i64) (1 : Int) n5 - (1 : Int)) (
 reqB (opI (SO.shl Go.IntKind.i64) (1 : Int) n5 - (1 : Int) ≤ (127 : Int)) (
 reqB (g3L.inv
 [DV.l (List.take l11.length (List.drop (0 : Nat) l11)),
 DV.l (List.take l13.length (List.drop (0 : Nat) l13)), DV.n n10,
 DV.n (opI (SO.shl Go.IntKind.i64) (1 : Int) n5 - (1 : Int))]
 [DV.n (0 : Int), DV.n (0 : Int)]) (
 allB fun n15 : Int => 
 impB ((0 : Int) ≤ n15) (
 impB (n15 ≤ (200 : Int)) (
 allB fun n16 : Int => 
 impB ((-200 : Int) ≤ n16) (
 impB (n16 ≤ (200 : Int)) (
 impB (g3L.inv
 [DV.l (List.take l11.length (List.drop (0 : Nat) l11)),
 DV.l (List.take l13.length (List.drop (0 : Nat) l13)), DV.n n10,
 DV.n (opI (SO.shl Go.IntKind.i64) (1 : Int) n5 - (1 : Int))]
 [DV.n n15, DV.n n16]) (
 bR (dec (n15 < opI (SO.shl Go.IntKind.i64) (1 : Int) n5 - (1 : Int))) (
 reqB (n15.toNat < l11.length) (
 reqB (Nat.add (0 : Nat) n15.toNat < l11.length) (
 bR (dec (l11.getD (Nat.add (0 : Nat) n15.toNat) (0 : Int) ≠ (1 : Int))) (
 reqB (n15.toNat < l11.length) (
 reqB (Nat.add (0 : Nat) n15.toNat < l11.length) (
 bR (dec (l11.getD (Nat.add (0 : Nat) n15.toNat) (0 : Int) ≠ (-1 : Int))) (
 reqB (sigNG4.post [DV.n n0, DV.n n1, DV.n n2, DV.n n3] [DV.b Bool.false]) (
 true)) (
 reqB (n15.toNat < l13.length) (
 reqB (Nat.add (0 : Nat) n15.toNat < l13.length) (
 bR (dec (l13.getD (Nat.add (0 : Nat) n15.toNat) (0 : Int) ≠ (1 : Int))) (
 reqB (n15.toNat < l13.length) (
 reqB (Nat.add (0 : Nat) n15.toNat < l13.length) (
 bR (dec (l13.getD (Nat.add (0 : Nat) n15.toNat) (0 : Int) ≠ (-1 : Int))) (
 reqB (sigNG4.post [DV.n n0, DV.n n1, DV.n n2, DV.n n3] [DV.b Bool.false]) (
 true)) (
 reqB (n15.toNat < l11.length) (
 reqB (Nat.add (0 : Nat) n15.toNat < l11.length) (
 reqB (((n15 + n10).tmod (opI (SO.shl Go.IntKind.i64) (1 : Int) n5 - (1 : Int))).toNat < l13.length) (
 reqB (Nat.add (0 : Nat) ((n15 + n10).tmod (opI (SO.shl Go.IntKind.i64) (1 : Int) n5 - (1 : Int))).toNat <
 l13.length) (
 bR (bR (dec (n5 = n5)) (
 bR (dec ((1 : Int) + n8 = (1 : Int) + n8)) (
 bR (dec ((1 : Int) + n9 = (1 : Int) + n9)) (
 bR (dec (n10 = n10)) (
 bR (bR (b4) (
 b4) (
 bR (b4) (
 false) (
 true))) (
 bR (dec (opI (SO.shl Go.IntKind.i64) (1 : Int) n5 - (1 : Int) =
 opI (SO.shl Go.IntKind.i64) (1 : Int) n5 - (1 : Int))) (
 bR (bR (dec ((0 : Nat) = (0 : Nat))) (
 dec (l11.length = l11.length)) (
 false)) (
 bR (bR (dec ((0 : Nat) = (0 : Nat))) (
 dec (l13.length = l13.length)) (
 false)) (
 true) (
 false)) (
 false)) (
 false)) (
 false)) (
 false)) (
 false)) (
 false)) (
 false)) (
 bR (bR (bR (dec (l11.length.mul (1 : Nat) = l11.length.mul (1 : Nat))) (
 dec ([Col.i Go.IntKind.i64 (-1 : Int) (1 : Int) l11] = [Col.i Go.IntKind.i64 (-1 : Int) (1 : Int) l11])) (
 false)) (
 bR (bR (dec (l13.length.mul (1 : Nat) = l13.length.mul (1 : Nat))) (
 dec ([Col.i Go.IntKind.i64 (-1 : Int) (1 : Int) l13] = [Col.i Go.IntKind.i64 (-1 : Int) (1 : Int) l13])) (
 false)) (
 true) (
 false)) (
 false)) (
 reqB ((0 : Int) ≤ n15 + (1 : Int)) (
 reqB (n15 + (1 : Int) ≤ (200 : Int)) (
 reqB ((-200 : Int) ≤
 n16 +
 l11.getD (Nat.add (0 : Nat) n15.toNat) (0 : Int) *
 l13.getD
 (Nat.add (0 : Nat) ((n15 + n10).tmod (opI (SO.shl Go.IntKind.i64) (1 : Int) n5 - (1 : Int))).toNat)
 (0 : Int)) (
 reqB (n16 +
 l11.getD (Nat.add (0 : Nat) n15.toNat) (0 : Int) *
 l13.getD
 (Nat.add (0 : Nat) ((n15 + n10).tmod (opI (SO.shl Go.IntKind.i64) (1 : Int) n5 - (1 : Int))).toNat)
 (0 : Int) ≤
 (200 : Int)) (
 reqB (g3L.inv
 [DV.l (List.take l11.length (List.drop (0 : Nat) l11)),
 DV.l (List.take l13.length (List.drop (0 : Nat) l13)), DV.n n10,
 DV.n (opI (SO.shl Go.IntKind.i64) (1 : Int) n5 - (1 : Int))]
 [DV.n (n15 + (1 : Int)),
 DV.n
 (n16 +
 l11.getD (Nat.add (0 : Nat) n15.toNat) (0 : Int) *
 l13.getD
 (Nat.add (0 : Nat)
 ((n15 + n10).tmod (opI (SO.shl Go.IntKind.i64) (1 : Int) n5 - (1 : Int))).toNat)
 (0 : Int))]) (
 reqB (g3L.mea
 [DV.l (List.take l11.length (List.drop (0 : Nat) l11)),
 DV.l (List.take l13.length (List.drop (0 : Nat) l13)), DV.n n10,
 DV.n (opI (SO.shl Go.IntKind.i64) (1 : Int) n5 - (1 : Int))]
 [DV.n (n15 + (1 : Int)),
 DV.n
 (n16 +
 l11.getD (Nat.add (0 : Nat) n15.toNat) (0 : Int) *
 l13.getD
 (Nat.add (0 : Nat)
 ((n15 + n10).tmod (opI (SO.shl Go.IntKind.i64) (1 : Int) n5 - (1 : Int))).toNat)
 (0 : Int))] <
 g3L.mea
 [DV.l (List.take l11.length (List.drop (0 : Nat) l11)),
 DV.l (List.take l13.length (List.drop (0 : Nat) l13)), DV.n n10,
 DV.n (opI (SO.shl Go.IntKind.i64) (1 : Int) n5 - (1 : Int))]
 [DV.n n15, DV.n n16]) (
 true))))))) (
 false)) (
 false))))))))) (
 reqB (n15.toNat < l11.length) (
 reqB (Nat.add (0 : Nat) n15.toNat < l11.length) (
 reqB (((n15 + n10).tmod (opI (SO.shl Go.IntKind.i64) (1 : Int) n5 - (1 : Int))).toNat < l13.length) (
 reqB (Nat.add (0 : Nat) ((n15 + n10).tmod (opI (SO.shl Go.IntKind.i64) (1 : Int) n5 - (1 : Int))).toNat <
 l13.length) (
 bR (bR (dec (n5 = n5)) (
 bR (dec ((1 : Int) + n8 = (1 : Int) + n8)) (
 bR (dec ((1 : Int) + n9 = (1 : Int) + n9)) (
 bR (dec (n10 = n10)) (
 bR (bR (b4) (
 b4) (
 bR (b4) (
 false) (
 true))) (
 bR (dec (opI (SO.shl Go.IntKind.i64) (1 : Int) n5 - (1 : Int) =
 opI (SO.shl Go.IntKind.i64) (1 : Int) n5 - (1 : Int))) (
 bR (bR (dec ((0 : Nat) = (0 : Nat))) (
 dec (l11.length = l11.length)) (
 false)) (
 bR (bR (dec ((0 : Nat) = (0 : Nat))) (
 dec (l13.length = l13.length)) (
 false)) (
 true) (
 false)) (
 false)) (
 false)) (
 false)) (
 false)) (
 false)) (
 false)) (
 false)) (
 bR (bR (bR (dec (l11.length.mul (1 : Nat) = l11.length.mul (1 : Nat))) (
 dec ([Col.i Go.IntKind.i64 (-1 : Int) (1 : Int) l11] = [Col.i Go.IntKind.i64 (-1 : Int) (1 : Int) l11])) (
 false)) (
 bR (bR (dec (l13.length.mul (1 : Nat) = l13.length.mul (1 : Nat))) (
 dec ([Col.i Go.IntKind.i64 (-1 : Int) (1 : Int) l13] = [Col.i Go.IntKind.i64 (-1 : Int) (1 : Int) l13])) (
 false)) (
 true) (
 false)) (
 false)) (
 reqB ((0 : Int) ≤ n15 + (1 : Int)) (
 reqB (n15 + (1 : Int) ≤ (200 : Int)) (
 reqB ((-200 : Int) ≤
 n16 +
 l11.getD (Nat.add (0 : Nat) n15.toNat) (0 : Int) *
 l13.getD
 (Nat.add (0 : Nat) ((n15 + n10).tmod (opI (SO.shl Go.IntKind.i64) (1 : Int) n5 - (1 : Int))).toNat)
 (0 : Int)) (
 reqB (n16 +
 l11.getD (Nat.add (0 : Nat) n15.toNat) (0 : Int) *
 l13.getD
 (Nat.add (0 : Nat) ((n15 + n10).tmod (opI (SO.shl Go.IntKind.i64) (1 : Int) n5 - (1 : Int))).toNat)
 (0 : Int) ≤
 (200 : Int)) (
 reqB (g3L.inv
 [DV.l (List.take l11.length (List.drop (0 : Nat) l11)),
 DV.l (List.take l13.length (List.drop (0 : Nat) l13)), DV.n n10,
 DV.n (opI (SO.shl Go.IntKind.i64) (1 : Int) n5 - (1 : Int))]
 [DV.n (n15 + (1 : Int)),
 DV.n
 (n16 +
 l11.getD (Nat.add (0 : Nat) n15.toNat) (0 : Int) *
 l13.getD
 (Nat.add (0 : Nat)
 ((n15 + n10).tmod (opI (SO.shl Go.IntKind.i64) (1 : Int) n5 - (1 : Int))).toNat)
 (0 : Int))]) (
 reqB (g3L.mea
 [DV.l (List.take l11.length (List.drop (0 : Nat) l11)),
 DV.l (List.take l13.length (List.drop (0 : Nat) l13)), DV.n n10,
 DV.n (opI (SO.shl Go.IntKind.i64) (1 : Int) n5 - (1 : Int))]
 [DV.n (n15 + (1 : Int)),
 DV.n
 (n16 +
 l11.getD (Nat.add (0 : Nat) n15.toNat) (0 : Int) *
 l13.getD
 (Nat.add (0 : Nat)
 ((n15 + n10).tmod (opI (SO.shl Go.IntKind.i64) (1 : Int) n5 - (1 : Int))).toNat)
 (0 : Int))] <
 g3L.mea
 [DV.l (List.take l11.length (List.drop (0 : Nat) l11)),
 DV.l (List.take l13.length (List.drop (0 : Nat) l13)), DV.n n10,
 DV.n (opI (SO.shl Go.IntKind.i64) (1 : Int) n5 - (1 : Int))]
 [DV.n n15, DV.n n16]) (
 true))))))) (
 false)) (
 false)))))))))))) (
 reqB (n15.toNat < l13.length) (
 reqB (Nat.add (0 : Nat) n15.toNat < l13.length) (
 bR (dec (l13.getD (Nat.add (0 : Nat) n15.toNat) (0 : Int) ≠ (1 : Int))) (
 reqB (n15.toNat < l13.length) (
 reqB (Nat.add (0 : Nat) n15.toNat < l13.length) (
 bR (dec (l13.getD (Nat.add (0 : Nat) n15.toNat) (0 : Int) ≠ (-1 : Int))) (
 reqB (sigNG4.post [DV.n n0, DV.n n1, DV.n n2, DV.n n3] [DV.b Bool.false]) (
 true)) (
 reqB (n15.toNat < l11.length) (
 reqB (Nat.add (0 : Nat) n15.toNat < l11.length) (
 reqB (((n15 + n10).tmod (opI (SO.shl Go.IntKind.i64) (1 : Int) n5 - (1 : Int))).toNat < l13.length) (
 reqB (Nat.add (0 : Nat) ((n15 + n10).tmod (opI (SO.shl Go.IntKind.i64) (1 : Int) n5 - (1 : Int))).toNat <
 l13.length) (
 bR (bR (dec (n5 = n5)) (
 bR (dec ((1 : Int) + n8 = (1 : Int) + n8)) (
 bR (dec ((1 : Int) + n9 = (1 : Int) + n9)) (
 bR (dec (n10 = n10)) (
 bR (bR (b4) (
 b4) (
 bR (b4) (
 false) (
 true))) (
 bR (dec (opI (SO.shl Go.IntKind.i64) (1 : Int) n5 - (1 : Int) =
 opI (SO.shl Go.IntKind.i64) (1 : Int) n5 - (1 : Int))) (
 bR (bR (dec ((0 : Nat) = (0 : Nat))) (
 dec (l11.length = l11.length)) (
 false)) (
 bR (bR (dec ((0 : Nat) = (0 : Nat))) (
 dec (l13.length = l13.length)) (
 false)) (
 true) (
 false)) (
 false)) (
 false)) (
 false)) (
 false)) (
 false)) (
 false)) (
 false)) (
 bR (bR (bR (dec (l11.length.mul (1 : Nat) = l11.length.mul (1 : Nat))) (
 dec ([Col.i Go.IntKind.i64 (-1 : Int) (1 : Int) l11] = [Col.i Go.IntKind.i64 (-1 : Int) (1 : Int) l11])) (
 false)) (
 bR (bR (dec (l13.length.mul (1 : Nat) = l13.length.mul (1 : Nat))) (
 dec ([Col.i Go.IntKind.i64 (-1 : Int) (1 : Int) l13] = [Col.i Go.IntKind.i64 (-1 : Int) (1 : Int) l13])) (
 false)) (
 true) (
 false)) (
 false)) (
 reqB ((0 : Int) ≤ n15 + (1 : Int)) (
 reqB (n15 + (1 : Int) ≤ (200 : Int)) (
 reqB ((-200 : Int) ≤
 n16 +
 l11.getD (Nat.add (0 : Nat) n15.toNat) (0 : Int) *
 l13.getD
 (Nat.add (0 : Nat) ((n15 + n10).tmod (opI (SO.shl Go.IntKind.i64) (1 : Int) n5 - (1 : Int))).toNat)
 (0 : Int)) (
 reqB (n16 +
 l11.getD (Nat.add (0 : Nat) n15.toNat) (0 : Int) *
 l13.getD
 (Nat.add (0 : Nat) ((n15 + n10).tmod (opI (SO.shl Go.IntKind.i64) (1 : Int) n5 - (1 : Int))).toNat)
 (0 : Int) ≤
 (200 : Int)) (
 reqB (g3L.inv
 [DV.l (List.take l11.length (List.drop (0 : Nat) l11)),
 DV.l (List.take l13.length (List.drop (0 : Nat) l13)), DV.n n10,
 DV.n (opI (SO.shl Go.IntKind.i64) (1 : Int) n5 - (1 : Int))]
 [DV.n (n15 + (1 : Int)),
 DV.n
 (n16 +
 l11.getD (Nat.add (0 : Nat) n15.toNat) (0 : Int) *
 l13.getD
 (Nat.add (0 : Nat)
 ((n15 + n10).tmod (opI (SO.shl Go.IntKind.i64) (1 : Int) n5 - (1 : Int))).toNat)
 (0 : Int))]) (
 reqB (g3L.mea
 [DV.l (List.take l11.length (List.drop (0 : Nat) l11)),
 DV.l (List.take l13.length (List.drop (0 : Nat) l13)), DV.n n10,
 DV.n (opI (SO.shl Go.IntKind.i64) (1 : Int) n5 - (1 : Int))]
 [DV.n (n15 + (1 : Int)),
 DV.n
 (n16 +
 l11.getD (Nat.add (0 : Nat) n15.toNat) (0 : Int) *
 l13.getD
 (Nat.add (0 : Nat)
 ((n15 + n10).tmod (opI (SO.shl Go.IntKind.i64) (1 : Int) n5 - (1 : Int))).toNat)
 (0 : Int))] <
 g3L.mea
 [DV.l (List.take l11.length (List.drop (0 : Nat) l11)),
 DV.l (List.take l13.length (List.drop (0 : Nat) l13)), DV.n n10,
 DV.n (opI (SO.shl Go.IntKind.i64) (1 : Int) n5 - (1 : Int))]
 [DV.n n15, DV.n n16]) (
 true))))))) (
 false)) (
 false))))))))) (
 reqB (n15.toNat < l11.length) (
 reqB (Nat.add (0 : Nat) n15.toNat < l11.length) (
 reqB (((n15 + n10).tmod (opI (SO.shl Go.IntKind.i64) (1 : Int) n5 - (1 : Int))).toNat < l13.length) (
 reqB (Nat.add (0 : Nat) ((n15 + n10).tmod (opI (SO.shl Go.IntKind.i64) (1 : Int) n5 - (1 : Int))).toNat <
 l13.length) (
 bR (bR (dec (n5 = n5)) (
 bR (dec ((1 : Int) + n8 = (1 : Int) + n8)) (
 bR (dec ((1 : Int) + n9 = (1 : Int) + n9)) (
 bR (dec (n10 = n10)) (
 bR (bR (b4) (
 b4) (
 bR (b4) (
 false) (
 true))) (
 bR (dec (opI (SO.shl Go.IntKind.i64) (1 : Int) n5 - (1 : Int) =
 opI (SO.shl Go.IntKind.i64) (1 : Int) n5 - (1 : Int))) (
 bR (bR (dec ((0 : Nat) = (0 : Nat))) (
 dec (l11.length = l11.length)) (
 false)) (
 bR (bR (dec ((0 : Nat) = (0 : Nat))) (
 dec (l13.length = l13.length)) (
 false)) (
 true) (
 false)) (
 false)) (
 false)) (
 false)) (
 false)) (
 false)) (
 false)) (
 false)) (
 bR (bR (bR (dec (l11.length.mul (1 : Nat) = l11.length.mul (1 : Nat))) (
 dec ([Col.i Go.IntKind.i64 (-1 : Int) (1 : Int) l11] = [Col.i Go.IntKind.i64 (-1 : Int) (1 : Int) l11])) (
 false)) (
 bR (bR (dec (l13.length.mul (1 : Nat) = l13.length.mul (1 : Nat))) (
 dec ([Col.i Go.IntKind.i64 (-1 : Int) (1 : Int) l13] = [Col.i Go.IntKind.i64 (-1 : Int) (1 : Int) l13])) (
 false)) (
 true) (
 false)) (
 false)) (
 reqB ((0 : Int) ≤ n15 + (1 : Int)) (
 reqB (n15 + (1 : Int) ≤ (200 : Int)) (
 reqB ((-200 : Int) ≤
 n16 +
 l11.getD (Nat.add (0 : Nat) n15.toNat) (0 : Int) *
 l13.getD
 (Nat.add (0 : Nat) ((n15 + n10).tmod (opI (SO.shl Go.IntKind.i64) (1 : Int) n5 - (1 : Int))).toNat)
 (0 : Int)) (
 reqB (n16 +
 l11.getD (Nat.add (0 : Nat) n15.toNat) (0 : Int) *
 l13.getD
 (Nat.add (0 : Nat) ((n15 + n10).tmod (opI (SO.shl Go.IntKind.i64) (1 : Int) n5 - (1 : Int))).toNat)
 (0 : Int) ≤
 (200 : Int)) (
 reqB (g3L.inv
 [DV.l (List.take l11.length (List.drop (0 : Nat) l11)),
 DV.l (List.take l13.length (List.drop (0 : Nat) l13)), DV.n n10,
 DV.n (opI (SO.shl Go.IntKind.i64) (1 : Int) n5 - (1 : Int))]
 [DV.n (n15 + (1 : Int)),
 DV.n
 (n16 +
 l11.getD (Nat.add (0 : Nat) n15.toNat) (0 : Int) *
 l13.getD
 (Nat.add (0 : Nat)
 ((n15 + n10).tmod (opI (SO.shl Go.IntKind.i64) (1 : Int) n5 - (1 : Int))).toNat)
 (0 : Int))]) (
 reqB (g3L.mea
 [DV.l (List.take l11.length (List.drop (0 : Nat) l11)),
 DV.l (List.take l13.length (List.drop (0 : Nat) l13)), DV.n n10,
 DV.n (opI (SO.shl Go.IntKind.i64) (1 : Int) n5 - (1 : Int))]
 [DV.n (n15 + (1 : Int)),
 DV.n
 (n16 +
 l11.getD (Nat.add (0 : Nat) n15.toNat) (0 : Int) *
 l13.getD
 (Nat.add (0 : Nat)
 ((n15 + n10).tmod (opI (SO.shl Go.IntKind.i64) (1 : Int) n5 - (1 : Int))).toNat)
 (0 : Int))] <
 g3L.mea
 [DV.l (List.take l11.length (List.drop (0 : Nat) l11)),
 DV.l (List.take l13.length (List.drop (0 : Nat) l13)), DV.n n10,
 DV.n (opI (SO.shl Go.IntKind.i64) (1 : Int) n5 - (1 : Int))]
 [DV.n n15, DV.n n16]) (
 true))))))) (
 false)) (
 false)))))))))))) (
 bR (dec (n5 = (6 : Int))) (
 bR (dec ((1 : Int) + n8 = (1 : Int) + n9)) (
 bR (dec (n10 = (0 : Int))) (
 bR (b4) (
 reqB (sigNG4.post [DV.n n0, DV.n n1, DV.n n2, DV.n n3]
 [DV.b (dec (n16 = opI (SO.shl Go.IntKind.i64) (1 : Int) n5 - (1 : Int)))]) (
 true)) (
 reqB (sigNG4.post [DV.n n0, DV.n n1, DV.n n2, DV.n n3] [DV.b Bool.false]) (
 true))) (
 bR (b4) (
 bR (dec (n16 = (-1 : Int))) (
 reqB (sigNG4.post [DV.n n0, DV.n n1, DV.n n2, DV.n n3] [DV.b Bool.true]) (
 true)) (
 bR (dec (n16 = Int.negSucc (16 : Nat))) (
 reqB (sigNG4.post [DV.n n0, DV.n n1, DV.n n2, DV.n n3] [DV.b Bool.true]) (
 true)) (
 reqB (sigNG4.post [DV.n n0, DV.n n1, DV.n n2, DV.n n3]
 [DV.b (dec (n16 = Int.ofNat (15 : Nat)))]) (
 true)))) (
 reqB (sigNG4.post [DV.n n0, DV.n n1, DV.n n2, DV.n n3] [DV.b Bool.false]) (
 true)))) (
 bR (b4) (
 bR (dec (n16 = (-1 : Int))) (
 reqB (sigNG4.post [DV.n n0, DV.n n1, DV.n n2, DV.n n3] [DV.b Bool.true]) (
 true)) (
 bR (dec (n16 = Int.negSucc (16 : Nat))) (
 reqB (sigNG4.post [DV.n n0, DV.n n1, DV.n n2, DV.n n3] [DV.b Bool.true]) (
 true)) (
 reqB (sigNG4.post [DV.n n0, DV.n n1, DV.n n2, DV.n n3]
 [DV.b (dec (n16 = Int.ofNat (15 : Nat)))]) (
 true)))) (
 reqB (sigNG4.post [DV.n n0, DV.n n1, DV.n n2, DV.n n3] [DV.b Bool.false]) (
 true)))) (
 bR (dec ((1 : Int) + n8 = (1 : Int) + n9)) (
 bR (dec (n10 = (0 : Int))) (
 bR (b4) (
 reqB (sigNG4.post [DV.n n0, DV.n n1, DV.n n2, DV.n n3]
 [DV.b (dec (n16 = opI (SO.shl Go.IntKind.i64) (1 : Int) n5 - (1 : Int)))]) (
 true)) (
 reqB (sigNG4.post [DV.n n0, DV.n n1, DV.n n2, DV.n n3] [DV.b Bool.false]) (
 true))) (
 bR (b4) (
 bR (dec (n16 = (-1 : Int))) (
 reqB (sigNG4.post [DV.n n0, DV.n n1, DV.n n2, DV.n n3] [DV.b Bool.true]) (
 true)) (
 bR (dec (n16 = (0 : Int) - (opI (SO.shl Go.IntKind.i64) (1 : Int) ((n5 + (1 : Int)).tdiv (2 : Int)) + (1 : Int)))) (
 reqB (sigNG4.post [DV.n n0, DV.n n1, DV.n n2, DV.n n3] [DV.b Bool.true]) (
 true)) (
 reqB (sigNG4.post [DV.n n0, DV.n n1, DV.n n2, DV.n n3]
 [DV.b
 (dec
 (n16 =
 opI (SO.shl Go.IntKind.i64) (1 : Int) ((n5 + (1 : Int)).tdiv (2 : Int)) + (1 : Int) - (2 : Int)))]) (
 true)))) (
 reqB (sigNG4.post [DV.n n0, DV.n n1, DV.n n2, DV.n n3] [DV.b Bool.false]) (
 true)))) (
 bR (b4) (
 bR (dec (n16 = (-1 : Int))) (
 reqB (sigNG4.post [DV.n n0, DV.n n1, DV.n n2, DV.n n3] [DV.b Bool.true]) (
 true)) (
 bR (dec (n16 = (0 : Int) - (opI (SO.shl Go.IntKind.i64) (1 : Int) ((n5 + (1 : Int)).tdiv (2 : Int)) + (1 : Int)))) (
 reqB (sigNG4.post [DV.n n0, DV.n n1, DV.n n2, DV.n n3] [DV.b Bool.true]) (
 true)) (
 reqB (sigNG4.post [DV.n n0, DV.n n1, DV.n n2, DV.n n3]
 [DV.b
 (dec
 (n16 =
 opI (SO.shl Go.IntKind.i64) (1 : Int) ((n5 + (1 : Int)).tdiv (2 : Int)) + (1 : Int) - (2 : Int)))]) (
 true)))) (
 reqB (sigNG4.post [DV.n n0, DV.n n1, DV.n n2, DV.n n3] [DV.b Bool.false]) (
 true))))))))))))))))))))))))))))))))))))))))))))))))))))))))))))))))))))))))))))))))))))))))))))))))))) := by kernel_rfl
set_option maxHeartbeats 8000000 in
theorem vt_GoldThree : vcFn Try.prog [(3, Ext.ctr (ctOf sigTrue0)), (31, Ext.ctr (ctOf sigTurn)), (30, Ext.ctr (ctOf sigDeg)), (11, Ext.ctr (ctOf sigLen)), (15, Ext.ctr (ctOf sigCode))] (fun f p _ => at2 f p 9 32762 g3L (none)) [] 100 9 sigNG4 = true := by
  rw [vc_GoldThree]
  try simp only [Int.toNat_natCast, List.length_set, List.length_replicate, List.length_take, List.length_drop, List.length_append, List.length_cons, List.length_nil, Nat.min_self, List.take_take, lenCols_i, lenCols_b, List.drop_zero, List.take_length, Nat.add_eq, Nat.mul_eq, Nat.sub_eq, Nat.zero_add, Nat.sub_zero, Nat.mul_one]
  refine all_i fun n0 => ?_
  refine imp_i fun h0 => ?_
  refine imp_i fun h1 => ?_
  refine all_i fun n1 => ?_
  refine imp_i fun h2 => ?_
  refine imp_i fun h3 => ?_
  refine all_i fun n2 => ?_
  refine imp_i fun h4 => ?_
  refine imp_i fun h5 => ?_
  refine all_i fun n3 => ?_
  refine imp_i fun h6 => ?_
  refine imp_i fun h7 => ?_
  refine imp_i fun h8 => ?_
  try simp only [sigNG4, sigNG, List.cons.injEq, DV.b.injEq, and_true, List.length_cons, List.length_nil] at h8
  refine req_i ?_ ?_
  · -- r0
   first | omega | assumption | grind
  refine all_i fun b4 => ?_
  refine imp_i fun h9 => ?_
  try simp only [sigTrue0, List.cons.injEq, DV.b.injEq, and_true, List.length_cons, List.length_nil] at h9
  refine req_i ?_ ?_
  · -- r1
   first | omega | assumption | grind
  refine req_i ?_ ?_
  · -- r2
   first | omega | assumption | grind
  refine req_i ?_ ?_
  · -- r3
   first | trivial | assumption | (simp only [sigDeg, degPost, List.cons.injEq, DV.b.injEq, and_true, List.length_cons, List.length_nil]; done) | ((try simp only [sigDeg, degPost, List.cons.injEq, DV.b.injEq, and_true, List.length_cons, List.length_nil]); first | omega | assumption | grind)
  refine all_i fun n5 => ?_
  refine imp_i fun h10 => ?_
  refine imp_i fun h11 => ?_
  refine imp_i fun h12 => ?_
  try simp only [sigDeg, degPost, List.cons.injEq, DV.b.injEq, and_true, List.length_cons, List.length_nil] at h12
  have od := okT_of h10 h11
  have sg := shlG od
  have nt := nT_bd od
  refine req_i ?_ ?_
  · -- r4
   first | omega | assumption | grind
  refine req_i ?_ ?_
  · -- r5
   first | omega | assumption | grind
  refine req_i ?_ ?_
  · -- r6
   first | trivial | assumption | (simp only [sigLen, sigLenR, iR, lenPost, List.cons.injEq, DV.b.injEq, and_true, List.length_cons, List.length_nil]; done) | ((try simp only [sigLen, sigLenR, iR, lenPost, List.cons.injEq, DV.b.injEq, and_true, List.length_cons, List.length_nil]); first | omega | assumption | grind)
  refine all_i fun n6 => ?_
  refine imp_i fun h13 => ?_
  refine imp_i fun h14 => ?_
  refine all_i fun n7 => ?_
  refine imp_i fun h15 => ?_
  refine imp_i fun h16 => ?_
  refine imp_i fun h17 => ?_
  try simp only [Int.toNat_natCast, List.length_set, List.length_replicate, List.length_take, List.length_drop, List.length_append, List.length_cons, List.length_nil, Nat.min_self, List.take_take, lenCols_i, lenCols_b, List.drop_zero, List.take_length, Nat.add_eq, Nat.mul_eq, Nat.sub_eq, Nat.zero_add, Nat.sub_zero, Nat.mul_one] at h17
  obtain ⟨_, e7, e6⟩ := (ite_case h17).resolve_right (fun g => g.1 (okT_D od))
  refine bR_dec (fun h18 => ?_) (fun h18 => ?_)
  ·
   refine req_i ?_ ?_
   · -- r7
    first | omega | ((try simp only [sigNG4, sigNG, List.cons.injEq, DV.b.injEq, and_true, List.length_cons, List.length_nil]); first | done | omega | assumption | grind [getD_set, getD_rep, toNat_succ, cntN_yes, cntN_no])
   rfl
  ·
   refine bR_dec (fun h19 => ?_) (fun h19 => ?_)
   ·
    refine req_i ?_ ?_
    · -- r8
     first | omega | ((try simp only [sigNG4, sigNG, List.cons.injEq, DV.b.injEq, and_true, List.length_cons, List.length_nil]); first | done | omega | assumption | grind [getD_set, getD_rep, toNat_succ, cntN_yes, cntN_no])
    rfl
   ·
    refine req_i ?_ ?_
    · -- r9
     first | omega | assumption | grind
    refine req_i ?_ ?_
    · -- r10
     first | omega | assumption | grind
    refine req_i ?_ ?_
    · -- r11
     first | omega | assumption | grind
    refine req_i ?_ ?_
    · -- r12
     first | omega | assumption | grind
    refine req_i ?_ ?_
    · -- r13
     first | omega | ((try simp only [sigTurn, pickGP, List.cons.injEq, DV.b.injEq, and_true, List.length_cons, List.length_nil]); first | done | omega | assumption | grind [getD_set, getD_rep, toNat_succ, cntN_yes, cntN_no])
    refine all_i fun n8 => ?_
    refine imp_i fun h20 => ?_
    refine imp_i fun h21 => ?_
    refine imp_i fun h22 => ?_
    try simp only [sigTurn, pickGP, List.cons.injEq, DV.b.injEq, and_true, List.length_cons, List.length_nil] at h22
    rw [sg] at h22
    have a8 := Int.emod_nonneg n1 (b := nG n5 + 1 - 1 + 2) (by omega)
    have b8 := Int.emod_lt_of_pos n1 (b := nG n5 + 1 - 1 + 2) (by omega)
    refine req_i ?_ ?_
    · -- r14
     first | omega | assumption | grind
    refine req_i ?_ ?_
    · -- r15
     first | omega | assumption | grind
    refine req_i ?_ ?_
    · -- r16
     first | omega | assumption | grind
    refine req_i ?_ ?_
    · -- r17
     first | omega | assumption | grind
    refine req_i ?_ ?_
    · -- r18
     first | omega | ((try simp only [sigTurn, pickGP, List.cons.injEq, DV.b.injEq, and_true, List.length_cons, List.length_nil]); first | done | omega | assumption | grind [getD_set, getD_rep, toNat_succ, cntN_yes, cntN_no])
    refine all_i fun n9 => ?_
    refine imp_i fun h23 => ?_
    refine imp_i fun h24 => ?_
    refine imp_i fun h25 => ?_
    try simp only [sigTurn, pickGP, List.cons.injEq, DV.b.injEq, and_true, List.length_cons, List.length_nil] at h25
    rw [sg] at h25
    have a9 := Int.emod_nonneg n2 (b := nG n5 + 1 - 1 + 2) (by omega)
    have b9 := Int.emod_lt_of_pos n2 (b := nG n5 + 1 - 1 + 2) (by omega)
    refine req_i ?_ ?_
    · -- r19
     first | omega | assumption | grind
    refine req_i ?_ ?_
    · -- r20
     first | omega | assumption | grind
    refine req_i ?_ ?_
    · -- r21
     first | omega | assumption | grind
    refine req_i ?_ ?_
    · -- r22
     first | omega | assumption | grind
    refine req_i ?_ ?_
    · -- r23
     first | trivial | assumption | (simp only [sigTurn, pickGP, List.cons.injEq, DV.b.injEq, and_true, List.length_cons, List.length_nil]; done) | ((try simp only [sigTurn, pickGP, List.cons.injEq, DV.b.injEq, and_true, List.length_cons, List.length_nil]); first | omega | assumption | grind)
    refine all_i fun n10 => ?_
    refine imp_i fun h26 => ?_
    refine imp_i fun h27 => ?_
    refine imp_i fun h28 => ?_
    try simp only [sigTurn, pickGP, List.cons.injEq, DV.b.injEq, and_true, List.length_cons, List.length_nil] at h28
    rw [sg] at h28
    have a10 := Int.emod_nonneg n3 (b := nG n5 + 1 - 1) (by omega)
    have b10 := Int.emod_lt_of_pos n3 (b := nG n5 + 1 - 1) (by omega)
    refine req_i ?_ ?_
    · -- r24
     first | omega | assumption | grind
    refine req_i ?_ ?_
    · -- r25
     first | omega | assumption | grind
    refine req_i ?_ ?_
    · -- r26
     first | omega | assumption | grind
    refine req_i ?_ ?_
    · -- r27
     first | omega | assumption | grind
    refine req_i ?_ ?_
    · -- r28
     first | trivial | assumption | (simp only [sigCode, cCh, codePost, List.cons.injEq, DV.b.injEq, and_true, List.length_cons, List.length_nil]; done) | ((try simp only [sigCode, cCh, codePost, List.cons.injEq, DV.b.injEq, and_true, List.length_cons, List.length_nil]); first | omega | assumption | grind)
    refine all_i fun l11 => ?_
    refine imp_i fun h29 => ?_
    refine imp_i fun h30 => ?_
    refine all_i fun n12 => ?_
    refine imp_i fun h31 => ?_
    refine imp_i fun h32 => ?_
    refine imp_i fun h33 => ?_
    try simp only [Int.toNat_natCast, List.length_set, List.length_replicate, List.length_take, List.length_drop, List.length_append, List.length_cons, List.length_nil, Nat.min_self, List.take_take, lenCols_i, lenCols_b, List.drop_zero, List.take_length, Nat.add_eq, Nat.mul_eq, Nat.sub_eq, Nat.zero_add, Nat.sub_zero, Nat.mul_one] at h33
    obtain ⟨_, e12, c11⟩ := (ite_case h33).resolve_right (fun g => g.1 ⟨okT_D od, by omega, by omega⟩)
    have k11 := len_code (p := 1 + n8) (okT_D od)
    rw [← c11] at k11
    refine req_i ?_ ?_
    · -- r29
     first | omega | assumption | grind
    refine req_i ?_ ?_
    · -- r30
     first | omega | assumption | grind
    refine req_i ?_ ?_
    · -- r31
     first | omega | assumption | grind
    refine req_i ?_ ?_
    · -- r32
     first | omega | assumption | grind
    refine req_i ?_ ?_
    · -- r33
     first | trivial | assumption | (simp only [sigCode, cCh, codePost, List.cons.injEq, DV.b.injEq, and_true, List.length_cons, List.length_nil]; done) | ((try simp only [sigCode, cCh, codePost, List.cons.injEq, DV.b.injEq, and_true, List.length_cons, List.length_nil]); first | omega | assumption | grind)
    refine all_i fun l13 => ?_
    refine imp_i fun h34 => ?_
    refine imp_i fun h35 => ?_
    refine all_i fun n14 => ?_
    refine imp_i fun h36 => ?_
    refine imp_i fun h37 => ?_
    refine imp_i fun h38 => ?_
    try simp only [Int.toNat_natCast, List.length_set, List.length_replicate, List.length_take, List.length_drop, List.length_append, List.length_cons, List.length_nil, Nat.min_self, List.take_take, lenCols_i, lenCols_b, List.drop_zero, List.take_length, Nat.add_eq, Nat.mul_eq, Nat.sub_eq, Nat.zero_add, Nat.sub_zero, Nat.mul_one] at h38
    obtain ⟨_, e14, c13⟩ := (ite_case h38).resolve_right (fun g => g.1 ⟨okT_D od, by omega, by omega⟩)
    have k13 := len_code (p := 1 + n9) (okT_D od)
    rw [← c13] at k13
    refine bR_dec (fun h39 => ?_) (fun h39 => ?_)
    ·
     refine req_i ?_ ?_
     · -- r34
      first | omega | ((try simp only [sigNG4, sigNG, List.cons.injEq, DV.b.injEq, and_true, List.length_cons, List.length_nil]); first | done | omega | assumption | grind [getD_set, getD_rep, toNat_succ, cntN_yes, cntN_no])
     rfl
    ·
     refine bR_dec (fun h40 => ?_) (fun h40 => ?_)
     ·
      refine req_i ?_ ?_
      · -- r35
       first | omega | ((try simp only [sigNG4, sigNG, List.cons.injEq, DV.b.injEq, and_true, List.length_cons, List.length_nil]); first | done | omega | assumption | grind [getD_set, getD_rep, toNat_succ, cntN_yes, cntN_no])
      rfl
     ·
      refine bR_dec (fun h41 => ?_) (fun h41 => ?_)
      ·
       refine req_i ?_ ?_
       · -- r36
        first | omega | ((try simp only [sigNG4, sigNG, List.cons.injEq, DV.b.injEq, and_true, List.length_cons, List.length_nil]); first | done | omega | assumption | grind [getD_set, getD_rep, toNat_succ, cntN_yes, cntN_no])
       rfl
      ·
       refine bR_dec (fun h42 => ?_) (fun h42 => ?_)
       ·
        refine req_i ?_ ?_
        · -- r37
         first | omega | ((try simp only [sigNG4, sigNG, List.cons.injEq, DV.b.injEq, and_true, List.length_cons, List.length_nil]); first | done | omega | assumption | grind [getD_set, getD_rep, toNat_succ, cntN_yes, cntN_no])
        rfl
       ·
        refine req_i ?_ ?_
        · -- r38
         first | omega | ((try simp only [Nat.mul_eq]); first | done | omega | assumption | grind [getD_set, getD_rep, toNat_succ, cntN_yes, cntN_no])
        refine req_i ?_ ?_
        · -- r39
         first | omega | ((try simp only [Nat.zero_add]); first | done | omega | assumption | grind [getD_set, getD_rep, toNat_succ, cntN_yes, cntN_no])
        refine req_i ?_ ?_
        · -- r40
         first | omega | ((try simp only [List.length_take, List.take_length, List.take_take, Nat.min_self, List.length_drop, List.drop_zero, List.length_cons, List.length_nil]); first | done | omega | assumption | grind [getD_set, getD_rep, toNat_succ, cntN_yes, cntN_no])
        refine req_i ?_ ?_
        · -- r41
         first | assumption | exact rep_bd (by omega) (by omega) | exact set_bd (by assumption) (by omega) (by omega) | exact take_bd (by assumption) | ((try simp only [List.length_take, List.take_length, List.take_take, Nat.min_self, List.length_drop, List.drop_zero, List.length_cons, List.length_nil]); first | assumption | exact rep_bd (by omega) (by omega) | exact set_bd (by assumption) (by omega) (by omega) | exact take_bd (by assumption) | grind [getD_set, getD_rep, toNat_succ, cntN_yes, cntN_no])
        refine req_i ?_ ?_
        · -- r42
         first | omega | ((try simp only [Nat.mul_eq]); first | done | omega | assumption | grind [getD_set, getD_rep, toNat_succ, cntN_yes, cntN_no])
        refine req_i ?_ ?_
        · -- r43
         first | omega | ((try simp only [Nat.zero_add]); first | done | omega | assumption | grind [getD_set, getD_rep, toNat_succ, cntN_yes, cntN_no])
        refine req_i ?_ ?_
        · -- r44
         first | omega | ((try simp only [List.length_take, List.take_length, List.take_take, Nat.min_self, List.length_drop, List.drop_zero, List.length_cons, List.length_nil]); first | done | omega | assumption | grind [getD_set, getD_rep, toNat_succ, cntN_yes, cntN_no])
        refine req_i ?_ ?_
        · -- r45
         first | assumption | exact rep_bd (by omega) (by omega) | exact set_bd (by assumption) (by omega) (by omega) | exact take_bd (by assumption) | ((try simp only [List.length_take, List.take_length, List.take_take, Nat.min_self, List.length_drop, List.drop_zero, List.length_cons, List.length_nil]); first | assumption | exact rep_bd (by omega) (by omega) | exact set_bd (by assumption) (by omega) (by omega) | exact take_bd (by assumption) | grind [getD_set, getD_rep, toNat_succ, cntN_yes, cntN_no])
        refine req_i ?_ ?_
        · -- r46
         first | omega | assumption | grind
        refine req_i ?_ ?_
        · -- r47
         first | omega | assumption | grind
        refine req_i ?_ ?_
        · -- r48
         first | omega | assumption | grind
        refine req_i ?_ ?_
        · -- r49
         first | omega | assumption | grind
        refine req_i ?_ ?_
        · -- r50
         exact ⟨by omega, by omega, rfl⟩
        refine all_i fun n15 => ?_
        refine imp_i fun h43 => ?_
        refine imp_i fun h44 => ?_
        refine all_i fun n16 => ?_
        refine imp_i fun h45 => ?_
        refine imp_i fun h46 => ?_
        refine imp_i fun h47 => ?_
        try simp only [g3L, cC2, g3Inv, mea4n, List.cons.injEq, DV.b.injEq, and_true, List.length_take, List.take_length, List.take_take, Nat.min_self, List.length_drop, List.drop_zero, List.length_cons, List.length_nil] at h47
        refine bR_dec (fun h48 => ?_) (fun h48 => ?_)
        ·
         have sb := sumR_c2 (k := n10) (n := n15.toNat) h30 h35
         have sb' := sumR_c2 (k := n10) (n := (n15 + 1).toNat) h30 h35
         have sn := sumR_next (f := fun j => su l11 j * su l13 (j + n10)) (i := n15) (by omega)
         have tm := tmod_nn (a := n15 + n10) (b := opI (.shl .i64) 1 n5 - 1) (by omega)
         have tb := Int.emod_nonneg (n15 + n10) (b := opI (.shl .i64) 1 n5 - 1) (by omega)
         have tb' := Int.emod_lt_of_pos (n15 + n10) (b := opI (.shl .i64) 1 n5 - 1) (by omega)
         have i11 := su_int (l := l11) (i := n15) (by omega) (by omega)
         have i13 := su_int (l := l13) (i := n15) (by omega) (by omega)
         have pm11 := code_pm (p := 1 + n8) od (by omega) n15
         have pm13 := code_pm (p := 1 + n9) od (by omega) n15
         rw [← c11, ← i11] at pm11
         rw [← c13, ← i13] at pm13
         have pr : n16 + l11.getD n15.toNat 0 * l13.getD ((n15 + n10).tmod (opI (.shl .i64) 1 n5 - 1)).toNat 0 = sumR (fun j => su l11 j * su l13 (j + n10)) (n15 + 1).toNat := by rw [i11, su_tmod (by omega) (by omega), sn, ← h47.2.2]
         refine req_i ?_ ?_
         · -- r51
          first | omega | ((try simp only [Int.toNat_natCast, List.length_cons, List.length_nil]); first | done | omega | assumption | grind [getD_set, getD_rep, toNat_succ, cntN_yes, cntN_no])
         refine req_i ?_ ?_
         · -- r52
          first | omega | ((try simp only [Int.toNat_natCast, List.length_cons, List.length_nil, Nat.add_eq, Nat.zero_add]); first | done | omega | assumption | grind [getD_set, getD_rep, toNat_succ, cntN_yes, cntN_no])
         refine bR_dec (fun h49 => ?_) (fun h49 => ?_)
         ·
          refine req_i ?_ ?_
          · -- r53
           first | omega | ((try simp only [Int.toNat_natCast, List.length_cons, List.length_nil]); first | done | omega | assumption | grind [getD_set, getD_rep, toNat_succ, cntN_yes, cntN_no])
          refine req_i ?_ ?_
          · -- r54
           first | omega | ((try simp only [Int.toNat_natCast, List.length_cons, List.length_nil, Nat.add_eq, Nat.zero_add]); first | done | omega | assumption | grind [getD_set, getD_rep, toNat_succ, cntN_yes, cntN_no])
          refine bR_dec (fun h50 => ?_) (fun h50 => ?_)
          ·
           refine req_i ?_ ?_
           · -- r55
            first | omega | ((try simp only [sigNG4, sigNG, List.cons.injEq, DV.b.injEq, and_true, List.length_cons, List.length_nil]); first | done | omega | assumption | grind [getD_set, getD_rep, toNat_succ, cntN_yes, cntN_no])
           rfl
          ·
           refine req_i ?_ ?_
           · -- r56
            first | omega | ((try simp only [Int.toNat_natCast, List.length_cons, List.length_nil]); first | done | omega | assumption | grind [getD_set, getD_rep, toNat_succ, cntN_yes, cntN_no])
           refine req_i ?_ ?_
           · -- r57
            first | omega | ((try simp only [Int.toNat_natCast, List.length_cons, List.length_nil, Nat.add_eq, Nat.zero_add]); first | done | omega | assumption | grind [getD_set, getD_rep, toNat_succ, cntN_yes, cntN_no])
           refine bR_dec (fun h51 => ?_) (fun h51 => ?_)
           ·
            refine req_i ?_ ?_
            · -- r58
             first | omega | ((try simp only [Int.toNat_natCast, List.length_cons, List.length_nil]); first | done | omega | assumption | grind [getD_set, getD_rep, toNat_succ, cntN_yes, cntN_no])
            refine req_i ?_ ?_
            · -- r59
             first | omega | ((try simp only [Int.toNat_natCast, List.length_cons, List.length_nil, Nat.add_eq, Nat.zero_add]); first | done | omega | assumption | grind [getD_set, getD_rep, toNat_succ, cntN_yes, cntN_no])
            refine bR_dec (fun h52 => ?_) (fun h52 => ?_)
            ·
             refine req_i ?_ ?_
             · -- r60
              first | omega | ((try simp only [sigNG4, sigNG, List.cons.injEq, DV.b.injEq, and_true, List.length_cons, List.length_nil]); first | done | omega | assumption | grind [getD_set, getD_rep, toNat_succ, cntN_yes, cntN_no])
             rfl
            ·
             refine req_i ?_ ?_
             · -- r61
              first | omega | ((try simp only [Int.toNat_natCast, List.length_cons, List.length_nil]); first | done | omega | assumption | grind [getD_set, getD_rep, toNat_succ, cntN_yes, cntN_no])
             refine req_i ?_ ?_
             · -- r62
              first | omega | ((try simp only [Int.toNat_natCast, List.length_cons, List.length_nil, Nat.add_eq, Nat.zero_add]); first | done | omega | assumption | grind [getD_set, getD_rep, toNat_succ, cntN_yes, cntN_no])
             refine req_i ?_ ?_
             · -- r63
              first | omega | ((try simp only [Int.toNat_natCast, List.length_cons, List.length_nil]); first | done | omega | assumption | grind [getD_set, getD_rep, toNat_succ, cntN_yes, cntN_no])
             refine req_i ?_ ?_
             · -- r64
              first | omega | ((try simp only [Int.toNat_natCast, List.length_cons, List.length_nil, Nat.add_eq, Nat.zero_add]); first | done | omega | assumption | grind [getD_set, getD_rep, toNat_succ, cntN_yes, cntN_no])
             refine bR_t ?_ ?_
             · -- g0
              first | rfl | (simp only [bR_iff, bR_iff_f, dec_iff, dec_f, beqB_iff', andB_iff', reduceCtorEq, imp_self, false_implies, and_true, true_and, implies_true, and_self]; done) | (simp [bR_iff, dec_iff, beqB_iff', andB_iff']; done) | (simp [bR_iff, dec_iff, beqB_iff', andB_iff']; omega)
             refine bR_t ?_ ?_
             · -- g1
              first | rfl | (simp only [bR_iff, bR_iff_f, dec_iff, dec_f, beqB_iff', andB_iff', reduceCtorEq, imp_self, false_implies, and_true, true_and, implies_true, and_self]; done) | (simp [bR_iff, dec_iff, beqB_iff', andB_iff']; done) | (simp [bR_iff, dec_iff, beqB_iff', andB_iff']; omega)
             refine req_i ?_ ?_
             · -- r65
              first | omega | assumption | grind
             refine req_i ?_ ?_
             · -- r66
              first | omega | assumption | grind
             refine req_i ?_ ?_
             · -- r67
              (try simp only [Nat.add_eq, Nat.zero_add]); rw [pr]; omega
             refine req_i ?_ ?_
             · -- r68
              (try simp only [Nat.add_eq, Nat.zero_add]); rw [pr]; omega
             refine req_i ?_ ?_
             · -- r69
              simp only [g3L, g3Inv, List.drop_zero, List.take_length, Nat.add_eq, Nat.zero_add]; exact ⟨by omega, by omega, pr⟩
             refine req_i ?_ ?_
             · -- r70
              first | omega | ((try simp only [g3L, cC2, g3Inv, mea4n, List.cons.injEq, DV.b.injEq, and_true, Int.toNat_natCast, List.length_take, List.take_length, List.take_take, Nat.min_self, List.length_drop, List.drop_zero, List.length_cons, List.length_nil, Nat.add_eq, Nat.zero_add]); first | done | omega | assumption | grind [getD_set, getD_rep, toNat_succ, cntN_yes, cntN_no])
             rfl
           ·
            refine req_i ?_ ?_
            · -- r71
             first | omega | ((try simp only [Int.toNat_natCast, List.length_cons, List.length_nil]); first | done | omega | assumption | grind [getD_set, getD_rep, toNat_succ, cntN_yes, cntN_no])
            refine req_i ?_ ?_
            · -- r72
             first | omega | ((try simp only [Int.toNat_natCast, List.length_cons, List.length_nil, Nat.add_eq, Nat.zero_add]); first | done | omega | assumption | grind [getD_set, getD_rep, toNat_succ, cntN_yes, cntN_no])
            refine req_i ?_ ?_
            · -- r73
             first | omega | ((try simp only [Int.toNat_natCast, List.length_cons, List.length_nil]); first | done | omega | assumption | grind [getD_set, getD_rep, toNat_succ, cntN_yes, cntN_no])
            refine req_i ?_ ?_
            · -- r74
             first | omega | ((try simp only [Int.toNat_natCast, List.length_cons, List.length_nil, Nat.add_eq, Nat.zero_add]); first | done | omega | assumption | grind [getD_set, getD_rep, toNat_succ, cntN_yes, cntN_no])
            refine bR_t ?_ ?_
            · -- g2
             first | rfl | (simp only [bR_iff, bR_iff_f, dec_iff, dec_f, beqB_iff', andB_iff', reduceCtorEq, imp_self, false_implies, and_true, true_and, implies_true, and_self]; done) | (simp [bR_iff, dec_iff, beqB_iff', andB_iff']; done) | (simp [bR_iff, dec_iff, beqB_iff', andB_iff']; omega)
            refine bR_t ?_ ?_
            · -- g3
             first | rfl | (simp only [bR_iff, bR_iff_f, dec_iff, dec_f, beqB_iff', andB_iff', reduceCtorEq, imp_self, false_implies, and_true, true_and, implies_true, and_self]; done) | (simp [bR_iff, dec_iff, beqB_iff', andB_iff']; done) | (simp [bR_iff, dec_iff, beqB_iff', andB_iff']; omega)
            refine req_i ?_ ?_
            · -- r75
             first | omega | assumption | grind
            refine req_i ?_ ?_
            · -- r76
             first | omega | assumption | grind
            refine req_i ?_ ?_
            · -- r77
             (try simp only [Nat.add_eq, Nat.zero_add]); rw [pr]; omega
            refine req_i ?_ ?_
            · -- r78
             (try simp only [Nat.add_eq, Nat.zero_add]); rw [pr]; omega
            refine req_i ?_ ?_
            · -- r79
             simp only [g3L, g3Inv, List.drop_zero, List.take_length, Nat.add_eq, Nat.zero_add]; exact ⟨by omega, by omega, pr⟩
            refine req_i ?_ ?_
            · -- r80
             first | omega | ((try simp only [g3L, cC2, g3Inv, mea4n, List.cons.injEq, DV.b.injEq, and_true, Int.toNat_natCast, List.length_take, List.take_length, List.take_take, Nat.min_self, List.length_drop, List.drop_zero, List.length_cons, List.length_nil, Nat.add_eq, Nat.zero_add]); first | done | omega | assumption | grind [getD_set, getD_rep, toNat_succ, cntN_yes, cntN_no])
            rfl
         ·
          refine req_i ?_ ?_
          · -- r81
           first | omega | ((try simp only [Int.toNat_natCast, List.length_cons, List.length_nil]); first | done | omega | assumption | grind [getD_set, getD_rep, toNat_succ, cntN_yes, cntN_no])
          refine req_i ?_ ?_
          · -- r82
           first | omega | ((try simp only [Int.toNat_natCast, List.length_cons, List.length_nil, Nat.add_eq, Nat.zero_add]); first | done | omega | assumption | grind [getD_set, getD_rep, toNat_succ, cntN_yes, cntN_no])
          refine bR_dec (fun h53 => ?_) (fun h53 => ?_)
          ·
           refine req_i ?_ ?_
           · -- r83
            first | omega | ((try simp only [Int.toNat_natCast, List.length_cons, List.length_nil]); first | done | omega | assumption | grind [getD_set, getD_rep, toNat_succ, cntN_yes, cntN_no])
           refine req_i ?_ ?_
           · -- r84
            first | omega | ((try simp only [Int.toNat_natCast, List.length_cons, List.length_nil, Nat.add_eq, Nat.zero_add]); first | done | omega | assumption | grind [getD_set, getD_rep, toNat_succ, cntN_yes, cntN_no])
           refine bR_dec (fun h54 => ?_) (fun h54 => ?_)
           ·
            refine req_i ?_ ?_
            · -- r85
             first | omega | ((try simp only [sigNG4, sigNG, List.cons.injEq, DV.b.injEq, and_true, List.length_cons, List.length_nil]); first | done | omega | assumption | grind [getD_set, getD_rep, toNat_succ, cntN_yes, cntN_no])
            rfl
           ·
            refine req_i ?_ ?_
            · -- r86
             first | omega | ((try simp only [Int.toNat_natCast, List.length_cons, List.length_nil]); first | done | omega | assumption | grind [getD_set, getD_rep, toNat_succ, cntN_yes, cntN_no])
            refine req_i ?_ ?_
            · -- r87
             first | omega | ((try simp only [Int.toNat_natCast, List.length_cons, List.length_nil, Nat.add_eq, Nat.zero_add]); first | done | omega | assumption | grind [getD_set, getD_rep, toNat_succ, cntN_yes, cntN_no])
            refine req_i ?_ ?_
            · -- r88
             first | omega | ((try simp only [Int.toNat_natCast, List.length_cons, List.length_nil]); first | done | omega | assumption | grind [getD_set, getD_rep, toNat_succ, cntN_yes, cntN_no])
            refine req_i ?_ ?_
            · -- r89
             first | omega | ((try simp only [Int.toNat_natCast, List.length_cons, List.length_nil, Nat.add_eq, Nat.zero_add]); first | done | omega | assumption | grind [getD_set, getD_rep, toNat_succ, cntN_yes, cntN_no])
            refine bR_t ?_ ?_
            · -- g4
             first | rfl | (simp only [bR_iff, bR_iff_f, dec_iff, dec_f, beqB_iff', andB_iff', reduceCtorEq, imp_self, false_implies, and_true, true_and, implies_true, and_self]; done) | (simp [bR_iff, dec_iff, beqB_iff', andB_iff']; done) | (simp [bR_iff, dec_iff, beqB_iff', andB_iff']; omega)
            refine bR_t ?_ ?_
            · -- g5
             first | rfl | (simp only [bR_iff, bR_iff_f, dec_iff, dec_f, beqB_iff', andB_iff', reduceCtorEq, imp_self, false_implies, and_true, true_and, implies_true, and_self]; done) | (simp [bR_iff, dec_iff, beqB_iff', andB_iff']; done) | (simp [bR_iff, dec_iff, beqB_iff', andB_iff']; omega)
            refine req_i ?_ ?_
            · -- r90
             first | omega | assumption | grind
            refine req_i ?_ ?_
            · -- r91
             first | omega | assumption | grind
            refine req_i ?_ ?_
            · -- r92
             (try simp only [Nat.add_eq, Nat.zero_add]); rw [pr]; omega
            refine req_i ?_ ?_
            · -- r93
             (try simp only [Nat.add_eq, Nat.zero_add]); rw [pr]; omega
            refine req_i ?_ ?_
            · -- r94
             simp only [g3L, g3Inv, List.drop_zero, List.take_length, Nat.add_eq, Nat.zero_add]; exact ⟨by omega, by omega, pr⟩
            refine req_i ?_ ?_
            · -- r95
             first | omega | ((try simp only [g3L, cC2, g3Inv, mea4n, List.cons.injEq, DV.b.injEq, and_true, Int.toNat_natCast, List.length_take, List.take_length, List.take_take, Nat.min_self, List.length_drop, List.drop_zero, List.length_cons, List.length_nil, Nat.add_eq, Nat.zero_add]); first | done | omega | assumption | grind [getD_set, getD_rep, toNat_succ, cntN_yes, cntN_no])
            rfl
          ·
           refine req_i ?_ ?_
           · -- r96
            first | omega | ((try simp only [Int.toNat_natCast, List.length_cons, List.length_nil]); first | done | omega | assumption | grind [getD_set, getD_rep, toNat_succ, cntN_yes, cntN_no])
           refine req_i ?_ ?_
           · -- r97
            first | omega | ((try simp only [Int.toNat_natCast, List.length_cons, List.length_nil, Nat.add_eq, Nat.zero_add]); first | done | omega | assumption | grind [getD_set, getD_rep, toNat_succ, cntN_yes, cntN_no])
           refine req_i ?_ ?_
           · -- r98
            first | omega | ((try simp only [Int.toNat_natCast, List.length_cons, List.length_nil]); first | done | omega | assumption | grind [getD_set, getD_rep, toNat_succ, cntN_yes, cntN_no])
           refine req_i ?_ ?_
           · -- r99
            first | omega | ((try simp only [Int.toNat_natCast, List.length_cons, List.length_nil, Nat.add_eq, Nat.zero_add]); first | done | omega | assumption | grind [getD_set, getD_rep, toNat_succ, cntN_yes, cntN_no])
           refine bR_t ?_ ?_
           · -- g6
            first | rfl | (simp only [bR_iff, bR_iff_f, dec_iff, dec_f, beqB_iff', andB_iff', reduceCtorEq, imp_self, false_implies, and_true, true_and, implies_true, and_self]; done) | (simp [bR_iff, dec_iff, beqB_iff', andB_iff']; done) | (simp [bR_iff, dec_iff, beqB_iff', andB_iff']; omega)
           refine bR_t ?_ ?_
           · -- g7
            first | rfl | (simp only [bR_iff, bR_iff_f, dec_iff, dec_f, beqB_iff', andB_iff', reduceCtorEq, imp_self, false_implies, and_true, true_and, implies_true, and_self]; done) | (simp [bR_iff, dec_iff, beqB_iff', andB_iff']; done) | (simp [bR_iff, dec_iff, beqB_iff', andB_iff']; omega)
           refine req_i ?_ ?_
           · -- r100
            first | omega | assumption | grind
           refine req_i ?_ ?_
           · -- r101
            first | omega | assumption | grind
           refine req_i ?_ ?_
           · -- r102
            (try simp only [Nat.add_eq, Nat.zero_add]); rw [pr]; omega
           refine req_i ?_ ?_
           · -- r103
            (try simp only [Nat.add_eq, Nat.zero_add]); rw [pr]; omega
           refine req_i ?_ ?_
           · -- r104
            simp only [g3L, g3Inv, List.drop_zero, List.take_length, Nat.add_eq, Nat.zero_add]; exact ⟨by omega, by omega, pr⟩
           refine req_i ?_ ?_
           · -- r105
            first | omega | ((try simp only [g3L, cC2, g3Inv, mea4n, List.cons.injEq, DV.b.injEq, and_true, Int.toNat_natCast, List.length_take, List.take_length, List.take_take, Nat.min_self, List.length_drop, List.drop_zero, List.length_cons, List.length_nil, Nat.add_eq, Nat.zero_add]); first | done | omega | assumption | grind [getD_set, getD_rep, toNat_succ, cntN_yes, cntN_no])
           rfl
        ·
         have e16 : n16 = corr n5 (1 + n8) (1 + n9) n10 (nG n5).toNat := by rw [h47.2.2, c11, c13, show n15.toNat = (nG n5).toNat by omega]; rfl
         have c3 := corr_three (p := 1 + n8) (q := 1 + n9) (k := n10) od (by omega) (by omega) (by omega) (by omega) (by omega) (by omega)
         have cs : 1 + n8 = 1 + n9 → n10 = 0 → n16 = nG n5 := fun g g' => by rw [e16, ← g, g']; exact corr_self od (by omega)
         rw [← e16] at c3
         unfold three at c3
         have tg := tG_cases n5
         have s2 := shl2 od
         refine bR_dec (fun h55 => ?_) (fun h55 => ?_)
         ·
          refine bR_dec (fun h56 => ?_) (fun h56 => ?_)
          ·
           refine bR_dec (fun h57 => ?_) (fun h57 => ?_)
           ·
            refine bR_i (fun h58 => ?_) (fun h58 => ?_)
            ·
             refine req_i ?_ ?_
             · -- r106
              first | omega | ((try simp only [sigNG4, sigNG, List.cons.injEq, DV.b.injEq, and_true, List.length_cons, List.length_nil, dec_iff]); first | done | omega | assumption | grind [getD_set, getD_rep, toNat_succ, cntN_yes, cntN_no])
             rfl
            ·
             refine req_i ?_ ?_
             · -- r107
              first | omega | ((try simp only [sigNG4, sigNG, List.cons.injEq, DV.b.injEq, and_true, List.length_cons, List.length_nil]); first | done | omega | assumption | grind [getD_set, getD_rep, toNat_succ, cntN_yes, cntN_no])
             rfl
           ·
            refine bR_i (fun h59 => ?_) (fun h59 => ?_)
            ·
             refine bR_dec (fun h60 => ?_) (fun h60 => ?_)
             ·
              refine req_i ?_ ?_
              · -- r108
               first | omega | ((try simp only [sigNG4, sigNG, List.cons.injEq, DV.b.injEq, and_true, List.length_cons, List.length_nil]); first | done | omega | assumption | grind [getD_set, getD_rep, toNat_succ, cntN_yes, cntN_no])
              rfl
             ·
              refine bR_dec (fun h61 => ?_) (fun h61 => ?_)
              ·
               refine req_i ?_ ?_
               · -- r109
                first | omega | ((try simp only [sigNG4, sigNG, List.cons.injEq, DV.b.injEq, and_true, List.length_cons, List.length_nil]); first | done | omega | assumption | grind [getD_set, getD_rep, toNat_succ, cntN_yes, cntN_no])
               rfl
              ·
               refine req_i ?_ ?_
               · -- r110
                first | omega | ((try simp only [sigNG4, sigNG, List.cons.injEq, DV.b.injEq, and_true, List.length_cons, List.length_nil, dec_iff]); first | done | omega | assumption | grind [getD_set, getD_rep, toNat_succ, cntN_yes, cntN_no])
               rfl
            ·
             refine req_i ?_ ?_
             · -- r111
              first | omega | ((try simp only [sigNG4, sigNG, List.cons.injEq, DV.b.injEq, and_true, List.length_cons, List.length_nil]); first | done | omega | assumption | grind [getD_set, getD_rep, toNat_succ, cntN_yes, cntN_no])
             rfl
          ·
           refine bR_i (fun h62 => ?_) (fun h62 => ?_)
           ·
            refine bR_dec (fun h63 => ?_) (fun h63 => ?_)
            ·
             refine req_i ?_ ?_
             · -- r112
              first | omega | ((try simp only [sigNG4, sigNG, List.cons.injEq, DV.b.injEq, and_true, List.length_cons, List.length_nil]); first | done | omega | assumption | grind [getD_set, getD_rep, toNat_succ, cntN_yes, cntN_no])
             rfl
            ·
             refine bR_dec (fun h64 => ?_) (fun h64 => ?_)
             ·
              refine req_i ?_ ?_
              · -- r113
               first | omega | ((try simp only [sigNG4, sigNG, List.cons.injEq, DV.b.injEq, and_true, List.length_cons, List.length_nil]); first | done | omega | assumption | grind [getD_set, getD_rep, toNat_succ, cntN_yes, cntN_no])
              rfl
             ·
              refine req_i ?_ ?_
              · -- r114
               first | omega | ((try simp only [sigNG4, sigNG, List.cons.injEq, DV.b.injEq, and_true, List.length_cons, List.length_nil, dec_iff]); first | done | omega | assumption | grind [getD_set, getD_rep, toNat_succ, cntN_yes, cntN_no])
              rfl
           ·
            refine req_i ?_ ?_
            · -- r115
             first | omega | ((try simp only [sigNG4, sigNG, List.cons.injEq, DV.b.injEq, and_true, List.length_cons, List.length_nil]); first | done | omega | assumption | grind [getD_set, getD_rep, toNat_succ, cntN_yes, cntN_no])
            rfl
         ·
          refine bR_dec (fun h65 => ?_) (fun h65 => ?_)
          ·
           refine bR_dec (fun h66 => ?_) (fun h66 => ?_)
           ·
            refine bR_i (fun h67 => ?_) (fun h67 => ?_)
            ·
             refine req_i ?_ ?_
             · -- r116
              first | omega | ((try simp only [sigNG4, sigNG, List.cons.injEq, DV.b.injEq, and_true, List.length_cons, List.length_nil, dec_iff]); first | done | omega | assumption | grind [getD_set, getD_rep, toNat_succ, cntN_yes, cntN_no])
             rfl
            ·
             refine req_i ?_ ?_
             · -- r117
              first | omega | ((try simp only [sigNG4, sigNG, List.cons.injEq, DV.b.injEq, and_true, List.length_cons, List.length_nil]); first | done | omega | assumption | grind [getD_set, getD_rep, toNat_succ, cntN_yes, cntN_no])
             rfl
           ·
            refine bR_i (fun h68 => ?_) (fun h68 => ?_)
            ·
             refine bR_dec (fun h69 => ?_) (fun h69 => ?_)
             ·
              refine req_i ?_ ?_
              · -- r118
               first | omega | ((try simp only [sigNG4, sigNG, List.cons.injEq, DV.b.injEq, and_true, List.length_cons, List.length_nil]); first | done | omega | assumption | grind [getD_set, getD_rep, toNat_succ, cntN_yes, cntN_no])
              rfl
             ·
              refine bR_dec (fun h70 => ?_) (fun h70 => ?_)
              ·
               refine req_i ?_ ?_
               · -- r119
                first | omega | ((try simp only [sigNG4, sigNG, List.cons.injEq, DV.b.injEq, and_true, List.length_cons, List.length_nil]); first | done | omega | assumption | grind [getD_set, getD_rep, toNat_succ, cntN_yes, cntN_no])
               rfl
              ·
               refine req_i ?_ ?_
               · -- r120
                show [DV.b _] = [DV.b true]; rw [dec_iff.2 (by omega)]
               rfl
            ·
             refine req_i ?_ ?_
             · -- r121
              first | omega | ((try simp only [sigNG4, sigNG, List.cons.injEq, DV.b.injEq, and_true, List.length_cons, List.length_nil]); first | done | omega | assumption | grind [getD_set, getD_rep, toNat_succ, cntN_yes, cntN_no])
             rfl
          ·
           refine bR_i (fun h71 => ?_) (fun h71 => ?_)
           ·
            refine bR_dec (fun h72 => ?_) (fun h72 => ?_)
            ·
             refine req_i ?_ ?_
             · -- r122
              first | omega | ((try simp only [sigNG4, sigNG, List.cons.injEq, DV.b.injEq, and_true, List.length_cons, List.length_nil]); first | done | omega | assumption | grind [getD_set, getD_rep, toNat_succ, cntN_yes, cntN_no])
             rfl
            ·
             refine bR_dec (fun h73 => ?_) (fun h73 => ?_)
             ·
              refine req_i ?_ ?_
              · -- r123
               first | omega | ((try simp only [sigNG4, sigNG, List.cons.injEq, DV.b.injEq, and_true, List.length_cons, List.length_nil]); first | done | omega | assumption | grind [getD_set, getD_rep, toNat_succ, cntN_yes, cntN_no])
              rfl
             ·
              refine req_i ?_ ?_
              · -- r124
               show [DV.b _] = [DV.b true]; rw [dec_iff.2 (by omega)]
              rfl
           ·
            refine req_i ?_ ?_
            · -- r125
             first | omega | ((try simp only [sigNG4, sigNG, List.cons.injEq, DV.b.injEq, and_true, List.length_cons, List.length_nil]); first | done | omega | assumption | grind [getD_set, getD_rep, toNat_succ, cntN_yes, cntN_no])
            rfl
theorem ext_GoldThree : ∀ p ∈ ([(3, Ext.ctr (ctOf sigTrue0)), (31, Ext.ctr (ctOf sigTurn)), (30, Ext.ctr (ctOf sigDeg)), (11, Ext.ctr (ctOf sigLen)), (15, Ext.ctr (ctOf sigCode))] : List (Nat × Ext)), ExtRow Try.prog p.1 p.2 := by
  intro p hp
  simp only [List.mem_cons, List.not_mem_nil, or_false] at hp
  rcases hp with rfl | rfl | rfl | rfl | rfl
  · trivial
  · trivial
  · trivial
  · trivial
  · trivial
theorem cts_GoldThree : CtsOk Try.prog [(3, Ext.ctr (ctOf sigTrue0)), (31, Ext.ctr (ctOf sigTurn)), (30, Ext.ctr (ctOf sigDeg)), (11, Ext.ctr (ctOf sigLen)), (15, Ext.ctr (ctOf sigCode))] := ctsOk_of (cs := [(3, sigTrue0), (31, sigTurn), (30, sigDeg), (11, sigLen), (15, sigCode)])
  (fun p hp => by
    simp only [List.mem_cons, List.not_mem_nil, or_false] at hp
    rcases hp with rfl | rfl | rfl | rfl | rfl
    · exact fn_known
    · exact fn_turn
    · exact fn_deg
    · exact fn_len
    · exact fn_code
)
  (fun f c h => by
    simp only [List.lookup_cons] at h
    repeat' split at h
    all_goals first | (cases h; done) | (rename_i e; have e := beq_iff_eq.1 e; subst e; cases h; refine ⟨_, ?_, rfl⟩; simp))
theorem fn_GoldThree : FnOk Try.prog 9 sigNG4 [] := fn_sound (by kernel_rfl) ext_GoldThree cts_GoldThree names vt_GoldThree
end Go.Proofs.Ytpmlodchbgfmeaa

