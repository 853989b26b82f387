import Derived.Test.YtfcjkgenaekehaaSpec32e
import Derived.Test.YtfcjkgenaekehaaRows
import Derived.Test.YtfcjkgenaekehaaEvSU
import Derived.Test.YtfcjkgenaekehaaFnames
namespace Go.Proofs.Ytfcjkgenaekehaa
open Go.Ev Go.Sp
set_option maxRecDepth 100000
theorem vc_lives : vcFn Try.prog [(85, Ext.add64), (64, Ext.sub64)] noA [] 5000 10 sigTrue0 = (impB (sigTrue0.pre []) (
reqB (sigTrue0.post [] [DV.b (eqI (Int.ofNat (1 : Nat)) (1 : Int))]) (
true))) := by kernel_rfl
set_option maxHeartbeats 8000000 in
theorem vt_lives : vcFn Try.prog [(85, Ext.add64), (64, Ext.sub64)] noA [] 5000 10 sigTrue0 = true := by
  rw [vc_lives]
  try simp only [bR_same, dec_same, bR_true, bR_false]
  simp only [allB_iff, impB_iff, reqB_iff, bR_iff, bR_iff_f, dec_iff, dec_f, reduceCtorEq, imp_false, Classical.not_not, implies_true, true_and, and_true]
  intro _
  first | rfl | trivial | simp [sigTrue0]
theorem ext_lives : ∀ p ∈ ([(85, Ext.add64), (64, Ext.sub64)] : List (Nat × Ext)), ExtRow Try.prog p.1 p.2 := by
  intro p hp
  simp only [List.mem_cons, List.not_mem_nil, or_false] at hp
  rcases hp with rfl | rfl
  · exact ⟨Try.f85, Try.func85, by kernel_rfl, by kernel_rfl, by kernel_rfl, by kernel_rfl⟩
  · exact ⟨Try.f64, Try.func64, by kernel_rfl, by kernel_rfl, by kernel_rfl, by kernel_rfl⟩
theorem cts_lives : CtsOk Try.prog [(85, Ext.add64), (64, Ext.sub64)] := fun f c h => by
  simp only [List.lookup_cons, List.lookup_nil] at h
  repeat' split at h
  all_goals cases h
theorem fn_lives : FnOk Try.prog 10 sigTrue0 [] := fn_sound (by kernel_rfl) ext_lives cts_lives names vt_lives
end Go.Proofs.Ytfcjkgenaekehaa

namespace Go.Proofs.Ytfcjkgenaekehaa
open Go.Ev Go.Sp
set_option maxRecDepth 100000
theorem vc_pick : vcFn Try.prog [] noA [] 100 31 (sigPickN 1000000000000) = (allB fun n0 : Int => 
impB ((-9223372036854775808 : Int) ≤ n0) (
impB (n0 ≤ (9223372036854775807 : Int)) (
allB fun n1 : Int => 
impB ((1 : Int) ≤ n1) (
impB (n1 ≤ (1000000000000 : Int)) (
impB ((sigPickN (1000000000000 : Int)).pre [DV.n n0, DV.n n1]) (
bR (dec (n0.tmod n1 < (0 : Int))) (
 reqB ((0 : Int) ≤ n0.tmod n1 + n1) (
 reqB (n0.tmod n1 + n1 ≤ (1000000000000 : Int)) (
 reqB ((sigPickN (1000000000000 : Int)).post [DV.n n0, DV.n n1] [DV.n (n0.tmod n1 + n1)]) (
 true)))) (
 reqB ((0 : Int) ≤ n0.tmod n1) (
 reqB (n0.tmod n1 ≤ (1000000000000 : Int)) (
 reqB ((sigPickN (1000000000000 : Int)).post [DV.n n0, DV.n n1] [DV.n (n0.tmod n1)]) (
 true)))))))))) := by kernel_rfl
set_option maxHeartbeats 8000000 in
theorem vt_pick : vcFn Try.prog [] noA [] 100 31 (sigPickN 1000000000000) = true := by
  rw [vc_pick]
  try simp only [Int.toNat_natCast, List.length_set, List.length_replicate, List.length_take, List.length_drop, List.length_append, List.length_cons, List.length_nil, Nat.min_self, List.take_take, lenCols_i, lenCols_b, List.drop_zero, List.take_length, Nat.add_eq, Nat.mul_eq, Nat.sub_eq, Nat.zero_add, Nat.sub_zero, Nat.mul_one]
  refine all_i fun n0 => ?_
  refine imp_i fun h0 => ?_
  refine imp_i fun h1 => ?_
  refine all_i fun n1 => ?_
  refine imp_i fun h2 => ?_
  refine imp_i fun h3 => ?_
  refine imp_i fun h4 => ?_
  try simp only [sigPickN, pickPost, List.cons.injEq, DV.b.injEq, and_true, List.length_cons, List.length_nil] at h4
  have t := tmod_of (x := n0) (n := n1) (by omega)
  refine bR_dec (fun h5 => ?_) (fun h5 => ?_)
  ·
   refine req_i ?_ ?_
   · -- r0
    first | omega | assumption | grind
   refine req_i ?_ ?_
   · -- r1
    first | omega | assumption | grind
   refine req_i ?_ ?_
   · -- r2
    first | omega | ((try simp only [sigPickN, pickPost, List.cons.injEq, DV.b.injEq, and_true, List.length_cons, List.length_nil]); first | done | omega | assumption | grind [getD_set, getD_rep, toNat_succ, cntN_yes, cntN_no])
   rfl
  ·
   refine req_i ?_ ?_
   · -- r3
    first | omega | assumption | grind
   refine req_i ?_ ?_
   · -- r4
    first | omega | assumption | grind
   refine req_i ?_ ?_
   · -- r5
    first | omega | ((try simp only [sigPickN, pickPost, List.cons.injEq, DV.b.injEq, and_true, List.length_cons, List.length_nil]); first | done | omega | assumption | grind [getD_set, getD_rep, toNat_succ, cntN_yes, cntN_no])
   rfl
theorem ext_pick : ∀ p ∈ ([] : List (Nat × Ext)), ExtRow Try.prog p.1 p.2 := by
  intro p hp
  cases hp
theorem cts_pick : CtsOk Try.prog [] := fun f c h => by cases h
theorem fn_pick : FnOk Try.prog 31 (sigPickN 1000000000000) [] := fn_sound (by kernel_rfl) ext_pick cts_pick names vt_pick
end Go.Proofs.Ytfcjkgenaekehaa

namespace Go.Proofs.Ytfcjkgenaekehaa
open Go.Ev Go.Sp
set_option maxRecDepth 100000
theorem vc_lnear : vcFn Try.prog [(31, Ext.ctr (ctOf (sigPickN 1000000000000)))] noA [] 100 26 sigLnear = (allB fun n0 : Int => 
impB ((-9223372036854775808 : Int) ≤ n0) (
impB (n0 ≤ (9223372036854775807 : Int)) (
allB fun n1 : Int => 
impB ((-9223372036854775808 : Int) ≤ n1) (
impB (n1 ≤ (9223372036854775807 : Int)) (
allB fun n2 : Int => 
impB ((-9223372036854775808 : Int) ≤ n2) (
impB (n2 ≤ (9223372036854775807 : Int)) (
impB (sigLnear.pre [DV.n n0, DV.n n1, DV.n n2]) (
reqB ((-9223372036854775808 : Int) ≤ n0) (
reqB (n0 ≤ (9223372036854775807 : Int)) (
reqB ((sigPickN (1000000000000 : Int)).pre [DV.n n0, DV.n (200000000001 : Int)]) (
allB fun n3 : Int => 
impB ((0 : Int) ≤ n3) (
impB (n3 ≤ (1000000000000 : Int)) (
impB ((sigPickN (1000000000000 : Int)).post [DV.n n0, DV.n (200000000001 : Int)] [DV.n n3]) (
reqB ((-9223372036854775808 : Int) ≤ n1) (
reqB (n1 ≤ (9223372036854775807 : Int)) (
reqB ((sigPickN (1000000000000 : Int)).pre [DV.n n1, DV.n (200000000001 : Int)]) (
allB fun n4 : Int => 
impB ((0 : Int) ≤ n4) (
impB (n4 ≤ (1000000000000 : Int)) (
impB ((sigPickN (1000000000000 : Int)).post [DV.n n1, DV.n (200000000001 : Int)] [DV.n n4]) (
reqB ((-9223372036854775808 : Int) ≤ n2) (
reqB (n2 ≤ (9223372036854775807 : Int)) (
reqB ((sigPickN (1000000000000 : Int)).pre [DV.n n2, DV.n (200000000001 : Int)]) (
allB fun n5 : Int => 
impB ((0 : Int) ≤ n5) (
impB (n5 ≤ (1000000000000 : Int)) (
impB ((sigPickN (1000000000000 : Int)).post [DV.n n2, DV.n (200000000001 : Int)] [DV.n n5]) (
reqB ((-100000000000 : Int) ≤ n3 - (100000000000 : Int)) (
reqB (n3 - (100000000000 : Int) ≤ (100000000000 : Int)) (
reqB ((-100000000000 : Int) ≤ n4 - (100000000000 : Int)) (
reqB (n4 - (100000000000 : Int) ≤ (100000000000 : Int)) (
reqB ((-100000000000 : Int) ≤ n5 - (100000000000 : Int)) (
reqB (n5 - (100000000000 : Int) ≤ (100000000000 : Int)) (
reqB (sigLnear.post [DV.n n0, DV.n n1, DV.n n2]
 [DV.n (n3 - (100000000000 : Int)), DV.n (n4 - (100000000000 : Int)),
 DV.n (n5 - (100000000000 : Int))]) (
true))))))))))))))))))))))))))))))))) := by kernel_rfl
set_option maxHeartbeats 8000000 in
theorem vt_lnear : vcFn Try.prog [(31, Ext.ctr (ctOf (sigPickN 1000000000000)))] noA [] 100 26 sigLnear = true := by
  rw [vc_lnear]
  try simp only [Int.toNat_natCast, List.length_set, List.length_replicate, List.length_take, List.length_drop, List.length_append, List.length_cons, List.length_nil, Nat.min_self, List.take_take, lenCols_i, lenCols_b, List.drop_zero, List.take_length, Nat.add_eq, Nat.mul_eq, Nat.sub_eq, Nat.zero_add, Nat.sub_zero, Nat.mul_one]
  refine all_i fun n0 => ?_
  refine imp_i fun h0 => ?_
  refine imp_i fun h1 => ?_
  refine all_i fun n1 => ?_
  refine imp_i fun h2 => ?_
  refine imp_i fun h3 => ?_
  refine all_i fun n2 => ?_
  refine imp_i fun h4 => ?_
  refine imp_i fun h5 => ?_
  refine imp_i fun h6 => ?_
  try simp only [sigLnear, c11, lnearPost, List.cons.injEq, DV.b.injEq, and_true, List.length_cons, List.length_nil] at h6
  refine req_i ?_ ?_
  · -- r0
   first | omega | assumption | grind
  refine req_i ?_ ?_
  · -- r1
   first | omega | assumption | grind
  refine req_i ?_ ?_
  · -- r2
   first | trivial | assumption | (simp only [sigPickN, pickPost, List.cons.injEq, DV.b.injEq, and_true, List.length_cons, List.length_nil]; done) | ((try simp only [sigPickN, pickPost, List.cons.injEq, DV.b.injEq, and_true, List.length_cons, List.length_nil]); first | omega | assumption | grind)
  refine all_i fun n3 => ?_
  refine imp_i fun h7 => ?_
  refine imp_i fun h8 => ?_
  refine imp_i fun h9 => ?_
  try simp only [sigPickN, pickPost, List.cons.injEq, DV.b.injEq, and_true, List.length_cons, List.length_nil] at h9
  refine req_i ?_ ?_
  · -- r3
   first | omega | assumption | grind
  refine req_i ?_ ?_
  · -- r4
   first | omega | assumption | grind
  refine req_i ?_ ?_
  · -- r5
   first | trivial | assumption | (simp only [sigPickN, pickPost, List.cons.injEq, DV.b.injEq, and_true, List.length_cons, List.length_nil]; done) | ((try simp only [sigPickN, pickPost, List.cons.injEq, DV.b.injEq, and_true, List.length_cons, List.length_nil]); first | omega | assumption | grind)
  refine all_i fun n4 => ?_
  refine imp_i fun h10 => ?_
  refine imp_i fun h11 => ?_
  refine imp_i fun h12 => ?_
  try simp only [sigPickN, pickPost, List.cons.injEq, DV.b.injEq, and_true, List.length_cons, List.length_nil] at h12
  refine req_i ?_ ?_
  · -- r6
   first | omega | assumption | grind
  refine req_i ?_ ?_
  · -- r7
   first | omega | assumption | grind
  refine req_i ?_ ?_
  · -- r8
   first | trivial | assumption | (simp only [sigPickN, pickPost, List.cons.injEq, DV.b.injEq, and_true, List.length_cons, List.length_nil]; done) | ((try simp only [sigPickN, pickPost, List.cons.injEq, DV.b.injEq, and_true, List.length_cons, List.length_nil]); first | omega | assumption | grind)
  refine all_i fun n5 => ?_
  refine imp_i fun h13 => ?_
  refine imp_i fun h14 => ?_
  refine imp_i fun h15 => ?_
  try simp only [sigPickN, pickPost, List.cons.injEq, DV.b.injEq, and_true, List.length_cons, List.length_nil] at h15
  refine req_i ?_ ?_
  · -- r9
   first | omega | assumption | grind
  refine req_i ?_ ?_
  · -- r10
   first | omega | assumption | grind
  refine req_i ?_ ?_
  · -- r11
   first | omega | assumption | grind
  refine req_i ?_ ?_
  · -- r12
   first | omega | assumption | grind
  refine req_i ?_ ?_
  · -- r13
   first | omega | assumption | grind
  refine req_i ?_ ?_
  · -- r14
   first | omega | assumption | grind
  refine req_i ?_ ?_
  · -- r15
   first | omega | ((try simp only [sigLnear, c11, lnearPost, List.cons.injEq, DV.b.injEq, and_true, List.length_cons, List.length_nil]); first | done | omega | assumption | grind [getD_set, getD_rep, toNat_succ, cntN_yes, cntN_no])
  rfl
theorem ext_lnear : ∀ p ∈ ([(31, Ext.ctr (ctOf (sigPickN 1000000000000)))] : List (Nat × Ext)), ExtRow Try.prog p.1 p.2 := by
  intro p hp
  simp only [List.mem_cons, List.not_mem_nil, or_false] at hp
  rcases hp with rfl
  · trivial
theorem cts_lnear : CtsOk Try.prog [(31, Ext.ctr (ctOf (sigPickN 1000000000000)))] := ctsOk_of (cs := [(31, (sigPickN 1000000000000))])
  (fun p hp => by
    simp only [List.mem_cons, List.not_mem_nil, or_false] at hp
    rcases hp with rfl
    · exact fn_pick
)
  (fun f c h => by
    simp only [List.lookup_cons] at h
    repeat' split at h
    all_goals first | (cases h; done) | (rename_i e; have e := beq_iff_eq.1 e; subst e; cases h; refine ⟨_, ?_, rfl⟩; simp))
theorem fn_lnear : FnOk Try.prog 26 sigLnear [] := fn_sound (by kernel_rfl) ext_lnear cts_lnear names vt_lnear
end Go.Proofs.Ytfcjkgenaekehaa

namespace Go.Proofs.Ytfcjkgenaekehaa
open Go.Ev Go.Sp
set_option maxRecDepth 100000
theorem vc_size : vcFn Try.prog [] (fun f p _ => at2 f p 999999 218 rtL (at2 f p 67 218 rwL (at2 f p 51 250 rwLR none))) [] 100 110 sigSize = (allB fun n0 : Int => 
impB ((-9223372036854775808 : Int) ≤ n0) (
impB (n0 ≤ (9223372036854775807 : Int)) (
impB (sigSize.pre [DV.n n0]) (
bR (dec (n0 < (0 : Int))) (
 allB fun n1 : Int => 
 impB (n1 = Go.IntKind.u64.wrap n0) (
 impB (Int.ofNat (0 : Nat) ≤ n1) (
 impB (n1 ≤ Int.ofNat (18446744073709551615 : Nat)) (
 allB fun n2 : Int => 
 impB (n2 = Go.IntKind.u64.wrap ((0 : Int) - n1)) (
 impB (Int.ofNat (0 : Nat) ≤ n2) (
 impB (n2 ≤ Int.ofNat (18446744073709551615 : Nat)) (
 reqB ((0 : Int) ≤ n2) (
 reqB (n2 ≤ (9223372036854775808 : Int)) (
 reqB (sigSize.post [DV.n n0] [DV.n n2]) (
 true)))))))))) (
 allB fun n3 : Int => 
 impB (n3 = Go.IntKind.u64.wrap n0) (
 impB (Int.ofNat (0 : Nat) ≤ n3) (
 impB (n3 ≤ Int.ofNat (18446744073709551615 : Nat)) (
 reqB ((0 : Int) ≤ n3) (
 reqB (n3 ≤ (9223372036854775808 : Int)) (
 reqB (sigSize.post [DV.n n0] [DV.n n3]) (
 true))))))))))) := by kernel_rfl
set_option maxHeartbeats 8000000 in
theorem vt_size : vcFn Try.prog [] (fun f p _ => at2 f p 999999 218 rtL (at2 f p 67 218 rwL (at2 f p 51 250 rwLR none))) [] 100 110 sigSize = true := by
  rw [vc_size]
  try simp only [Int.toNat_natCast, List.length_set, List.length_replicate, List.length_take, List.length_drop, List.length_append, List.length_cons, List.length_nil, Nat.min_self, List.take_take, lenCols_i, lenCols_b, List.drop_zero, List.take_length, Nat.add_eq, Nat.mul_eq, Nat.sub_eq, Nat.zero_add, Nat.sub_zero, Nat.mul_one]
  refine all_i fun n0 => ?_
  refine imp_i fun h0 => ?_
  refine imp_i fun h1 => ?_
  refine imp_i fun h2 => ?_
  try simp only [sigSize, sizePost, absI, List.cons.injEq, DV.b.injEq, and_true, List.length_cons, List.length_nil] at h2
  refine bR_dec (fun h3 => ?_) (fun h3 => ?_)
  ·
   refine all_i fun n1 => ?_
   refine imp_i fun h4 => ?_
   simp only [wrap_u64] at h4
   refine imp_i fun h5 => ?_
   refine imp_i fun h6 => ?_
   refine all_i fun n2 => ?_
   refine imp_i fun h7 => ?_
   simp only [wrap_u64] at h7
   refine imp_i fun h8 => ?_
   refine imp_i fun h9 => ?_
   refine req_i ?_ ?_
   · -- r0
    first | omega | assumption | grind
   refine req_i ?_ ?_
   · -- r1
    first | omega | assumption | grind
   refine req_i ?_ ?_
   · -- r2
    first | omega | ((try simp only [sigSize, sizePost, absI, List.cons.injEq, DV.b.injEq, and_true, List.length_cons, List.length_nil]); first | done | omega | assumption | grind [getD_set, getD_rep, toNat_succ, cntN_yes, cntN_no])
   rfl
  ·
   refine all_i fun n3 => ?_
   refine imp_i fun h10 => ?_
   simp only [wrap_u64] at h10
   refine imp_i fun h11 => ?_
   refine imp_i fun h12 => ?_
   refine req_i ?_ ?_
   · -- r3
    first | omega | assumption | grind
   refine req_i ?_ ?_
   · -- r4
    first | omega | assumption | grind
   refine req_i ?_ ?_
   · -- r5
    first | omega | ((try simp only [sigSize, sizePost, absI, List.cons.injEq, DV.b.injEq, and_true, List.length_cons, List.length_nil]); first | done | omega | assumption | grind [getD_set, getD_rep, toNat_succ, cntN_yes, cntN_no])
   rfl
theorem ext_size : ∀ p ∈ ([] : List (Nat × Ext)), ExtRow Try.prog p.1 p.2 := by
  intro p hp
  cases hp
theorem cts_size : CtsOk Try.prog [] := fun f c h => by cases h
theorem fn_size : FnOk Try.prog 110 sigSize [] := fn_sound (by kernel_rfl) ext_size cts_size names vt_size
end Go.Proofs.Ytfcjkgenaekehaa

namespace Go.Proofs.Ytfcjkgenaekehaa
open Go.Ev Go.Sp
set_option maxRecDepth 100000
theorem vc_mul64 : vcFn Try.prog [] (fun f p _ => at2 f p 999999 218 rtL (at2 f p 67 218 rwL (at2 f p 51 250 rwLR none))) [] 100 62 sigMul = (allB fun n0 : Int => 
impB ((0 : Int) ≤ n0) (
impB (n0 ≤ (18446744073709551615 : Int)) (
allB fun n1 : Int => 
impB ((0 : Int) ≤ n1) (
impB (n1 ≤ (18446744073709551615 : Int)) (
impB (sigMul.pre [DV.n n0, DV.n n1]) (
allB fun n2 : Int => 
impB (n2 = Go.IntKind.u64.wrap (n0 * n1)) (
impB (Int.ofNat (0 : Nat) ≤ n2) (
impB (n2 ≤ Int.ofNat (18446744073709551615 : Nat)) (
reqB ((0 : Int) ≤
 n0 / Int.ofNat (4294967296 : Nat) * (n1 / Int.ofNat (4294967296 : Nat)) +
 (n0 / Int.ofNat (4294967296 : Nat) * (n1 % Int.ofNat (4294967296 : Nat)) +
 n0 % Int.ofNat (4294967296 : Nat) * (n1 % Int.ofNat (4294967296 : Nat)) / Int.ofNat (4294967296 : Nat)) /
 Int.ofNat (4294967296 : Nat) +
 ((n0 / Int.ofNat (4294967296 : Nat) * (n1 % Int.ofNat (4294967296 : Nat)) +
 n0 % Int.ofNat (4294967296 : Nat) * (n1 % Int.ofNat (4294967296 : Nat)) / Int.ofNat (4294967296 : Nat)) %
 Int.ofNat (4294967296 : Nat) +
 n0 % Int.ofNat (4294967296 : Nat) * (n1 / Int.ofNat (4294967296 : Nat))) /
 Int.ofNat (4294967296 : Nat)) (
reqB (n0 / Int.ofNat (4294967296 : Nat) * (n1 / Int.ofNat (4294967296 : Nat)) +
 (n0 / Int.ofNat (4294967296 : Nat) * (n1 % Int.ofNat (4294967296 : Nat)) +
 n0 % Int.ofNat (4294967296 : Nat) * (n1 % Int.ofNat (4294967296 : Nat)) / Int.ofNat (4294967296 : Nat)) /
 Int.ofNat (4294967296 : Nat) +
 ((n0 / Int.ofNat (4294967296 : Nat) * (n1 % Int.ofNat (4294967296 : Nat)) +
 n0 % Int.ofNat (4294967296 : Nat) * (n1 % Int.ofNat (4294967296 : Nat)) / Int.ofNat (4294967296 : Nat)) %
 Int.ofNat (4294967296 : Nat) +
 n0 % Int.ofNat (4294967296 : Nat) * (n1 / Int.ofNat (4294967296 : Nat))) /
 Int.ofNat (4294967296 : Nat) ≤
 (18446744073709551615 : Int)) (
reqB ((0 : Int) ≤ n2) (
reqB (n2 ≤ (18446744073709551615 : Int)) (
reqB (sigMul.post [DV.n n0, DV.n n1]
 [DV.n
 (n0 / Int.ofNat (4294967296 : Nat) * (n1 / Int.ofNat (4294967296 : Nat)) +
 (n0 / Int.ofNat (4294967296 : Nat) * (n1 % Int.ofNat (4294967296 : Nat)) +
 n0 % Int.ofNat (4294967296 : Nat) * (n1 % Int.ofNat (4294967296 : Nat)) / Int.ofNat (4294967296 : Nat)) /
 Int.ofNat (4294967296 : Nat) +
 ((n0 / Int.ofNat (4294967296 : Nat) * (n1 % Int.ofNat (4294967296 : Nat)) +
 n0 % Int.ofNat (4294967296 : Nat) * (n1 % Int.ofNat (4294967296 : Nat)) /
 Int.ofNat (4294967296 : Nat)) %
 Int.ofNat (4294967296 : Nat) +
 n0 % Int.ofNat (4294967296 : Nat) * (n1 / Int.ofNat (4294967296 : Nat))) /
 Int.ofNat (4294967296 : Nat)),
 DV.n n2]) (
true)))))))))))))) := by kernel_rfl
set_option maxHeartbeats 8000000 in
theorem vt_mul64 : vcFn Try.prog [] (fun f p _ => at2 f p 999999 218 rtL (at2 f p 67 218 rwL (at2 f p 51 250 rwLR none))) [] 100 62 sigMul = true := by
  rw [vc_mul64]
  try simp only [Int.toNat_natCast, List.length_set, List.length_replicate, List.length_take, List.length_drop, List.length_append, List.length_cons, List.length_nil, Nat.min_self, List.take_take, lenCols_i, lenCols_b, List.drop_zero, List.take_length, Nat.add_eq, Nat.mul_eq, Nat.sub_eq, Nat.zero_add, Nat.sub_zero, Nat.mul_one]
  refine all_i fun n0 => ?_
  refine imp_i fun h0 => ?_
  refine imp_i fun h1 => ?_
  refine all_i fun n1 => ?_
  refine imp_i fun h2 => ?_
  refine imp_i fun h3 => ?_
  refine imp_i fun h4 => ?_
  try simp only [sigMul, mulPost, List.cons.injEq, DV.b.injEq, and_true, List.length_cons, List.length_nil] at h4
  have m := mul64_eq (x := n0) (y := n1) (by omega) (by omega) (by omega) (by omega)
  refine all_i fun n2 => ?_
  refine imp_i fun h5 => ?_
  simp only [wrap_u64] at h5
  simp only [show Int.ofNat 4294967296 = 4294967296 from rfl]
  rw [m.2.2]
  refine imp_i fun h6 => ?_
  refine imp_i fun h7 => ?_
  refine req_i ?_ ?_
  · -- r0
   first | omega | assumption | grind
  refine req_i ?_ ?_
  · -- r1
   first | omega | assumption | grind
  refine req_i ?_ ?_
  · -- r2
   first | omega | assumption | grind
  refine req_i ?_ ?_
  · -- r3
   first | omega | assumption | grind
  refine req_i ?_ ?_
  · -- r4
   first | omega | ((try simp only [sigMul, mulPost, List.cons.injEq, DV.b.injEq, and_true, List.length_cons, List.length_nil]); first | done | omega | assumption | grind [getD_set, getD_rep, toNat_succ, cntN_yes, cntN_no])
  rfl
theorem ext_mul64 : ∀ p ∈ ([] : List (Nat × Ext)), ExtRow Try.prog p.1 p.2 := by
  intro p hp
  cases hp
theorem cts_mul64 : CtsOk Try.prog [] := fun f c h => by cases h
theorem fn_mul64 : FnOk Try.prog 62 sigMul [] := fn_sound (by kernel_rfl) ext_mul64 cts_mul64 names vt_mul64
end Go.Proofs.Ytfcjkgenaekehaa

namespace Go.Proofs.Ytfcjkgenaekehaa
open Go.Ev Go.Sp
set_option maxRecDepth 100000
theorem vc_times : vcFn Try.prog [(110, Ext.ctr (ctOf sigSize)), (62, Ext.ctr (ctOf sigMul))] (fun f p _ => at2 f p 999999 218 rtL (at2 f p 67 218 rwL (at2 f p 51 250 rwLR none))) [] 100 94 sigTimes = (allB fun n0 : Int => 
impB ((-9223372036854775808 : Int) ≤ n0) (
impB (n0 ≤ (9223372036854775807 : Int)) (
allB fun n1 : Int => 
impB ((-9223372036854775808 : Int) ≤ n1) (
impB (n1 ≤ (9223372036854775807 : Int)) (
impB (sigTimes.pre [DV.n n0, DV.n n1]) (
reqB ((-9223372036854775808 : Int) ≤ n0) (
reqB (n0 ≤ (9223372036854775807 : Int)) (
reqB (sigSize.pre [DV.n n0]) (
allB fun n2 : Int => 
impB ((0 : Int) ≤ n2) (
impB (n2 ≤ (9223372036854775808 : Int)) (
impB (sigSize.post [DV.n n0] [DV.n n2]) (
reqB ((-9223372036854775808 : Int) ≤ n1) (
reqB (n1 ≤ (9223372036854775807 : Int)) (
reqB (sigSize.pre [DV.n n1]) (
allB fun n3 : Int => 
impB ((0 : Int) ≤ n3) (
impB (n3 ≤ (9223372036854775808 : Int)) (
impB (sigSize.post [DV.n n1] [DV.n n3]) (
reqB ((0 : Int) ≤ n2) (
reqB (n2 ≤ (18446744073709551615 : Int)) (
reqB ((0 : Int) ≤ n3) (
reqB (n3 ≤ (18446744073709551615 : Int)) (
reqB (sigMul.pre [DV.n n2, DV.n n3]) (
allB fun n4 : Int => 
impB ((0 : Int) ≤ n4) (
impB (n4 ≤ (18446744073709551615 : Int)) (
allB fun n5 : Int => 
impB ((0 : Int) ≤ n5) (
impB (n5 ≤ (18446744073709551615 : Int)) (
impB (sigMul.post [DV.n n2, DV.n n3] [DV.n n4, DV.n n5]) (
reqB ((0 : Int) ≤ n4) (
reqB (n4 ≤ (18446744073709551615 : Int)) (
reqB ((0 : Int) ≤ n5) (
reqB (n5 ≤ (18446744073709551615 : Int)) (
reqB (sigTimes.post [DV.n n0, DV.n n1] [DV.n n4, DV.n n5]) (
true))))))))))))))))))))))))))))))))) := by kernel_rfl
set_option maxHeartbeats 8000000 in
theorem vt_times : vcFn Try.prog [(110, Ext.ctr (ctOf sigSize)), (62, Ext.ctr (ctOf sigMul))] (fun f p _ => at2 f p 999999 218 rtL (at2 f p 67 218 rwL (at2 f p 51 250 rwLR none))) [] 100 94 sigTimes = true := by
  rw [vc_times]
  try simp only [Int.toNat_natCast, List.length_set, List.length_replicate, List.length_take, List.length_drop, List.length_append, List.length_cons, List.length_nil, Nat.min_self, List.take_take, lenCols_i, lenCols_b, List.drop_zero, List.take_length, Nat.add_eq, Nat.mul_eq, Nat.sub_eq, Nat.zero_add, Nat.sub_zero, Nat.mul_one]
  refine all_i fun n0 => ?_
  refine imp_i fun h0 => ?_
  refine imp_i fun h1 => ?_
  refine all_i fun n1 => ?_
  refine imp_i fun h2 => ?_
  refine imp_i fun h3 => ?_
  refine imp_i fun h4 => ?_
  try simp only [sigTimes, timesPost, List.cons.injEq, DV.b.injEq, and_true, List.length_cons, List.length_nil] at h4
  refine req_i ?_ ?_
  · -- r0
   first | omega | assumption | grind
  refine req_i ?_ ?_
  · -- r1
   first | omega | assumption | grind
  refine req_i ?_ ?_
  · -- r2
   first | trivial | assumption | (simp only [sigSize, sizePost, List.cons.injEq, DV.b.injEq, and_true, List.length_cons, List.length_nil]; done) | ((try simp only [sigSize, sizePost, List.cons.injEq, DV.b.injEq, and_true, List.length_cons, List.length_nil]); first | omega | assumption | grind)
  refine all_i fun n2 => ?_
  refine imp_i fun h5 => ?_
  refine imp_i fun h6 => ?_
  refine imp_i fun h7 => ?_
  try simp only [sigSize, sizePost, List.cons.injEq, DV.b.injEq, and_true, List.length_cons, List.length_nil] at h7
  refine req_i ?_ ?_
  · -- r3
   first | omega | assumption | grind
  refine req_i ?_ ?_
  · -- r4
   first | omega | assumption | grind
  refine req_i ?_ ?_
  · -- r5
   first | trivial | assumption | (simp only [sigSize, sizePost, List.cons.injEq, DV.b.injEq, and_true, List.length_cons, List.length_nil]; done) | ((try simp only [sigSize, sizePost, List.cons.injEq, DV.b.injEq, and_true, List.length_cons, List.length_nil]); first | omega | assumption | grind)
  refine all_i fun n3 => ?_
  refine imp_i fun h8 => ?_
  refine imp_i fun h9 => ?_
  refine imp_i fun h10 => ?_
  try simp only [sigSize, sizePost, List.cons.injEq, DV.b.injEq, and_true, List.length_cons, List.length_nil] at h10
  refine req_i ?_ ?_
  · -- r6
   first | omega | assumption | grind
  refine req_i ?_ ?_
  · -- r7
   first | omega | assumption | grind
  refine req_i ?_ ?_
  · -- r8
   first | omega | assumption | grind
  refine req_i ?_ ?_
  · -- r9
   first | omega | assumption | grind
  refine req_i ?_ ?_
  · -- r10
   first | trivial | assumption | (simp only [sigMul, mulPost, List.cons.injEq, DV.b.injEq, and_true, List.length_cons, List.length_nil]; done) | ((try simp only [sigMul, mulPost, List.cons.injEq, DV.b.injEq, and_true, List.length_cons, List.length_nil]); first | omega | assumption | grind)
  refine all_i fun n4 => ?_
  refine imp_i fun h11 => ?_
  refine imp_i fun h12 => ?_
  refine all_i fun n5 => ?_
  refine imp_i fun h13 => ?_
  refine imp_i fun h14 => ?_
  refine imp_i fun h15 => ?_
  try simp only [sigMul, mulPost, List.cons.injEq, DV.b.injEq, and_true, List.length_cons, List.length_nil] at h15
  refine req_i ?_ ?_
  · -- r11
   first | omega | assumption | grind
  refine req_i ?_ ?_
  · -- r12
   first | omega | assumption | grind
  refine req_i ?_ ?_
  · -- r13
   first | omega | assumption | grind
  refine req_i ?_ ?_
  · -- r14
   first | omega | assumption | grind
  refine req_i ?_ ?_
  · -- r15
   first | omega | ((try simp only [sigTimes, timesPost, List.cons.injEq, DV.b.injEq, and_true, List.length_cons, List.length_nil]); first | done | omega | assumption | grind [getD_set, getD_rep, toNat_succ, cntN_yes, cntN_no])
  rfl
theorem ext_times : ∀ p ∈ ([(110, Ext.ctr (ctOf sigSize)), (62, Ext.ctr (ctOf sigMul))] : List (Nat × Ext)), ExtRow Try.prog p.1 p.2 := by
  intro p hp
  simp only [List.mem_cons, List.not_mem_nil, or_false] at hp
  rcases hp with rfl | rfl
  · trivial
  · trivial
theorem cts_times : CtsOk Try.prog [(110, Ext.ctr (ctOf sigSize)), (62, Ext.ctr (ctOf sigMul))] := ctsOk_of (cs := [(110, sigSize), (62, sigMul)])
  (fun p hp => by
    simp only [List.mem_cons, List.not_mem_nil, or_false] at hp
    rcases hp with rfl | rfl
    · exact fn_size
    · exact fn_mul64
)
  (fun f c h => by
    simp only [List.lookup_cons] at h
    repeat' split at h
    all_goals first | (cases h; done) | (rename_i e; have e := beq_iff_eq.1 e; subst e; cases h; refine ⟨_, ?_, rfl⟩; simp))
theorem fn_times : FnOk Try.prog 94 sigTimes [] := fn_sound (by kernel_rfl) ext_times cts_times names vt_times
end Go.Proofs.Ytfcjkgenaekehaa

namespace Go.Proofs.Ytfcjkgenaekehaa
open Go.Ev Go.Sp
theorem fn_sub64 : FnOk Try.prog 64 sigSub64 [] := Go.Ev.fn_sub64 ⟨Try.f64, Try.func64, by kernel_rfl, by kernel_rfl, by kernel_rfl, by kernel_rfl⟩
end Go.Proofs.Ytfcjkgenaekehaa

namespace Go.Proofs.Ytfcjkgenaekehaa
open Go.Ev Go.Sp
set_option maxRecDepth 100000
theorem vc_prod : vcFn Try.prog [(94, Ext.ctr (ctOf sigTimes)), (64, Ext.ctr (ctOf sigSub64))] (fun f p _ => at2 f p 999999 218 rtL (at2 f p 67 218 rwL (at2 f p 51 250 rwLR none))) [] 100 65 sigProd = (allB fun n0 : Int => 
impB ((-9223372036854775808 : Int) ≤ n0) (
impB (n0 ≤ (9223372036854775807 : Int)) (
allB fun n1 : Int => 
impB ((-9223372036854775808 : Int) ≤ n1) (
impB (n1 ≤ (9223372036854775807 : Int)) (
impB (sigProd.pre [DV.n n0, DV.n n1]) (
reqB ((-9223372036854775808 : Int) ≤ n0) (
reqB (n0 ≤ (9223372036854775807 : Int)) (
reqB ((-9223372036854775808 : Int) ≤ n1) (
reqB (n1 ≤ (9223372036854775807 : Int)) (
reqB (sigTimes.pre [DV.n n0, DV.n n1]) (
allB fun n2 : Int => 
impB ((0 : Int) ≤ n2) (
impB (n2 ≤ (18446744073709551615 : Int)) (
allB fun n3 : Int => 
impB ((0 : Int) ≤ n3) (
impB (n3 ≤ (18446744073709551615 : Int)) (
impB (sigTimes.post [DV.n n0, DV.n n1] [DV.n n2, DV.n n3]) (
bR (bR (dec (n0 < (0 : Int))) (
 dec (n1 < (0 : Int))) (
 bR (dec (n1 < (0 : Int))) (
 false) (
 true))) (
 allB fun n4 : Int => 
 impB (n4 = Go.IntKind.i64.wrap n2) (
 impB (Int.negSucc (9223372036854775807 : Nat) ≤ n4) (
 impB (n4 ≤ Int.ofNat (9223372036854775807 : Nat)) (
 reqB ((-9223372036854775808 : Int) ≤ n4) (
 reqB (n4 ≤ (9223372036854775807 : Int)) (
 reqB ((0 : Int) ≤ n3) (
 reqB (n3 ≤ (18446744073709551615 : Int)) (
 reqB (sigProd.post [DV.n n0, DV.n n1] [DV.n n4, DV.n n3]) (
 true))))))))) (
 reqB ((0 : Int) ≤ n3) (
 reqB (n3 ≤ (18446744073709551615 : Int)) (
 reqB (sigSub64.pre [DV.n (0 : Int), DV.n n3, DV.n (0 : Int)]) (
 allB fun n5 : Int => 
 impB ((0 : Int) ≤ n5) (
 impB (n5 ≤ (18446744073709551615 : Int)) (
 allB fun n6 : Int => 
 impB ((0 : Int) ≤ n6) (
 impB (n6 ≤ (1 : Int)) (
 impB (sigSub64.post [DV.n (0 : Int), DV.n n3, DV.n (0 : Int)] [DV.n n5, DV.n n6]) (
 reqB ((0 : Int) ≤ n2) (
 reqB (n2 ≤ (18446744073709551615 : Int)) (
 reqB ((0 : Int) ≤ n6) (
 reqB (n6 ≤ (1 : Int)) (
 reqB (sigSub64.pre [DV.n (0 : Int), DV.n n2, DV.n n6]) (
 allB fun n7 : Int => 
 impB ((0 : Int) ≤ n7) (
 impB (n7 ≤ (18446744073709551615 : Int)) (
 allB fun n8 : Int => 
 impB ((0 : Int) ≤ n8) (
 impB (n8 ≤ (1 : Int)) (
 impB (sigSub64.post [DV.n (0 : Int), DV.n n2, DV.n n6] [DV.n n7, DV.n n8]) (
 allB fun n9 : Int => 
 impB (n9 = Go.IntKind.i64.wrap n7) (
 impB (Int.negSucc (9223372036854775807 : Nat) ≤ n9) (
 impB (n9 ≤ Int.ofNat (9223372036854775807 : Nat)) (
 reqB ((-9223372036854775808 : Int) ≤ n9) (
 reqB (n9 ≤ (9223372036854775807 : Int)) (
 reqB ((0 : Int) ≤ n5) (
 reqB (n5 ≤ (18446744073709551615 : Int)) (
 reqB (sigProd.post [DV.n n0, DV.n n1] [DV.n n9, DV.n n5]) (
 true))))))))))))))))))))))))))))))))))))))))))) := by kernel_rfl
set_option maxHeartbeats 8000000 in
theorem vt_prod : vcFn Try.prog [(94, Ext.ctr (ctOf sigTimes)), (64, Ext.ctr (ctOf sigSub64))] (fun f p _ => at2 f p 999999 218 rtL (at2 f p 67 218 rwL (at2 f p 51 250 rwLR none))) [] 100 65 sigProd = true := by
  rw [vc_prod]
  try simp only [Int.toNat_natCast, List.length_set, List.length_replicate, List.length_take, List.length_drop, List.length_append, List.length_cons, List.length_nil, Nat.min_self, List.take_take, lenCols_i, lenCols_b, List.drop_zero, List.take_length, Nat.add_eq, Nat.mul_eq, Nat.sub_eq, Nat.zero_add, Nat.sub_zero, Nat.mul_one]
  refine all_i fun n0 => ?_
  refine imp_i fun h0 => ?_
  refine imp_i fun h1 => ?_
  refine all_i fun n1 => ?_
  refine imp_i fun h2 => ?_
  refine imp_i fun h3 => ?_
  refine imp_i fun h4 => ?_
  try simp only [sigProd, prodPost, List.cons.injEq, DV.b.injEq, and_true, List.length_cons, List.length_nil] at h4
  have am := abs_mul (a := n0) (b := n1) (by omega) (by omega) (by omega) (by omega)
  refine req_i ?_ ?_
  · -- r0
   first | omega | assumption | grind
  refine req_i ?_ ?_
  · -- r1
   first | omega | assumption | grind
  refine req_i ?_ ?_
  · -- r2
   first | omega | assumption | grind
  refine req_i ?_ ?_
  · -- r3
   first | omega | assumption | grind
  refine req_i ?_ ?_
  · -- r4
   first | trivial | assumption | (simp only [sigTimes, timesPost, List.cons.injEq, DV.b.injEq, and_true, List.length_cons, List.length_nil]; done) | ((try simp only [sigTimes, timesPost, List.cons.injEq, DV.b.injEq, and_true, List.length_cons, List.length_nil]); first | omega | assumption | grind)
  refine all_i fun n2 => ?_
  refine imp_i fun h5 => ?_
  refine imp_i fun h6 => ?_
  refine all_i fun n3 => ?_
  refine imp_i fun h7 => ?_
  refine imp_i fun h8 => ?_
  refine imp_i fun h9 => ?_
  try simp only [sigTimes, timesPost, List.cons.injEq, DV.b.injEq, and_true, List.length_cons, List.length_nil] at h9
  refine bR_i (fun h10 => ?_) (fun h10 => ?_)
  ·
   simp only [bR_iff, bR_iff_f, dec_iff, dec_f, Bool.false_eq_true, Bool.true_eq_false, false_implies, imp_false, and_true, true_and, implies_true, Classical.not_not] at h10
   refine all_i fun n4 => ?_
   refine imp_i fun h11 => ?_
   simp only [wrap_i64] at h11
   refine imp_i fun h12 => ?_
   refine imp_i fun h13 => ?_
   refine req_i ?_ ?_
   · -- r5
    first | omega | assumption | grind
   refine req_i ?_ ?_
   · -- r6
    first | omega | assumption | grind
   refine req_i ?_ ?_
   · -- r7
    first | omega | assumption | grind
   refine req_i ?_ ?_
   · -- r8
    first | omega | assumption | grind
   refine req_i ?_ ?_
   · -- r9
    first | omega | ((try simp only [sigProd, prodPost, List.cons.injEq, DV.b.injEq, and_true, List.length_cons, List.length_nil]); first | done | omega | assumption | grind [getD_set, getD_rep, toNat_succ, cntN_yes, cntN_no])
   rfl
  ·
   simp only [bR_iff, bR_iff_f, dec_iff, dec_f, Bool.false_eq_true, Bool.true_eq_false, false_implies, imp_false, and_true, true_and, implies_true, Classical.not_not] at h10
   refine req_i ?_ ?_
   · -- r10
    first | omega | assumption | grind
   refine req_i ?_ ?_
   · -- r11
    first | omega | assumption | grind
   refine req_i ?_ ?_
   · -- r12
    first | trivial | assumption | (simp only [sigSub64, sub64Post, List.cons.injEq, DV.b.injEq, and_true, List.length_cons, List.length_nil]; done) | ((try simp only [sigSub64, sub64Post, List.cons.injEq, DV.b.injEq, and_true, List.length_cons, List.length_nil]); first | omega | assumption | grind)
   refine all_i fun n5 => ?_
   refine imp_i fun h14 => ?_
   refine imp_i fun h15 => ?_
   refine all_i fun n6 => ?_
   refine imp_i fun h16 => ?_
   refine imp_i fun h17 => ?_
   refine imp_i fun h18 => ?_
   try simp only [sigSub64, sub64Post, List.cons.injEq, DV.b.injEq, and_true, List.length_cons, List.length_nil] at h18
   refine req_i ?_ ?_
   · -- r13
    first | omega | assumption | grind
   refine req_i ?_ ?_
   · -- r14
    first | omega | assumption | grind
   refine req_i ?_ ?_
   · -- r15
    first | omega | assumption | grind
   refine req_i ?_ ?_
   · -- r16
    first | omega | assumption | grind
   refine req_i ?_ ?_
   · -- r17
    first | trivial | assumption | (simp only [sigSub64, sub64Post, List.cons.injEq, DV.b.injEq, and_true, List.length_cons, List.length_nil]; done) | ((try simp only [sigSub64, sub64Post, List.cons.injEq, DV.b.injEq, and_true, List.length_cons, List.length_nil]); first | omega | assumption | grind)
   refine all_i fun n7 => ?_
   refine imp_i fun h19 => ?_
   refine imp_i fun h20 => ?_
   refine all_i fun n8 => ?_
   refine imp_i fun h21 => ?_
   refine imp_i fun h22 => ?_
   refine imp_i fun h23 => ?_
   try simp only [sigSub64, sub64Post, List.cons.injEq, DV.b.injEq, and_true, List.length_cons, List.length_nil] at h23
   refine all_i fun n9 => ?_
   refine imp_i fun h24 => ?_
   simp only [wrap_i64] at h24
   refine imp_i fun h25 => ?_
   refine imp_i fun h26 => ?_
   refine req_i ?_ ?_
   · -- r18
    first | omega | assumption | grind
   refine req_i ?_ ?_
   · -- r19
    first | omega | assumption | grind
   refine req_i ?_ ?_
   · -- r20
    first | omega | assumption | grind
   refine req_i ?_ ?_
   · -- r21
    first | omega | assumption | grind
   refine req_i ?_ ?_
   · -- r22
    first | omega | ((try simp only [sigProd, prodPost, List.cons.injEq, DV.b.injEq, and_true, List.length_cons, List.length_nil]); first | done | omega | assumption | grind [getD_set, getD_rep, toNat_succ, cntN_yes, cntN_no])
   rfl
theorem ext_prod : ∀ p ∈ ([(94, Ext.ctr (ctOf sigTimes)), (64, Ext.ctr (ctOf sigSub64))] : List (Nat × Ext)), ExtRow Try.prog p.1 p.2 := by
  intro p hp
  simp only [List.mem_cons, List.not_mem_nil, or_false] at hp
  rcases hp with rfl | rfl
  · trivial
  · trivial
theorem cts_prod : CtsOk Try.prog [(94, Ext.ctr (ctOf sigTimes)), (64, Ext.ctr (ctOf sigSub64))] := ctsOk_of (cs := [(94, sigTimes), (64, sigSub64)])
  (fun p hp => by
    simp only [List.mem_cons, List.not_mem_nil, or_false] at hp
    rcases hp with rfl | rfl
    · exact fn_times
    · exact fn_sub64
)
  (fun f c h => by
    simp only [List.lookup_cons] at h
    repeat' split at h
    all_goals first | (cases h; done) | (rename_i e; have e := beq_iff_eq.1 e; subst e; cases h; refine ⟨_, ?_, rfl⟩; simp))
theorem fn_prod : FnOk Try.prog 65 sigProd [] := fn_sound (by kernel_rfl) ext_prod cts_prod names vt_prod
end Go.Proofs.Ytfcjkgenaekehaa

namespace Go.Proofs.Ytfcjkgenaekehaa
open Go.Ev Go.Sp
theorem fn_add64 : FnOk Try.prog 85 sigAdd64 [] := Go.Ev.fn_add64 ⟨Try.f85, Try.func85, by kernel_rfl, by kernel_rfl, by kernel_rfl, by kernel_rfl⟩
end Go.Proofs.Ytfcjkgenaekehaa

namespace Go.Proofs.Ytfcjkgenaekehaa
open Go.Ev Go.Sp
set_option maxRecDepth 100000
theorem vc_plus : vcFn Try.prog [(85, Ext.ctr (ctOf sigAdd64))] (fun f p _ => at2 f p 999999 218 rtL (at2 f p 67 218 rwL (at2 f p 51 250 rwLR none))) [] 100 66 sigPlus = (allB fun n0 : Int => 
impB ((-9223372036854775808 : Int) ≤ n0) (
impB (n0 ≤ (9223372036854775807 : Int)) (
allB fun n1 : Int => 
impB ((0 : Int) ≤ n1) (
impB (n1 ≤ (18446744073709551615 : Int)) (
allB fun n2 : Int => 
impB ((-9223372036854775808 : Int) ≤ n2) (
impB (n2 ≤ (9223372036854775807 : Int)) (
allB fun n3 : Int => 
impB ((0 : Int) ≤ n3) (
impB (n3 ≤ (18446744073709551615 : Int)) (
impB (sigPlus.pre [DV.n n0, DV.n n1, DV.n n2, DV.n n3]) (
reqB ((0 : Int) ≤ n1) (
reqB (n1 ≤ (18446744073709551615 : Int)) (
reqB ((0 : Int) ≤ n3) (
reqB (n3 ≤ (18446744073709551615 : Int)) (
reqB (sigAdd64.pre [DV.n n1, DV.n n3, DV.n (0 : Int)]) (
allB fun n4 : Int => 
impB ((0 : Int) ≤ n4) (
impB (n4 ≤ (18446744073709551615 : Int)) (
allB fun n5 : Int => 
impB ((0 : Int) ≤ n5) (
impB (n5 ≤ (1 : Int)) (
impB (sigAdd64.post [DV.n n1, DV.n n3, DV.n (0 : Int)] [DV.n n4, DV.n n5]) (
allB fun n6 : Int => 
impB (n6 = Go.IntKind.i64.wrap (n0 + n2)) (
impB (Int.negSucc (9223372036854775807 : Nat) ≤ n6) (
impB (n6 ≤ Int.ofNat (9223372036854775807 : Nat)) (
allB fun n7 : Int => 
impB (n7 = Go.IntKind.i64.wrap (n6 + n5)) (
impB (Int.negSucc (9223372036854775807 : Nat) ≤ n7) (
impB (n7 ≤ Int.ofNat (9223372036854775807 : Nat)) (
bR (bR (dec (n0 < (0 : Int))) (
 dec (n2 < (0 : Int))) (
 bR (dec (n2 < (0 : Int))) (
 false) (
 true))) (
 bR (bR (bR (dec (n7 < (0 : Int))) (
 dec (n0 < (0 : Int))) (
 bR (dec (n0 < (0 : Int))) (
 false) (
 true))) (
 false) (
 true)) (
 reqB (sigPlus.post [DV.n n0, DV.n n1, DV.n n2, DV.n n3]
 [DV.n (0 : Int), DV.n (0 : Int), DV.n (5 : Int)]) (
 true)) (
 reqB ((-9223372036854775808 : Int) ≤ n7) (
 reqB (n7 ≤ (9223372036854775807 : Int)) (
 reqB ((0 : Int) ≤ n4) (
 reqB (n4 ≤ (18446744073709551615 : Int)) (
 reqB (sigPlus.post [DV.n n0, DV.n n1, DV.n n2, DV.n n3]
 [DV.n n7, DV.n n4, DV.n (0 : Int)]) (
 true))))))) (
 reqB ((-9223372036854775808 : Int) ≤ n7) (
 reqB (n7 ≤ (9223372036854775807 : Int)) (
 reqB ((0 : Int) ≤ n4) (
 reqB (n4 ≤ (18446744073709551615 : Int)) (
 reqB (sigPlus.post [DV.n n0, DV.n n1, DV.n n2, DV.n n3]
 [DV.n n7, DV.n n4, DV.n (0 : Int)]) (
 true)))))))))))))))))))))))))))))))) := by kernel_rfl
set_option maxHeartbeats 8000000 in
theorem vt_plus : vcFn Try.prog [(85, Ext.ctr (ctOf sigAdd64))] (fun f p _ => at2 f p 999999 218 rtL (at2 f p 67 218 rwL (at2 f p 51 250 rwLR none))) [] 100 66 sigPlus = true := by
  rw [vc_plus]
  try simp only [Int.toNat_natCast, List.length_set, List.length_replicate, List.length_take, List.length_drop, List.length_append, List.length_cons, List.length_nil, Nat.min_self, List.take_take, lenCols_i, lenCols_b, List.drop_zero, List.take_length, Nat.add_eq, Nat.mul_eq, Nat.sub_eq, Nat.zero_add, Nat.sub_zero, Nat.mul_one]
  refine all_i fun n0 => ?_
  refine imp_i fun h0 => ?_
  refine imp_i fun h1 => ?_
  refine all_i fun n1 => ?_
  refine imp_i fun h2 => ?_
  refine imp_i fun h3 => ?_
  refine all_i fun n2 => ?_
  refine imp_i fun h4 => ?_
  refine imp_i fun h5 => ?_
  refine all_i fun n3 => ?_
  refine imp_i fun h6 => ?_
  refine imp_i fun h7 => ?_
  refine imp_i fun h8 => ?_
  try simp only [sigPlus, plusPost, List.cons.injEq, DV.b.injEq, and_true, List.length_cons, List.length_nil] at h8
  refine req_i ?_ ?_
  · -- r0
   first | omega | assumption | grind
  refine req_i ?_ ?_
  · -- r1
   first | omega | assumption | grind
  refine req_i ?_ ?_
  · -- r2
   first | omega | assumption | grind
  refine req_i ?_ ?_
  · -- r3
   first | omega | assumption | grind
  refine req_i ?_ ?_
  · -- r4
   first | trivial | assumption | (simp only [sigAdd64, add64Post, List.cons.injEq, DV.b.injEq, and_true, List.length_cons, List.length_nil]; done) | ((try simp only [sigAdd64, add64Post, List.cons.injEq, DV.b.injEq, and_true, List.length_cons, List.length_nil]); first | omega | assumption | grind)
  refine all_i fun n4 => ?_
  refine imp_i fun h9 => ?_
  refine imp_i fun h10 => ?_
  refine all_i fun n5 => ?_
  refine imp_i fun h11 => ?_
  refine imp_i fun h12 => ?_
  refine imp_i fun h13 => ?_
  try simp only [sigAdd64, add64Post, List.cons.injEq, DV.b.injEq, and_true, List.length_cons, List.length_nil] at h13
  refine all_i fun n6 => ?_
  refine imp_i fun h14 => ?_
  simp only [wrap_i64] at h14
  refine imp_i fun h15 => ?_
  refine imp_i fun h16 => ?_
  refine all_i fun n7 => ?_
  refine imp_i fun h17 => ?_
  simp only [wrap_i64] at h17
  refine imp_i fun h18 => ?_
  refine imp_i fun h19 => ?_
  refine bR_i (fun h20 => ?_) (fun h20 => ?_)
  ·
   simp only [bR_iff, bR_iff_f, dec_iff, dec_f, Bool.false_eq_true, Bool.true_eq_false, false_implies, imp_false, and_true, true_and, implies_true, Classical.not_not] at h20
   refine bR_i (fun h21 => ?_) (fun h21 => ?_)
   ·
    simp only [bR_iff, bR_iff_f, dec_iff, dec_f, Bool.false_eq_true, Bool.true_eq_false, false_implies, imp_false, and_true, true_and, implies_true, Classical.not_not] at h21
    refine req_i ?_ ?_
    · -- r5
     first | omega | ((try simp only [sigPlus, plusPost, List.cons.injEq, DV.b.injEq, and_true, List.length_cons, List.length_nil]); first | done | omega | assumption | grind [getD_set, getD_rep, toNat_succ, cntN_yes, cntN_no])
    rfl
   ·
    simp only [bR_iff, bR_iff_f, dec_iff, dec_f, Bool.false_eq_true, Bool.true_eq_false, false_implies, imp_false, and_true, true_and, implies_true, Classical.not_not] at h21
    refine req_i ?_ ?_
    · -- r6
     first | omega | assumption | grind
    refine req_i ?_ ?_
    · -- r7
     first | omega | assumption | grind
    refine req_i ?_ ?_
    · -- r8
     first | omega | assumption | grind
    refine req_i ?_ ?_
    · -- r9
     first | omega | assumption | grind
    refine req_i ?_ ?_
    · -- r10
     first | omega | ((try simp only [sigPlus, plusPost, List.cons.injEq, DV.b.injEq, and_true, List.length_cons, List.length_nil]); first | done | omega | assumption | grind [getD_set, getD_rep, toNat_succ, cntN_yes, cntN_no])
    rfl
  ·
   simp only [bR_iff, bR_iff_f, dec_iff, dec_f, Bool.false_eq_true, Bool.true_eq_false, false_implies, imp_false, and_true, true_and, implies_true, Classical.not_not] at h20
   refine req_i ?_ ?_
   · -- r11
    first | omega | assumption | grind
   refine req_i ?_ ?_
   · -- r12
    first | omega | assumption | grind
   refine req_i ?_ ?_
   · -- r13
    first | omega | assumption | grind
   refine req_i ?_ ?_
   · -- r14
    first | omega | assumption | grind
   refine req_i ?_ ?_
   · -- r15
    first | omega | ((try simp only [sigPlus, plusPost, List.cons.injEq, DV.b.injEq, and_true, List.length_cons, List.length_nil]); first | done | omega | assumption | grind [getD_set, getD_rep, toNat_succ, cntN_yes, cntN_no])
   rfl
theorem ext_plus : ∀ p ∈ ([(85, Ext.ctr (ctOf sigAdd64))] : List (Nat × Ext)), ExtRow Try.prog p.1 p.2 := by
  intro p hp
  simp only [List.mem_cons, List.not_mem_nil, or_false] at hp
  rcases hp with rfl
  · trivial
theorem cts_plus : CtsOk Try.prog [(85, Ext.ctr (ctOf sigAdd64))] := ctsOk_of (cs := [(85, sigAdd64)])
  (fun p hp => by
    simp only [List.mem_cons, List.not_mem_nil, or_false] at hp
    rcases hp with rfl
    · exact fn_add64
)
  (fun f c h => by
    simp only [List.lookup_cons] at h
    repeat' split at h
    all_goals first | (cases h; done) | (rename_i e; have e := beq_iff_eq.1 e; subst e; cases h; refine ⟨_, ?_, rfl⟩; simp))
theorem fn_plus : FnOk Try.prog 66 sigPlus [] := fn_sound (by kernel_rfl) ext_plus cts_plus names vt_plus
end Go.Proofs.Ytfcjkgenaekehaa

namespace Go.Proofs.Ytfcjkgenaekehaa
open Go.Ev Go.Sp
set_option maxRecDepth 100000
theorem vc_norm : vcFn Try.prog [(65, Ext.ctr (ctOf sigProd)), (66, Ext.ctr (ctOf sigPlus))] noA [] 100 35 sigNorm = (allB fun n0 : Int => 
impB ((-4611686018427387904 : Int) ≤ n0) (
impB (n0 ≤ (4611686018427387904 : Int)) (
allB fun n1 : Int => 
impB ((-4611686018427387904 : Int) ≤ n1) (
impB (n1 ≤ (4611686018427387904 : Int)) (
allB fun n2 : Int => 
impB ((-4611686018427387904 : Int) ≤ n2) (
impB (n2 ≤ (4611686018427387904 : Int)) (
impB (sigNorm.pre [DV.n n0, DV.n n1, DV.n n2]) (
reqB ((-9223372036854775808 : Int) ≤ n0) (
reqB (n0 ≤ (9223372036854775807 : Int)) (
reqB ((-9223372036854775808 : Int) ≤ n0) (
reqB (n0 ≤ (9223372036854775807 : Int)) (
reqB (sigProd.pre [DV.n n0, DV.n n0]) (
allB fun n3 : Int => 
impB ((-9223372036854775808 : Int) ≤ n3) (
impB (n3 ≤ (9223372036854775807 : Int)) (
allB fun n4 : Int => 
impB ((0 : Int) ≤ n4) (
impB (n4 ≤ (18446744073709551615 : Int)) (
impB (sigProd.post [DV.n n0, DV.n n0] [DV.n n3, DV.n n4]) (
reqB ((-9223372036854775808 : Int) ≤ n1) (
reqB (n1 ≤ (9223372036854775807 : Int)) (
reqB ((-9223372036854775808 : Int) ≤ n1) (
reqB (n1 ≤ (9223372036854775807 : Int)) (
reqB (sigProd.pre [DV.n n1, DV.n n1]) (
allB fun n5 : Int => 
impB ((-9223372036854775808 : Int) ≤ n5) (
impB (n5 ≤ (9223372036854775807 : Int)) (
allB fun n6 : Int => 
impB ((0 : Int) ≤ n6) (
impB (n6 ≤ (18446744073709551615 : Int)) (
impB (sigProd.post [DV.n n1, DV.n n1] [DV.n n5, DV.n n6]) (
reqB ((-9223372036854775808 : Int) ≤ n3) (
reqB (n3 ≤ (9223372036854775807 : Int)) (
reqB ((0 : Int) ≤ n4) (
reqB (n4 ≤ (18446744073709551615 : Int)) (
reqB ((-9223372036854775808 : Int) ≤ n5) (
reqB (n5 ≤ (9223372036854775807 : Int)) (
reqB ((0 : Int) ≤ n6) (
reqB (n6 ≤ (18446744073709551615 : Int)) (
reqB (sigPlus.pre [DV.n n3, DV.n n4, DV.n n5, DV.n n6]) (
allB fun n7 : Int => 
impB ((-9223372036854775808 : Int) ≤ n7) (
impB (n7 ≤ (9223372036854775807 : Int)) (
allB fun n8 : Int => 
impB ((0 : Int) ≤ n8) (
impB (n8 ≤ (18446744073709551615 : Int)) (
allB fun n9 : Int => 
impB ((0 : Int) ≤ n9) (
impB (n9 ≤ (18 : Int)) (
impB (sigPlus.post [DV.n n3, DV.n n4, DV.n n5, DV.n n6]
 [DV.n n7, DV.n n8, DV.n n9]) (
bR (dec (n9 ≠ (0 : Int))) (
 reqB ((0 : Int) ≤ n9) (
 reqB (n9 ≤ (18 : Int)) (
 reqB (sigNorm.post [DV.n n0, DV.n n1, DV.n n2]
 [DV.n (0 : Int), DV.n (0 : Int), DV.n n9]) (
 true)))) (
 reqB ((-9223372036854775808 : Int) ≤ n2) (
 reqB (n2 ≤ (9223372036854775807 : Int)) (
 reqB ((-9223372036854775808 : Int) ≤ n2) (
 reqB (n2 ≤ (9223372036854775807 : Int)) (
 reqB (sigProd.pre [DV.n n2, DV.n n2]) (
 allB fun n10 : Int => 
 impB ((-9223372036854775808 : Int) ≤ n10) (
 impB (n10 ≤ (9223372036854775807 : Int)) (
 allB fun n11 : Int => 
 impB ((0 : Int) ≤ n11) (
 impB (n11 ≤ (18446744073709551615 : Int)) (
 impB (sigProd.post [DV.n n2, DV.n n2] [DV.n n10, DV.n n11]) (
 reqB ((-9223372036854775808 : Int) ≤ n7) (
 reqB (n7 ≤ (9223372036854775807 : Int)) (
 reqB ((0 : Int) ≤ n8) (
 reqB (n8 ≤ (18446744073709551615 : Int)) (
 reqB ((-9223372036854775808 : Int) ≤ n10) (
 reqB (n10 ≤ (9223372036854775807 : Int)) (
 reqB ((0 : Int) ≤ n11) (
 reqB (n11 ≤ (18446744073709551615 : Int)) (
 reqB (sigPlus.pre [DV.n n7, DV.n n8, DV.n n10, DV.n n11]) (
 allB fun n12 : Int => 
 impB ((-9223372036854775808 : Int) ≤ n12) (
 impB (n12 ≤ (9223372036854775807 : Int)) (
 allB fun n13 : Int => 
 impB ((0 : Int) ≤ n13) (
 impB (n13 ≤ (18446744073709551615 : Int)) (
 allB fun n14 : Int => 
 impB ((0 : Int) ≤ n14) (
 impB (n14 ≤ (18 : Int)) (
 impB (sigPlus.post [DV.n n7, DV.n n8, DV.n n10, DV.n n11]
 [DV.n n12, DV.n n13, DV.n n14]) (
 bR (dec (n14 ≠ (0 : Int))) (
 reqB ((0 : Int) ≤ n14) (
 reqB (n14 ≤ (18 : Int)) (
 reqB (sigNorm.post [DV.n n0, DV.n n1, DV.n n2]
 [DV.n (0 : Int), DV.n (0 : Int), DV.n n14]) (
 true)))) (
 reqB ((-9223372036854775808 : Int) ≤ n12) (
 reqB (n12 ≤ (9223372036854775807 : Int)) (
 reqB ((0 : Int) ≤ n13) (
 reqB (n13 ≤ (18446744073709551615 : Int)) (
 reqB (sigNorm.post [DV.n n0, DV.n n1, DV.n n2] [DV.n n12, DV.n n13, DV.n (0 : Int)]) (
 true))))))))))))))))))))))))))))))))))))))))))))))))))))))))))))))))))))))))))))) := by kernel_rfl
set_option maxHeartbeats 8000000 in
theorem vt_norm : vcFn Try.prog [(65, Ext.ctr (ctOf sigProd)), (66, Ext.ctr (ctOf sigPlus))] noA [] 100 35 sigNorm = true := by
  rw [vc_norm]
  try simp only [Int.toNat_natCast, List.length_set, List.length_replicate, List.length_take, List.length_drop, List.length_append, List.length_cons, List.length_nil, Nat.min_self, List.take_take, lenCols_i, lenCols_b, List.drop_zero, List.take_length, Nat.add_eq, Nat.mul_eq, Nat.sub_eq, Nat.zero_add, Nat.sub_zero, Nat.mul_one]
  refine all_i fun n0 => ?_
  refine imp_i fun h0 => ?_
  refine imp_i fun h1 => ?_
  refine all_i fun n1 => ?_
  refine imp_i fun h2 => ?_
  refine imp_i fun h3 => ?_
  refine all_i fun n2 => ?_
  refine imp_i fun h4 => ?_
  refine imp_i fun h5 => ?_
  refine imp_i fun h6 => ?_
  try simp only [sigNorm, c62, normPost, List.cons.injEq, DV.b.injEq, and_true, List.length_cons, List.length_nil] at h6
  refine req_i ?_ ?_
  · -- r0
   first | omega | assumption | grind
  refine req_i ?_ ?_
  · -- r1
   first | omega | assumption | grind
  refine req_i ?_ ?_
  · -- r2
   first | omega | assumption | grind
  refine req_i ?_ ?_
  · -- r3
   first | omega | assumption | grind
  refine req_i ?_ ?_
  · -- r4
   first | trivial | assumption | (simp only [sigProd, prodPost, List.cons.injEq, DV.b.injEq, and_true, List.length_cons, List.length_nil]; done) | ((try simp only [sigProd, prodPost, List.cons.injEq, DV.b.injEq, and_true, List.length_cons, List.length_nil]); first | omega | assumption | grind)
  refine all_i fun n3 => ?_
  refine imp_i fun h7 => ?_
  refine imp_i fun h8 => ?_
  refine all_i fun n4 => ?_
  refine imp_i fun h9 => ?_
  refine imp_i fun h10 => ?_
  refine imp_i fun h11 => ?_
  try simp only [sigProd, prodPost, List.cons.injEq, DV.b.injEq, and_true, List.length_cons, List.length_nil] at h11
  have s1 := sq_abs (a := n0) (A := 4611686018427387904) (by omega) (by omega)
  refine req_i ?_ ?_
  · -- r5
   first | omega | assumption | grind
  refine req_i ?_ ?_
  · -- r6
   first | omega | assumption | grind
  refine req_i ?_ ?_
  · -- r7
   first | omega | assumption | grind
  refine req_i ?_ ?_
  · -- r8
   first | omega | assumption | grind
  refine req_i ?_ ?_
  · -- r9
   first | trivial | assumption | (simp only [sigProd, prodPost, List.cons.injEq, DV.b.injEq, and_true, List.length_cons, List.length_nil]; done) | ((try simp only [sigProd, prodPost, List.cons.injEq, DV.b.injEq, and_true, List.length_cons, List.length_nil]); first | omega | assumption | grind)
  refine all_i fun n5 => ?_
  refine imp_i fun h12 => ?_
  refine imp_i fun h13 => ?_
  refine all_i fun n6 => ?_
  refine imp_i fun h14 => ?_
  refine imp_i fun h15 => ?_
  refine imp_i fun h16 => ?_
  try simp only [sigProd, prodPost, List.cons.injEq, DV.b.injEq, and_true, List.length_cons, List.length_nil] at h16
  have s2 := sq_abs (a := n1) (A := 4611686018427387904) (by omega) (by omega)
  refine req_i ?_ ?_
  · -- r10
   first | omega | assumption | grind
  refine req_i ?_ ?_
  · -- r11
   first | omega | assumption | grind
  refine req_i ?_ ?_
  · -- r12
   first | omega | assumption | grind
  refine req_i ?_ ?_
  · -- r13
   first | omega | assumption | grind
  refine req_i ?_ ?_
  · -- r14
   first | omega | assumption | grind
  refine req_i ?_ ?_
  · -- r15
   first | omega | assumption | grind
  refine req_i ?_ ?_
  · -- r16
   first | omega | assumption | grind
  refine req_i ?_ ?_
  · -- r17
   first | omega | assumption | grind
  refine req_i ?_ ?_
  · -- r18
   first | trivial | assumption | (simp only [sigPlus, plusPost, List.cons.injEq, DV.b.injEq, and_true, List.length_cons, List.length_nil]; done) | ((try simp only [sigPlus, plusPost, List.cons.injEq, DV.b.injEq, and_true, List.length_cons, List.length_nil]); first | omega | assumption | grind)
  refine all_i fun n7 => ?_
  refine imp_i fun h17 => ?_
  refine imp_i fun h18 => ?_
  refine all_i fun n8 => ?_
  refine imp_i fun h19 => ?_
  refine imp_i fun h20 => ?_
  refine all_i fun n9 => ?_
  refine imp_i fun h21 => ?_
  refine imp_i fun h22 => ?_
  refine imp_i fun h23 => ?_
  try simp only [sigPlus, plusPost, List.cons.injEq, DV.b.injEq, and_true, List.length_cons, List.length_nil] at h23
  refine bR_dec (fun h24 => ?_) (fun h24 => ?_)
  ·
   refine req_i ?_ ?_
   · -- r19
    first | omega | assumption | grind
   refine req_i ?_ ?_
   · -- r20
    first | omega | assumption | grind
   refine req_i ?_ ?_
   · -- r21
    first | omega | ((try simp only [sigNorm, c62, normPost, List.cons.injEq, DV.b.injEq, and_true, List.length_cons, List.length_nil]); first | done | omega | assumption | grind [getD_set, getD_rep, toNat_succ, cntN_yes, cntN_no])
   rfl
  ·
   refine req_i ?_ ?_
   · -- r22
    first | omega | assumption | grind
   refine req_i ?_ ?_
   · -- r23
    first | omega | assumption | grind
   refine req_i ?_ ?_
   · -- r24
    first | omega | assumption | grind
   refine req_i ?_ ?_
   · -- r25
    first | omega | assumption | grind
   refine req_i ?_ ?_
   · -- r26
    first | trivial | assumption | (simp only [sigProd, prodPost, List.cons.injEq, DV.b.injEq, and_true, List.length_cons, List.length_nil]; done) | ((try simp only [sigProd, prodPost, List.cons.injEq, DV.b.injEq, and_true, List.length_cons, List.length_nil]); first | omega | assumption | grind)
   refine all_i fun n10 => ?_
   refine imp_i fun h25 => ?_
   refine imp_i fun h26 => ?_
   refine all_i fun n11 => ?_
   refine imp_i fun h27 => ?_
   refine imp_i fun h28 => ?_
   refine imp_i fun h29 => ?_
   try simp only [sigProd, prodPost, List.cons.injEq, DV.b.injEq, and_true, List.length_cons, List.length_nil] at h29
   have s3 := sq_abs (a := n2) (A := 4611686018427387904) (by omega) (by omega)
   refine req_i ?_ ?_
   · -- r27
    first | omega | assumption | grind
   refine req_i ?_ ?_
   · -- r28
    first | omega | assumption | grind
   refine req_i ?_ ?_
   · -- r29
    first | omega | assumption | grind
   refine req_i ?_ ?_
   · -- r30
    first | omega | assumption | grind
   refine req_i ?_ ?_
   · -- r31
    first | omega | assumption | grind
   refine req_i ?_ ?_
   · -- r32
    first | omega | assumption | grind
   refine req_i ?_ ?_
   · -- r33
    first | omega | assumption | grind
   refine req_i ?_ ?_
   · -- r34
    first | omega | assumption | grind
   refine req_i ?_ ?_
   · -- r35
    first | trivial | assumption | (simp only [sigPlus, plusPost, List.cons.injEq, DV.b.injEq, and_true, List.length_cons, List.length_nil]; done) | ((try simp only [sigPlus, plusPost, List.cons.injEq, DV.b.injEq, and_true, List.length_cons, List.length_nil]); first | omega | assumption | grind)
   refine all_i fun n12 => ?_
   refine imp_i fun h30 => ?_
   refine imp_i fun h31 => ?_
   refine all_i fun n13 => ?_
   refine imp_i fun h32 => ?_
   refine imp_i fun h33 => ?_
   refine all_i fun n14 => ?_
   refine imp_i fun h34 => ?_
   refine imp_i fun h35 => ?_
   refine imp_i fun h36 => ?_
   try simp only [sigPlus, plusPost, List.cons.injEq, DV.b.injEq, and_true, List.length_cons, List.length_nil] at h36
   refine bR_dec (fun h37 => ?_) (fun h37 => ?_)
   ·
    refine req_i ?_ ?_
    · -- r36
     first | omega | assumption | grind
    refine req_i ?_ ?_
    · -- r37
     first | omega | assumption | grind
    refine req_i ?_ ?_
    · -- r38
     first | omega | ((try simp only [sigNorm, c62, normPost, List.cons.injEq, DV.b.injEq, and_true, List.length_cons, List.length_nil]); first | done | omega | assumption | grind [getD_set, getD_rep, toNat_succ, cntN_yes, cntN_no])
    rfl
   ·
    refine req_i ?_ ?_
    · -- r39
     first | omega | assumption | grind
    refine req_i ?_ ?_
    · -- r40
     first | omega | assumption | grind
    refine req_i ?_ ?_
    · -- r41
     first | omega | assumption | grind
    refine req_i ?_ ?_
    · -- r42
     first | omega | assumption | grind
    refine req_i ?_ ?_
    · -- r43
     first | omega | ((try simp only [sigNorm, c62, normPost, List.cons.injEq, DV.b.injEq, and_true, List.length_cons, List.length_nil]); first | done | omega | assumption | grind [getD_set, getD_rep, toNat_succ, cntN_yes, cntN_no])
    rfl
theorem ext_norm : ∀ p ∈ ([(65, Ext.ctr (ctOf sigProd)), (66, Ext.ctr (ctOf sigPlus))] : List (Nat × Ext)), ExtRow Try.prog p.1 p.2 := by
  intro p hp
  simp only [List.mem_cons, List.not_mem_nil, or_false] at hp
  rcases hp with rfl | rfl
  · trivial
  · trivial
theorem cts_norm : CtsOk Try.prog [(65, Ext.ctr (ctOf sigProd)), (66, Ext.ctr (ctOf sigPlus))] := ctsOk_of (cs := [(65, sigProd), (66, sigPlus)])
  (fun p hp => by
    simp only [List.mem_cons, List.not_mem_nil, or_false] at hp
    rcases hp with rfl | rfl
    · exact fn_prod
    · exact fn_plus
)
  (fun f c h => by
    simp only [List.lookup_cons] at h
    repeat' split at h
    all_goals first | (cases h; done) | (rename_i e; have e := beq_iff_eq.1 e; subst e; cases h; refine ⟨_, ?_, rfl⟩; simp))
theorem fn_norm : FnOk Try.prog 35 sigNorm [] := fn_sound (by kernel_rfl) ext_norm cts_norm names vt_norm
end Go.Proofs.Ytfcjkgenaekehaa

namespace Go.Proofs.Ytfcjkgenaekehaa
open Go.Ev Go.Sp
set_option maxRecDepth 100000
theorem vc_cmp : vcFn Try.prog [] noA [] 100 69 sigCmp = (allB fun n0 : Int => 
impB ((-9223372036854775808 : Int) ≤ n0) (
impB (n0 ≤ (9223372036854775807 : Int)) (
allB fun n1 : Int => 
impB ((0 : Int) ≤ n1) (
impB (n1 ≤ (18446744073709551615 : Int)) (
allB fun n2 : Int => 
impB ((-9223372036854775808 : Int) ≤ n2) (
impB (n2 ≤ (9223372036854775807 : Int)) (
allB fun n3 : Int => 
impB ((0 : Int) ≤ n3) (
impB (n3 ≤ (18446744073709551615 : Int)) (
impB (sigCmp.pre [DV.n n0, DV.n n1, DV.n n2, DV.n n3]) (
bR (dec (n0 ≠ n0)) (
 bR (dec (n2 ≠ n2)) (
 bR (dec (n1 ≠ n1)) (
 bR (dec (n3 ≠ n3)) (
 reqB (sigCmp.post [DV.n n0, DV.n n1, DV.n n2, DV.n n3] [DV.n (0 : Int)]) (
 true)) (
 reqB (sigCmp.post [DV.n n0, DV.n n1, DV.n n2, DV.n n3] [DV.n (-1 : Int)]) (
 true))) (
 bR (dec (n3 ≠ n3)) (
 reqB (sigCmp.post [DV.n n0, DV.n n1, DV.n n2, DV.n n3] [DV.n (1 : Int)]) (
 true)) (
 bR (dec (n1 < n3)) (
 reqB (sigCmp.post [DV.n n0, DV.n n1, DV.n n2, DV.n n3] [DV.n (-1 : Int)]) (
 true)) (
 bR (dec (n3 < n1)) (
 reqB (sigCmp.post [DV.n n0, DV.n n1, DV.n n2, DV.n n3] [DV.n (1 : Int)]) (
 true)) (
 reqB (sigCmp.post [DV.n n0, DV.n n1, DV.n n2, DV.n n3] [DV.n (0 : Int)]) (
 true)))))) (
 bR (dec (n1 ≠ n1)) (
 bR (dec (n3 ≠ n3)) (
 reqB (sigCmp.post [DV.n n0, DV.n n1, DV.n n2, DV.n n3] [DV.n (-1 : Int)]) (
 true)) (
 reqB (sigCmp.post [DV.n n0, DV.n n1, DV.n n2, DV.n n3] [DV.n (-1 : Int)]) (
 true))) (
 bR (dec (n3 ≠ n3)) (
 reqB (sigCmp.post [DV.n n0, DV.n n1, DV.n n2, DV.n n3] [DV.n (-1 : Int)]) (
 true)) (
 bR (dec (n1 < n3)) (
 reqB (sigCmp.post [DV.n n0, DV.n n1, DV.n n2, DV.n n3] [DV.n (-1 : Int)]) (
 true)) (
 bR (dec (n3 < n1)) (
 reqB (sigCmp.post [DV.n n0, DV.n n1, DV.n n2, DV.n n3] [DV.n (-1 : Int)]) (
 true)) (
 reqB (sigCmp.post [DV.n n0, DV.n n1, DV.n n2, DV.n n3] [DV.n (-1 : Int)]) (
 true))))))) (
 bR (dec (n2 ≠ n2)) (
 bR (dec (n1 ≠ n1)) (
 bR (dec (n3 ≠ n3)) (
 reqB (sigCmp.post [DV.n n0, DV.n n1, DV.n n2, DV.n n3] [DV.n (1 : Int)]) (
 true)) (
 reqB (sigCmp.post [DV.n n0, DV.n n1, DV.n n2, DV.n n3] [DV.n (1 : Int)]) (
 true))) (
 bR (dec (n3 ≠ n3)) (
 reqB (sigCmp.post [DV.n n0, DV.n n1, DV.n n2, DV.n n3] [DV.n (1 : Int)]) (
 true)) (
 bR (dec (n1 < n3)) (
 reqB (sigCmp.post [DV.n n0, DV.n n1, DV.n n2, DV.n n3] [DV.n (1 : Int)]) (
 true)) (
 bR (dec (n3 < n1)) (
 reqB (sigCmp.post [DV.n n0, DV.n n1, DV.n n2, DV.n n3] [DV.n (1 : Int)]) (
 true)) (
 reqB (sigCmp.post [DV.n n0, DV.n n1, DV.n n2, DV.n n3] [DV.n (1 : Int)]) (
 true)))))) (
 bR (dec (n0 < n2)) (
 bR (dec (n1 ≠ n1)) (
 bR (dec (n3 ≠ n3)) (
 reqB (sigCmp.post [DV.n n0, DV.n n1, DV.n n2, DV.n n3] [DV.n (-1 : Int)]) (
 true)) (
 reqB (sigCmp.post [DV.n n0, DV.n n1, DV.n n2, DV.n n3] [DV.n (-1 : Int)]) (
 true))) (
 bR (dec (n3 ≠ n3)) (
 reqB (sigCmp.post [DV.n n0, DV.n n1, DV.n n2, DV.n n3] [DV.n (-1 : Int)]) (
 true)) (
 bR (dec (n1 < n3)) (
 reqB (sigCmp.post [DV.n n0, DV.n n1, DV.n n2, DV.n n3] [DV.n (-1 : Int)]) (
 true)) (
 bR (dec (n3 < n1)) (
 reqB (sigCmp.post [DV.n n0, DV.n n1, DV.n n2, DV.n n3] [DV.n (-1 : Int)]) (
 true)) (
 reqB (sigCmp.post [DV.n n0, DV.n n1, DV.n n2, DV.n n3] [DV.n (-1 : Int)]) (
 true)))))) (
 bR (dec (n2 < n0)) (
 bR (dec (n1 ≠ n1)) (
 bR (dec (n3 ≠ n3)) (
 reqB (sigCmp.post [DV.n n0, DV.n n1, DV.n n2, DV.n n3] [DV.n (1 : Int)]) (
 true)) (
 reqB (sigCmp.post [DV.n n0, DV.n n1, DV.n n2, DV.n n3] [DV.n (1 : Int)]) (
 true))) (
 bR (dec (n3 ≠ n3)) (
 reqB (sigCmp.post [DV.n n0, DV.n n1, DV.n n2, DV.n n3] [DV.n (1 : Int)]) (
 true)) (
 bR (dec (n1 < n3)) (
 reqB (sigCmp.post [DV.n n0, DV.n n1, DV.n n2, DV.n n3] [DV.n (1 : Int)]) (
 true)) (
 bR (dec (n3 < n1)) (
 reqB (sigCmp.post [DV.n n0, DV.n n1, DV.n n2, DV.n n3] [DV.n (1 : Int)]) (
 true)) (
 reqB (sigCmp.post [DV.n n0, DV.n n1, DV.n n2, DV.n n3] [DV.n (1 : Int)]) (
 true)))))) (
 bR (dec (n1 ≠ n1)) (
 bR (dec (n3 ≠ n3)) (
 reqB (sigCmp.post [DV.n n0, DV.n n1, DV.n n2, DV.n n3] [DV.n (0 : Int)]) (
 true)) (
 reqB (sigCmp.post [DV.n n0, DV.n n1, DV.n n2, DV.n n3] [DV.n (-1 : Int)]) (
 true))) (
 bR (dec (n3 ≠ n3)) (
 reqB (sigCmp.post [DV.n n0, DV.n n1, DV.n n2, DV.n n3] [DV.n (1 : Int)]) (
 true)) (
 bR (dec (n1 < n3)) (
 reqB (sigCmp.post [DV.n n0, DV.n n1, DV.n n2, DV.n n3] [DV.n (-1 : Int)]) (
 true)) (
 bR (dec (n3 < n1)) (
 reqB (sigCmp.post [DV.n n0, DV.n n1, DV.n n2, DV.n n3] [DV.n (1 : Int)]) (
 true)) (
 reqB (sigCmp.post [DV.n n0, DV.n n1, DV.n n2, DV.n n3] [DV.n (0 : Int)]) (
 true))))))))))))))))))) := by kernel_rfl
set_option maxHeartbeats 8000000 in
theorem vt_cmp : vcFn Try.prog [] noA [] 100 69 sigCmp = true := by
  rw [vc_cmp]
  try simp only [Int.toNat_natCast, List.length_set, List.length_replicate, List.length_take, List.length_drop, List.length_append, List.length_cons, List.length_nil, Nat.min_self, List.take_take, lenCols_i, lenCols_b, List.drop_zero, List.take_length, Nat.add_eq, Nat.mul_eq, Nat.sub_eq, Nat.zero_add, Nat.sub_zero, Nat.mul_one]
  refine all_i fun n0 => ?_
  refine imp_i fun h0 => ?_
  refine imp_i fun h1 => ?_
  refine all_i fun n1 => ?_
  refine imp_i fun h2 => ?_
  refine imp_i fun h3 => ?_
  refine all_i fun n2 => ?_
  refine imp_i fun h4 => ?_
  refine imp_i fun h5 => ?_
  refine all_i fun n3 => ?_
  refine imp_i fun h6 => ?_
  refine imp_i fun h7 => ?_
  refine imp_i fun h8 => ?_
  try simp only [sigCmp, cmpPost, List.cons.injEq, DV.b.injEq, and_true, List.length_cons, List.length_nil] at h8
  refine bR_dec (fun h9 => ?_) (fun h9 => ?_)
  ·
   refine bR_dec (fun h10 => ?_) (fun h10 => ?_)
   ·
    refine bR_dec (fun h11 => ?_) (fun h11 => ?_)
    ·
     refine bR_dec (fun h12 => ?_) (fun h12 => ?_)
     ·
      refine req_i ?_ ?_
      · -- r0
       first | omega | ((try simp only [sigCmp, cmpPost, List.cons.injEq, DV.b.injEq, and_true, List.length_cons, List.length_nil]); first | done | omega | assumption | grind [getD_set, getD_rep, toNat_succ, cntN_yes, cntN_no])
      rfl
     ·
      refine req_i ?_ ?_
      · -- r1
       first | omega | ((try simp only [sigCmp, cmpPost, List.cons.injEq, DV.b.injEq, and_true, List.length_cons, List.length_nil]); first | done | omega | assumption | grind [getD_set, getD_rep, toNat_succ, cntN_yes, cntN_no])
      rfl
    ·
     refine bR_dec (fun h13 => ?_) (fun h13 => ?_)
     ·
      refine req_i ?_ ?_
      · -- r2
       first | omega | ((try simp only [sigCmp, cmpPost, List.cons.injEq, DV.b.injEq, and_true, List.length_cons, List.length_nil]); first | done | omega | assumption | grind [getD_set, getD_rep, toNat_succ, cntN_yes, cntN_no])
      rfl
     ·
      refine bR_dec (fun h14 => ?_) (fun h14 => ?_)
      ·
       refine req_i ?_ ?_
       · -- r3
        first | omega | ((try simp only [sigCmp, cmpPost, List.cons.injEq, DV.b.injEq, and_true, List.length_cons, List.length_nil]); first | done | omega | assumption | grind [getD_set, getD_rep, toNat_succ, cntN_yes, cntN_no])
       rfl
      ·
       refine bR_dec (fun h15 => ?_) (fun h15 => ?_)
       ·
        refine req_i ?_ ?_
        · -- r4
         first | omega | ((try simp only [sigCmp, cmpPost, List.cons.injEq, DV.b.injEq, and_true, List.length_cons, List.length_nil]); first | done | omega | assumption | grind [getD_set, getD_rep, toNat_succ, cntN_yes, cntN_no])
        rfl
       ·
        refine req_i ?_ ?_
        · -- r5
         first | omega | ((try simp only [sigCmp, cmpPost, List.cons.injEq, DV.b.injEq, and_true, List.length_cons, List.length_nil]); first | done | omega | assumption | grind [getD_set, getD_rep, toNat_succ, cntN_yes, cntN_no])
        rfl
   ·
    refine bR_dec (fun h16 => ?_) (fun h16 => ?_)
    ·
     refine bR_dec (fun h17 => ?_) (fun h17 => ?_)
     ·
      refine req_i ?_ ?_
      · -- r6
       first | omega | ((try simp only [sigCmp, cmpPost, List.cons.injEq, DV.b.injEq, and_true, List.length_cons, List.length_nil]); first | done | omega | assumption | grind [getD_set, getD_rep, toNat_succ, cntN_yes, cntN_no])
      rfl
     ·
      refine req_i ?_ ?_
      · -- r7
       first | omega | ((try simp only [sigCmp, cmpPost, List.cons.injEq, DV.b.injEq, and_true, List.length_cons, List.length_nil]); first | done | omega | assumption | grind [getD_set, getD_rep, toNat_succ, cntN_yes, cntN_no])
      rfl
    ·
     refine bR_dec (fun h18 => ?_) (fun h18 => ?_)
     ·
      refine req_i ?_ ?_
      · -- r8
       first | omega | ((try simp only [sigCmp, cmpPost, List.cons.injEq, DV.b.injEq, and_true, List.length_cons, List.length_nil]); first | done | omega | assumption | grind [getD_set, getD_rep, toNat_succ, cntN_yes, cntN_no])
      rfl
     ·
      refine bR_dec (fun h19 => ?_) (fun h19 => ?_)
      ·
       refine req_i ?_ ?_
       · -- r9
        first | omega | ((try simp only [sigCmp, cmpPost, List.cons.injEq, DV.b.injEq, and_true, List.length_cons, List.length_nil]); first | done | omega | assumption | grind [getD_set, getD_rep, toNat_succ, cntN_yes, cntN_no])
       rfl
      ·
       refine bR_dec (fun h20 => ?_) (fun h20 => ?_)
       ·
        refine req_i ?_ ?_
        · -- r10
         first | omega | ((try simp only [sigCmp, cmpPost, List.cons.injEq, DV.b.injEq, and_true, List.length_cons, List.length_nil]); first | done | omega | assumption | grind [getD_set, getD_rep, toNat_succ, cntN_yes, cntN_no])
        rfl
       ·
        refine req_i ?_ ?_
        · -- r11
         first | omega | ((try simp only [sigCmp, cmpPost, List.cons.injEq, DV.b.injEq, and_true, List.length_cons, List.length_nil]); first | done | omega | assumption | grind [getD_set, getD_rep, toNat_succ, cntN_yes, cntN_no])
        rfl
  ·
   refine bR_dec (fun h21 => ?_) (fun h21 => ?_)
   ·
    refine bR_dec (fun h22 => ?_) (fun h22 => ?_)
    ·
     refine bR_dec (fun h23 => ?_) (fun h23 => ?_)
     ·
      refine req_i ?_ ?_
      · -- r12
       first | omega | ((try simp only [sigCmp, cmpPost, List.cons.injEq, DV.b.injEq, and_true, List.length_cons, List.length_nil]); first | done | omega | assumption | grind [getD_set, getD_rep, toNat_succ, cntN_yes, cntN_no])
      rfl
     ·
      refine req_i ?_ ?_
      · -- r13
       first | omega | ((try simp only [sigCmp, cmpPost, List.cons.injEq, DV.b.injEq, and_true, List.length_cons, List.length_nil]); first | done | omega | assumption | grind [getD_set, getD_rep, toNat_succ, cntN_yes, cntN_no])
      rfl
    ·
     refine bR_dec (fun h24 => ?_) (fun h24 => ?_)
     ·
      refine req_i ?_ ?_
      · -- r14
       first | omega | ((try simp only [sigCmp, cmpPost, List.cons.injEq, DV.b.injEq, and_true, List.length_cons, List.length_nil]); first | done | omega | assumption | grind [getD_set, getD_rep, toNat_succ, cntN_yes, cntN_no])
      rfl
     ·
      refine bR_dec (fun h25 => ?_) (fun h25 => ?_)
      ·
       refine req_i ?_ ?_
       · -- r15
        first | omega | ((try simp only [sigCmp, cmpPost, List.cons.injEq, DV.b.injEq, and_true, List.length_cons, List.length_nil]); first | done | omega | assumption | grind [getD_set, getD_rep, toNat_succ, cntN_yes, cntN_no])
       rfl
      ·
       refine bR_dec (fun h26 => ?_) (fun h26 => ?_)
       ·
        refine req_i ?_ ?_
        · -- r16
         first | omega | ((try simp only [sigCmp, cmpPost, List.cons.injEq, DV.b.injEq, and_true, List.length_cons, List.length_nil]); first | done | omega | assumption | grind [getD_set, getD_rep, toNat_succ, cntN_yes, cntN_no])
        rfl
       ·
        refine req_i ?_ ?_
        · -- r17
         first | omega | ((try simp only [sigCmp, cmpPost, List.cons.injEq, DV.b.injEq, and_true, List.length_cons, List.length_nil]); first | done | omega | assumption | grind [getD_set, getD_rep, toNat_succ, cntN_yes, cntN_no])
        rfl
   ·
    refine bR_dec (fun h27 => ?_) (fun h27 => ?_)
    ·
     refine bR_dec (fun h28 => ?_) (fun h28 => ?_)
     ·
      refine bR_dec (fun h29 => ?_) (fun h29 => ?_)
      ·
       refine req_i ?_ ?_
       · -- r18
        first | omega | ((try simp only [sigCmp, cmpPost, List.cons.injEq, DV.b.injEq, and_true, List.length_cons, List.length_nil]); first | done | omega | assumption | grind [getD_set, getD_rep, toNat_succ, cntN_yes, cntN_no])
       rfl
      ·
       refine req_i ?_ ?_
       · -- r19
        first | omega | ((try simp only [sigCmp, cmpPost, List.cons.injEq, DV.b.injEq, and_true, List.length_cons, List.length_nil]); first | done | omega | assumption | grind [getD_set, getD_rep, toNat_succ, cntN_yes, cntN_no])
       rfl
     ·
      refine bR_dec (fun h30 => ?_) (fun h30 => ?_)
      ·
       refine req_i ?_ ?_
       · -- r20
        first | omega | ((try simp only [sigCmp, cmpPost, List.cons.injEq, DV.b.injEq, and_true, List.length_cons, List.length_nil]); first | done | omega | assumption | grind [getD_set, getD_rep, toNat_succ, cntN_yes, cntN_no])
       rfl
      ·
       refine bR_dec (fun h31 => ?_) (fun h31 => ?_)
       ·
        refine req_i ?_ ?_
        · -- r21
         first | omega | ((try simp only [sigCmp, cmpPost, List.cons.injEq, DV.b.injEq, and_true, List.length_cons, List.length_nil]); first | done | omega | assumption | grind [getD_set, getD_rep, toNat_succ, cntN_yes, cntN_no])
        rfl
       ·
        refine bR_dec (fun h32 => ?_) (fun h32 => ?_)
        ·
         refine req_i ?_ ?_
         · -- r22
          first | omega | ((try simp only [sigCmp, cmpPost, List.cons.injEq, DV.b.injEq, and_true, List.length_cons, List.length_nil]); first | done | omega | assumption | grind [getD_set, getD_rep, toNat_succ, cntN_yes, cntN_no])
         rfl
        ·
         refine req_i ?_ ?_
         · -- r23
          first | omega | ((try simp only [sigCmp, cmpPost, List.cons.injEq, DV.b.injEq, and_true, List.length_cons, List.length_nil]); first | done | omega | assumption | grind [getD_set, getD_rep, toNat_succ, cntN_yes, cntN_no])
         rfl
    ·
     refine bR_dec (fun h33 => ?_) (fun h33 => ?_)
     ·
      refine bR_dec (fun h34 => ?_) (fun h34 => ?_)
      ·
       refine bR_dec (fun h35 => ?_) (fun h35 => ?_)
       ·
        refine req_i ?_ ?_
        · -- r24
         first | omega | ((try simp only [sigCmp, cmpPost, List.cons.injEq, DV.b.injEq, and_true, List.length_cons, List.length_nil]); first | done | omega | assumption | grind [getD_set, getD_rep, toNat_succ, cntN_yes, cntN_no])
        rfl
       ·
        refine req_i ?_ ?_
        · -- r25
         first | omega | ((try simp only [sigCmp, cmpPost, List.cons.injEq, DV.b.injEq, and_true, List.length_cons, List.length_nil]); first | done | omega | assumption | grind [getD_set, getD_rep, toNat_succ, cntN_yes, cntN_no])
        rfl
      ·
       refine bR_dec (fun h36 => ?_) (fun h36 => ?_)
       ·
        refine req_i ?_ ?_
        · -- r26
         first | omega | ((try simp only [sigCmp, cmpPost, List.cons.injEq, DV.b.injEq, and_true, List.length_cons, List.length_nil]); first | done | omega | assumption | grind [getD_set, getD_rep, toNat_succ, cntN_yes, cntN_no])
        rfl
       ·
        refine bR_dec (fun h37 => ?_) (fun h37 => ?_)
        ·
         refine req_i ?_ ?_
         · -- r27
          first | omega | ((try simp only [sigCmp, cmpPost, List.cons.injEq, DV.b.injEq, and_true, List.length_cons, List.length_nil]); first | done | omega | assumption | grind [getD_set, getD_rep, toNat_succ, cntN_yes, cntN_no])
         rfl
        ·
         refine bR_dec (fun h38 => ?_) (fun h38 => ?_)
         ·
          refine req_i ?_ ?_
          · -- r28
           first | omega | ((try simp only [sigCmp, cmpPost, List.cons.injEq, DV.b.injEq, and_true, List.length_cons, List.length_nil]); first | done | omega | assumption | grind [getD_set, getD_rep, toNat_succ, cntN_yes, cntN_no])
          rfl
         ·
          refine req_i ?_ ?_
          · -- r29
           first | omega | ((try simp only [sigCmp, cmpPost, List.cons.injEq, DV.b.injEq, and_true, List.length_cons, List.length_nil]); first | done | omega | assumption | grind [getD_set, getD_rep, toNat_succ, cntN_yes, cntN_no])
          rfl
     ·
      refine bR_dec (fun h39 => ?_) (fun h39 => ?_)
      ·
       refine bR_dec (fun h40 => ?_) (fun h40 => ?_)
       ·
        refine req_i ?_ ?_
        · -- r30
         first | omega | ((try simp only [sigCmp, cmpPost, List.cons.injEq, DV.b.injEq, and_true, List.length_cons, List.length_nil]); first | done | omega | assumption | grind [getD_set, getD_rep, toNat_succ, cntN_yes, cntN_no])
        rfl
       ·
        refine req_i ?_ ?_
        · -- r31
         first | omega | ((try simp only [sigCmp, cmpPost, List.cons.injEq, DV.b.injEq, and_true, List.length_cons, List.length_nil]); first | done | omega | assumption | grind [getD_set, getD_rep, toNat_succ, cntN_yes, cntN_no])
        rfl
      ·
       refine bR_dec (fun h41 => ?_) (fun h41 => ?_)
       ·
        refine req_i ?_ ?_
        · -- r32
         first | omega | ((try simp only [sigCmp, cmpPost, List.cons.injEq, DV.b.injEq, and_true, List.length_cons, List.length_nil]); first | done | omega | assumption | grind [getD_set, getD_rep, toNat_succ, cntN_yes, cntN_no])
        rfl
       ·
        refine bR_dec (fun h42 => ?_) (fun h42 => ?_)
        ·
         refine req_i ?_ ?_
         · -- r33
          first | omega | ((try simp only [sigCmp, cmpPost, List.cons.injEq, DV.b.injEq, and_true, List.length_cons, List.length_nil]); first | done | omega | assumption | grind [getD_set, getD_rep, toNat_succ, cntN_yes, cntN_no])
         rfl
        ·
         refine bR_dec (fun h43 => ?_) (fun h43 => ?_)
         ·
          refine req_i ?_ ?_
          · -- r34
           first | omega | ((try simp only [sigCmp, cmpPost, List.cons.injEq, DV.b.injEq, and_true, List.length_cons, List.length_nil]); first | done | omega | assumption | grind [getD_set, getD_rep, toNat_succ, cntN_yes, cntN_no])
          rfl
         ·
          refine req_i ?_ ?_
          · -- r35
           first | omega | ((try simp only [sigCmp, cmpPost, List.cons.injEq, DV.b.injEq, and_true, List.length_cons, List.length_nil]); first | done | omega | assumption | grind [getD_set, getD_rep, toNat_succ, cntN_yes, cntN_no])
          rfl
theorem ext_cmp : ∀ p ∈ ([] : List (Nat × Ext)), ExtRow Try.prog p.1 p.2 := by
  intro p hp
  cases hp
theorem cts_cmp : CtsOk Try.prog [] := fun f c h => by cases h
theorem fn_cmp : FnOk Try.prog 69 sigCmp [] := fn_sound (by kernel_rfl) ext_cmp cts_cmp names vt_cmp
end Go.Proofs.Ytfcjkgenaekehaa

namespace Go.Proofs.Ytfcjkgenaekehaa
open Go.Ev Go.Sp
set_option maxRecDepth 100000
theorem vc_rootW : vcFn Try.prog [(65, Ext.ctr (ctOf sigProd)), (69, Ext.ctr (ctOf sigCmp))] (fun f p _ => at2 f p 999999 218 rtL (at2 f p 67 218 rwL (at2 f p 51 250 rwLR none))) [] 100 37 sigRw = (allB fun n0 : Int => 
impB ((-9223372036854775808 : Int) ≤ n0) (
impB (n0 ≤ (9223372036854775807 : Int)) (
allB fun n1 : Int => 
impB ((0 : Int) ≤ n1) (
impB (n1 ≤ (18446744073709551615 : Int)) (
impB (sigRw.pre [DV.n n0, DV.n n1]) (
bR (dec (n0 < (0 : Int))) (
 reqB (sigRw.post [DV.n n0, DV.n n1] [DV.n (0 : Int), DV.n (2 : Int)]) (
 true)) (
 bR (dec ((4611686018427387904 : Int) ≤ n0)) (
 reqB (sigRw.post [DV.n n0, DV.n n1] [DV.n (0 : Int), DV.n (5 : Int)]) (
 true)) (
 reqB ((-9223372036854775808 : Int) ≤ n0) (
 reqB (n0 ≤ (9223372036854775807 : Int)) (
 reqB ((0 : Int) ≤ n1) (
 reqB (n1 ≤ (18446744073709551615 : Int)) (
 reqB (rwL.inv [DV.n n0, DV.n n1] [DV.n (0 : Int), DV.n (Int.ofNat (4611686018427387904 : Nat))]) (
 allB fun n2 : Int => 
 impB ((0 : Int) ≤ n2) (
 impB (n2 ≤ (9223372036854775807 : Int)) (
 allB fun n3 : Int => 
 impB ((0 : Int) ≤ n3) (
 impB (n3 ≤ (4611686018427387904 : Int)) (
 impB (rwL.inv [DV.n n0, DV.n n1] [DV.n n2, DV.n n3]) (
 bR (dec ((0 : Int) < n3)) (
 allB fun n4 : Int => 
 impB (n4 = Go.IntKind.i64.wrap (n2 + n3)) (
 impB (Int.negSucc (9223372036854775807 : Nat) ≤ n4) (
 impB (n4 ≤ Int.ofNat (9223372036854775807 : Nat)) (
 reqB ((-9223372036854775808 : Int) ≤ n4) (
 reqB (n4 ≤ (9223372036854775807 : Int)) (
 reqB ((-9223372036854775808 : Int) ≤ n4) (
 reqB (n4 ≤ (9223372036854775807 : Int)) (
 reqB (sigProd.pre [DV.n n4, DV.n n4]) (
 allB fun n5 : Int => 
 impB ((-9223372036854775808 : Int) ≤ n5) (
 impB (n5 ≤ (9223372036854775807 : Int)) (
 allB fun n6 : Int => 
 impB ((0 : Int) ≤ n6) (
 impB (n6 ≤ (18446744073709551615 : Int)) (
 impB (sigProd.post [DV.n n4, DV.n n4] [DV.n n5, DV.n n6]) (
 reqB ((-9223372036854775808 : Int) ≤ n5) (
 reqB (n5 ≤ (9223372036854775807 : Int)) (
 reqB ((0 : Int) ≤ n6) (
 reqB (n6 ≤ (18446744073709551615 : Int)) (
 reqB ((-9223372036854775808 : Int) ≤ n0) (
 reqB (n0 ≤ (9223372036854775807 : Int)) (
 reqB ((0 : Int) ≤ n1) (
 reqB (n1 ≤ (18446744073709551615 : Int)) (
 reqB (sigCmp.pre [DV.n n5, DV.n n6, DV.n n0, DV.n n1]) (
 allB fun n7 : Int => 
 impB ((-1 : Int) ≤ n7) (
 impB (n7 ≤ (1 : Int)) (
 impB (sigCmp.post [DV.n n5, DV.n n6, DV.n n0, DV.n n1] [DV.n n7]) (
 bR (dec (n7 = (0 : Int))) (
 allB fun n8 : Int => 
 impB (n8 = Go.IntKind.i64.wrap (n2 + n3)) (
 impB (Int.negSucc (9223372036854775807 : Nat) ≤ n8) (
 impB (n8 ≤ Int.ofNat (9223372036854775807 : Nat)) (
 reqB ((0 : Int) ≤ n8) (
 reqB (n8 ≤ (9223372036854775807 : Int)) (
 reqB (sigRw.post [DV.n n0, DV.n n1] [DV.n n8, DV.n (0 : Int)]) (
 true))))))) (
 bR (dec (n7 < (0 : Int))) (
 allB fun n9 : Int => 
 impB (n9 = Go.IntKind.i64.wrap (n2 + n3)) (
 impB (Int.negSucc (9223372036854775807 : Nat) ≤ n9) (
 impB (n9 ≤ Int.ofNat (9223372036854775807 : Nat)) (
 bR (bR (bR (dec (n0 = n0)) (
 bR (dec (n1 = n1)) (
 true) (
 false)) (
 false)) (
 true) (
 false)) (
 bR (bR (bR (dec (n0 = n0)) (
 bR (dec (n1 = n1)) (
 true) (
 false)) (
 false)) (
 bR (bR (dec (n0 = n0)) (
 bR (dec (n1 = n1)) (
 true) (
 false)) (
 false)) (
 true) (
 false)) (
 false)) (
 reqB ((0 : Int) ≤ n9) (
 reqB (n9 ≤ (9223372036854775807 : Int)) (
 reqB ((0 : Int) ≤ n3.tdiv (2 : Int)) (
 reqB (n3.tdiv (2 : Int) ≤ (4611686018427387904 : Int)) (
 reqB (rwL.inv [DV.n n0, DV.n n1] [DV.n n9, DV.n (n3.tdiv (2 : Int))]) (
 reqB (rwL.mea [DV.n n0, DV.n n1] [DV.n n9, DV.n (n3.tdiv (2 : Int))] <
 rwL.mea [DV.n n0, DV.n n1] [DV.n n2, DV.n n3]) (
 true))))))) (
 false)) (
 false))))) (
 bR (bR (bR (dec (n0 = n0)) (
 bR (dec (n1 = n1)) (
 true) (
 false)) (
 false)) (
 true) (
 false)) (
 bR (bR (bR (dec (n0 = n0)) (
 bR (dec (n1 = n1)) (
 true) (
 false)) (
 false)) (
 bR (bR (dec (n0 = n0)) (
 bR (dec (n1 = n1)) (
 true) (
 false)) (
 false)) (
 true) (
 false)) (
 false)) (
 reqB ((0 : Int) ≤ n2) (
 reqB (n2 ≤ (9223372036854775807 : Int)) (
 reqB ((0 : Int) ≤ n3.tdiv (2 : Int)) (
 reqB (n3.tdiv (2 : Int) ≤ (4611686018427387904 : Int)) (
 reqB (rwL.inv [DV.n n0, DV.n n1] [DV.n n2, DV.n (n3.tdiv (2 : Int))]) (
 reqB (rwL.mea [DV.n n0, DV.n n1] [DV.n n2, DV.n (n3.tdiv (2 : Int))] <
 rwL.mea [DV.n n0, DV.n n1] [DV.n n2, DV.n n3]) (
 true))))))) (
 false)) (
 false))))))))))))))))))))))))))))) (
 reqB ((0 : Int) ≤ n2) (
 reqB (n2 ≤ (9223372036854775807 : Int)) (
 reqB (sigRw.post [DV.n n0, DV.n n1] [DV.n n2, DV.n (0 : Int)]) (
 true)))))))))))))))))))))) := by kernel_rfl
set_option maxHeartbeats 8000000 in
theorem vt_rootW : vcFn Try.prog [(65, Ext.ctr (ctOf sigProd)), (69, Ext.ctr (ctOf sigCmp))] (fun f p _ => at2 f p 999999 218 rtL (at2 f p 67 218 rwL (at2 f p 51 250 rwLR none))) [] 100 37 sigRw = true := by
  rw [vc_rootW]
  try simp only [Int.toNat_natCast, List.length_set, List.length_replicate, List.length_take, List.length_drop, List.length_append, List.length_cons, List.length_nil, Nat.min_self, List.take_take, lenCols_i, lenCols_b, List.drop_zero, List.take_length, Nat.add_eq, Nat.mul_eq, Nat.sub_eq, Nat.zero_add, Nat.sub_zero, Nat.mul_one]
  refine all_i fun n0 => ?_
  refine imp_i fun h0 => ?_
  refine imp_i fun h1 => ?_
  refine all_i fun n1 => ?_
  refine imp_i fun h2 => ?_
  refine imp_i fun h3 => ?_
  refine imp_i fun h4 => ?_
  try simp only [sigRw, rwPost, List.cons.injEq, DV.b.injEq, and_true, List.length_cons, List.length_nil] at h4
  refine bR_dec (fun h5 => ?_) (fun h5 => ?_)
  ·
   refine req_i ?_ ?_
   · -- r0
    first | omega | ((try simp only [sigRw, rwPost, List.cons.injEq, DV.b.injEq, and_true, List.length_cons, List.length_nil]); first | done | omega | assumption | grind [getD_set, getD_rep, toNat_succ, cntN_yes, cntN_no])
   rfl
  ·
   refine bR_dec (fun h6 => ?_) (fun h6 => ?_)
   ·
    refine req_i ?_ ?_
    · -- r1
     first | omega | ((try simp only [sigRw, rwPost, List.cons.injEq, DV.b.injEq, and_true, List.length_cons, List.length_nil]); first | done | omega | assumption | grind [getD_set, getD_rep, toNat_succ, cntN_yes, cntN_no])
    rfl
   ·
    refine req_i ?_ ?_
    · -- r2
     first | omega | assumption | grind
    refine req_i ?_ ?_
    · -- r3
     first | omega | assumption | grind
    refine req_i ?_ ?_
    · -- r4
     first | omega | assumption | grind
    refine req_i ?_ ?_
    · -- r5
     first | omega | assumption | grind
    refine req_i ?_ ?_
    · -- r6
     show 0 ≤ n0 ∧ n0 < 4611686018427387904 ∧ 0 ≤ n1 ∧ n1 < 18446744073709551616 ∧ srch 9223372036854775808 (n0 * 18446744073709551616 + n1) 4611686018427387904 0; exact ⟨by omega, by omega, by omega, by omega, srch_0 62 (by decide) (by decide) (by decide) (by omega) (by omega)⟩
    refine all_i fun n2 => ?_
    refine imp_i fun h7 => ?_
    refine imp_i fun h8 => ?_
    refine all_i fun n3 => ?_
    refine imp_i fun h9 => ?_
    refine imp_i fun h10 => ?_
    refine imp_i fun h11 => ?_
    try simp only [rwL, rwInv, rtMea, List.cons.injEq, DV.b.injEq, and_true, List.length_cons, List.length_nil] at h11
    have hs := h11.2.2.2.2
    refine bR_dec (fun h12 => ?_) (fun h12 => ?_)
    ·
     have q := hs.1
     have q4 := hs.2.2.2.1
     have e2 : n3.tdiv 2 = n3 / 2 := tdiv_nn (by omega)
     refine all_i fun n4 => ?_
     refine imp_i fun h13 => ?_
     simp only [wrap_i64] at h13
     try simp only [wrap_i64, wrap_u64] at h13
     have h13 : n4 = n2 + n3 := by omega
     refine imp_i fun h14 => ?_
     refine imp_i fun h15 => ?_
     refine req_i ?_ ?_
     · -- r7
      first | omega | assumption | grind
     refine req_i ?_ ?_
     · -- r8
      first | omega | assumption | grind
     refine req_i ?_ ?_
     · -- r9
      first | omega | assumption | grind
     refine req_i ?_ ?_
     · -- r10
      first | omega | assumption | grind
     refine req_i ?_ ?_
     · -- r11
      first | trivial | assumption | (simp only [sigProd, prodPost, List.cons.injEq, DV.b.injEq, and_true, List.length_cons, List.length_nil]; done) | ((try simp only [sigProd, prodPost, List.cons.injEq, DV.b.injEq, and_true, List.length_cons, List.length_nil]); first | omega | assumption | grind)
     refine all_i fun n5 => ?_
     refine imp_i fun h16 => ?_
     refine imp_i fun h17 => ?_
     refine all_i fun n6 => ?_
     refine imp_i fun h18 => ?_
     refine imp_i fun h19 => ?_
     refine imp_i fun h20 => ?_
     try simp only [sigProd, prodPost, List.cons.injEq, DV.b.injEq, and_true, List.length_cons, List.length_nil] at h20
     rw [h13] at h20
     refine req_i ?_ ?_
     · -- r12
      first | omega | assumption | grind
     refine req_i ?_ ?_
     · -- r13
      first | omega | assumption | grind
     refine req_i ?_ ?_
     · -- r14
      first | omega | assumption | grind
     refine req_i ?_ ?_
     · -- r15
      first | omega | assumption | grind
     refine req_i ?_ ?_
     · -- r16
      first | omega | assumption | grind
     refine req_i ?_ ?_
     · -- r17
      first | omega | assumption | grind
     refine req_i ?_ ?_
     · -- r18
      first | omega | assumption | grind
     refine req_i ?_ ?_
     · -- r19
      first | omega | assumption | grind
     refine req_i ?_ ?_
     · -- r20
      first | trivial | assumption | (simp only [sigCmp, cmpPost, List.cons.injEq, DV.b.injEq, and_true, List.length_cons, List.length_nil]; done) | ((try simp only [sigCmp, cmpPost, List.cons.injEq, DV.b.injEq, and_true, List.length_cons, List.length_nil]); first | omega | assumption | grind)
     refine all_i fun n7 => ?_
     refine imp_i fun h21 => ?_
     refine imp_i fun h22 => ?_
     refine imp_i fun h23 => ?_
     try simp only [sigCmp, cmpPost, List.cons.injEq, DV.b.injEq, and_true, List.length_cons, List.length_nil] at h23
     refine bR_dec (fun h24 => ?_) (fun h24 => ?_)
     ·
      refine all_i fun n8 => ?_
      refine imp_i fun h25 => ?_
      simp only [wrap_i64] at h25
      try simp only [wrap_i64, wrap_u64] at h25
      have h25 : n8 = n2 + n3 := by omega
      refine imp_i fun h26 => ?_
      refine imp_i fun h27 => ?_
      refine req_i ?_ ?_
      · -- r21
       first | omega | assumption | grind
      refine req_i ?_ ?_
      · -- r22
       first | omega | assumption | grind
      refine req_i ?_ ?_
      · -- r23
       rw [h25]; exact .inr (.inr ⟨by omega, by omega, rfl, srch_hit hs h12 (by omega)⟩)
      rfl
     ·
      refine bR_dec (fun h28 => ?_) (fun h28 => ?_)
      ·
       refine all_i fun n9 => ?_
       refine imp_i fun h29 => ?_
       simp only [wrap_i64] at h29
       try simp only [wrap_i64, wrap_u64] at h29
       have h29 : n9 = n2 + n3 := by omega
       refine imp_i fun h30 => ?_
       refine imp_i fun h31 => ?_
       refine bR_t ?_ ?_
       · -- g0
        first | rfl | (simp only [bR_iff, bR_iff_f, dec_iff, dec_f, beqB_iff', andB_iff', reduceCtorEq, imp_self, false_implies, and_true, true_and, implies_true, and_self]; done) | (simp [bR_iff, dec_iff, beqB_iff', andB_iff']; done) | (simp [bR_iff, dec_iff, beqB_iff', andB_iff']; omega)
       refine bR_t ?_ ?_
       · -- g1
        first | rfl | (simp only [bR_iff, bR_iff_f, dec_iff, dec_f, beqB_iff', andB_iff', reduceCtorEq, imp_self, false_implies, and_true, true_and, implies_true, and_self]; done) | (simp [bR_iff, dec_iff, beqB_iff', andB_iff']; done) | (simp [bR_iff, dec_iff, beqB_iff', andB_iff']; omega)
       refine req_i ?_ ?_
       · -- r24
        first | omega | assumption | grind
       refine req_i ?_ ?_
       · -- r25
        first | omega | assumption | grind
       refine req_i ?_ ?_
       · -- r26
        first | omega | assumption | grind
       refine req_i ?_ ?_
       · -- r27
        first | omega | assumption | grind
       refine req_i ?_ ?_
       · -- r28
        show 0 ≤ n0 ∧ n0 < 4611686018427387904 ∧ 0 ≤ n1 ∧ n1 < 18446744073709551616 ∧ srch 9223372036854775808 (n0 * 18446744073709551616 + n1) (n3.tdiv 2) (n9); rw [h29, e2]; exact ⟨by omega, by omega, by omega, by omega, srch_up hs h12 (by omega)⟩
       refine req_i ?_ ?_
       · -- r29
        show (n3.tdiv 2).toNat < n3.toNat; rw [e2]; omega
       rfl
      ·
       refine bR_t ?_ ?_
       · -- g2
        first | rfl | (simp only [bR_iff, bR_iff_f, dec_iff, dec_f, beqB_iff', andB_iff', reduceCtorEq, imp_self, false_implies, and_true, true_and, implies_true, and_self]; done) | (simp [bR_iff, dec_iff, beqB_iff', andB_iff']; done) | (simp [bR_iff, dec_iff, beqB_iff', andB_iff']; omega)
       refine bR_t ?_ ?_
       · -- g3
        first | rfl | (simp only [bR_iff, bR_iff_f, dec_iff, dec_f, beqB_iff', andB_iff', reduceCtorEq, imp_self, false_implies, and_true, true_and, implies_true, and_self]; done) | (simp [bR_iff, dec_iff, beqB_iff', andB_iff']; done) | (simp [bR_iff, dec_iff, beqB_iff', andB_iff']; omega)
       refine req_i ?_ ?_
       · -- r30
        first | omega | assumption | grind
       refine req_i ?_ ?_
       · -- r31
        first | omega | assumption | grind
       refine req_i ?_ ?_
       · -- r32
        first | omega | assumption | grind
       refine req_i ?_ ?_
       · -- r33
        first | omega | assumption | grind
       refine req_i ?_ ?_
       · -- r34
        show 0 ≤ n0 ∧ n0 < 4611686018427387904 ∧ 0 ≤ n1 ∧ n1 < 18446744073709551616 ∧ srch 9223372036854775808 (n0 * 18446744073709551616 + n1) (n3.tdiv 2) (n2); rw [e2]; exact ⟨by omega, by omega, by omega, by omega, srch_down hs h12 (by omega)⟩
       refine req_i ?_ ?_
       · -- r35
        show (n3.tdiv 2).toNat < n3.toNat; rw [e2]; omega
       rfl
    ·
     refine req_i ?_ ?_
     · -- r36
      first | omega | assumption | grind
     refine req_i ?_ ?_
     · -- r37
      first | omega | assumption | grind
     refine req_i ?_ ?_
     · -- r38
      exact .inr (.inr ⟨by omega, by omega, rfl, srch_end hs h12⟩)
     rfl
theorem ext_rootW : ∀ p ∈ ([(65, Ext.ctr (ctOf sigProd)), (69, Ext.ctr (ctOf sigCmp))] : List (Nat × Ext)), ExtRow Try.prog p.1 p.2 := by
  intro p hp
  simp only [List.mem_cons, List.not_mem_nil, or_false] at hp
  rcases hp with rfl | rfl
  · trivial
  · trivial
theorem cts_rootW : CtsOk Try.prog [(65, Ext.ctr (ctOf sigProd)), (69, Ext.ctr (ctOf sigCmp))] := ctsOk_of (cs := [(65, sigProd), (69, sigCmp)])
  (fun p hp => by
    simp only [List.mem_cons, List.not_mem_nil, or_false] at hp
    rcases hp with rfl | rfl
    · exact fn_prod
    · exact fn_cmp
)
  (fun f c h => by
    simp only [List.lookup_cons] at h
    repeat' split at h
    all_goals first | (cases h; done) | (rename_i e; have e := beq_iff_eq.1 e; subst e; cases h; refine ⟨_, ?_, rfl⟩; simp))
theorem fn_rootW : FnOk Try.prog 37 sigRw [] := fn_sound (by kernel_rfl) ext_rootW cts_rootW names vt_rootW
end Go.Proofs.Ytfcjkgenaekehaa

namespace Go.Proofs.Ytfcjkgenaekehaa
open Go.Ev Go.Sp
set_option maxRecDepth 100000
theorem vc_Range : vcFn Try.prog [(35, Ext.ctr (ctOf sigNorm)), (37, Ext.ctr (ctOf sigRw))] noA [] 100 11 sigRange = (allB fun n0 : Int => 
impB ((-9223372036854775808 : Int) ≤ n0) (
impB (n0 ≤ (9223372036854775807 : Int)) (
allB fun n1 : Int => 
impB ((-9223372036854775808 : Int) ≤ n1) (
impB (n1 ≤ (9223372036854775807 : Int)) (
allB fun n2 : Int => 
impB ((-9223372036854775808 : Int) ≤ n2) (
impB (n2 ≤ (9223372036854775807 : Int)) (
allB fun n3 : Int => 
impB ((-9223372036854775808 : Int) ≤ n3) (
impB (n3 ≤ (9223372036854775807 : Int)) (
allB fun n4 : Int => 
impB ((-9223372036854775808 : Int) ≤ n4) (
impB (n4 ≤ (9223372036854775807 : Int)) (
allB fun n5 : Int => 
impB ((-9223372036854775808 : Int) ≤ n5) (
impB (n5 ≤ (9223372036854775807 : Int)) (
impB (sigRange.pre [DV.n n0, DV.n n1, DV.n n2, DV.n n3, DV.n n4, DV.n n5]) (
bR (dec (n0 < Int.negSucc (99999999999 : Nat))) (
 reqB (sigRange.post [DV.n n0, DV.n n1, DV.n n2, DV.n n3, DV.n n4, DV.n n5]
 [DV.n (0 : Int), DV.n (2 : Int)]) (
 true)) (
 bR (dec ((100000000000 : Int) < n0)) (
 reqB (sigRange.post [DV.n n0, DV.n n1, DV.n n2, DV.n n3, DV.n n4, DV.n n5]
 [DV.n (0 : Int), DV.n (2 : Int)]) (
 true)) (
 bR (dec (n1 < Int.negSucc (99999999999 : Nat))) (
 reqB (sigRange.post [DV.n n0, DV.n n1, DV.n n2, DV.n n3, DV.n n4, DV.n n5]
 [DV.n (0 : Int), DV.n (2 : Int)]) (
 true)) (
 bR (dec ((100000000000 : Int) < n1)) (
 reqB (sigRange.post [DV.n n0, DV.n n1, DV.n n2, DV.n n3, DV.n n4, DV.n n5]
 [DV.n (0 : Int), DV.n (2 : Int)]) (
 true)) (
 bR (dec (n2 < Int.negSucc (99999999999 : Nat))) (
 reqB (sigRange.post [DV.n n0, DV.n n1, DV.n n2, DV.n n3, DV.n n4, DV.n n5]
 [DV.n (0 : Int), DV.n (2 : Int)]) (
 true)) (
 bR (dec ((100000000000 : Int) < n2)) (
 reqB (sigRange.post [DV.n n0, DV.n n1, DV.n n2, DV.n n3, DV.n n4, DV.n n5]
 [DV.n (0 : Int), DV.n (2 : Int)]) (
 true)) (
 bR (dec (n3 < Int.negSucc (99999999999 : Nat))) (
 reqB (sigRange.post [DV.n n0, DV.n n1, DV.n n2, DV.n n3, DV.n n4, DV.n n5]
 [DV.n (0 : Int), DV.n (2 : Int)]) (
 true)) (
 bR (dec ((100000000000 : Int) < n3)) (
 reqB (sigRange.post [DV.n n0, DV.n n1, DV.n n2, DV.n n3, DV.n n4, DV.n n5]
 [DV.n (0 : Int), DV.n (2 : Int)]) (
 true)) (
 bR (dec (n4 < Int.negSucc (99999999999 : Nat))) (
 reqB (sigRange.post [DV.n n0, DV.n n1, DV.n n2, DV.n n3, DV.n n4, DV.n n5]
 [DV.n (0 : Int), DV.n (2 : Int)]) (
 true)) (
 bR (dec ((100000000000 : Int) < n4)) (
 reqB (sigRange.post [DV.n n0, DV.n n1, DV.n n2, DV.n n3, DV.n n4, DV.n n5]
 [DV.n (0 : Int), DV.n (2 : Int)]) (
 true)) (
 bR (dec (n5 < Int.negSucc (99999999999 : Nat))) (
 reqB (sigRange.post [DV.n n0, DV.n n1, DV.n n2, DV.n n3, DV.n n4, DV.n n5]
 [DV.n (0 : Int), DV.n (2 : Int)]) (
 true)) (
 bR (dec ((100000000000 : Int) < n5)) (
 reqB (sigRange.post [DV.n n0, DV.n n1, DV.n n2, DV.n n3, DV.n n4, DV.n n5]
 [DV.n (0 : Int), DV.n (2 : Int)]) (
 true)) (
 allB fun n6 : Int => 
 impB (n6 = Go.IntKind.i64.wrap (n3 - n0)) (
 impB (Int.negSucc (9223372036854775807 : Nat) ≤ n6) (
 impB (n6 ≤ Int.ofNat (9223372036854775807 : Nat)) (
 allB fun n7 : Int => 
 impB (n7 = Go.IntKind.i64.wrap (n4 - n1)) (
 impB (Int.negSucc (9223372036854775807 : Nat) ≤ n7) (
 impB (n7 ≤ Int.ofNat (9223372036854775807 : Nat)) (
 allB fun n8 : Int => 
 impB (n8 = Go.IntKind.i64.wrap (n5 - n2)) (
 impB (Int.negSucc (9223372036854775807 : Nat) ≤ n8) (
 impB (n8 ≤ Int.ofNat (9223372036854775807 : Nat)) (
 reqB ((-4611686018427387904 : Int) ≤ n6) (
 reqB (n6 ≤ (4611686018427387904 : Int)) (
 reqB ((-4611686018427387904 : Int) ≤ n7) (
 reqB (n7 ≤ (4611686018427387904 : Int)) (
 reqB ((-4611686018427387904 : Int) ≤ n8) (
 reqB (n8 ≤ (4611686018427387904 : Int)) (
 reqB (sigNorm.pre [DV.n n6, DV.n n7, DV.n n8]) (
 allB fun n9 : Int => 
 impB ((-9223372036854775808 : Int) ≤ n9) (
 impB (n9 ≤ (9223372036854775807 : Int)) (
 allB fun n10 : Int => 
 impB ((0 : Int) ≤ n10) (
 impB (n10 ≤ (18446744073709551615 : Int)) (
 allB fun n11 : Int => 
 impB ((0 : Int) ≤ n11) (
 impB (n11 ≤ (18 : Int)) (
 impB (sigNorm.post [DV.n n6, DV.n n7, DV.n n8] [DV.n n9, DV.n n10, DV.n n11]) (
 reqB ((-9223372036854775808 : Int) ≤ n9) (
 reqB (n9 ≤ (9223372036854775807 : Int)) (
 reqB ((0 : Int) ≤ n10) (
 reqB (n10 ≤ (18446744073709551615 : Int)) (
 reqB (sigRw.pre [DV.n n9, DV.n n10]) (
 allB fun n12 : Int => 
 impB ((0 : Int) ≤ n12) (
 impB (n12 ≤ (9223372036854775807 : Int)) (
 allB fun n13 : Int => 
 impB ((0 : Int) ≤ n13) (
 impB (n13 ≤ (18 : Int)) (
 impB (sigRw.post [DV.n n9, DV.n n10] [DV.n n12, DV.n n13]) (
 reqB ((0 : Int) ≤ n12) (
 reqB (n12 ≤ (9223372036854775807 : Int)) (
 reqB ((0 : Int) ≤ n13) (
 reqB (n13 ≤ (18 : Int)) (
 reqB (sigRange.post [DV.n n0, DV.n n1, DV.n n2, DV.n n3, DV.n n4, DV.n n5]
 [DV.n n12, DV.n n13]) (
 true)))))))))))))))))))))))))))))))))))))))))))))))))))))))))))))))) := by kernel_rfl
set_option maxHeartbeats 8000000 in
theorem vt_Range : vcFn Try.prog [(35, Ext.ctr (ctOf sigNorm)), (37, Ext.ctr (ctOf sigRw))] noA [] 100 11 sigRange = true := by
  rw [vc_Range]
  try simp only [Int.toNat_natCast, List.length_set, List.length_replicate, List.length_take, List.length_drop, List.length_append, List.length_cons, List.length_nil, Nat.min_self, List.take_take, lenCols_i, lenCols_b, List.drop_zero, List.take_length, Nat.add_eq, Nat.mul_eq, Nat.sub_eq, Nat.zero_add, Nat.sub_zero, Nat.mul_one]
  try simp only [show (Int.ofNat 9223372036854775807 : Int) = 9223372036854775807 from rfl, show (Int.negSucc 9223372036854775807 : Int) = -9223372036854775808 from rfl, show (Int.negSucc 99999999999 : Int) = -100000000000 from rfl]
  refine all_i fun n0 => ?_
  refine imp_i fun h0 => ?_
  refine imp_i fun h1 => ?_
  refine all_i fun n1 => ?_
  refine imp_i fun h2 => ?_
  refine imp_i fun h3 => ?_
  refine all_i fun n2 => ?_
  refine imp_i fun h4 => ?_
  refine imp_i fun h5 => ?_
  refine all_i fun n3 => ?_
  refine imp_i fun h6 => ?_
  refine imp_i fun h7 => ?_
  refine all_i fun n4 => ?_
  refine imp_i fun h8 => ?_
  refine imp_i fun h9 => ?_
  refine all_i fun n5 => ?_
  refine imp_i fun h10 => ?_
  refine imp_i fun h11 => ?_
  refine imp_i fun h12 => ?_
  try simp only [sigRange, pt3, rangePost, nearP, dsq, List.cons.injEq, DV.b.injEq, and_true, List.length_cons, List.length_nil] at h12
  refine bR_dec (fun h13 => ?_) (fun h13 => ?_)
  ·
   refine req_i ?_ ?_
   · -- r0
    refine .inl ⟨?_, rfl, rfl⟩; unfold nearP; omega
   rfl
  ·
   refine bR_dec (fun h14 => ?_) (fun h14 => ?_)
   ·
    refine req_i ?_ ?_
    · -- r1
     refine .inl ⟨?_, rfl, rfl⟩; unfold nearP; omega
    rfl
   ·
    refine bR_dec (fun h15 => ?_) (fun h15 => ?_)
    ·
     refine req_i ?_ ?_
     · -- r2
      refine .inl ⟨?_, rfl, rfl⟩; unfold nearP; omega
     rfl
    ·
     refine bR_dec (fun h16 => ?_) (fun h16 => ?_)
     ·
      refine req_i ?_ ?_
      · -- r3
       refine .inl ⟨?_, rfl, rfl⟩; unfold nearP; omega
      rfl
     ·
      refine bR_dec (fun h17 => ?_) (fun h17 => ?_)
      ·
       refine req_i ?_ ?_
       · -- r4
        refine .inl ⟨?_, rfl, rfl⟩; unfold nearP; omega
       rfl
      ·
       refine bR_dec (fun h18 => ?_) (fun h18 => ?_)
       ·
        refine req_i ?_ ?_
        · -- r5
         refine .inl ⟨?_, rfl, rfl⟩; unfold nearP; omega
        rfl
       ·
        refine bR_dec (fun h19 => ?_) (fun h19 => ?_)
        ·
         refine req_i ?_ ?_
         · -- r6
          refine .inl ⟨?_, rfl, rfl⟩; unfold nearP; omega
         rfl
        ·
         refine bR_dec (fun h20 => ?_) (fun h20 => ?_)
         ·
          refine req_i ?_ ?_
          · -- r7
           refine .inl ⟨?_, rfl, rfl⟩; unfold nearP; omega
          rfl
         ·
          refine bR_dec (fun h21 => ?_) (fun h21 => ?_)
          ·
           refine req_i ?_ ?_
           · -- r8
            refine .inl ⟨?_, rfl, rfl⟩; unfold nearP; omega
           rfl
          ·
           refine bR_dec (fun h22 => ?_) (fun h22 => ?_)
           ·
            refine req_i ?_ ?_
            · -- r9
             refine .inl ⟨?_, rfl, rfl⟩; unfold nearP; omega
            rfl
           ·
            refine bR_dec (fun h23 => ?_) (fun h23 => ?_)
            ·
             refine req_i ?_ ?_
             · -- r10
              refine .inl ⟨?_, rfl, rfl⟩; unfold nearP; omega
             rfl
            ·
             refine bR_dec (fun h24 => ?_) (fun h24 => ?_)
             ·
              refine req_i ?_ ?_
              · -- r11
               refine .inl ⟨?_, rfl, rfl⟩; unfold nearP; omega
              rfl
             ·
              have nn : nearP n0 n1 n2 ∧ nearP n3 n4 n5 := by unfold nearP; omega
              refine all_i fun n6 => ?_
              refine imp_i fun h25 => ?_
              simp only [wrap_i64] at h25
              have h25 : n6 = n3 - n0 := by omega
              refine imp_i fun h26 => ?_
              refine imp_i fun h27 => ?_
              refine all_i fun n7 => ?_
              refine imp_i fun h28 => ?_
              simp only [wrap_i64] at h28
              have h28 : n7 = n4 - n1 := by omega
              refine imp_i fun h29 => ?_
              refine imp_i fun h30 => ?_
              refine all_i fun n8 => ?_
              refine imp_i fun h31 => ?_
              simp only [wrap_i64] at h31
              have h31 : n8 = n5 - n2 := by omega
              refine imp_i fun h32 => ?_
              refine imp_i fun h33 => ?_
              refine req_i ?_ ?_
              · -- r12
               first | omega | assumption | grind
              refine req_i ?_ ?_
              · -- r13
               first | omega | assumption | grind
              refine req_i ?_ ?_
              · -- r14
               first | omega | assumption | grind
              refine req_i ?_ ?_
              · -- r15
               first | omega | assumption | grind
              refine req_i ?_ ?_
              · -- r16
               first | omega | assumption | grind
              refine req_i ?_ ?_
              · -- r17
               first | omega | assumption | grind
              refine req_i ?_ ?_
              · -- r18
               first | trivial | assumption | (simp only [sigNorm, c62, normPost, List.cons.injEq, DV.b.injEq, and_true, List.length_cons, List.length_nil]; done) | ((try simp only [sigNorm, c62, normPost, List.cons.injEq, DV.b.injEq, and_true, List.length_cons, List.length_nil]); first | omega | assumption | grind)
              refine all_i fun n9 => ?_
              refine imp_i fun h34 => ?_
              refine imp_i fun h35 => ?_
              refine all_i fun n10 => ?_
              refine imp_i fun h36 => ?_
              refine imp_i fun h37 => ?_
              refine all_i fun n11 => ?_
              refine imp_i fun h38 => ?_
              refine imp_i fun h39 => ?_
              refine imp_i fun h40 => ?_
              try simp only [sigNorm, c62, normPost, List.cons.injEq, DV.b.injEq, and_true, List.length_cons, List.length_nil] at h40
              have s0 := sq_abs (a := n6) (A := 200000000000) (by omega) (by omega)
              have s1 := sq_abs (a := n7) (A := 200000000000) (by omega) (by omega)
              have s2 := sq_abs (a := n8) (A := 200000000000) (by omega) (by omega)
              refine req_i ?_ ?_
              · -- r19
               first | omega | assumption | grind
              refine req_i ?_ ?_
              · -- r20
               first | omega | assumption | grind
              refine req_i ?_ ?_
              · -- r21
               first | omega | assumption | grind
              refine req_i ?_ ?_
              · -- r22
               first | omega | assumption | grind
              refine req_i ?_ ?_
              · -- r23
               first | trivial | assumption | (simp only [sigRw, rwPost, List.cons.injEq, DV.b.injEq, and_true, List.length_cons, List.length_nil]; done) | ((try simp only [sigRw, rwPost, List.cons.injEq, DV.b.injEq, and_true, List.length_cons, List.length_nil]); first | omega | assumption | grind)
              refine all_i fun n12 => ?_
              refine imp_i fun h41 => ?_
              refine imp_i fun h42 => ?_
              refine all_i fun n13 => ?_
              refine imp_i fun h43 => ?_
              refine imp_i fun h44 => ?_
              refine imp_i fun h45 => ?_
              try simp only [Int.toNat_natCast, List.length_set, List.length_replicate, List.length_take, List.length_drop, List.length_append, List.length_cons, List.length_nil, Nat.min_self, List.take_take, lenCols_i, lenCols_b, List.drop_zero, List.take_length, Nat.add_eq, Nat.mul_eq, Nat.sub_eq, Nat.zero_add, Nat.sub_zero, Nat.mul_one] at h45
              have k : isq (n9 * 18446744073709551616 + n10) n12 ∧ n13 = 0 := by
                rcases h45 with h | h | h
                · omega
                · omega
                · exact ⟨h.2.2.2, h.2.2.1⟩
              rw [h40.2, h25, h28, h31] at k
              refine req_i ?_ ?_
              · -- r24
               first | omega | assumption | grind
              refine req_i ?_ ?_
              · -- r25
               first | omega | assumption | grind
              refine req_i ?_ ?_
              · -- r26
               first | omega | assumption | grind
              refine req_i ?_ ?_
              · -- r27
               first | omega | assumption | grind
              refine req_i ?_ ?_
              · -- r28
               exact .inr ⟨nn, k.2, k.1⟩
              rfl
theorem ext_Range : ∀ p ∈ ([(35, Ext.ctr (ctOf sigNorm)), (37, Ext.ctr (ctOf sigRw))] : List (Nat × Ext)), ExtRow Try.prog p.1 p.2 := by
  intro p hp
  simp only [List.mem_cons, List.not_mem_nil, or_false] at hp
  rcases hp with rfl | rfl
  · trivial
  · trivial
theorem cts_Range : CtsOk Try.prog [(35, Ext.ctr (ctOf sigNorm)), (37, Ext.ctr (ctOf sigRw))] := ctsOk_of (cs := [(35, sigNorm), (37, sigRw)])
  (fun p hp => by
    simp only [List.mem_cons, List.not_mem_nil, or_false] at hp
    rcases hp with rfl | rfl
    · exact fn_norm
    · exact fn_rootW
)
  (fun f c h => by
    simp only [List.lookup_cons] at h
    repeat' split at h
    all_goals first | (cases h; done) | (rename_i e; have e := beq_iff_eq.1 e; subst e; cases h; refine ⟨_, ?_, rfl⟩; simp))
theorem fn_Range : FnOk Try.prog 11 sigRange [] := fn_sound (by kernel_rfl) ext_Range cts_Range names vt_Range
end Go.Proofs.Ytfcjkgenaekehaa

namespace Go.Proofs.Ytfcjkgenaekehaa
open Go.Ev Go.Sp
set_option maxRecDepth 100000
theorem vc_sizeR : vcFn Try.prog [] (fun f p _ => at2 f p 999999 218 rtL (at2 f p 67 218 rwL (at2 f p 51 250 rwLR none))) [] 100 63 sigSize = (allB fun n0 : Int => 
impB ((-9223372036854775808 : Int) ≤ n0) (
impB (n0 ≤ (9223372036854775807 : Int)) (
impB (sigSize.pre [DV.n n0]) (
bR (dec (n0 < (0 : Int))) (
 allB fun n1 : Int => 
 impB (n1 = Go.IntKind.u64.wrap n0) (
 impB (Int.ofNat (0 : Nat) ≤ n1) (
 impB (n1 ≤ Int.ofNat (18446744073709551615 : Nat)) (
 allB fun n2 : Int => 
 impB (n2 = Go.IntKind.u64.wrap ((0 : Int) - n1)) (
 impB (Int.ofNat (0 : Nat) ≤ n2) (
 impB (n2 ≤ Int.ofNat (18446744073709551615 : Nat)) (
 reqB ((0 : Int) ≤ n2) (
 reqB (n2 ≤ (9223372036854775808 : Int)) (
 reqB (sigSize.post [DV.n n0] [DV.n n2]) (
 true)))))))))) (
 allB fun n3 : Int => 
 impB (n3 = Go.IntKind.u64.wrap n0) (
 impB (Int.ofNat (0 : Nat) ≤ n3) (
 impB (n3 ≤ Int.ofNat (18446744073709551615 : Nat)) (
 reqB ((0 : Int) ≤ n3) (
 reqB (n3 ≤ (9223372036854775808 : Int)) (
 reqB (sigSize.post [DV.n n0] [DV.n n3]) (
 true))))))))))) := by kernel_rfl
set_option maxHeartbeats 8000000 in
theorem vt_sizeR : vcFn Try.prog [] (fun f p _ => at2 f p 999999 218 rtL (at2 f p 67 218 rwL (at2 f p 51 250 rwLR none))) [] 100 63 sigSize = true := by
  rw [vc_sizeR]
  try simp only [Int.toNat_natCast, List.length_set, List.length_replicate, List.length_take, List.length_drop, List.length_append, List.length_cons, List.length_nil, Nat.min_self, List.take_take, lenCols_i, lenCols_b, List.drop_zero, List.take_length, Nat.add_eq, Nat.mul_eq, Nat.sub_eq, Nat.zero_add, Nat.sub_zero, Nat.mul_one]
  refine all_i fun n0 => ?_
  refine imp_i fun h0 => ?_
  refine imp_i fun h1 => ?_
  refine imp_i fun h2 => ?_
  try simp only [sigSize, sizePost, absI, List.cons.injEq, DV.b.injEq, and_true, List.length_cons, List.length_nil] at h2
  refine bR_dec (fun h3 => ?_) (fun h3 => ?_)
  ·
   refine all_i fun n1 => ?_
   refine imp_i fun h4 => ?_
   simp only [wrap_u64] at h4
   refine imp_i fun h5 => ?_
   refine imp_i fun h6 => ?_
   refine all_i fun n2 => ?_
   refine imp_i fun h7 => ?_
   simp only [wrap_u64] at h7
   refine imp_i fun h8 => ?_
   refine imp_i fun h9 => ?_
   refine req_i ?_ ?_
   · -- r0
    first | omega | assumption | grind
   refine req_i ?_ ?_
   · -- r1
    first | omega | assumption | grind
   refine req_i ?_ ?_
   · -- r2
    first | omega | ((try simp only [sigSize, sizePost, absI, List.cons.injEq, DV.b.injEq, and_true, List.length_cons, List.length_nil]); first | done | omega | assumption | grind [getD_set, getD_rep, toNat_succ, cntN_yes, cntN_no])
   rfl
  ·
   refine all_i fun n3 => ?_
   refine imp_i fun h10 => ?_
   simp only [wrap_u64] at h10
   refine imp_i fun h11 => ?_
   refine imp_i fun h12 => ?_
   refine req_i ?_ ?_
   · -- r3
    first | omega | assumption | grind
   refine req_i ?_ ?_
   · -- r4
    first | omega | assumption | grind
   refine req_i ?_ ?_
   · -- r5
    first | omega | ((try simp only [sigSize, sizePost, absI, List.cons.injEq, DV.b.injEq, and_true, List.length_cons, List.length_nil]); first | done | omega | assumption | grind [getD_set, getD_rep, toNat_succ, cntN_yes, cntN_no])
   rfl
theorem ext_sizeR : ∀ p ∈ ([] : List (Nat × Ext)), ExtRow Try.prog p.1 p.2 := by
  intro p hp
  cases hp
theorem cts_sizeR : CtsOk Try.prog [] := fun f c h => by cases h
theorem fn_sizeR : FnOk Try.prog 63 sigSize [] := fn_sound (by kernel_rfl) ext_sizeR cts_sizeR names vt_sizeR
end Go.Proofs.Ytfcjkgenaekehaa

namespace Go.Proofs.Ytfcjkgenaekehaa
open Go.Ev Go.Sp
set_option maxRecDepth 100000
theorem vc_prodR : vcFn Try.prog [(63, Ext.ctr (ctOf sigSize)), (62, Ext.ctr (ctOf sigMul)), (64, Ext.ctr (ctOf sigSub64))] (fun f p _ => at2 f p 999999 218 rtL (at2 f p 67 218 rwL (at2 f p 51 250 rwLR none))) [] 100 29 sigProd = (allB fun n0 : Int => 
impB ((-9223372036854775808 : Int) ≤ n0) (
impB (n0 ≤ (9223372036854775807 : Int)) (
allB fun n1 : Int => 
impB ((-9223372036854775808 : Int) ≤ n1) (
impB (n1 ≤ (9223372036854775807 : Int)) (
impB (sigProd.pre [DV.n n0, DV.n n1]) (
reqB ((-9223372036854775808 : Int) ≤ n0) (
reqB (n0 ≤ (9223372036854775807 : Int)) (
reqB (sigSize.pre [DV.n n0]) (
allB fun n2 : Int => 
impB ((0 : Int) ≤ n2) (
impB (n2 ≤ (9223372036854775808 : Int)) (
impB (sigSize.post [DV.n n0] [DV.n n2]) (
reqB ((-9223372036854775808 : Int) ≤ n1) (
reqB (n1 ≤ (9223372036854775807 : Int)) (
reqB (sigSize.pre [DV.n n1]) (
allB fun n3 : Int => 
impB ((0 : Int) ≤ n3) (
impB (n3 ≤ (9223372036854775808 : Int)) (
impB (sigSize.post [DV.n n1] [DV.n n3]) (
reqB ((0 : Int) ≤ n2) (
reqB (n2 ≤ (18446744073709551615 : Int)) (
reqB ((0 : Int) ≤ n3) (
reqB (n3 ≤ (18446744073709551615 : Int)) (
reqB (sigMul.pre [DV.n n2, DV.n n3]) (
allB fun n4 : Int => 
impB ((0 : Int) ≤ n4) (
impB (n4 ≤ (18446744073709551615 : Int)) (
allB fun n5 : Int => 
impB ((0 : Int) ≤ n5) (
impB (n5 ≤ (18446744073709551615 : Int)) (
impB (sigMul.post [DV.n n2, DV.n n3] [DV.n n4, DV.n n5]) (
bR (bR (bR (dec (n0 < (0 : Int))) (
 dec (n1 < (0 : Int))) (
 bR (dec (n1 < (0 : Int))) (
 false) (
 true))) (
 false) (
 true)) (
 reqB ((0 : Int) ≤ n5) (
 reqB (n5 ≤ (18446744073709551615 : Int)) (
 reqB (sigSub64.pre [DV.n (0 : Int), DV.n n5, DV.n (0 : Int)]) (
 allB fun n6 : Int => 
 impB ((0 : Int) ≤ n6) (
 impB (n6 ≤ (18446744073709551615 : Int)) (
 allB fun n7 : Int => 
 impB ((0 : Int) ≤ n7) (
 impB (n7 ≤ (1 : Int)) (
 impB (sigSub64.post [DV.n (0 : Int), DV.n n5, DV.n (0 : Int)] [DV.n n6, DV.n n7]) (
 reqB ((0 : Int) ≤ n4) (
 reqB (n4 ≤ (18446744073709551615 : Int)) (
 reqB ((0 : Int) ≤ n7) (
 reqB (n7 ≤ (1 : Int)) (
 reqB (sigSub64.pre [DV.n (0 : Int), DV.n n4, DV.n n7]) (
 allB fun n8 : Int => 
 impB ((0 : Int) ≤ n8) (
 impB (n8 ≤ (18446744073709551615 : Int)) (
 allB fun n9 : Int => 
 impB ((0 : Int) ≤ n9) (
 impB (n9 ≤ (1 : Int)) (
 impB (sigSub64.post [DV.n (0 : Int), DV.n n4, DV.n n7] [DV.n n8, DV.n n9]) (
 allB fun n10 : Int => 
 impB (n10 = Go.IntKind.i64.wrap n8) (
 impB (Int.negSucc (9223372036854775807 : Nat) ≤ n10) (
 impB (n10 ≤ Int.ofNat (9223372036854775807 : Nat)) (
 reqB ((-9223372036854775808 : Int) ≤ n10) (
 reqB (n10 ≤ (9223372036854775807 : Int)) (
 reqB ((0 : Int) ≤ n6) (
 reqB (n6 ≤ (18446744073709551615 : Int)) (
 reqB (sigProd.post [DV.n n0, DV.n n1] [DV.n n10, DV.n n6]) (
 true))))))))))))))))))))))))))) (
 allB fun n11 : Int => 
 impB (n11 = Go.IntKind.i64.wrap n4) (
 impB (Int.negSucc (9223372036854775807 : Nat) ≤ n11) (
 impB (n11 ≤ Int.ofNat (9223372036854775807 : Nat)) (
 reqB ((-9223372036854775808 : Int) ≤ n11) (
 reqB (n11 ≤ (9223372036854775807 : Int)) (
 reqB ((0 : Int) ≤ n5) (
 reqB (n5 ≤ (18446744073709551615 : Int)) (
 reqB (sigProd.post [DV.n n0, DV.n n1] [DV.n n11, DV.n n5]) (
 true))))))))))))))))))))))))))))))))))))) := by kernel_rfl
set_option maxHeartbeats 8000000 in
theorem vt_prodR : vcFn Try.prog [(63, Ext.ctr (ctOf sigSize)), (62, Ext.ctr (ctOf sigMul)), (64, Ext.ctr (ctOf sigSub64))] (fun f p _ => at2 f p 999999 218 rtL (at2 f p 67 218 rwL (at2 f p 51 250 rwLR none))) [] 100 29 sigProd = true := by
  rw [vc_prodR]
  try simp only [Int.toNat_natCast, List.length_set, List.length_replicate, List.length_take, List.length_drop, List.length_append, List.length_cons, List.length_nil, Nat.min_self, List.take_take, lenCols_i, lenCols_b, List.drop_zero, List.take_length, Nat.add_eq, Nat.mul_eq, Nat.sub_eq, Nat.zero_add, Nat.sub_zero, Nat.mul_one]
  refine all_i fun n0 => ?_
  refine imp_i fun h0 => ?_
  refine imp_i fun h1 => ?_
  refine all_i fun n1 => ?_
  refine imp_i fun h2 => ?_
  refine imp_i fun h3 => ?_
  refine imp_i fun h4 => ?_
  try simp only [sigProd, prodPost, List.cons.injEq, DV.b.injEq, and_true, List.length_cons, List.length_nil] at h4
  have am := abs_mul (a := n0) (b := n1) (by omega) (by omega) (by omega) (by omega)
  refine req_i ?_ ?_
  · -- r0
   first | omega | assumption | grind
  refine req_i ?_ ?_
  · -- r1
   first | omega | assumption | grind
  refine req_i ?_ ?_
  · -- r2
   first | trivial | assumption | (simp only [sigSize, sizePost, List.cons.injEq, DV.b.injEq, and_true, List.length_cons, List.length_nil]; done) | ((try simp only [sigSize, sizePost, List.cons.injEq, DV.b.injEq, and_true, List.length_cons, List.length_nil]); first | omega | assumption | grind)
  refine all_i fun n2 => ?_
  refine imp_i fun h5 => ?_
  refine imp_i fun h6 => ?_
  refine imp_i fun h7 => ?_
  try simp only [sigSize, sizePost, List.cons.injEq, DV.b.injEq, and_true, List.length_cons, List.length_nil] at h7
  refine req_i ?_ ?_
  · -- r3
   first | omega | assumption | grind
  refine req_i ?_ ?_
  · -- r4
   first | omega | assumption | grind
  refine req_i ?_ ?_
  · -- r5
   first | trivial | assumption | (simp only [sigSize, sizePost, List.cons.injEq, DV.b.injEq, and_true, List.length_cons, List.length_nil]; done) | ((try simp only [sigSize, sizePost, List.cons.injEq, DV.b.injEq, and_true, List.length_cons, List.length_nil]); first | omega | assumption | grind)
  refine all_i fun n3 => ?_
  refine imp_i fun h8 => ?_
  refine imp_i fun h9 => ?_
  refine imp_i fun h10 => ?_
  try simp only [sigSize, sizePost, List.cons.injEq, DV.b.injEq, and_true, List.length_cons, List.length_nil] at h10
  refine req_i ?_ ?_
  · -- r6
   first | omega | assumption | grind
  refine req_i ?_ ?_
  · -- r7
   first | omega | assumption | grind
  refine req_i ?_ ?_
  · -- r8
   first | omega | assumption | grind
  refine req_i ?_ ?_
  · -- r9
   first | omega | assumption | grind
  refine req_i ?_ ?_
  · -- r10
   first | trivial | assumption | (simp only [sigMul, mulPost, List.cons.injEq, DV.b.injEq, and_true, List.length_cons, List.length_nil]; done) | ((try simp only [sigMul, mulPost, List.cons.injEq, DV.b.injEq, and_true, List.length_cons, List.length_nil]); first | omega | assumption | grind)
  refine all_i fun n4 => ?_
  refine imp_i fun h11 => ?_
  refine imp_i fun h12 => ?_
  refine all_i fun n5 => ?_
  refine imp_i fun h13 => ?_
  refine imp_i fun h14 => ?_
  refine imp_i fun h15 => ?_
  try simp only [sigMul, mulPost, List.cons.injEq, DV.b.injEq, and_true, List.length_cons, List.length_nil] at h15
  refine bR_i (fun h16 => ?_) (fun h16 => ?_)
  ·
   simp only [bR_iff, bR_iff_f, dec_iff, dec_f, Bool.false_eq_true, Bool.true_eq_false, false_implies, imp_false, and_true, true_and, implies_true, Classical.not_not] at h16
   refine req_i ?_ ?_
   · -- r11
    first | omega | assumption | grind
   refine req_i ?_ ?_
   · -- r12
    first | omega | assumption | grind
   refine req_i ?_ ?_
   · -- r13
    first | trivial | assumption | (simp only [sigSub64, sub64Post, List.cons.injEq, DV.b.injEq, and_true, List.length_cons, List.length_nil]; done) | ((try simp only [sigSub64, sub64Post, List.cons.injEq, DV.b.injEq, and_true, List.length_cons, List.length_nil]); first | omega | assumption | grind)
   refine all_i fun n6 => ?_
   refine imp_i fun h17 => ?_
   refine imp_i fun h18 => ?_
   refine all_i fun n7 => ?_
   refine imp_i fun h19 => ?_
   refine imp_i fun h20 => ?_
   refine imp_i fun h21 => ?_
   try simp only [sigSub64, sub64Post, List.cons.injEq, DV.b.injEq, and_true, List.length_cons, List.length_nil] at h21
   refine req_i ?_ ?_
   · -- r14
    first | omega | assumption | grind
   refine req_i ?_ ?_
   · -- r15
    first | omega | assumption | grind
   refine req_i ?_ ?_
   · -- r16
    first | omega | assumption | grind
   refine req_i ?_ ?_
   · -- r17
    first | omega | assumption | grind
   refine req_i ?_ ?_
   · -- r18
    first | trivial | assumption | (simp only [sigSub64, sub64Post, List.cons.injEq, DV.b.injEq, and_true, List.length_cons, List.length_nil]; done) | ((try simp only [sigSub64, sub64Post, List.cons.injEq, DV.b.injEq, and_true, List.length_cons, List.length_nil]); first | omega | assumption | grind)
   refine all_i fun n8 => ?_
   refine imp_i fun h22 => ?_
   refine imp_i fun h23 => ?_
   refine all_i fun n9 => ?_
   refine imp_i fun h24 => ?_
   refine imp_i fun h25 => ?_
   refine imp_i fun h26 => ?_
   try simp only [sigSub64, sub64Post, List.cons.injEq, DV.b.injEq, and_true, List.length_cons, List.length_nil] at h26
   refine all_i fun n10 => ?_
   refine imp_i fun h27 => ?_
   simp only [wrap_i64] at h27
   refine imp_i fun h28 => ?_
   refine imp_i fun h29 => ?_
   refine req_i ?_ ?_
   · -- r19
    first | omega | assumption | grind
   refine req_i ?_ ?_
   · -- r20
    first | omega | assumption | grind
   refine req_i ?_ ?_
   · -- r21
    first | omega | assumption | grind
   refine req_i ?_ ?_
   · -- r22
    first | omega | assumption | grind
   refine req_i ?_ ?_
   · -- r23
    have s : (n0 < 0 ∧ ¬n1 < 0) ∨ (¬n0 < 0 ∧ n1 < 0) := by omega
    have ap := am.2.2.2 s
    rw [h7, h10] at h15
    try simp only [wrap_i64] at h27
    obtain ⟨a1, a2⟩ := h21
    obtain ⟨c1, c2⟩ := h26
    show n10 * 18446744073709551616 + n6 = n0 * n1
    split at a2 <;> omega
   rfl
  ·
   simp only [bR_iff, bR_iff_f, dec_iff, dec_f, Bool.false_eq_true, Bool.true_eq_false, false_implies, imp_false, and_true, true_and, implies_true, Classical.not_not] at h16
   refine all_i fun n11 => ?_
   refine imp_i fun h30 => ?_
   simp only [wrap_i64] at h30
   refine imp_i fun h31 => ?_
   refine imp_i fun h32 => ?_
   refine req_i ?_ ?_
   · -- r24
    first | omega | assumption | grind
   refine req_i ?_ ?_
   · -- r25
    first | omega | assumption | grind
   refine req_i ?_ ?_
   · -- r26
    first | omega | assumption | grind
   refine req_i ?_ ?_
   · -- r27
    first | omega | assumption | grind
   refine req_i ?_ ?_
   · -- r28
    first | omega | ((try simp only [sigProd, prodPost, List.cons.injEq, DV.b.injEq, and_true, List.length_cons, List.length_nil]); first | done | omega | assumption | grind [getD_set, getD_rep, toNat_succ, cntN_yes, cntN_no])
   rfl
theorem ext_prodR : ∀ p ∈ ([(63, Ext.ctr (ctOf sigSize)), (62, Ext.ctr (ctOf sigMul)), (64, Ext.ctr (ctOf sigSub64))] : List (Nat × Ext)), ExtRow Try.prog p.1 p.2 := by
  intro p hp
  simp only [List.mem_cons, List.not_mem_nil, or_false] at hp
  rcases hp with rfl | rfl | rfl
  · trivial
  · trivial
  · trivial
theorem cts_prodR : CtsOk Try.prog [(63, Ext.ctr (ctOf sigSize)), (62, Ext.ctr (ctOf sigMul)), (64, Ext.ctr (ctOf sigSub64))] := ctsOk_of (cs := [(63, sigSize), (62, sigMul), (64, sigSub64)])
  (fun p hp => by
    simp only [List.mem_cons, List.not_mem_nil, or_false] at hp
    rcases hp with rfl | rfl | rfl
    · exact fn_sizeR
    · exact fn_mul64
    · exact fn_sub64
)
  (fun f c h => by
    simp only [List.lookup_cons] at h
    repeat' split at h
    all_goals first | (cases h; done) | (rename_i e; have e := beq_iff_eq.1 e; subst e; cases h; refine ⟨_, ?_, rfl⟩; simp))
theorem fn_prodR : FnOk Try.prog 29 sigProd [] := fn_sound (by kernel_rfl) ext_prodR cts_prodR names vt_prodR
end Go.Proofs.Ytfcjkgenaekehaa

namespace Go.Proofs.Ytfcjkgenaekehaa
open Go.Ev Go.Sp
set_option maxRecDepth 100000
theorem vc_plusR : vcFn Try.prog [(85, Ext.ctr (ctOf sigAdd64))] (fun f p _ => at2 f p 999999 218 rtL (at2 f p 67 218 rwL (at2 f p 51 250 rwLR none))) [] 100 56 sigPlus = (allB fun n0 : Int => 
impB ((-9223372036854775808 : Int) ≤ n0) (
impB (n0 ≤ (9223372036854775807 : Int)) (
allB fun n1 : Int => 
impB ((0 : Int) ≤ n1) (
impB (n1 ≤ (18446744073709551615 : Int)) (
allB fun n2 : Int => 
impB ((-9223372036854775808 : Int) ≤ n2) (
impB (n2 ≤ (9223372036854775807 : Int)) (
allB fun n3 : Int => 
impB ((0 : Int) ≤ n3) (
impB (n3 ≤ (18446744073709551615 : Int)) (
impB (sigPlus.pre [DV.n n0, DV.n n1, DV.n n2, DV.n n3]) (
reqB ((0 : Int) ≤ n1) (
reqB (n1 ≤ (18446744073709551615 : Int)) (
reqB ((0 : Int) ≤ n3) (
reqB (n3 ≤ (18446744073709551615 : Int)) (
reqB (sigAdd64.pre [DV.n n1, DV.n n3, DV.n (0 : Int)]) (
allB fun n4 : Int => 
impB ((0 : Int) ≤ n4) (
impB (n4 ≤ (18446744073709551615 : Int)) (
allB fun n5 : Int => 
impB ((0 : Int) ≤ n5) (
impB (n5 ≤ (1 : Int)) (
impB (sigAdd64.post [DV.n n1, DV.n n3, DV.n (0 : Int)] [DV.n n4, DV.n n5]) (
allB fun n6 : Int => 
impB (n6 = Go.IntKind.i64.wrap (n0 + n2)) (
impB (Int.negSucc (9223372036854775807 : Nat) ≤ n6) (
impB (n6 ≤ Int.ofNat (9223372036854775807 : Nat)) (
allB fun n7 : Int => 
impB (n7 = Go.IntKind.i64.wrap (n6 + n5)) (
impB (Int.negSucc (9223372036854775807 : Nat) ≤ n7) (
impB (n7 ≤ Int.ofNat (9223372036854775807 : Nat)) (
bR (bR (dec (n0 < (0 : Int))) (
 dec (n2 < (0 : Int))) (
 bR (dec (n2 < (0 : Int))) (
 false) (
 true))) (
 bR (bR (bR (dec (n7 < (0 : Int))) (
 dec (n0 < (0 : Int))) (
 bR (dec (n0 < (0 : Int))) (
 false) (
 true))) (
 false) (
 true)) (
 reqB (sigPlus.post [DV.n n0, DV.n n1, DV.n n2, DV.n n3]
 [DV.n (0 : Int), DV.n (0 : Int), DV.n (5 : Int)]) (
 true)) (
 reqB ((-9223372036854775808 : Int) ≤ n7) (
 reqB (n7 ≤ (9223372036854775807 : Int)) (
 reqB ((0 : Int) ≤ n4) (
 reqB (n4 ≤ (18446744073709551615 : Int)) (
 reqB (sigPlus.post [DV.n n0, DV.n n1, DV.n n2, DV.n n3]
 [DV.n n7, DV.n n4, DV.n (0 : Int)]) (
 true))))))) (
 reqB ((-9223372036854775808 : Int) ≤ n7) (
 reqB (n7 ≤ (9223372036854775807 : Int)) (
 reqB ((0 : Int) ≤ n4) (
 reqB (n4 ≤ (18446744073709551615 : Int)) (
 reqB (sigPlus.post [DV.n n0, DV.n n1, DV.n n2, DV.n n3]
 [DV.n n7, DV.n n4, DV.n (0 : Int)]) (
 true)))))))))))))))))))))))))))))))) := by kernel_rfl
set_option maxHeartbeats 8000000 in
theorem vt_plusR : vcFn Try.prog [(85, Ext.ctr (ctOf sigAdd64))] (fun f p _ => at2 f p 999999 218 rtL (at2 f p 67 218 rwL (at2 f p 51 250 rwLR none))) [] 100 56 sigPlus = true := by
  rw [vc_plusR]
  try simp only [Int.toNat_natCast, List.length_set, List.length_replicate, List.length_take, List.length_drop, List.length_append, List.length_cons, List.length_nil, Nat.min_self, List.take_take, lenCols_i, lenCols_b, List.drop_zero, List.take_length, Nat.add_eq, Nat.mul_eq, Nat.sub_eq, Nat.zero_add, Nat.sub_zero, Nat.mul_one]
  refine all_i fun n0 => ?_
  refine imp_i fun h0 => ?_
  refine imp_i fun h1 => ?_
  refine all_i fun n1 => ?_
  refine imp_i fun h2 => ?_
  refine imp_i fun h3 => ?_
  refine all_i fun n2 => ?_
  refine imp_i fun h4 => ?_
  refine imp_i fun h5 => ?_
  refine all_i fun n3 => ?_
  refine imp_i fun h6 => ?_
  refine imp_i fun h7 => ?_
  refine imp_i fun h8 => ?_
  try simp only [sigPlus, plusPost, List.cons.injEq, DV.b.injEq, and_true, List.length_cons, List.length_nil] at h8
  refine req_i ?_ ?_
  · -- r0
   first | omega | assumption | grind
  refine req_i ?_ ?_
  · -- r1
   first | omega | assumption | grind
  refine req_i ?_ ?_
  · -- r2
   first | omega | assumption | grind
  refine req_i ?_ ?_
  · -- r3
   first | omega | assumption | grind
  refine req_i ?_ ?_
  · -- r4
   first | trivial | assumption | (simp only [sigAdd64, add64Post, List.cons.injEq, DV.b.injEq, and_true, List.length_cons, List.length_nil]; done) | ((try simp only [sigAdd64, add64Post, List.cons.injEq, DV.b.injEq, and_true, List.length_cons, List.length_nil]); first | omega | assumption | grind)
  refine all_i fun n4 => ?_
  refine imp_i fun h9 => ?_
  refine imp_i fun h10 => ?_
  refine all_i fun n5 => ?_
  refine imp_i fun h11 => ?_
  refine imp_i fun h12 => ?_
  refine imp_i fun h13 => ?_
  try simp only [sigAdd64, add64Post, List.cons.injEq, DV.b.injEq, and_true, List.length_cons, List.length_nil] at h13
  refine all_i fun n6 => ?_
  refine imp_i fun h14 => ?_
  simp only [wrap_i64] at h14
  refine imp_i fun h15 => ?_
  refine imp_i fun h16 => ?_
  refine all_i fun n7 => ?_
  refine imp_i fun h17 => ?_
  simp only [wrap_i64] at h17
  refine imp_i fun h18 => ?_
  refine imp_i fun h19 => ?_
  refine bR_i (fun h20 => ?_) (fun h20 => ?_)
  ·
   simp only [bR_iff, bR_iff_f, dec_iff, dec_f, Bool.false_eq_true, Bool.true_eq_false, false_implies, imp_false, and_true, true_and, implies_true, Classical.not_not] at h20
   refine bR_i (fun h21 => ?_) (fun h21 => ?_)
   ·
    simp only [bR_iff, bR_iff_f, dec_iff, dec_f, Bool.false_eq_true, Bool.true_eq_false, false_implies, imp_false, and_true, true_and, implies_true, Classical.not_not] at h21
    refine req_i ?_ ?_
    · -- r5
     first | omega | ((try simp only [sigPlus, plusPost, List.cons.injEq, DV.b.injEq, and_true, List.length_cons, List.length_nil]); first | done | omega | assumption | grind [getD_set, getD_rep, toNat_succ, cntN_yes, cntN_no])
    rfl
   ·
    simp only [bR_iff, bR_iff_f, dec_iff, dec_f, Bool.false_eq_true, Bool.true_eq_false, false_implies, imp_false, and_true, true_and, implies_true, Classical.not_not] at h21
    refine req_i ?_ ?_
    · -- r6
     first | omega | assumption | grind
    refine req_i ?_ ?_
    · -- r7
     first | omega | assumption | grind
    refine req_i ?_ ?_
    · -- r8
     first | omega | assumption | grind
    refine req_i ?_ ?_
    · -- r9
     first | omega | assumption | grind
    refine req_i ?_ ?_
    · -- r10
     first | omega | ((try simp only [sigPlus, plusPost, List.cons.injEq, DV.b.injEq, and_true, List.length_cons, List.length_nil]); first | done | omega | assumption | grind [getD_set, getD_rep, toNat_succ, cntN_yes, cntN_no])
    rfl
  ·
   simp only [bR_iff, bR_iff_f, dec_iff, dec_f, Bool.false_eq_true, Bool.true_eq_false, false_implies, imp_false, and_true, true_and, implies_true, Classical.not_not] at h20
   refine req_i ?_ ?_
   · -- r11
    first | omega | assumption | grind
   refine req_i ?_ ?_
   · -- r12
    first | omega | assumption | grind
   refine req_i ?_ ?_
   · -- r13
    first | omega | assumption | grind
   refine req_i ?_ ?_
   · -- r14
    first | omega | assumption | grind
   refine req_i ?_ ?_
   · -- r15
    first | omega | ((try simp only [sigPlus, plusPost, List.cons.injEq, DV.b.injEq, and_true, List.length_cons, List.length_nil]); first | done | omega | assumption | grind [getD_set, getD_rep, toNat_succ, cntN_yes, cntN_no])
   rfl
theorem ext_plusR : ∀ p ∈ ([(85, Ext.ctr (ctOf sigAdd64))] : List (Nat × Ext)), ExtRow Try.prog p.1 p.2 := by
  intro p hp
  simp only [List.mem_cons, List.not_mem_nil, or_false] at hp
  rcases hp with rfl
  · trivial
theorem cts_plusR : CtsOk Try.prog [(85, Ext.ctr (ctOf sigAdd64))] := ctsOk_of (cs := [(85, sigAdd64)])
  (fun p hp => by
    simp only [List.mem_cons, List.not_mem_nil, or_false] at hp
    rcases hp with rfl
    · exact fn_add64
)
  (fun f c h => by
    simp only [List.lookup_cons] at h
    repeat' split at h
    all_goals first | (cases h; done) | (rename_i e; have e := beq_iff_eq.1 e; subst e; cases h; refine ⟨_, ?_, rfl⟩; simp))
theorem fn_plusR : FnOk Try.prog 56 sigPlus [] := fn_sound (by kernel_rfl) ext_plusR cts_plusR names vt_plusR
end Go.Proofs.Ytfcjkgenaekehaa

namespace Go.Proofs.Ytfcjkgenaekehaa
open Go.Ev Go.Sp
set_option maxRecDepth 100000
theorem vc_normR : vcFn Try.prog [(29, Ext.ctr (ctOf sigProd)), (56, Ext.ctr (ctOf sigPlus))] noA [] 100 27 sigNorm2 = (allB fun n0 : Int => 
impB ((-1000000000000 : Int) ≤ n0) (
impB (n0 ≤ (1000000000000 : Int)) (
allB fun n1 : Int => 
impB ((-1000000000000 : Int) ≤ n1) (
impB (n1 ≤ (1000000000000 : Int)) (
allB fun n2 : Int => 
impB ((-1000000000000 : Int) ≤ n2) (
impB (n2 ≤ (1000000000000 : Int)) (
impB (sigNorm2.pre [DV.n n0, DV.n n1, DV.n n2]) (
reqB ((-9223372036854775808 : Int) ≤ n0) (
reqB (n0 ≤ (9223372036854775807 : Int)) (
reqB ((-9223372036854775808 : Int) ≤ n0) (
reqB (n0 ≤ (9223372036854775807 : Int)) (
reqB (sigProd.pre [DV.n n0, DV.n n0]) (
allB fun n3 : Int => 
impB ((-9223372036854775808 : Int) ≤ n3) (
impB (n3 ≤ (9223372036854775807 : Int)) (
allB fun n4 : Int => 
impB ((0 : Int) ≤ n4) (
impB (n4 ≤ (18446744073709551615 : Int)) (
impB (sigProd.post [DV.n n0, DV.n n0] [DV.n n3, DV.n n4]) (
reqB ((-9223372036854775808 : Int) ≤ n1) (
reqB (n1 ≤ (9223372036854775807 : Int)) (
reqB ((-9223372036854775808 : Int) ≤ n1) (
reqB (n1 ≤ (9223372036854775807 : Int)) (
reqB (sigProd.pre [DV.n n1, DV.n n1]) (
allB fun n5 : Int => 
impB ((-9223372036854775808 : Int) ≤ n5) (
impB (n5 ≤ (9223372036854775807 : Int)) (
allB fun n6 : Int => 
impB ((0 : Int) ≤ n6) (
impB (n6 ≤ (18446744073709551615 : Int)) (
impB (sigProd.post [DV.n n1, DV.n n1] [DV.n n5, DV.n n6]) (
reqB ((-9223372036854775808 : Int) ≤ n3) (
reqB (n3 ≤ (9223372036854775807 : Int)) (
reqB ((0 : Int) ≤ n4) (
reqB (n4 ≤ (18446744073709551615 : Int)) (
reqB ((-9223372036854775808 : Int) ≤ n5) (
reqB (n5 ≤ (9223372036854775807 : Int)) (
reqB ((0 : Int) ≤ n6) (
reqB (n6 ≤ (18446744073709551615 : Int)) (
reqB (sigPlus.pre [DV.n n3, DV.n n4, DV.n n5, DV.n n6]) (
allB fun n7 : Int => 
impB ((-9223372036854775808 : Int) ≤ n7) (
impB (n7 ≤ (9223372036854775807 : Int)) (
allB fun n8 : Int => 
impB ((0 : Int) ≤ n8) (
impB (n8 ≤ (18446744073709551615 : Int)) (
allB fun n9 : Int => 
impB ((0 : Int) ≤ n9) (
impB (n9 ≤ (18 : Int)) (
impB (sigPlus.post [DV.n n3, DV.n n4, DV.n n5, DV.n n6]
 [DV.n n7, DV.n n8, DV.n n9]) (
bR (dec (n9 ≠ (0 : Int))) (
 reqB ((0 : Int) ≤ n9) (
 reqB (n9 ≤ (18 : Int)) (
 reqB (sigNorm2.post [DV.n n0, DV.n n1, DV.n n2]
 [DV.n (0 : Int), DV.n (0 : Int), DV.n n9]) (
 true)))) (
 reqB ((-9223372036854775808 : Int) ≤ n2) (
 reqB (n2 ≤ (9223372036854775807 : Int)) (
 reqB ((-9223372036854775808 : Int) ≤ n2) (
 reqB (n2 ≤ (9223372036854775807 : Int)) (
 reqB (sigProd.pre [DV.n n2, DV.n n2]) (
 allB fun n10 : Int => 
 impB ((-9223372036854775808 : Int) ≤ n10) (
 impB (n10 ≤ (9223372036854775807 : Int)) (
 allB fun n11 : Int => 
 impB ((0 : Int) ≤ n11) (
 impB (n11 ≤ (18446744073709551615 : Int)) (
 impB (sigProd.post [DV.n n2, DV.n n2] [DV.n n10, DV.n n11]) (
 reqB ((-9223372036854775808 : Int) ≤ n7) (
 reqB (n7 ≤ (9223372036854775807 : Int)) (
 reqB ((0 : Int) ≤ n8) (
 reqB (n8 ≤ (18446744073709551615 : Int)) (
 reqB ((-9223372036854775808 : Int) ≤ n10) (
 reqB (n10 ≤ (9223372036854775807 : Int)) (
 reqB ((0 : Int) ≤ n11) (
 reqB (n11 ≤ (18446744073709551615 : Int)) (
 reqB (sigPlus.pre [DV.n n7, DV.n n8, DV.n n10, DV.n n11]) (
 allB fun n12 : Int => 
 impB ((-9223372036854775808 : Int) ≤ n12) (
 impB (n12 ≤ (9223372036854775807 : Int)) (
 allB fun n13 : Int => 
 impB ((0 : Int) ≤ n13) (
 impB (n13 ≤ (18446744073709551615 : Int)) (
 allB fun n14 : Int => 
 impB ((0 : Int) ≤ n14) (
 impB (n14 ≤ (18 : Int)) (
 impB (sigPlus.post [DV.n n7, DV.n n8, DV.n n10, DV.n n11]
 [DV.n n12, DV.n n13, DV.n n14]) (
 reqB ((-9223372036854775808 : Int) ≤ n12) (
 reqB (n12 ≤ (9223372036854775807 : Int)) (
 reqB ((0 : Int) ≤ n13) (
 reqB (n13 ≤ (18446744073709551615 : Int)) (
 reqB ((0 : Int) ≤ n14) (
 reqB (n14 ≤ (18 : Int)) (
 reqB (sigNorm2.post [DV.n n0, DV.n n1, DV.n n2] [DV.n n12, DV.n n13, DV.n n14]) (
 true)))))))))))))))))))))))))))))))))))))))))))))))))))))))))))))))))))))))))))))) := by kernel_rfl
set_option maxHeartbeats 8000000 in
theorem vt_normR : vcFn Try.prog [(29, Ext.ctr (ctOf sigProd)), (56, Ext.ctr (ctOf sigPlus))] noA [] 100 27 sigNorm2 = true := by
  rw [vc_normR]
  try simp only [Int.toNat_natCast, List.length_set, List.length_replicate, List.length_take, List.length_drop, List.length_append, List.length_cons, List.length_nil, Nat.min_self, List.take_take, lenCols_i, lenCols_b, List.drop_zero, List.take_length, Nat.add_eq, Nat.mul_eq, Nat.sub_eq, Nat.zero_add, Nat.sub_zero, Nat.mul_one]
  refine all_i fun n0 => ?_
  refine imp_i fun h0 => ?_
  refine imp_i fun h1 => ?_
  refine all_i fun n1 => ?_
  refine imp_i fun h2 => ?_
  refine imp_i fun h3 => ?_
  refine all_i fun n2 => ?_
  refine imp_i fun h4 => ?_
  refine imp_i fun h5 => ?_
  refine imp_i fun h6 => ?_
  try simp only [sigNorm2, norm12, normPost, List.cons.injEq, DV.b.injEq, and_true, List.length_cons, List.length_nil] at h6
  refine req_i ?_ ?_
  · -- r0
   first | omega | assumption | grind
  refine req_i ?_ ?_
  · -- r1
   first | omega | assumption | grind
  refine req_i ?_ ?_
  · -- r2
   first | omega | assumption | grind
  refine req_i ?_ ?_
  · -- r3
   first | omega | assumption | grind
  refine req_i ?_ ?_
  · -- r4
   first | trivial | assumption | (simp only [sigProd, prodPost, List.cons.injEq, DV.b.injEq, and_true, List.length_cons, List.length_nil]; done) | ((try simp only [sigProd, prodPost, List.cons.injEq, DV.b.injEq, and_true, List.length_cons, List.length_nil]); first | omega | assumption | grind)
  refine all_i fun n3 => ?_
  refine imp_i fun h7 => ?_
  refine imp_i fun h8 => ?_
  refine all_i fun n4 => ?_
  refine imp_i fun h9 => ?_
  refine imp_i fun h10 => ?_
  refine imp_i fun h11 => ?_
  try simp only [sigProd, prodPost, List.cons.injEq, DV.b.injEq, and_true, List.length_cons, List.length_nil] at h11
  have s1 := sq_abs (a := n0) (A := 1000000000000) (by omega) (by omega)
  refine req_i ?_ ?_
  · -- r5
   first | omega | assumption | grind
  refine req_i ?_ ?_
  · -- r6
   first | omega | assumption | grind
  refine req_i ?_ ?_
  · -- r7
   first | omega | assumption | grind
  refine req_i ?_ ?_
  · -- r8
   first | omega | assumption | grind
  refine req_i ?_ ?_
  · -- r9
   first | trivial | assumption | (simp only [sigProd, prodPost, List.cons.injEq, DV.b.injEq, and_true, List.length_cons, List.length_nil]; done) | ((try simp only [sigProd, prodPost, List.cons.injEq, DV.b.injEq, and_true, List.length_cons, List.length_nil]); first | omega | assumption | grind)
  refine all_i fun n5 => ?_
  refine imp_i fun h12 => ?_
  refine imp_i fun h13 => ?_
  refine all_i fun n6 => ?_
  refine imp_i fun h14 => ?_
  refine imp_i fun h15 => ?_
  refine imp_i fun h16 => ?_
  try simp only [sigProd, prodPost, List.cons.injEq, DV.b.injEq, and_true, List.length_cons, List.length_nil] at h16
  have s2 := sq_abs (a := n1) (A := 1000000000000) (by omega) (by omega)
  refine req_i ?_ ?_
  · -- r10
   first | omega | assumption | grind
  refine req_i ?_ ?_
  · -- r11
   first | omega | assumption | grind
  refine req_i ?_ ?_
  · -- r12
   first | omega | assumption | grind
  refine req_i ?_ ?_
  · -- r13
   first | omega | assumption | grind
  refine req_i ?_ ?_
  · -- r14
   first | omega | assumption | grind
  refine req_i ?_ ?_
  · -- r15
   first | omega | assumption | grind
  refine req_i ?_ ?_
  · -- r16
   first | omega | assumption | grind
  refine req_i ?_ ?_
  · -- r17
   first | omega | assumption | grind
  refine req_i ?_ ?_
  · -- r18
   first | trivial | assumption | (simp only [sigPlus, plusPost, List.cons.injEq, DV.b.injEq, and_true, List.length_cons, List.length_nil]; done) | ((try simp only [sigPlus, plusPost, List.cons.injEq, DV.b.injEq, and_true, List.length_cons, List.length_nil]); first | omega | assumption | grind)
  refine all_i fun n7 => ?_
  refine imp_i fun h17 => ?_
  refine imp_i fun h18 => ?_
  refine all_i fun n8 => ?_
  refine imp_i fun h19 => ?_
  refine imp_i fun h20 => ?_
  refine all_i fun n9 => ?_
  refine imp_i fun h21 => ?_
  refine imp_i fun h22 => ?_
  refine imp_i fun h23 => ?_
  try simp only [sigPlus, plusPost, List.cons.injEq, DV.b.injEq, and_true, List.length_cons, List.length_nil] at h23
  refine bR_dec (fun h24 => ?_) (fun h24 => ?_)
  ·
   refine req_i ?_ ?_
   · -- r19
    first | omega | assumption | grind
   refine req_i ?_ ?_
   · -- r20
    first | omega | assumption | grind
   refine req_i ?_ ?_
   · -- r21
    first | omega | ((try simp only [sigNorm2, norm12, normPost, List.cons.injEq, DV.b.injEq, and_true, List.length_cons, List.length_nil]); first | done | omega | assumption | grind [getD_set, getD_rep, toNat_succ, cntN_yes, cntN_no])
   rfl
  ·
   refine req_i ?_ ?_
   · -- r22
    first | omega | assumption | grind
   refine req_i ?_ ?_
   · -- r23
    first | omega | assumption | grind
   refine req_i ?_ ?_
   · -- r24
    first | omega | assumption | grind
   refine req_i ?_ ?_
   · -- r25
    first | omega | assumption | grind
   refine req_i ?_ ?_
   · -- r26
    first | trivial | assumption | (simp only [sigProd, prodPost, List.cons.injEq, DV.b.injEq, and_true, List.length_cons, List.length_nil]; done) | ((try simp only [sigProd, prodPost, List.cons.injEq, DV.b.injEq, and_true, List.length_cons, List.length_nil]); first | omega | assumption | grind)
   refine all_i fun n10 => ?_
   refine imp_i fun h25 => ?_
   refine imp_i fun h26 => ?_
   refine all_i fun n11 => ?_
   refine imp_i fun h27 => ?_
   refine imp_i fun h28 => ?_
   refine imp_i fun h29 => ?_
   try simp only [sigProd, prodPost, List.cons.injEq, DV.b.injEq, and_true, List.length_cons, List.length_nil] at h29
   have s3 := sq_abs (a := n2) (A := 1000000000000) (by omega) (by omega)
   refine req_i ?_ ?_
   · -- r27
    first | omega | assumption | grind
   refine req_i ?_ ?_
   · -- r28
    first | omega | assumption | grind
   refine req_i ?_ ?_
   · -- r29
    first | omega | assumption | grind
   refine req_i ?_ ?_
   · -- r30
    first | omega | assumption | grind
   refine req_i ?_ ?_
   · -- r31
    first | omega | assumption | grind
   refine req_i ?_ ?_
   · -- r32
    first | omega | assumption | grind
   refine req_i ?_ ?_
   · -- r33
    first | omega | assumption | grind
   refine req_i ?_ ?_
   · -- r34
    first | omega | assumption | grind
   refine req_i ?_ ?_
   · -- r35
    first | trivial | assumption | (simp only [sigPlus, plusPost, List.cons.injEq, DV.b.injEq, and_true, List.length_cons, List.length_nil]; done) | ((try simp only [sigPlus, plusPost, List.cons.injEq, DV.b.injEq, and_true, List.length_cons, List.length_nil]); first | omega | assumption | grind)
   refine all_i fun n12 => ?_
   refine imp_i fun h30 => ?_
   refine imp_i fun h31 => ?_
   refine all_i fun n13 => ?_
   refine imp_i fun h32 => ?_
   refine imp_i fun h33 => ?_
   refine all_i fun n14 => ?_
   refine imp_i fun h34 => ?_
   refine imp_i fun h35 => ?_
   refine imp_i fun h36 => ?_
   try simp only [sigPlus, plusPost, List.cons.injEq, DV.b.injEq, and_true, List.length_cons, List.length_nil] at h36
   refine req_i ?_ ?_
   · -- r36
    first | omega | assumption | grind
   refine req_i ?_ ?_
   · -- r37
    first | omega | assumption | grind
   refine req_i ?_ ?_
   · -- r38
    first | omega | assumption | grind
   refine req_i ?_ ?_
   · -- r39
    first | omega | assumption | grind
   refine req_i ?_ ?_
   · -- r40
    first | omega | assumption | grind
   refine req_i ?_ ?_
   · -- r41
    first | omega | assumption | grind
   refine req_i ?_ ?_
   · -- r42
    first | omega | ((try simp only [sigNorm2, norm12, normPost, List.cons.injEq, DV.b.injEq, and_true, List.length_cons, List.length_nil]); first | done | omega | assumption | grind [getD_set, getD_rep, toNat_succ, cntN_yes, cntN_no])
   rfl
theorem ext_normR : ∀ p ∈ ([(29, Ext.ctr (ctOf sigProd)), (56, Ext.ctr (ctOf sigPlus))] : List (Nat × Ext)), ExtRow Try.prog p.1 p.2 := by
  intro p hp
  simp only [List.mem_cons, List.not_mem_nil, or_false] at hp
  rcases hp with rfl | rfl
  · trivial
  · trivial
theorem cts_normR : CtsOk Try.prog [(29, Ext.ctr (ctOf sigProd)), (56, Ext.ctr (ctOf sigPlus))] := ctsOk_of (cs := [(29, sigProd), (56, sigPlus)])
  (fun p hp => by
    simp only [List.mem_cons, List.not_mem_nil, or_false] at hp
    rcases hp with rfl | rfl
    · exact fn_prodR
    · exact fn_plusR
)
  (fun f c h => by
    simp only [List.lookup_cons] at h
    repeat' split at h
    all_goals first | (cases h; done) | (rename_i e; have e := beq_iff_eq.1 e; subst e; cases h; refine ⟨_, ?_, rfl⟩; simp))
theorem fn_normR : FnOk Try.prog 27 sigNorm2 [] := fn_sound (by kernel_rfl) ext_normR cts_normR names vt_normR
end Go.Proofs.Ytfcjkgenaekehaa

namespace Go.Proofs.Ytfcjkgenaekehaa
open Go.Ev Go.Sp
set_option maxRecDepth 100000
theorem vc_cmpR : vcFn Try.prog [] (fun f p _ => at2 f p 999999 218 rtL (at2 f p 67 218 rwL (at2 f p 51 250 rwLR none))) [] 100 28 sigCmp = (allB fun n0 : Int => 
impB ((-9223372036854775808 : Int) ≤ n0) (
impB (n0 ≤ (9223372036854775807 : Int)) (
allB fun n1 : Int => 
impB ((0 : Int) ≤ n1) (
impB (n1 ≤ (18446744073709551615 : Int)) (
allB fun n2 : Int => 
impB ((-9223372036854775808 : Int) ≤ n2) (
impB (n2 ≤ (9223372036854775807 : Int)) (
allB fun n3 : Int => 
impB ((0 : Int) ≤ n3) (
impB (n3 ≤ (18446744073709551615 : Int)) (
impB (sigCmp.pre [DV.n n0, DV.n n1, DV.n n2, DV.n n3]) (
bR (dec (n0 < n2)) (
 reqB (sigCmp.post [DV.n n0, DV.n n1, DV.n n2, DV.n n3] [DV.n (-1 : Int)]) (
 true)) (
 bR (dec (n0 = n2)) (
 bR (dec (n1 < n3)) (
 reqB (sigCmp.post [DV.n n0, DV.n n1, DV.n n2, DV.n n3] [DV.n (-1 : Int)]) (
 true)) (
 bR (bR (dec (n0 = n2)) (
 bR (dec (n1 = n3)) (
 true) (
 false)) (
 false)) (
 reqB (sigCmp.post [DV.n n0, DV.n n1, DV.n n2, DV.n n3] [DV.n (0 : Int)]) (
 true)) (
 reqB (sigCmp.post [DV.n n0, DV.n n1, DV.n n2, DV.n n3] [DV.n (1 : Int)]) (
 true)))) (
 bR (bR (dec (n0 = n2)) (
 bR (dec (n1 = n3)) (
 true) (
 false)) (
 false)) (
 reqB (sigCmp.post [DV.n n0, DV.n n1, DV.n n2, DV.n n3] [DV.n (0 : Int)]) (
 true)) (
 reqB (sigCmp.post [DV.n n0, DV.n n1, DV.n n2, DV.n n3] [DV.n (1 : Int)]) (
 true)))))))))))))) := by kernel_rfl
set_option maxHeartbeats 8000000 in
theorem vt_cmpR : vcFn Try.prog [] (fun f p _ => at2 f p 999999 218 rtL (at2 f p 67 218 rwL (at2 f p 51 250 rwLR none))) [] 100 28 sigCmp = true := by
  rw [vc_cmpR]
  try simp only [Int.toNat_natCast, List.length_set, List.length_replicate, List.length_take, List.length_drop, List.length_append, List.length_cons, List.length_nil, Nat.min_self, List.take_take, lenCols_i, lenCols_b, List.drop_zero, List.take_length, Nat.add_eq, Nat.mul_eq, Nat.sub_eq, Nat.zero_add, Nat.sub_zero, Nat.mul_one]
  refine all_i fun n0 => ?_
  refine imp_i fun h0 => ?_
  refine imp_i fun h1 => ?_
  refine all_i fun n1 => ?_
  refine imp_i fun h2 => ?_
  refine imp_i fun h3 => ?_
  refine all_i fun n2 => ?_
  refine imp_i fun h4 => ?_
  refine imp_i fun h5 => ?_
  refine all_i fun n3 => ?_
  refine imp_i fun h6 => ?_
  refine imp_i fun h7 => ?_
  refine imp_i fun h8 => ?_
  try simp only [sigCmp, cmpPost, List.cons.injEq, DV.b.injEq, and_true, List.length_cons, List.length_nil] at h8
  refine bR_dec (fun h9 => ?_) (fun h9 => ?_)
  ·
   refine req_i ?_ ?_
   · -- r0
    first | omega | ((try simp only [sigCmp, cmpPost, List.cons.injEq, DV.b.injEq, and_true, List.length_cons, List.length_nil]); first | done | omega | assumption | grind [getD_set, getD_rep, toNat_succ, cntN_yes, cntN_no])
   rfl
  ·
   refine bR_dec (fun h10 => ?_) (fun h10 => ?_)
   ·
    refine bR_dec (fun h11 => ?_) (fun h11 => ?_)
    ·
     refine req_i ?_ ?_
     · -- r1
      first | omega | ((try simp only [sigCmp, cmpPost, List.cons.injEq, DV.b.injEq, and_true, List.length_cons, List.length_nil]); first | done | omega | assumption | grind [getD_set, getD_rep, toNat_succ, cntN_yes, cntN_no])
     rfl
    ·
     refine bR_i (fun h12 => ?_) (fun h12 => ?_)
     ·
      simp only [bR_iff, bR_iff_f, dec_iff, dec_f, Bool.false_eq_true, Bool.true_eq_false, false_implies, imp_false, and_true, true_and, implies_true, Classical.not_not] at h12
      refine req_i ?_ ?_
      · -- r2
       first | omega | ((try simp only [sigCmp, cmpPost, List.cons.injEq, DV.b.injEq, and_true, List.length_cons, List.length_nil]); first | done | omega | assumption | grind [getD_set, getD_rep, toNat_succ, cntN_yes, cntN_no])
      rfl
     ·
      simp only [bR_iff, bR_iff_f, dec_iff, dec_f, Bool.false_eq_true, Bool.true_eq_false, false_implies, imp_false, and_true, true_and, implies_true, Classical.not_not] at h12
      refine req_i ?_ ?_
      · -- r3
       first | omega | ((try simp only [sigCmp, cmpPost, List.cons.injEq, DV.b.injEq, and_true, List.length_cons, List.length_nil]); first | done | omega | assumption | grind [getD_set, getD_rep, toNat_succ, cntN_yes, cntN_no])
      rfl
   ·
    refine bR_i (fun h13 => ?_) (fun h13 => ?_)
    ·
     simp only [bR_iff, bR_iff_f, dec_iff, dec_f, Bool.false_eq_true, Bool.true_eq_false, false_implies, imp_false, and_true, true_and, implies_true, Classical.not_not] at h13
     refine req_i ?_ ?_
     · -- r4
      first | omega | ((try simp only [sigCmp, cmpPost, List.cons.injEq, DV.b.injEq, and_true, List.length_cons, List.length_nil]); first | done | omega | assumption | grind [getD_set, getD_rep, toNat_succ, cntN_yes, cntN_no])
     rfl
    ·
     simp only [bR_iff, bR_iff_f, dec_iff, dec_f, Bool.false_eq_true, Bool.true_eq_false, false_implies, imp_false, and_true, true_and, implies_true, Classical.not_not] at h13
     refine req_i ?_ ?_
     · -- r5
      first | omega | ((try simp only [sigCmp, cmpPost, List.cons.injEq, DV.b.injEq, and_true, List.length_cons, List.length_nil]); first | done | omega | assumption | grind [getD_set, getD_rep, toNat_succ, cntN_yes, cntN_no])
     rfl
theorem ext_cmpR : ∀ p ∈ ([] : List (Nat × Ext)), ExtRow Try.prog p.1 p.2 := by
  intro p hp
  cases hp
theorem cts_cmpR : CtsOk Try.prog [] := fun f c h => by cases h
theorem fn_cmpR : FnOk Try.prog 28 sigCmp [] := fn_sound (by kernel_rfl) ext_cmpR cts_cmpR names vt_cmpR
end Go.Proofs.Ytfcjkgenaekehaa

namespace Go.Proofs.Ytfcjkgenaekehaa
open Go.Ev Go.Sp
set_option maxRecDepth 100000
theorem vc_DistanceSpans : vcFn Try.prog [(10, Ext.ctr (ctOf sigTrue0)), (26, Ext.ctr (ctOf sigLnear)), (31, Ext.ctr (ctOf (sigPickN 1000000000000))), (11, Ext.ctr (ctOf sigRange)), (27, Ext.ctr (ctOf sigNorm2)), (29, Ext.ctr (ctOf sigProd)), (28, Ext.ctr (ctOf sigCmp))] noA [] 100 9 sigP3h = (allB fun n0 : Int => 
impB ((-9223372036854775808 : Int) ≤ n0) (
impB (n0 ≤ (9223372036854775807 : Int)) (
allB fun n1 : Int => 
impB ((-9223372036854775808 : Int) ≤ n1) (
impB (n1 ≤ (9223372036854775807 : Int)) (
allB fun n2 : Int => 
impB ((-9223372036854775808 : Int) ≤ n2) (
impB (n2 ≤ (9223372036854775807 : Int)) (
allB fun n3 : Int => 
impB ((-9223372036854775808 : Int) ≤ n3) (
impB (n3 ≤ (9223372036854775807 : Int)) (
allB fun n4 : Int => 
impB ((-9223372036854775808 : Int) ≤ n4) (
impB (n4 ≤ (9223372036854775807 : Int)) (
allB fun n5 : Int => 
impB ((-9223372036854775808 : Int) ≤ n5) (
impB (n5 ≤ (9223372036854775807 : Int)) (
allB fun n6 : Int => 
impB ((-9223372036854775808 : Int) ≤ n6) (
impB (n6 ≤ (9223372036854775807 : Int)) (
allB fun n7 : Int => 
impB ((-9223372036854775808 : Int) ≤ n7) (
impB (n7 ≤ (9223372036854775807 : Int)) (
allB fun n8 : Int => 
impB ((-9223372036854775808 : Int) ≤ n8) (
impB (n8 ≤ (9223372036854775807 : Int)) (
allB fun n9 : Int => 
impB ((-9223372036854775808 : Int) ≤ n9) (
impB (n9 ≤ (9223372036854775807 : Int)) (
impB (sigP3h.pre
 [DV.n n0, DV.n n1, DV.n n2, DV.n n3, DV.n n4, DV.n n5, DV.n n6,
 DV.n n7, DV.n n8, DV.n n9]) (
reqB ((-9223372036854775808 : Int) ≤ n0) (
reqB (n0 ≤ (9223372036854775807 : Int)) (
reqB ((-9223372036854775808 : Int) ≤ n1) (
reqB (n1 ≤ (9223372036854775807 : Int)) (
reqB ((-9223372036854775808 : Int) ≤ n2) (
reqB (n2 ≤ (9223372036854775807 : Int)) (
reqB (sigLnear.pre [DV.n n0, DV.n n1, DV.n n2]) (
allB fun n10 : Int => 
impB ((-100000000000 : Int) ≤ n10) (
impB (n10 ≤ (100000000000 : Int)) (
allB fun n11 : Int => 
impB ((-100000000000 : Int) ≤ n11) (
impB (n11 ≤ (100000000000 : Int)) (
allB fun n12 : Int => 
impB ((-100000000000 : Int) ≤ n12) (
impB (n12 ≤ (100000000000 : Int)) (
impB (sigLnear.post [DV.n n0, DV.n n1, DV.n n2] [DV.n n10, DV.n n11, DV.n n12]) (
reqB ((-9223372036854775808 : Int) ≤ n3) (
reqB (n3 ≤ (9223372036854775807 : Int)) (
reqB ((-9223372036854775808 : Int) ≤ n4) (
reqB (n4 ≤ (9223372036854775807 : Int)) (
reqB ((-9223372036854775808 : Int) ≤ n5) (
reqB (n5 ≤ (9223372036854775807 : Int)) (
reqB (sigLnear.pre [DV.n n3, DV.n n4, DV.n n5]) (
allB fun n13 : Int => 
impB ((-100000000000 : Int) ≤ n13) (
impB (n13 ≤ (100000000000 : Int)) (
allB fun n14 : Int => 
impB ((-100000000000 : Int) ≤ n14) (
impB (n14 ≤ (100000000000 : Int)) (
allB fun n15 : Int => 
impB ((-100000000000 : Int) ≤ n15) (
impB (n15 ≤ (100000000000 : Int)) (
impB (sigLnear.post [DV.n n3, DV.n n4, DV.n n5] [DV.n n13, DV.n n14, DV.n n15]) (
reqB ((-9223372036854775808 : Int) ≤ n9) (
reqB (n9 ≤ (9223372036854775807 : Int)) (
reqB ((sigPickN (1000000000000 : Int)).pre [DV.n n9, DV.n (400000000001 : Int)]) (
allB fun n16 : Int => 
impB ((0 : Int) ≤ n16) (
impB (n16 ≤ (1000000000000 : Int)) (
impB ((sigPickN (1000000000000 : Int)).post [DV.n n9, DV.n (400000000001 : Int)] [DV.n n16]) (
reqB ((-9223372036854775808 : Int) ≤ n6) (
reqB (n6 ≤ (9223372036854775807 : Int)) (
reqB ((1 : Int) ≤ (2 : Int) * n16 + (1 : Int)) (
reqB ((2 : Int) * n16 + (1 : Int) ≤ (1000000000000 : Int)) (
reqB ((sigPickN (1000000000000 : Int)).pre [DV.n n6, DV.n ((2 : Int) * n16 + (1 : Int))]) (
allB fun n17 : Int => 
impB ((0 : Int) ≤ n17) (
impB (n17 ≤ (1000000000000 : Int)) (
impB ((sigPickN (1000000000000 : Int)).post [DV.n n6, DV.n ((2 : Int) * n16 + (1 : Int))] [DV.n n17]) (
reqB ((-9223372036854775808 : Int) ≤ n7) (
reqB (n7 ≤ (9223372036854775807 : Int)) (
reqB ((1 : Int) ≤ (2 : Int) * n16 + (1 : Int)) (
reqB ((2 : Int) * n16 + (1 : Int) ≤ (1000000000000 : Int)) (
reqB ((sigPickN (1000000000000 : Int)).pre [DV.n n7, DV.n ((2 : Int) * n16 + (1 : Int))]) (
allB fun n18 : Int => 
impB ((0 : Int) ≤ n18) (
impB (n18 ≤ (1000000000000 : Int)) (
impB ((sigPickN (1000000000000 : Int)).post [DV.n n7, DV.n ((2 : Int) * n16 + (1 : Int))] [DV.n n18]) (
reqB ((-9223372036854775808 : Int) ≤ n8) (
reqB (n8 ≤ (9223372036854775807 : Int)) (
reqB ((1 : Int) ≤ (2 : Int) * n16 + (1 : Int)) (
reqB ((2 : Int) * n16 + (1 : Int) ≤ (1000000000000 : Int)) (
reqB ((sigPickN (1000000000000 : Int)).pre [DV.n n8, DV.n ((2 : Int) * n16 + (1 : Int))]) (
allB fun n19 : Int => 
impB ((0 : Int) ≤ n19) (
impB (n19 ≤ (1000000000000 : Int)) (
impB ((sigPickN (1000000000000 : Int)).post [DV.n n8, DV.n ((2 : Int) * n16 + (1 : Int))] [DV.n n19]) (
reqB ((-9223372036854775808 : Int) ≤ n10) (
reqB (n10 ≤ (9223372036854775807 : Int)) (
reqB ((-9223372036854775808 : Int) ≤ n11) (
reqB (n11 ≤ (9223372036854775807 : Int)) (
reqB ((-9223372036854775808 : Int) ≤ n12) (
reqB (n12 ≤ (9223372036854775807 : Int)) (
reqB ((-9223372036854775808 : Int) ≤ n13) (
reqB (n13 ≤ (9223372036854775807 : Int)) (
reqB ((-9223372036854775808 : Int) ≤ n14) (
reqB (n14 ≤ (9223372036854775807 : Int)) (
reqB ((-9223372036854775808 : Int) ≤ n15) (
reqB (n15 ≤ (9223372036854775807 : Int)) (
reqB (sigRange.pre [DV.n n10, DV.n n11, DV.n n12, DV.n n13, DV.n n14, DV.n n15]) (
allB fun n20 : Int => 
impB ((0 : Int) ≤ n20) (
impB (n20 ≤ (9223372036854775807 : Int)) (
allB fun n21 : Int => 
impB ((0 : Int) ≤ n21) (
impB (n21 ≤ (18 : Int)) (
impB (sigRange.post [DV.n n10, DV.n n11, DV.n n12, DV.n n13, DV.n n14, DV.n n15]
 [DV.n n20, DV.n n21]) (
bR (dec (n21 ≠ (0 : Int))) (
 reqB (sigTrue0.pre []) (
 allB fun b22 : Bool => 
 impB (sigTrue0.post [] [DV.b b22]) (
 bR (bR (b22) (
 false) (
 true)) (
 reqB (sigP3h.post
 [DV.n n0, DV.n n1, DV.n n2, DV.n n3, DV.n n4, DV.n n5, DV.n n6,
 DV.n n7, DV.n n8, DV.n n9]
 [DV.b Bool.false]) (
 true)) (
 bR (dec (n21 ≠ (0 : Int))) (
 reqB (sigP3h.post
 [DV.n n0, DV.n n1, DV.n n2, DV.n n3, DV.n n4, DV.n n5, DV.n n6,
 DV.n n7, DV.n n8, DV.n n9]
 [DV.b Bool.false]) (
 true)) (
 reqB ((-1000000000000 : Int) ≤ n17 - n16) (
 reqB (n17 - n16 ≤ (1000000000000 : Int)) (
 reqB ((-1000000000000 : Int) ≤ n18 - n16) (
 reqB (n18 - n16 ≤ (1000000000000 : Int)) (
 reqB ((-1000000000000 : Int) ≤ n19 - n16) (
 reqB (n19 - n16 ≤ (1000000000000 : Int)) (
 reqB (sigNorm2.pre [DV.n (n17 - n16), DV.n (n18 - n16), DV.n (n19 - n16)]) (
 allB fun n23 : Int => 
 impB ((-9223372036854775808 : Int) ≤ n23) (
 impB (n23 ≤ (9223372036854775807 : Int)) (
 allB fun n24 : Int => 
 impB ((0 : Int) ≤ n24) (
 impB (n24 ≤ (18446744073709551615 : Int)) (
 allB fun n25 : Int => 
 impB ((0 : Int) ≤ n25) (
 impB (n25 ≤ (18 : Int)) (
 impB (sigNorm2.post [DV.n (n17 - n16), DV.n (n18 - n16), DV.n (n19 - n16)]
 [DV.n n23, DV.n n24, DV.n n25]) (
 bR (dec (Int.negSucc (99999999999 : Nat) ≤ n10 + (n17 - n16))) (
 bR (dec (n10 + (n17 - n16) ≤ (100000000000 : Int))) (
 bR (dec (Int.negSucc (99999999999 : Nat) ≤ n11 + (n18 - n16))) (
 bR (dec (n11 + (n18 - n16) ≤ (100000000000 : Int))) (
 bR (dec (Int.negSucc (99999999999 : Nat) ≤ n12 + (n19 - n16))) (
 bR (bR (dec (n12 + (n19 - n16) ≤ (100000000000 : Int))) (
 false) (
 true)) (
 reqB (sigP3h.post
 [DV.n n0, DV.n n1, DV.n n2, DV.n n3, DV.n n4, DV.n n5, DV.n n6,
 DV.n n7, DV.n n8, DV.n n9]
 [DV.b Bool.true]) (
 true)) (
 reqB ((-9223372036854775808 : Int) ≤ n16) (
 reqB (n16 ≤ (9223372036854775807 : Int)) (
 reqB ((-9223372036854775808 : Int) ≤ n16) (
 reqB (n16 ≤ (9223372036854775807 : Int)) (
 reqB (sigProd.pre [DV.n n16, DV.n n16]) (
 allB fun n26 : Int => 
 impB ((-9223372036854775808 : Int) ≤ n26) (
 impB (n26 ≤ (9223372036854775807 : Int)) (
 allB fun n27 : Int => 
 impB ((0 : Int) ≤ n27) (
 impB (n27 ≤ (18446744073709551615 : Int)) (
 impB (sigProd.post [DV.n n16, DV.n n16] [DV.n n26, DV.n n27]) (
 reqB ((-9223372036854775808 : Int) ≤ n23) (
 reqB (n23 ≤ (9223372036854775807 : Int)) (
 reqB ((0 : Int) ≤ n24) (
 reqB (n24 ≤ (18446744073709551615 : Int)) (
 reqB ((-9223372036854775808 : Int) ≤ n26) (
 reqB (n26 ≤ (9223372036854775807 : Int)) (
 reqB ((0 : Int) ≤ n27) (
 reqB (n27 ≤ (18446744073709551615 : Int)) (
 reqB (sigCmp.pre [DV.n n23, DV.n n24, DV.n n26, DV.n n27]) (
 allB fun n28 : Int => 
 impB ((-1 : Int) ≤ n28) (
 impB (n28 ≤ (1 : Int)) (
 impB (sigCmp.post [DV.n n23, DV.n n24, DV.n n26, DV.n n27] [DV.n n28]) (
 bR (dec ((0 : Int) < n28)) (
 reqB (sigP3h.post
 [DV.n n0, DV.n n1, DV.n n2, DV.n n3, DV.n n4, DV.n n5, DV.n n6,
 DV.n n7, DV.n n8, DV.n n9]
 [DV.b Bool.true]) (
 true)) (
 reqB ((-9223372036854775808 : Int) ≤ n10 + (n17 - n16)) (
 reqB (n10 + (n17 - n16) ≤ (9223372036854775807 : Int)) (
 reqB ((-9223372036854775808 : Int) ≤ n11 + (n18 - n16)) (
 reqB (n11 + (n18 - n16) ≤ (9223372036854775807 : Int)) (
 reqB ((-9223372036854775808 : Int) ≤ n12 + (n19 - n16)) (
 reqB (n12 + (n19 - n16) ≤ (9223372036854775807 : Int)) (
 reqB ((-9223372036854775808 : Int) ≤ n13) (
 reqB (n13 ≤ (9223372036854775807 : Int)) (
 reqB ((-9223372036854775808 : Int) ≤ n14) (
 reqB (n14 ≤ (9223372036854775807 : Int)) (
 reqB ((-9223372036854775808 : Int) ≤ n15) (
 reqB (n15 ≤ (9223372036854775807 : Int)) (
 reqB (sigRange.pre
 [DV.n (n10 + (n17 - n16)), DV.n (n11 + (n18 - n16)), DV.n (n12 + (n19 - n16)), DV.n n13,
 DV.n n14, DV.n n15]) (
 allB fun n29 : Int => 
 impB ((0 : Int) ≤ n29) (
 impB (n29 ≤ (9223372036854775807 : Int)) (
 allB fun n30 : Int => 
 impB ((0 : Int) ≤ n30) (
 impB (n30 ≤ (18 : Int)) (
 impB (sigRange.post
 [DV.n (n10 + (n17 - n16)), DV.n (n11 + (n18 - n16)), DV.n (n12 + (n19 - n16)), DV.n n13,
 DV.n n14, DV.n n15]
 [DV.n n29, DV.n n30]) (
 bR (dec (n30 = (0 : Int))) (
 reqB (sigP3h.post
 [DV.n n0, DV.n n1, DV.n n2, DV.n n3, DV.n n4, DV.n n5, DV.n n6,
 DV.n n7, DV.n n8, DV.n n9]
 [DV.b (dec (n29 ≤ (0 : Int)))]) (
 true)) (
 reqB (sigP3h.post
 [DV.n n0, DV.n n1, DV.n n2, DV.n n3, DV.n n4, DV.n n5, DV.n n6,
 DV.n n7, DV.n n8, DV.n n9]
 [DV.b Bool.false]) (
 true))))))))))))))))))))))))))))))))))))))))))))) (
 reqB (sigP3h.post
 [DV.n n0, DV.n n1, DV.n n2, DV.n n3, DV.n n4, DV.n n5, DV.n n6,
 DV.n n7, DV.n n8, DV.n n9]
 [DV.b Bool.true]) (
 true))) (
 reqB (sigP3h.post
 [DV.n n0, DV.n n1, DV.n n2, DV.n n3, DV.n n4, DV.n n5, DV.n n6,
 DV.n n7, DV.n n8, DV.n n9]
 [DV.b Bool.true]) (
 true))) (
 reqB (sigP3h.post
 [DV.n n0, DV.n n1, DV.n n2, DV.n n3, DV.n n4, DV.n n5, DV.n n6,
 DV.n n7, DV.n n8, DV.n n9]
 [DV.b Bool.true]) (
 true))) (
 reqB (sigP3h.post
 [DV.n n0, DV.n n1, DV.n n2, DV.n n3, DV.n n4, DV.n n5, DV.n n6,
 DV.n n7, DV.n n8, DV.n n9]
 [DV.b Bool.true]) (
 true))) (
 reqB (sigP3h.post
 [DV.n n0, DV.n n1, DV.n n2, DV.n n3, DV.n n4, DV.n n5, DV.n n6,
 DV.n n7, DV.n n8, DV.n n9]
 [DV.b Bool.true]) (
 true))))))))))))))))))))) (
 bR (bR (dec (n16 ≤ (400000000000 : Int))) (
 false) (
 true)) (
 reqB (sigTrue0.pre []) (
 allB fun b31 : Bool => 
 impB (sigTrue0.post [] [DV.b b31]) (
 bR (bR (b31) (
 false) (
 true)) (
 reqB (sigP3h.post
 [DV.n n0, DV.n n1, DV.n n2, DV.n n3, DV.n n4, DV.n n5, DV.n n6,
 DV.n n7, DV.n n8, DV.n n9]
 [DV.b Bool.false]) (
 true)) (
 reqB (sigP3h.post
 [DV.n n0, DV.n n1, DV.n n2, DV.n n3, DV.n n4, DV.n n5, DV.n n6,
 DV.n n7, DV.n n8, DV.n n9]
 [DV.b Bool.false]) (
 true))))) (
 allB fun n32 : Int => 
 impB (n32 = Go.IntKind.i64.wrap (n20 + n16)) (
 impB (Int.negSucc (9223372036854775807 : Nat) ≤ n32) (
 impB (n32 ≤ Int.ofNat (9223372036854775807 : Nat)) (
 reqB (sigTrue0.pre []) (
 allB fun b33 : Bool => 
 impB (sigTrue0.post [] [DV.b b33]) (
 bR (bR (b33) (
 false) (
 true)) (
 reqB (sigP3h.post
 [DV.n n0, DV.n n1, DV.n n2, DV.n n3, DV.n n4, DV.n n5, DV.n n6,
 DV.n n7, DV.n n8, DV.n n9]
 [DV.b Bool.false]) (
 true)) (
 bR (dec (n32 < Max.max (n20 - n16) (0 : Int))) (
 reqB (sigP3h.post
 [DV.n n0, DV.n n1, DV.n n2, DV.n n3, DV.n n4, DV.n n5, DV.n n6,
 DV.n n7, DV.n n8, DV.n n9]
 [DV.b Bool.false]) (
 true)) (
 reqB ((-1000000000000 : Int) ≤ n17 - n16) (
 reqB (n17 - n16 ≤ (1000000000000 : Int)) (
 reqB ((-1000000000000 : Int) ≤ n18 - n16) (
 reqB (n18 - n16 ≤ (1000000000000 : Int)) (
 reqB ((-1000000000000 : Int) ≤ n19 - n16) (
 reqB (n19 - n16 ≤ (1000000000000 : Int)) (
 reqB (sigNorm2.pre [DV.n (n17 - n16), DV.n (n18 - n16), DV.n (n19 - n16)]) (
 allB fun n34 : Int => 
 impB ((-9223372036854775808 : Int) ≤ n34) (
 impB (n34 ≤ (9223372036854775807 : Int)) (
 allB fun n35 : Int => 
 impB ((0 : Int) ≤ n35) (
 impB (n35 ≤ (18446744073709551615 : Int)) (
 allB fun n36 : Int => 
 impB ((0 : Int) ≤ n36) (
 impB (n36 ≤ (18 : Int)) (
 impB (sigNorm2.post [DV.n (n17 - n16), DV.n (n18 - n16), DV.n (n19 - n16)]
 [DV.n n34, DV.n n35, DV.n n36]) (
 bR (dec (Int.negSucc (99999999999 : Nat) ≤ n10 + (n17 - n16))) (
 bR (dec (n10 + (n17 - n16) ≤ (100000000000 : Int))) (
 bR (dec (Int.negSucc (99999999999 : Nat) ≤ n11 + (n18 - n16))) (
 bR (dec (n11 + (n18 - n16) ≤ (100000000000 : Int))) (
 bR (dec (Int.negSucc (99999999999 : Nat) ≤ n12 + (n19 - n16))) (
 bR (bR (dec (n12 + (n19 - n16) ≤ (100000000000 : Int))) (
 false) (
 true)) (
 reqB (sigP3h.post
 [DV.n n0, DV.n n1, DV.n n2, DV.n n3, DV.n n4, DV.n n5, DV.n n6,
 DV.n n7, DV.n n8, DV.n n9]
 [DV.b Bool.true]) (
 true)) (
 reqB ((-9223372036854775808 : Int) ≤ n16) (
 reqB (n16 ≤ (9223372036854775807 : Int)) (
 reqB ((-9223372036854775808 : Int) ≤ n16) (
 reqB (n16 ≤ (9223372036854775807 : Int)) (
 reqB (sigProd.pre [DV.n n16, DV.n n16]) (
 allB fun n37 : Int => 
 impB ((-9223372036854775808 : Int) ≤ n37) (
 impB (n37 ≤ (9223372036854775807 : Int)) (
 allB fun n38 : Int => 
 impB ((0 : Int) ≤ n38) (
 impB (n38 ≤ (18446744073709551615 : Int)) (
 impB (sigProd.post [DV.n n16, DV.n n16] [DV.n n37, DV.n n38]) (
 reqB ((-9223372036854775808 : Int) ≤ n34) (
 reqB (n34 ≤ (9223372036854775807 : Int)) (
 reqB ((0 : Int) ≤ n35) (
 reqB (n35 ≤ (18446744073709551615 : Int)) (
 reqB ((-9223372036854775808 : Int) ≤ n37) (
 reqB (n37 ≤ (9223372036854775807 : Int)) (
 reqB ((0 : Int) ≤ n38) (
 reqB (n38 ≤ (18446744073709551615 : Int)) (
 reqB (sigCmp.pre [DV.n n34, DV.n n35, DV.n n37, DV.n n38]) (
 allB fun n39 : Int => 
 impB ((-1 : Int) ≤ n39) (
 impB (n39 ≤ (1 : Int)) (
 impB (sigCmp.post [DV.n n34, DV.n n35, DV.n n37, DV.n n38] [DV.n n39]) (
 bR (dec ((0 : Int) < n39)) (
 reqB (sigP3h.post
 [DV.n n0, DV.n n1, DV.n n2, DV.n n3, DV.n n4, DV.n n5, DV.n n6,
 DV.n n7, DV.n n8, DV.n n9]
 [DV.b Bool.true]) (
 true)) (
 reqB ((-9223372036854775808 : Int) ≤ n10 + (n17 - n16)) (
 reqB (n10 + (n17 - n16) ≤ (9223372036854775807 : Int)) (
 reqB ((-9223372036854775808 : Int) ≤ n11 + (n18 - n16)) (
 reqB (n11 + (n18 - n16) ≤ (9223372036854775807 : Int)) (
 reqB ((-9223372036854775808 : Int) ≤ n12 + (n19 - n16)) (
 reqB (n12 + (n19 - n16) ≤ (9223372036854775807 : Int)) (
 reqB ((-9223372036854775808 : Int) ≤ n13) (
 reqB (n13 ≤ (9223372036854775807 : Int)) (
 reqB ((-9223372036854775808 : Int) ≤ n14) (
 reqB (n14 ≤ (9223372036854775807 : Int)) (
 reqB ((-9223372036854775808 : Int) ≤ n15) (
 reqB (n15 ≤ (9223372036854775807 : Int)) (
 reqB (sigRange.pre
 [DV.n (n10 + (n17 - n16)), DV.n (n11 + (n18 - n16)), DV.n (n12 + (n19 - n16)), DV.n n13,
 DV.n n14, DV.n n15]) (
 allB fun n40 : Int => 
 impB ((0 : Int) ≤ n40) (
 impB (n40 ≤ (9223372036854775807 : Int)) (
 allB fun n41 : Int => 
 impB ((0 : Int) ≤ n41) (
 impB (n41 ≤ (18 : Int)) (
 impB (sigRange.post
 [DV.n (n10 + (n17 - n16)), DV.n (n11 + (n18 - n16)), DV.n (n12 + (n19 - n16)), DV.n n13,
 DV.n n14, DV.n n15]
 [DV.n n40, DV.n n41]) (
 bR (dec (n41 = (0 : Int))) (
 bR (dec (Max.max (n20 - n16) (0 : Int) ≤ n40)) (
 reqB (sigP3h.post
 [DV.n n0, DV.n n1, DV.n n2, DV.n n3, DV.n n4, DV.n n5, DV.n n6,
 DV.n n7, DV.n n8, DV.n n9]
 [DV.b (dec (n40 ≤ n32))]) (
 true)) (
 reqB (sigP3h.post
 [DV.n n0, DV.n n1, DV.n n2, DV.n n3, DV.n n4, DV.n n5, DV.n n6,
 DV.n n7, DV.n n8, DV.n n9]
 [DV.b Bool.false]) (
 true))) (
 reqB (sigP3h.post
 [DV.n n0, DV.n n1, DV.n n2, DV.n n3, DV.n n4, DV.n n5, DV.n n6,
 DV.n n7, DV.n n8, DV.n n9]
 [DV.b Bool.false]) (
 true))))))))))))))))))))))))))))))))))))))))))))) (
 reqB (sigP3h.post
 [DV.n n0, DV.n n1, DV.n n2, DV.n n3, DV.n n4, DV.n n5, DV.n n6,
 DV.n n7, DV.n n8, DV.n n9]
 [DV.b Bool.true]) (
 true))) (
 reqB (sigP3h.post
 [DV.n n0, DV.n n1, DV.n n2, DV.n n3, DV.n n4, DV.n n5, DV.n n6,
 DV.n n7, DV.n n8, DV.n n9]
 [DV.b Bool.true]) (
 true))) (
 reqB (sigP3h.post
 [DV.n n0, DV.n n1, DV.n n2, DV.n n3, DV.n n4, DV.n n5, DV.n n6,
 DV.n n7, DV.n n8, DV.n n9]
 [DV.b Bool.true]) (
 true))) (
 reqB (sigP3h.post
 [DV.n n0, DV.n n1, DV.n n2, DV.n n3, DV.n n4, DV.n n5, DV.n n6,
 DV.n n7, DV.n n8, DV.n n9]
 [DV.b Bool.true]) (
 true))) (
 reqB (sigP3h.post
 [DV.n n0, DV.n n1, DV.n n2, DV.n n3, DV.n n4, DV.n n5, DV.n n6,
 DV.n n7, DV.n n8, DV.n n9]
 [DV.b Bool.true]) (
 true))))))))))))))))))))))))))))))))))))))))))))))))))))))))))))))))))))))))))))))))))))))))))))))))))))))))))))))))))))))))))) := by kernel_rfl
set_option maxHeartbeats 8000000 in
theorem vt_DistanceSpans : vcFn Try.prog [(10, Ext.ctr (ctOf sigTrue0)), (26, Ext.ctr (ctOf sigLnear)), (31, Ext.ctr (ctOf (sigPickN 1000000000000))), (11, Ext.ctr (ctOf sigRange)), (27, Ext.ctr (ctOf sigNorm2)), (29, Ext.ctr (ctOf sigProd)), (28, Ext.ctr (ctOf sigCmp))] noA [] 100 9 sigP3h = true := by
  rw [vc_DistanceSpans]
  try simp only [Int.toNat_natCast, List.length_set, List.length_replicate, List.length_take, List.length_drop, List.length_append, List.length_cons, List.length_nil, Nat.min_self, List.take_take, lenCols_i, lenCols_b, List.drop_zero, List.take_length, Nat.add_eq, Nat.mul_eq, Nat.sub_eq, Nat.zero_add, Nat.sub_zero, Nat.mul_one]
  try simp only [show (Int.ofNat 9223372036854775807 : Int) = 9223372036854775807 from rfl, show (Int.negSucc 9223372036854775807 : Int) = -9223372036854775808 from rfl, show (Int.negSucc 99999999999 : Int) = -100000000000 from rfl]
  refine all_i fun n0 => ?_
  refine imp_i fun h0 => ?_
  refine imp_i fun h1 => ?_
  refine all_i fun n1 => ?_
  refine imp_i fun h2 => ?_
  refine imp_i fun h3 => ?_
  refine all_i fun n2 => ?_
  refine imp_i fun h4 => ?_
  refine imp_i fun h5 => ?_
  refine all_i fun n3 => ?_
  refine imp_i fun h6 => ?_
  refine imp_i fun h7 => ?_
  refine all_i fun n4 => ?_
  refine imp_i fun h8 => ?_
  refine imp_i fun h9 => ?_
  refine all_i fun n5 => ?_
  refine imp_i fun h10 => ?_
  refine imp_i fun h11 => ?_
  refine all_i fun n6 => ?_
  refine imp_i fun h12 => ?_
  refine imp_i fun h13 => ?_
  refine all_i fun n7 => ?_
  refine imp_i fun h14 => ?_
  refine imp_i fun h15 => ?_
  refine all_i fun n8 => ?_
  refine imp_i fun h16 => ?_
  refine imp_i fun h17 => ?_
  refine all_i fun n9 => ?_
  refine imp_i fun h18 => ?_
  refine imp_i fun h19 => ?_
  refine imp_i fun h20 => ?_
  try simp only [sigP3h, pt3, List.cons.injEq, DV.b.injEq, and_true, List.length_cons, List.length_nil] at h20
  refine req_i ?_ ?_
  · -- r0
   first | omega | assumption | grind
  refine req_i ?_ ?_
  · -- r1
   first | omega | assumption | grind
  refine req_i ?_ ?_
  · -- r2
   first | omega | assumption | grind
  refine req_i ?_ ?_
  · -- r3
   first | omega | assumption | grind
  refine req_i ?_ ?_
  · -- r4
   first | omega | assumption | grind
  refine req_i ?_ ?_
  · -- r5
   first | omega | assumption | grind
  refine req_i ?_ ?_
  · -- r6
   first | trivial | assumption | (simp only [sigLnear, c11, lnearPost, List.cons.injEq, DV.b.injEq, and_true, List.length_cons, List.length_nil]; done) | ((try simp only [sigLnear, c11, lnearPost, List.cons.injEq, DV.b.injEq, and_true, List.length_cons, List.length_nil]); first | omega | assumption | grind)
  refine all_i fun n10 => ?_
  refine imp_i fun h21 => ?_
  refine imp_i fun h22 => ?_
  refine all_i fun n11 => ?_
  refine imp_i fun h23 => ?_
  refine imp_i fun h24 => ?_
  refine all_i fun n12 => ?_
  refine imp_i fun h25 => ?_
  refine imp_i fun h26 => ?_
  refine imp_i fun h27 => ?_
  try simp only [sigLnear, c11, lnearPost, List.cons.injEq, DV.b.injEq, and_true, List.length_cons, List.length_nil] at h27
  refine req_i ?_ ?_
  · -- r7
   first | omega | assumption | grind
  refine req_i ?_ ?_
  · -- r8
   first | omega | assumption | grind
  refine req_i ?_ ?_
  · -- r9
   first | omega | assumption | grind
  refine req_i ?_ ?_
  · -- r10
   first | omega | assumption | grind
  refine req_i ?_ ?_
  · -- r11
   first | omega | assumption | grind
  refine req_i ?_ ?_
  · -- r12
   first | omega | assumption | grind
  refine req_i ?_ ?_
  · -- r13
   first | trivial | assumption | (simp only [sigLnear, c11, lnearPost, List.cons.injEq, DV.b.injEq, and_true, List.length_cons, List.length_nil]; done) | ((try simp only [sigLnear, c11, lnearPost, List.cons.injEq, DV.b.injEq, and_true, List.length_cons, List.length_nil]); first | omega | assumption | grind)
  refine all_i fun n13 => ?_
  refine imp_i fun h28 => ?_
  refine imp_i fun h29 => ?_
  refine all_i fun n14 => ?_
  refine imp_i fun h30 => ?_
  refine imp_i fun h31 => ?_
  refine all_i fun n15 => ?_
  refine imp_i fun h32 => ?_
  refine imp_i fun h33 => ?_
  refine imp_i fun h34 => ?_
  try simp only [sigLnear, c11, lnearPost, List.cons.injEq, DV.b.injEq, and_true, List.length_cons, List.length_nil] at h34
  have k0 : nearP n10 n11 n12 := by unfold nearP; omega
  have k1 : nearP n13 n14 n15 := by unfold nearP; omega
  refine req_i ?_ ?_
  · -- r14
   first | omega | assumption | grind
  refine req_i ?_ ?_
  · -- r15
   first | omega | assumption | grind
  refine req_i ?_ ?_
  · -- r16
   first | trivial | assumption | (simp only [sigPickN, pickPost, List.cons.injEq, DV.b.injEq, and_true, List.length_cons, List.length_nil]; done) | ((try simp only [sigPickN, pickPost, List.cons.injEq, DV.b.injEq, and_true, List.length_cons, List.length_nil]); first | omega | assumption | grind)
  refine all_i fun n16 => ?_
  refine imp_i fun h35 => ?_
  refine imp_i fun h36 => ?_
  refine imp_i fun h37 => ?_
  try simp only [sigPickN, pickPost, List.cons.injEq, DV.b.injEq, and_true, List.length_cons, List.length_nil] at h37
  refine req_i ?_ ?_
  · -- r17
   first | omega | assumption | grind
  refine req_i ?_ ?_
  · -- r18
   first | omega | assumption | grind
  refine req_i ?_ ?_
  · -- r19
   first | omega | assumption | grind
  refine req_i ?_ ?_
  · -- r20
   first | omega | assumption | grind
  refine req_i ?_ ?_
  · -- r21
   first | trivial | assumption | (simp only [sigPickN, pickPost, List.cons.injEq, DV.b.injEq, and_true, List.length_cons, List.length_nil]; done) | ((try simp only [sigPickN, pickPost, List.cons.injEq, DV.b.injEq, and_true, List.length_cons, List.length_nil]); first | omega | assumption | grind)
  refine all_i fun n17 => ?_
  refine imp_i fun h38 => ?_
  refine imp_i fun h39 => ?_
  refine imp_i fun h40 => ?_
  try simp only [sigPickN, pickPost, List.cons.injEq, DV.b.injEq, and_true, List.length_cons, List.length_nil] at h40
  refine req_i ?_ ?_
  · -- r22
   first | omega | assumption | grind
  refine req_i ?_ ?_
  · -- r23
   first | omega | assumption | grind
  refine req_i ?_ ?_
  · -- r24
   first | omega | assumption | grind
  refine req_i ?_ ?_
  · -- r25
   first | omega | assumption | grind
  refine req_i ?_ ?_
  · -- r26
   first | trivial | assumption | (simp only [sigPickN, pickPost, List.cons.injEq, DV.b.injEq, and_true, List.length_cons, List.length_nil]; done) | ((try simp only [sigPickN, pickPost, List.cons.injEq, DV.b.injEq, and_true, List.length_cons, List.length_nil]); first | omega | assumption | grind)
  refine all_i fun n18 => ?_
  refine imp_i fun h41 => ?_
  refine imp_i fun h42 => ?_
  refine imp_i fun h43 => ?_
  try simp only [sigPickN, pickPost, List.cons.injEq, DV.b.injEq, and_true, List.length_cons, List.length_nil] at h43
  refine req_i ?_ ?_
  · -- r27
   first | omega | assumption | grind
  refine req_i ?_ ?_
  · -- r28
   first | omega | assumption | grind
  refine req_i ?_ ?_
  · -- r29
   first | omega | assumption | grind
  refine req_i ?_ ?_
  · -- r30
   first | omega | assumption | grind
  refine req_i ?_ ?_
  · -- r31
   first | trivial | assumption | (simp only [sigPickN, pickPost, List.cons.injEq, DV.b.injEq, and_true, List.length_cons, List.length_nil]; done) | ((try simp only [sigPickN, pickPost, List.cons.injEq, DV.b.injEq, and_true, List.length_cons, List.length_nil]); first | omega | assumption | grind)
  refine all_i fun n19 => ?_
  refine imp_i fun h44 => ?_
  refine imp_i fun h45 => ?_
  refine imp_i fun h46 => ?_
  try simp only [sigPickN, pickPost, List.cons.injEq, DV.b.injEq, and_true, List.length_cons, List.length_nil] at h46
  refine req_i ?_ ?_
  · -- r32
   first | omega | assumption | grind
  refine req_i ?_ ?_
  · -- r33
   first | omega | assumption | grind
  refine req_i ?_ ?_
  · -- r34
   first | omega | assumption | grind
  refine req_i ?_ ?_
  · -- r35
   first | omega | assumption | grind
  refine req_i ?_ ?_
  · -- r36
   first | omega | assumption | grind
  refine req_i ?_ ?_
  · -- r37
   first | omega | assumption | grind
  refine req_i ?_ ?_
  · -- r38
   first | omega | assumption | grind
  refine req_i ?_ ?_
  · -- r39
   first | omega | assumption | grind
  refine req_i ?_ ?_
  · -- r40
   first | omega | assumption | grind
  refine req_i ?_ ?_
  · -- r41
   first | omega | assumption | grind
  refine req_i ?_ ?_
  · -- r42
   first | omega | assumption | grind
  refine req_i ?_ ?_
  · -- r43
   first | omega | assumption | grind
  refine req_i ?_ ?_
  · -- r44
   first | trivial | assumption | (simp only [sigRange, pt3, rangePost, nearP, dsq, List.cons.injEq, DV.b.injEq, and_true, List.length_cons, List.length_nil]; done) | ((try simp only [sigRange, pt3, rangePost, nearP, dsq, List.cons.injEq, DV.b.injEq, and_true, List.length_cons, List.length_nil]); first | omega | assumption | grind)
  refine all_i fun n20 => ?_
  refine imp_i fun h47 => ?_
  refine imp_i fun h48 => ?_
  refine all_i fun n21 => ?_
  refine imp_i fun h49 => ?_
  refine imp_i fun h50 => ?_
  refine imp_i fun h51 => ?_
  try simp only [Int.toNat_natCast, List.length_set, List.length_replicate, List.length_take, List.length_drop, List.length_append, List.length_cons, List.length_nil, Nat.min_self, List.take_take, lenCols_i, lenCols_b, List.drop_zero, List.take_length, Nat.add_eq, Nat.mul_eq, Nat.sub_eq, Nat.zero_add, Nat.sub_zero, Nat.mul_one] at h51
  obtain ⟨e1, q1⟩ := range_val h51 k0 k1
  obtain ⟨t2, t3⟩ := range_max k0 k1 q1
  have q6 := q1.1
  refine bR_dec (fun h52 => ?_) (fun h52 => ?_)
  ·
   refine req_i ?_ ?_
   · -- r45
    first | omega | assumption | grind
   refine all_i fun b22 => ?_
   refine imp_i fun h53 => ?_
   try simp only [sigTrue0, List.cons.injEq, DV.b.injEq, and_true, List.length_cons, List.length_nil] at h53
   refine bR_i (fun h54 => ?_) (fun h54 => ?_)
   ·
    simp only [bR_iff, bR_iff_f, dec_iff, dec_f, Bool.false_eq_true, Bool.true_eq_false, false_implies, imp_false, and_true, true_and, implies_true, Classical.not_not] at h54
    refine req_i ?_ ?_
    · -- r46
     first | omega | ((try simp only [sigP3h, pt3, List.cons.injEq, DV.b.injEq, and_true, List.length_cons, List.length_nil]); first | done | omega | assumption | grind [getD_set, getD_rep, toNat_succ, cntN_yes, cntN_no])
    rfl
   ·
    simp only [bR_iff, bR_iff_f, dec_iff, dec_f, Bool.false_eq_true, Bool.true_eq_false, false_implies, imp_false, and_true, true_and, implies_true, Classical.not_not] at h54
    refine bR_dec (fun h55 => ?_) (fun h55 => absurd h52 h55)
    refine req_i ?_ ?_
    · -- r47
     first | omega | ((try simp only [sigP3h, pt3, List.cons.injEq, DV.b.injEq, and_true, List.length_cons, List.length_nil]); first | done | omega | assumption | grind [getD_set, getD_rep, toNat_succ, cntN_yes, cntN_no])
    rfl
  ·
   refine bR_i (fun h56 => ?_) (fun h56 => ?_)
   ·
    simp only [bR_iff, bR_iff_f, dec_iff, dec_f, Bool.false_eq_true, Bool.true_eq_false, false_implies, imp_false, and_true, true_and, implies_true, Classical.not_not] at h56
    refine req_i ?_ ?_
    · -- r48
     first | omega | assumption | grind
    refine all_i fun b31 => ?_
    refine imp_i fun h57 => ?_
    try simp only [sigTrue0, List.cons.injEq, DV.b.injEq, and_true, List.length_cons, List.length_nil] at h57
    refine bR_i (fun h58 => ?_) (fun h58 => ?_)
    ·
     simp only [bR_iff, bR_iff_f, dec_iff, dec_f, Bool.false_eq_true, Bool.true_eq_false, false_implies, imp_false, and_true, true_and, implies_true, Classical.not_not] at h58
     refine req_i ?_ ?_
     · -- r49
      first | omega | ((try simp only [sigP3h, pt3, List.cons.injEq, DV.b.injEq, and_true, List.length_cons, List.length_nil]); first | done | omega | assumption | grind [getD_set, getD_rep, toNat_succ, cntN_yes, cntN_no])
     rfl
    ·
     simp only [bR_iff, bR_iff_f, dec_iff, dec_f, Bool.false_eq_true, Bool.true_eq_false, false_implies, imp_false, and_true, true_and, implies_true, Classical.not_not] at h58
     refine req_i ?_ ?_
     · -- r50
      first | omega | ((try simp only [sigP3h, pt3, List.cons.injEq, DV.b.injEq, and_true, List.length_cons, List.length_nil]); first | done | omega | assumption | grind [getD_set, getD_rep, toNat_succ, cntN_yes, cntN_no])
     rfl
   ·
    simp only [bR_iff, bR_iff_f, dec_iff, dec_f, Bool.false_eq_true, Bool.true_eq_false, false_implies, imp_false, and_true, true_and, implies_true, Classical.not_not] at h56
    refine all_i fun n32 => ?_
    refine imp_i fun h59 => ?_
    simp only [wrap_i64] at h59
    refine imp_i fun h60 => ?_
    refine imp_i fun h61 => ?_
    refine req_i ?_ ?_
    · -- r51
     first | omega | assumption | grind
    refine all_i fun b33 => ?_
    refine imp_i fun h62 => ?_
    try simp only [sigTrue0, List.cons.injEq, DV.b.injEq, and_true, List.length_cons, List.length_nil] at h62
    refine bR_i (fun h63 => ?_) (fun h63 => ?_)
    ·
     simp only [bR_iff, bR_iff_f, dec_iff, dec_f, Bool.false_eq_true, Bool.true_eq_false, false_implies, imp_false, and_true, true_and, implies_true, Classical.not_not] at h63
     refine req_i ?_ ?_
     · -- r52
      first | omega | ((try simp only [sigP3h, pt3, List.cons.injEq, DV.b.injEq, and_true, List.length_cons, List.length_nil]); first | done | omega | assumption | grind [getD_set, getD_rep, toNat_succ, cntN_yes, cntN_no])
     rfl
    ·
     simp only [bR_iff, bR_iff_f, dec_iff, dec_f, Bool.false_eq_true, Bool.true_eq_false, false_implies, imp_false, and_true, true_and, implies_true, Classical.not_not] at h63
     refine bR_dec (fun h64 => ?_) (fun h64 => ?_)
     ·
      refine req_i ?_ ?_
      · -- r53
       first | omega | ((try simp only [sigP3h, pt3, List.cons.injEq, DV.b.injEq, and_true, List.length_cons, List.length_nil]); first | done | omega | assumption | grind [getD_set, getD_rep, toNat_succ, cntN_yes, cntN_no])
      rfl
     ·
      refine req_i ?_ ?_
      · -- r54
       first | omega | assumption | grind
      refine req_i ?_ ?_
      · -- r55
       first | omega | assumption | grind
      refine req_i ?_ ?_
      · -- r56
       first | omega | assumption | grind
      refine req_i ?_ ?_
      · -- r57
       first | omega | assumption | grind
      refine req_i ?_ ?_
      · -- r58
       first | omega | assumption | grind
      refine req_i ?_ ?_
      · -- r59
       first | omega | assumption | grind
      refine req_i ?_ ?_
      · -- r60
       first | trivial | assumption | (simp only [sigNorm2, norm12, normPost, List.cons.injEq, DV.b.injEq, and_true, List.length_cons, List.length_nil]; done) | ((try simp only [sigNorm2, norm12, normPost, List.cons.injEq, DV.b.injEq, and_true, List.length_cons, List.length_nil]); first | omega | assumption | grind)
      refine all_i fun n34 => ?_
      refine imp_i fun h65 => ?_
      refine imp_i fun h66 => ?_
      refine all_i fun n35 => ?_
      refine imp_i fun h67 => ?_
      refine imp_i fun h68 => ?_
      refine all_i fun n36 => ?_
      refine imp_i fun h69 => ?_
      refine imp_i fun h70 => ?_
      refine imp_i fun h71 => ?_
      try simp only [sigNorm2, norm12, normPost, List.cons.injEq, DV.b.injEq, and_true, List.length_cons, List.length_nil] at h71
      refine bR_dec (fun h72 => ?_) (fun h72 => ?_)
      ·
       refine bR_dec (fun h73 => ?_) (fun h73 => ?_)
       ·
        refine bR_dec (fun h74 => ?_) (fun h74 => ?_)
        ·
         refine bR_dec (fun h75 => ?_) (fun h75 => ?_)
         ·
          refine bR_dec (fun h76 => ?_) (fun h76 => ?_)
          ·
           refine bR_i (fun h77 => ?_) (fun h77 => ?_)
           ·
            simp only [bR_iff, bR_iff_f, dec_iff, dec_f, Bool.false_eq_true, Bool.true_eq_false, false_implies, imp_false, and_true, true_and, implies_true, Classical.not_not] at h77
            refine req_i ?_ ?_
            · -- r61
             first | omega | ((try simp only [sigP3h, pt3, List.cons.injEq, DV.b.injEq, and_true, List.length_cons, List.length_nil]); first | done | omega | assumption | grind [getD_set, getD_rep, toNat_succ, cntN_yes, cntN_no])
            rfl
           ·
            simp only [bR_iff, bR_iff_f, dec_iff, dec_f, Bool.false_eq_true, Bool.true_eq_false, false_implies, imp_false, and_true, true_and, implies_true, Classical.not_not] at h77
            refine req_i ?_ ?_
            · -- r62
             first | omega | assumption | grind
            refine req_i ?_ ?_
            · -- r63
             first | omega | assumption | grind
            refine req_i ?_ ?_
            · -- r64
             first | omega | assumption | grind
            refine req_i ?_ ?_
            · -- r65
             first | omega | assumption | grind
            refine req_i ?_ ?_
            · -- r66
             first | trivial | assumption | (simp only [sigProd, prodPost, List.cons.injEq, DV.b.injEq, and_true, List.length_cons, List.length_nil]; done) | ((try simp only [sigProd, prodPost, List.cons.injEq, DV.b.injEq, and_true, List.length_cons, List.length_nil]); first | omega | assumption | grind)
            refine all_i fun n37 => ?_
            refine imp_i fun h78 => ?_
            refine imp_i fun h79 => ?_
            refine all_i fun n38 => ?_
            refine imp_i fun h80 => ?_
            refine imp_i fun h81 => ?_
            refine imp_i fun h82 => ?_
            try simp only [sigProd, prodPost, List.cons.injEq, DV.b.injEq, and_true, List.length_cons, List.length_nil] at h82
            refine req_i ?_ ?_
            · -- r67
             first | omega | assumption | grind
            refine req_i ?_ ?_
            · -- r68
             first | omega | assumption | grind
            refine req_i ?_ ?_
            · -- r69
             first | omega | assumption | grind
            refine req_i ?_ ?_
            · -- r70
             first | omega | assumption | grind
            refine req_i ?_ ?_
            · -- r71
             first | omega | assumption | grind
            refine req_i ?_ ?_
            · -- r72
             first | omega | assumption | grind
            refine req_i ?_ ?_
            · -- r73
             first | omega | assumption | grind
            refine req_i ?_ ?_
            · -- r74
             first | omega | assumption | grind
            refine req_i ?_ ?_
            · -- r75
             first | trivial | assumption | (simp only [sigCmp, cmpPost, List.cons.injEq, DV.b.injEq, and_true, List.length_cons, List.length_nil]; done) | ((try simp only [sigCmp, cmpPost, List.cons.injEq, DV.b.injEq, and_true, List.length_cons, List.length_nil]); first | omega | assumption | grind)
            refine all_i fun n39 => ?_
            refine imp_i fun h83 => ?_
            refine imp_i fun h84 => ?_
            refine imp_i fun h85 => ?_
            try simp only [sigCmp, cmpPost, List.cons.injEq, DV.b.injEq, and_true, List.length_cons, List.length_nil] at h85
            refine bR_dec (fun h86 => ?_) (fun h86 => ?_)
            ·
             refine req_i ?_ ?_
             · -- r76
              first | omega | ((try simp only [sigP3h, pt3, List.cons.injEq, DV.b.injEq, and_true, List.length_cons, List.length_nil]); first | done | omega | assumption | grind [getD_set, getD_rep, toNat_succ, cntN_yes, cntN_no])
             rfl
            ·
             have hN : (n17 - n16) * (n17 - n16) + (n18 - n16) * (n18 - n16) + (n19 - n16) * (n19 - n16) ≤ n16 * n16 := by omega
             refine req_i ?_ ?_
             · -- r77
              first | omega | assumption | grind
             refine req_i ?_ ?_
             · -- r78
              first | omega | assumption | grind
             refine req_i ?_ ?_
             · -- r79
              first | omega | assumption | grind
             refine req_i ?_ ?_
             · -- r80
              first | omega | assumption | grind
             refine req_i ?_ ?_
             · -- r81
              first | omega | assumption | grind
             refine req_i ?_ ?_
             · -- r82
              first | omega | assumption | grind
             refine req_i ?_ ?_
             · -- r83
              first | omega | assumption | grind
             refine req_i ?_ ?_
             · -- r84
              first | omega | assumption | grind
             refine req_i ?_ ?_
             · -- r85
              first | omega | assumption | grind
             refine req_i ?_ ?_
             · -- r86
              first | omega | assumption | grind
             refine req_i ?_ ?_
             · -- r87
              first | omega | assumption | grind
             refine req_i ?_ ?_
             · -- r88
              first | omega | assumption | grind
             refine req_i ?_ ?_
             · -- r89
              first | omega | ((try simp only [sigRange, pt3, rangePost, nearP, dsq, List.cons.injEq, DV.b.injEq, and_true, List.length_cons, List.length_nil]); first | done | omega | assumption | grind [getD_set, getD_rep, toNat_succ, cntN_yes, cntN_no])
             refine all_i fun n40 => ?_
             refine imp_i fun h87 => ?_
             refine imp_i fun h88 => ?_
             refine all_i fun n41 => ?_
             refine imp_i fun h89 => ?_
             refine imp_i fun h90 => ?_
             refine imp_i fun h91 => ?_
             try simp only [Int.toNat_natCast, List.length_set, List.length_replicate, List.length_take, List.length_drop, List.length_append, List.length_cons, List.length_nil, Nat.min_self, List.take_take, lenCols_i, lenCols_b, List.drop_zero, List.take_length, Nat.add_eq, Nat.mul_eq, Nat.sub_eq, Nat.zero_add, Nat.sub_zero, Nat.mul_one] at h91
             obtain ⟨e5, q5⟩ := range_val h91 (by unfold nearP; omega) k1
             have sp := span q1 q5 (by omega) hN
             have g1 : n40 ≤ n32 := by omega
             have q7 := q5.1
             refine bR_dec (fun h92 => ?_) (fun h92 => ?_)
             ·
              refine bR_dec (fun h93 => ?_) (fun h93 => ?_)
              ·
               refine req_i ?_ ?_
               · -- r90
                simp only [sigP3h]; rw [dec_iff.2 g1]
               rfl
              ·
               refine req_i ?_ ?_
               · -- r91
                first | omega | ((try simp only [sigP3h, pt3, List.cons.injEq, DV.b.injEq, and_true, List.length_cons, List.length_nil]); first | done | omega | assumption | grind [getD_set, getD_rep, toNat_succ, cntN_yes, cntN_no])
               rfl
             ·
              refine req_i ?_ ?_
              · -- r92
               first | omega | ((try simp only [sigP3h, pt3, List.cons.injEq, DV.b.injEq, and_true, List.length_cons, List.length_nil]); first | done | omega | assumption | grind [getD_set, getD_rep, toNat_succ, cntN_yes, cntN_no])
              rfl
          ·
           refine req_i ?_ ?_
           · -- r93
            first | omega | ((try simp only [sigP3h, pt3, List.cons.injEq, DV.b.injEq, and_true, List.length_cons, List.length_nil]); first | done | omega | assumption | grind [getD_set, getD_rep, toNat_succ, cntN_yes, cntN_no])
           rfl
         ·
          refine req_i ?_ ?_
          · -- r94
           first | omega | ((try simp only [sigP3h, pt3, List.cons.injEq, DV.b.injEq, and_true, List.length_cons, List.length_nil]); first | done | omega | assumption | grind [getD_set, getD_rep, toNat_succ, cntN_yes, cntN_no])
          rfl
        ·
         refine req_i ?_ ?_
         · -- r95
          first | omega | ((try simp only [sigP3h, pt3, List.cons.injEq, DV.b.injEq, and_true, List.length_cons, List.length_nil]); first | done | omega | assumption | grind [getD_set, getD_rep, toNat_succ, cntN_yes, cntN_no])
         rfl
       ·
        refine req_i ?_ ?_
        · -- r96
         first | omega | ((try simp only [sigP3h, pt3, List.cons.injEq, DV.b.injEq, and_true, List.length_cons, List.length_nil]); first | done | omega | assumption | grind [getD_set, getD_rep, toNat_succ, cntN_yes, cntN_no])
        rfl
      ·
       refine req_i ?_ ?_
       · -- r97
        first | omega | ((try simp only [sigP3h, pt3, List.cons.injEq, DV.b.injEq, and_true, List.length_cons, List.length_nil]); first | done | omega | assumption | grind [getD_set, getD_rep, toNat_succ, cntN_yes, cntN_no])
       rfl
theorem ext_DistanceSpans : ∀ p ∈ ([(10, Ext.ctr (ctOf sigTrue0)), (26, Ext.ctr (ctOf sigLnear)), (31, Ext.ctr (ctOf (sigPickN 1000000000000))), (11, Ext.ctr (ctOf sigRange)), (27, Ext.ctr (ctOf sigNorm2)), (29, Ext.ctr (ctOf sigProd)), (28, Ext.ctr (ctOf sigCmp))] : List (Nat × Ext)), ExtRow Try.prog p.1 p.2 := by
  intro p hp
  simp only [List.mem_cons, List.not_mem_nil, or_false] at hp
  rcases hp with rfl | rfl | rfl | rfl | rfl | rfl | rfl
  · trivial
  · trivial
  · trivial
  · trivial
  · trivial
  · trivial
  · trivial
theorem cts_DistanceSpans : CtsOk Try.prog [(10, Ext.ctr (ctOf sigTrue0)), (26, Ext.ctr (ctOf sigLnear)), (31, Ext.ctr (ctOf (sigPickN 1000000000000))), (11, Ext.ctr (ctOf sigRange)), (27, Ext.ctr (ctOf sigNorm2)), (29, Ext.ctr (ctOf sigProd)), (28, Ext.ctr (ctOf sigCmp))] := ctsOk_of (cs := [(10, sigTrue0), (26, sigLnear), (31, (sigPickN 1000000000000)), (11, sigRange), (27, sigNorm2), (29, sigProd), (28, sigCmp)])
  (fun p hp => by
    simp only [List.mem_cons, List.not_mem_nil, or_false] at hp
    rcases hp with rfl | rfl | rfl | rfl | rfl | rfl | rfl
    · exact fn_lives
    · exact fn_lnear
    · exact fn_pick
    · exact fn_Range
    · exact fn_normR
    · exact fn_prodR
    · exact fn_cmpR
)
  (fun f c h => by
    simp only [List.lookup_cons] at h
    repeat' split at h
    all_goals first | (cases h; done) | (rename_i e; have e := beq_iff_eq.1 e; subst e; cases h; refine ⟨_, ?_, rfl⟩; simp))
theorem fn_DistanceSpans : FnOk Try.prog 9 sigP3h [] := fn_sound (by kernel_rfl) ext_DistanceSpans cts_DistanceSpans names vt_DistanceSpans
end Go.Proofs.Ytfcjkgenaekehaa

