import Derived.Test.YtcddopooofdgcaaSpec01e
import Derived.Test.YtcddopooofdgcaaRows
import Derived.Test.YtcddopooofdgcaaEvSU
import Derived.Test.YtcddopooofdgcaaFnames
namespace Go.Proofs.Ytcddopooofdgcaa
open Go.Ev Go.Sp
set_option maxRecDepth 100000
theorem vc_lives : vcFn Try.prog [(54, Ext.add64), (55, Ext.sub64)] noA [] 1000 10 sigTrue0 = (impB (sigTrue0.pre []) (
reqB (sigTrue0.post []
  [DV.b
      (andB (eqI (Int.negSucc (0 : Nat)) (-1 : Int))
        (andB (eqI (Int.ofNat (18446744073709551615 : Nat)) (18446744073709551615 : Int)) Bool.true))]) (
true))) := by kernel_rfl
set_option maxHeartbeats 8000000 in
theorem vt_lives : vcFn Try.prog [(54, Ext.add64), (55, Ext.sub64)] noA [] 1000 10 sigTrue0 = true := by
  rw [vc_lives]
  try simp only [bR_same, dec_same, bR_true, bR_false]
  simp only [allB_iff, impB_iff, reqB_iff, bR_iff, bR_iff_f, dec_iff, dec_f, reduceCtorEq, imp_false, Classical.not_not, implies_true, true_and, and_true]
  intro _
  first | rfl | trivial | simp [sigTrue0]
theorem ext_lives : ∀ p ∈ ([(54, Ext.add64), (55, Ext.sub64)] : List (Nat × Ext)), ExtRow Try.prog p.1 p.2 := by
  intro p hp
  simp only [List.mem_cons, List.not_mem_nil, or_false] at hp
  rcases hp with rfl | rfl
  · exact ⟨Try.f54, Try.func54, by kernel_rfl, by kernel_rfl, by kernel_rfl, by kernel_rfl⟩
  · exact ⟨Try.f55, Try.func55, by kernel_rfl, by kernel_rfl, by kernel_rfl, by kernel_rfl⟩
theorem cts_lives : CtsOk Try.prog [(54, Ext.add64), (55, Ext.sub64)] := fun f c h => by
  simp only [List.lookup_cons, List.lookup_nil] at h
  repeat' split at h
  all_goals cases h
theorem fn_lives : FnOk Try.prog 10 sigTrue0 [] := fn_sound (by kernel_rfl) ext_lives cts_lives names vt_lives
end Go.Proofs.Ytcddopooofdgcaa

namespace Go.Proofs.Ytcddopooofdgcaa
open Go.Ev Go.Sp
set_option maxRecDepth 100000
theorem vc_size : vcFn Try.prog [] tab [] 100 46 sigSize = (allB fun n0 : Int => 
impB ((-9223372036854775808 : Int) ≤ n0) (
impB (n0 ≤ (9223372036854775807 : Int)) (
impB (sigSize.pre [DV.n n0]) (
bR (dec (n0 < (0 : Int))) (
 allB fun n1 : Int => 
 impB (n1 = Go.IntKind.u64.wrap n0) (
 impB (Int.ofNat (0 : Nat) ≤ n1) (
 impB (n1 ≤ Int.ofNat (18446744073709551615 : Nat)) (
 allB fun n2 : Int => 
 impB (n2 = Go.IntKind.u64.wrap ((0 : Int) - n1)) (
 impB (Int.ofNat (0 : Nat) ≤ n2) (
 impB (n2 ≤ Int.ofNat (18446744073709551615 : Nat)) (
 reqB ((0 : Int) ≤ n2) (
 reqB (n2 ≤ (9223372036854775808 : Int)) (
 reqB (sigSize.post [DV.n n0] [DV.n n2]) (
 true)))))))))) (
 allB fun n3 : Int => 
 impB (n3 = Go.IntKind.u64.wrap n0) (
 impB (Int.ofNat (0 : Nat) ≤ n3) (
 impB (n3 ≤ Int.ofNat (18446744073709551615 : Nat)) (
 reqB ((0 : Int) ≤ n3) (
 reqB (n3 ≤ (9223372036854775808 : Int)) (
 reqB (sigSize.post [DV.n n0] [DV.n n3]) (
 true))))))))))) := by kernel_rfl
set_option maxHeartbeats 8000000 in
theorem vt_size : vcFn Try.prog [] tab [] 100 46 sigSize = true := by
  rw [vc_size]
  try simp only [Int.toNat_natCast, List.length_set, List.length_replicate, List.length_take, List.length_drop, List.length_append, List.length_cons, List.length_nil, Nat.min_self, List.take_take, lenCols_i, lenCols_b, List.drop_zero, List.take_length, Nat.add_eq, Nat.mul_eq, Nat.sub_eq, Nat.zero_add, Nat.sub_zero, Nat.mul_one]
  refine all_i fun n0 => ?_
  refine imp_i fun h0 => ?_
  refine imp_i fun h1 => ?_
  refine imp_i fun h2 => ?_
  try simp only [sigSize, sizePost, absI, List.cons.injEq, DV.b.injEq, and_true, List.length_cons, List.length_nil] at h2
  refine bR_dec (fun h3 => ?_) (fun h3 => ?_)
  ·
    refine all_i fun n1 => ?_
    refine imp_i fun h4 => ?_
    simp only [wrap_u64] at h4
    refine imp_i fun h5 => ?_
    refine imp_i fun h6 => ?_
    refine all_i fun n2 => ?_
    refine imp_i fun h7 => ?_
    simp only [wrap_u64] at h7
    refine imp_i fun h8 => ?_
    refine imp_i fun h9 => ?_
    refine req_i ?_ ?_
    · -- r0
      first | omega | assumption | grind
    refine req_i ?_ ?_
    · -- r1
      first | omega | assumption | grind
    refine req_i ?_ ?_
    · -- r2
      first | omega | ((try simp only [sigSize, sizePost, absI, List.cons.injEq, DV.b.injEq, and_true, List.length_cons, List.length_nil]); first | done | omega | assumption | grind [getD_set, getD_rep, toNat_succ, cntN_yes, cntN_no])
    rfl
  ·
    refine all_i fun n3 => ?_
    refine imp_i fun h10 => ?_
    simp only [wrap_u64] at h10
    refine imp_i fun h11 => ?_
    refine imp_i fun h12 => ?_
    refine req_i ?_ ?_
    · -- r3
      first | omega | assumption | grind
    refine req_i ?_ ?_
    · -- r4
      first | omega | assumption | grind
    refine req_i ?_ ?_
    · -- r5
      first | omega | ((try simp only [sigSize, sizePost, absI, List.cons.injEq, DV.b.injEq, and_true, List.length_cons, List.length_nil]); first | done | omega | assumption | grind [getD_set, getD_rep, toNat_succ, cntN_yes, cntN_no])
    rfl
theorem ext_size : ∀ p ∈ ([] : List (Nat × Ext)), ExtRow Try.prog p.1 p.2 := by
  intro p hp
  cases hp
theorem cts_size : CtsOk Try.prog [] := fun f c h => by cases h
theorem fn_size : FnOk Try.prog 46 sigSize [] := fn_sound (by kernel_rfl) ext_size cts_size names vt_size
end Go.Proofs.Ytcddopooofdgcaa

namespace Go.Proofs.Ytcddopooofdgcaa
open Go.Ev Go.Sp
set_option maxRecDepth 100000
theorem vc_mul64 : vcFn Try.prog [] tab [] 100 62 sigMul = (allB fun n0 : Int => 
impB ((0 : Int) ≤ n0) (
impB (n0 ≤ (18446744073709551615 : Int)) (
allB fun n1 : Int => 
impB ((0 : Int) ≤ n1) (
impB (n1 ≤ (18446744073709551615 : Int)) (
impB (sigMul.pre [DV.n n0, DV.n n1]) (
allB fun n2 : Int => 
impB (n2 = Go.IntKind.u64.wrap (n0 * n1)) (
impB (Int.ofNat (0 : Nat) ≤ n2) (
impB (n2 ≤ Int.ofNat (18446744073709551615 : Nat)) (
reqB ((0 : Int) ≤
  n0 / Int.ofNat (4294967296 : Nat) * (n1 / Int.ofNat (4294967296 : Nat)) +
      (n0 / Int.ofNat (4294967296 : Nat) * (n1 % Int.ofNat (4294967296 : Nat)) +
          n0 % Int.ofNat (4294967296 : Nat) * (n1 % Int.ofNat (4294967296 : Nat)) / Int.ofNat (4294967296 : Nat)) /
        Int.ofNat (4294967296 : Nat) +
    ((n0 / Int.ofNat (4294967296 : Nat) * (n1 % Int.ofNat (4294967296 : Nat)) +
            n0 % Int.ofNat (4294967296 : Nat) * (n1 % Int.ofNat (4294967296 : Nat)) / Int.ofNat (4294967296 : Nat)) %
          Int.ofNat (4294967296 : Nat) +
        n0 % Int.ofNat (4294967296 : Nat) * (n1 / Int.ofNat (4294967296 : Nat))) /
      Int.ofNat (4294967296 : Nat)) (
reqB (n0 / Int.ofNat (4294967296 : Nat) * (n1 / Int.ofNat (4294967296 : Nat)) +
      (n0 / Int.ofNat (4294967296 : Nat) * (n1 % Int.ofNat (4294967296 : Nat)) +
          n0 % Int.ofNat (4294967296 : Nat) * (n1 % Int.ofNat (4294967296 : Nat)) / Int.ofNat (4294967296 : Nat)) /
        Int.ofNat (4294967296 : Nat) +
    ((n0 / Int.ofNat (4294967296 : Nat) * (n1 % Int.ofNat (4294967296 : Nat)) +
            n0 % Int.ofNat (4294967296 : Nat) * (n1 % Int.ofNat (4294967296 : Nat)) / Int.ofNat (4294967296 : Nat)) %
          Int.ofNat (4294967296 : Nat) +
        n0 % Int.ofNat (4294967296 : Nat) * (n1 / Int.ofNat (4294967296 : Nat))) /
      Int.ofNat (4294967296 : Nat) ≤
  (18446744073709551615 : Int)) (
reqB ((0 : Int) ≤ n2) (
reqB (n2 ≤ (18446744073709551615 : Int)) (
reqB (sigMul.post [DV.n n0, DV.n n1]
  [DV.n
      (n0 / Int.ofNat (4294967296 : Nat) * (n1 / Int.ofNat (4294967296 : Nat)) +
          (n0 / Int.ofNat (4294967296 : Nat) * (n1 % Int.ofNat (4294967296 : Nat)) +
              n0 % Int.ofNat (4294967296 : Nat) * (n1 % Int.ofNat (4294967296 : Nat)) / Int.ofNat (4294967296 : Nat)) /
            Int.ofNat (4294967296 : Nat) +
        ((n0 / Int.ofNat (4294967296 : Nat) * (n1 % Int.ofNat (4294967296 : Nat)) +
                n0 % Int.ofNat (4294967296 : Nat) * (n1 % Int.ofNat (4294967296 : Nat)) /
                  Int.ofNat (4294967296 : Nat)) %
              Int.ofNat (4294967296 : Nat) +
            n0 % Int.ofNat (4294967296 : Nat) * (n1 / Int.ofNat (4294967296 : Nat))) /
          Int.ofNat (4294967296 : Nat)),
    DV.n n2]) (
true)))))))))))))) := by kernel_rfl
set_option maxHeartbeats 8000000 in
theorem vt_mul64 : vcFn Try.prog [] tab [] 100 62 sigMul = true := by
  rw [vc_mul64]
  try simp only [Int.toNat_natCast, List.length_set, List.length_replicate, List.length_take, List.length_drop, List.length_append, List.length_cons, List.length_nil, Nat.min_self, List.take_take, lenCols_i, lenCols_b, List.drop_zero, List.take_length, Nat.add_eq, Nat.mul_eq, Nat.sub_eq, Nat.zero_add, Nat.sub_zero, Nat.mul_one]
  refine all_i fun n0 => ?_
  refine imp_i fun h0 => ?_
  refine imp_i fun h1 => ?_
  refine all_i fun n1 => ?_
  refine imp_i fun h2 => ?_
  refine imp_i fun h3 => ?_
  refine imp_i fun h4 => ?_
  try simp only [sigMul, mulPost, List.cons.injEq, DV.b.injEq, and_true, List.length_cons, List.length_nil] at h4
  have m := mul64_eq (x := n0) (y := n1) (by omega) (by omega) (by omega) (by omega)
  refine all_i fun n2 => ?_
  refine imp_i fun h5 => ?_
  simp only [wrap_u64] at h5
  simp only [show Int.ofNat 4294967296 = 4294967296 from rfl]
  rw [m.2.2]
  refine imp_i fun h6 => ?_
  refine imp_i fun h7 => ?_
  refine req_i ?_ ?_
  · -- r0
    first | omega | assumption | grind
  refine req_i ?_ ?_
  · -- r1
    first | omega | assumption | grind
  refine req_i ?_ ?_
  · -- r2
    first | omega | assumption | grind
  refine req_i ?_ ?_
  · -- r3
    first | omega | assumption | grind
  refine req_i ?_ ?_
  · -- r4
    first | omega | ((try simp only [sigMul, mulPost, List.cons.injEq, DV.b.injEq, and_true, List.length_cons, List.length_nil]); first | done | omega | assumption | grind [getD_set, getD_rep, toNat_succ, cntN_yes, cntN_no])
  rfl
theorem ext_mul64 : ∀ p ∈ ([] : List (Nat × Ext)), ExtRow Try.prog p.1 p.2 := by
  intro p hp
  cases hp
theorem cts_mul64 : CtsOk Try.prog [] := fun f c h => by cases h
theorem fn_mul64 : FnOk Try.prog 62 sigMul [] := fn_sound (by kernel_rfl) ext_mul64 cts_mul64 names vt_mul64
end Go.Proofs.Ytcddopooofdgcaa

namespace Go.Proofs.Ytcddopooofdgcaa
open Go.Ev Go.Sp
set_option maxRecDepth 100000
theorem vc_times : vcFn Try.prog [(46, Ext.ctr (ctOf sigSize)), (62, Ext.ctr (ctOf sigMul))] tab [] 100 51 sigTimes = (allB fun n0 : Int => 
impB ((-9223372036854775808 : Int) ≤ n0) (
impB (n0 ≤ (9223372036854775807 : Int)) (
allB fun n1 : Int => 
impB ((-9223372036854775808 : Int) ≤ n1) (
impB (n1 ≤ (9223372036854775807 : Int)) (
impB (sigTimes.pre [DV.n n0, DV.n n1]) (
reqB ((-9223372036854775808 : Int) ≤ n0) (
reqB (n0 ≤ (9223372036854775807 : Int)) (
reqB (sigSize.pre [DV.n n0]) (
allB fun n2 : Int => 
impB ((0 : Int) ≤ n2) (
impB (n2 ≤ (9223372036854775808 : Int)) (
impB (sigSize.post [DV.n n0] [DV.n n2]) (
reqB ((-9223372036854775808 : Int) ≤ n1) (
reqB (n1 ≤ (9223372036854775807 : Int)) (
reqB (sigSize.pre [DV.n n1]) (
allB fun n3 : Int => 
impB ((0 : Int) ≤ n3) (
impB (n3 ≤ (9223372036854775808 : Int)) (
impB (sigSize.post [DV.n n1] [DV.n n3]) (
reqB ((0 : Int) ≤ n2) (
reqB (n2 ≤ (18446744073709551615 : Int)) (
reqB ((0 : Int) ≤ n3) (
reqB (n3 ≤ (18446744073709551615 : Int)) (
reqB (sigMul.pre [DV.n n2, DV.n n3]) (
allB fun n4 : Int => 
impB ((0 : Int) ≤ n4) (
impB (n4 ≤ (18446744073709551615 : Int)) (
allB fun n5 : Int => 
impB ((0 : Int) ≤ n5) (
impB (n5 ≤ (18446744073709551615 : Int)) (
impB (sigMul.post [DV.n n2, DV.n n3] [DV.n n4, DV.n n5]) (
reqB ((0 : Int) ≤ n4) (
reqB (n4 ≤ (18446744073709551615 : Int)) (
reqB ((0 : Int) ≤ n5) (
reqB (n5 ≤ (18446744073709551615 : Int)) (
reqB (sigTimes.post [DV.n n0, DV.n n1] [DV.n n4, DV.n n5]) (
true))))))))))))))))))))))))))))))))) := by kernel_rfl
set_option maxHeartbeats 8000000 in
theorem vt_times : vcFn Try.prog [(46, Ext.ctr (ctOf sigSize)), (62, Ext.ctr (ctOf sigMul))] tab [] 100 51 sigTimes = true := by
  rw [vc_times]
  try simp only [Int.toNat_natCast, List.length_set, List.length_replicate, List.length_take, List.length_drop, List.length_append, List.length_cons, List.length_nil, Nat.min_self, List.take_take, lenCols_i, lenCols_b, List.drop_zero, List.take_length, Nat.add_eq, Nat.mul_eq, Nat.sub_eq, Nat.zero_add, Nat.sub_zero, Nat.mul_one]
  refine all_i fun n0 => ?_
  refine imp_i fun h0 => ?_
  refine imp_i fun h1 => ?_
  refine all_i fun n1 => ?_
  refine imp_i fun h2 => ?_
  refine imp_i fun h3 => ?_
  refine imp_i fun h4 => ?_
  try simp only [sigTimes, timesPost, List.cons.injEq, DV.b.injEq, and_true, List.length_cons, List.length_nil] at h4
  refine req_i ?_ ?_
  · -- r0
    first | omega | assumption | grind
  refine req_i ?_ ?_
  · -- r1
    first | omega | assumption | grind
  refine req_i ?_ ?_
  · -- r2
    first | trivial | assumption | (simp only [sigSize, sizePost, List.cons.injEq, DV.b.injEq, and_true, List.length_cons, List.length_nil]; done) | ((try simp only [sigSize, sizePost, List.cons.injEq, DV.b.injEq, and_true, List.length_cons, List.length_nil]); first | omega | assumption | grind)
  refine all_i fun n2 => ?_
  refine imp_i fun h5 => ?_
  refine imp_i fun h6 => ?_
  refine imp_i fun h7 => ?_
  try simp only [sigSize, sizePost, List.cons.injEq, DV.b.injEq, and_true, List.length_cons, List.length_nil] at h7
  refine req_i ?_ ?_
  · -- r3
    first | omega | assumption | grind
  refine req_i ?_ ?_
  · -- r4
    first | omega | assumption | grind
  refine req_i ?_ ?_
  · -- r5
    first | trivial | assumption | (simp only [sigSize, sizePost, List.cons.injEq, DV.b.injEq, and_true, List.length_cons, List.length_nil]; done) | ((try simp only [sigSize, sizePost, List.cons.injEq, DV.b.injEq, and_true, List.length_cons, List.length_nil]); first | omega | assumption | grind)
  refine all_i fun n3 => ?_
  refine imp_i fun h8 => ?_
  refine imp_i fun h9 => ?_
  refine imp_i fun h10 => ?_
  try simp only [sigSize, sizePost, List.cons.injEq, DV.b.injEq, and_true, List.length_cons, List.length_nil] at h10
  refine req_i ?_ ?_
  · -- r6
    first | omega | assumption | grind
  refine req_i ?_ ?_
  · -- r7
    first | omega | assumption | grind
  refine req_i ?_ ?_
  · -- r8
    first | omega | assumption | grind
  refine req_i ?_ ?_
  · -- r9
    first | omega | assumption | grind
  refine req_i ?_ ?_
  · -- r10
    first | trivial | assumption | (simp only [sigMul, mulPost, List.cons.injEq, DV.b.injEq, and_true, List.length_cons, List.length_nil]; done) | ((try simp only [sigMul, mulPost, List.cons.injEq, DV.b.injEq, and_true, List.length_cons, List.length_nil]); first | omega | assumption | grind)
  refine all_i fun n4 => ?_
  refine imp_i fun h11 => ?_
  refine imp_i fun h12 => ?_
  refine all_i fun n5 => ?_
  refine imp_i fun h13 => ?_
  refine imp_i fun h14 => ?_
  refine imp_i fun h15 => ?_
  try simp only [sigMul, mulPost, List.cons.injEq, DV.b.injEq, and_true, List.length_cons, List.length_nil] at h15
  refine req_i ?_ ?_
  · -- r11
    first | omega | assumption | grind
  refine req_i ?_ ?_
  · -- r12
    first | omega | assumption | grind
  refine req_i ?_ ?_
  · -- r13
    first | omega | assumption | grind
  refine req_i ?_ ?_
  · -- r14
    first | omega | assumption | grind
  refine req_i ?_ ?_
  · -- r15
    first | omega | ((try simp only [sigTimes, timesPost, List.cons.injEq, DV.b.injEq, and_true, List.length_cons, List.length_nil]); first | done | omega | assumption | grind [getD_set, getD_rep, toNat_succ, cntN_yes, cntN_no])
  rfl
theorem ext_times : ∀ p ∈ ([(46, Ext.ctr (ctOf sigSize)), (62, Ext.ctr (ctOf sigMul))] : List (Nat × Ext)), ExtRow Try.prog p.1 p.2 := by
  intro p hp
  simp only [List.mem_cons, List.not_mem_nil, or_false] at hp
  rcases hp with rfl | rfl
  · trivial
  · trivial
theorem cts_times : CtsOk Try.prog [(46, Ext.ctr (ctOf sigSize)), (62, Ext.ctr (ctOf sigMul))] := ctsOk_of (cs := [(46, sigSize), (62, sigMul)])
  (fun p hp => by
    simp only [List.mem_cons, List.not_mem_nil, or_false] at hp
    rcases hp with rfl | rfl
    · exact fn_size
    · exact fn_mul64
)
  (fun f c h => by
    simp only [List.lookup_cons] at h
    repeat' split at h
    all_goals first | (cases h; done) | (rename_i e; have e := beq_iff_eq.1 e; subst e; cases h; exact ⟨_, by simp, rfl⟩))
theorem fn_times : FnOk Try.prog 51 sigTimes [] := fn_sound (by kernel_rfl) ext_times cts_times names vt_times
end Go.Proofs.Ytcddopooofdgcaa

namespace Go.Proofs.Ytcddopooofdgcaa
open Go.Ev Go.Sp
theorem fn_sub64 : FnOk Try.prog 55 sigSub64 [] := Go.Ev.fn_sub64 ⟨Try.f55, Try.func55, by kernel_rfl, by kernel_rfl, by kernel_rfl, by kernel_rfl⟩
end Go.Proofs.Ytcddopooofdgcaa

namespace Go.Proofs.Ytcddopooofdgcaa
open Go.Ev Go.Sp
set_option maxRecDepth 100000
theorem vc_prod : vcFn Try.prog [(51, Ext.ctr (ctOf sigTimes)), (55, Ext.ctr (ctOf sigSub64))] tab [] 100 24 sigProd = (allB fun n0 : Int => 
impB ((-9223372036854775808 : Int) ≤ n0) (
impB (n0 ≤ (9223372036854775807 : Int)) (
allB fun n1 : Int => 
impB ((-9223372036854775808 : Int) ≤ n1) (
impB (n1 ≤ (9223372036854775807 : Int)) (
impB (sigProd.pre [DV.n n0, DV.n n1]) (
reqB ((-9223372036854775808 : Int) ≤ n0) (
reqB (n0 ≤ (9223372036854775807 : Int)) (
reqB ((-9223372036854775808 : Int) ≤ n1) (
reqB (n1 ≤ (9223372036854775807 : Int)) (
reqB (sigTimes.pre [DV.n n0, DV.n n1]) (
allB fun n2 : Int => 
impB ((0 : Int) ≤ n2) (
impB (n2 ≤ (18446744073709551615 : Int)) (
allB fun n3 : Int => 
impB ((0 : Int) ≤ n3) (
impB (n3 ≤ (18446744073709551615 : Int)) (
impB (sigTimes.post [DV.n n0, DV.n n1] [DV.n n2, DV.n n3]) (
bR (bR (dec (n0 < (0 : Int))) (
 dec (n1 < (0 : Int))) (
 bR (dec (n1 < (0 : Int))) (
  false) (
  true))) (
 allB fun n4 : Int => 
 impB (n4 = Go.IntKind.i64.wrap n2) (
 impB (Int.negSucc (9223372036854775807 : Nat) ≤ n4) (
 impB (n4 ≤ Int.ofNat (9223372036854775807 : Nat)) (
 reqB ((-9223372036854775808 : Int) ≤ n4) (
 reqB (n4 ≤ (9223372036854775807 : Int)) (
 reqB ((0 : Int) ≤ n3) (
 reqB (n3 ≤ (18446744073709551615 : Int)) (
 reqB (sigProd.post [DV.n n0, DV.n n1] [DV.n n4, DV.n n3]) (
 true))))))))) (
 reqB ((0 : Int) ≤ n3) (
 reqB (n3 ≤ (18446744073709551615 : Int)) (
 reqB (sigSub64.pre [DV.n (0 : Int), DV.n n3, DV.n (0 : Int)]) (
 allB fun n5 : Int => 
 impB ((0 : Int) ≤ n5) (
 impB (n5 ≤ (18446744073709551615 : Int)) (
 allB fun n6 : Int => 
 impB ((0 : Int) ≤ n6) (
 impB (n6 ≤ (1 : Int)) (
 impB (sigSub64.post [DV.n (0 : Int), DV.n n3, DV.n (0 : Int)] [DV.n n5, DV.n n6]) (
 reqB ((0 : Int) ≤ n2) (
 reqB (n2 ≤ (18446744073709551615 : Int)) (
 reqB ((0 : Int) ≤ n6) (
 reqB (n6 ≤ (1 : Int)) (
 reqB (sigSub64.pre [DV.n (0 : Int), DV.n n2, DV.n n6]) (
 allB fun n7 : Int => 
 impB ((0 : Int) ≤ n7) (
 impB (n7 ≤ (18446744073709551615 : Int)) (
 allB fun n8 : Int => 
 impB ((0 : Int) ≤ n8) (
 impB (n8 ≤ (1 : Int)) (
 impB (sigSub64.post [DV.n (0 : Int), DV.n n2, DV.n n6] [DV.n n7, DV.n n8]) (
 allB fun n9 : Int => 
 impB (n9 = Go.IntKind.i64.wrap n7) (
 impB (Int.negSucc (9223372036854775807 : Nat) ≤ n9) (
 impB (n9 ≤ Int.ofNat (9223372036854775807 : Nat)) (
 reqB ((-9223372036854775808 : Int) ≤ n9) (
 reqB (n9 ≤ (9223372036854775807 : Int)) (
 reqB ((0 : Int) ≤ n5) (
 reqB (n5 ≤ (18446744073709551615 : Int)) (
 reqB (sigProd.post [DV.n n0, DV.n n1] [DV.n n9, DV.n n5]) (
 true))))))))))))))))))))))))))))))))))))))))))) := by kernel_rfl
set_option maxHeartbeats 8000000 in
theorem vt_prod : vcFn Try.prog [(51, Ext.ctr (ctOf sigTimes)), (55, Ext.ctr (ctOf sigSub64))] tab [] 100 24 sigProd = true := by
  rw [vc_prod]
  try simp only [Int.toNat_natCast, List.length_set, List.length_replicate, List.length_take, List.length_drop, List.length_append, List.length_cons, List.length_nil, Nat.min_self, List.take_take, lenCols_i, lenCols_b, List.drop_zero, List.take_length, Nat.add_eq, Nat.mul_eq, Nat.sub_eq, Nat.zero_add, Nat.sub_zero, Nat.mul_one]
  refine all_i fun n0 => ?_
  refine imp_i fun h0 => ?_
  refine imp_i fun h1 => ?_
  refine all_i fun n1 => ?_
  refine imp_i fun h2 => ?_
  refine imp_i fun h3 => ?_
  refine imp_i fun h4 => ?_
  try simp only [sigProd, prodPost, List.cons.injEq, DV.b.injEq, and_true, List.length_cons, List.length_nil] at h4
  have am := abs_mul (a := n0) (b := n1) (by omega) (by omega) (by omega) (by omega)
  refine req_i ?_ ?_
  · -- r0
    first | omega | assumption | grind
  refine req_i ?_ ?_
  · -- r1
    first | omega | assumption | grind
  refine req_i ?_ ?_
  · -- r2
    first | omega | assumption | grind
  refine req_i ?_ ?_
  · -- r3
    first | omega | assumption | grind
  refine req_i ?_ ?_
  · -- r4
    first | trivial | assumption | (simp only [sigTimes, timesPost, List.cons.injEq, DV.b.injEq, and_true, List.length_cons, List.length_nil]; done) | ((try simp only [sigTimes, timesPost, List.cons.injEq, DV.b.injEq, and_true, List.length_cons, List.length_nil]); first | omega | assumption | grind)
  refine all_i fun n2 => ?_
  refine imp_i fun h5 => ?_
  refine imp_i fun h6 => ?_
  refine all_i fun n3 => ?_
  refine imp_i fun h7 => ?_
  refine imp_i fun h8 => ?_
  refine imp_i fun h9 => ?_
  try simp only [sigTimes, timesPost, List.cons.injEq, DV.b.injEq, and_true, List.length_cons, List.length_nil] at h9
  refine bR_i (fun h10 => ?_) (fun h10 => ?_)
  ·
    simp only [bR_iff, bR_iff_f, dec_iff, dec_f, Bool.false_eq_true, Bool.true_eq_false, false_implies, imp_false, and_true, true_and, implies_true, Classical.not_not] at h10
    refine all_i fun n4 => ?_
    refine imp_i fun h11 => ?_
    simp only [wrap_i64] at h11
    refine imp_i fun h12 => ?_
    refine imp_i fun h13 => ?_
    refine req_i ?_ ?_
    · -- r5
      first | omega | assumption | grind
    refine req_i ?_ ?_
    · -- r6
      first | omega | assumption | grind
    refine req_i ?_ ?_
    · -- r7
      first | omega | assumption | grind
    refine req_i ?_ ?_
    · -- r8
      first | omega | assumption | grind
    refine req_i ?_ ?_
    · -- r9
      first | omega | ((try simp only [sigProd, prodPost, List.cons.injEq, DV.b.injEq, and_true, List.length_cons, List.length_nil]); first | done | omega | assumption | grind [getD_set, getD_rep, toNat_succ, cntN_yes, cntN_no])
    rfl
  ·
    simp only [bR_iff, bR_iff_f, dec_iff, dec_f, Bool.false_eq_true, Bool.true_eq_false, false_implies, imp_false, and_true, true_and, implies_true, Classical.not_not] at h10
    refine req_i ?_ ?_
    · -- r10
      first | omega | assumption | grind
    refine req_i ?_ ?_
    · -- r11
      first | omega | assumption | grind
    refine req_i ?_ ?_
    · -- r12
      first | trivial | assumption | (simp only [sigSub64, sub64Post, List.cons.injEq, DV.b.injEq, and_true, List.length_cons, List.length_nil]; done) | ((try simp only [sigSub64, sub64Post, List.cons.injEq, DV.b.injEq, and_true, List.length_cons, List.length_nil]); first | omega | assumption | grind)
    refine all_i fun n5 => ?_
    refine imp_i fun h14 => ?_
    refine imp_i fun h15 => ?_
    refine all_i fun n6 => ?_
    refine imp_i fun h16 => ?_
    refine imp_i fun h17 => ?_
    refine imp_i fun h18 => ?_
    try simp only [sigSub64, sub64Post, List.cons.injEq, DV.b.injEq, and_true, List.length_cons, List.length_nil] at h18
    refine req_i ?_ ?_
    · -- r13
      first | omega | assumption | grind
    refine req_i ?_ ?_
    · -- r14
      first | omega | assumption | grind
    refine req_i ?_ ?_
    · -- r15
      first | omega | assumption | grind
    refine req_i ?_ ?_
    · -- r16
      first | omega | assumption | grind
    refine req_i ?_ ?_
    · -- r17
      first | trivial | assumption | (simp only [sigSub64, sub64Post, List.cons.injEq, DV.b.injEq, and_true, List.length_cons, List.length_nil]; done) | ((try simp only [sigSub64, sub64Post, List.cons.injEq, DV.b.injEq, and_true, List.length_cons, List.length_nil]); first | omega | assumption | grind)
    refine all_i fun n7 => ?_
    refine imp_i fun h19 => ?_
    refine imp_i fun h20 => ?_
    refine all_i fun n8 => ?_
    refine imp_i fun h21 => ?_
    refine imp_i fun h22 => ?_
    refine imp_i fun h23 => ?_
    try simp only [sigSub64, sub64Post, List.cons.injEq, DV.b.injEq, and_true, List.length_cons, List.length_nil] at h23
    refine all_i fun n9 => ?_
    refine imp_i fun h24 => ?_
    simp only [wrap_i64] at h24
    refine imp_i fun h25 => ?_
    refine imp_i fun h26 => ?_
    refine req_i ?_ ?_
    · -- r18
      first | omega | assumption | grind
    refine req_i ?_ ?_
    · -- r19
      first | omega | assumption | grind
    refine req_i ?_ ?_
    · -- r20
      first | omega | assumption | grind
    refine req_i ?_ ?_
    · -- r21
      first | omega | assumption | grind
    refine req_i ?_ ?_
    · -- r22
      first | omega | ((try simp only [sigProd, prodPost, List.cons.injEq, DV.b.injEq, and_true, List.length_cons, List.length_nil]); first | done | omega | assumption | grind [getD_set, getD_rep, toNat_succ, cntN_yes, cntN_no])
    rfl
theorem ext_prod : ∀ p ∈ ([(51, Ext.ctr (ctOf sigTimes)), (55, Ext.ctr (ctOf sigSub64))] : List (Nat × Ext)), ExtRow Try.prog p.1 p.2 := by
  intro p hp
  simp only [List.mem_cons, List.not_mem_nil, or_false] at hp
  rcases hp with rfl | rfl
  · trivial
  · trivial
theorem cts_prod : CtsOk Try.prog [(51, Ext.ctr (ctOf sigTimes)), (55, Ext.ctr (ctOf sigSub64))] := ctsOk_of (cs := [(51, sigTimes), (55, sigSub64)])
  (fun p hp => by
    simp only [List.mem_cons, List.not_mem_nil, or_false] at hp
    rcases hp with rfl | rfl
    · exact fn_times
    · exact fn_sub64
)
  (fun f c h => by
    simp only [List.lookup_cons] at h
    repeat' split at h
    all_goals first | (cases h; done) | (rename_i e; have e := beq_iff_eq.1 e; subst e; cases h; exact ⟨_, by simp, rfl⟩))
theorem fn_prod : FnOk Try.prog 24 sigProd [] := fn_sound (by kernel_rfl) ext_prod cts_prod names vt_prod
end Go.Proofs.Ytcddopooofdgcaa

namespace Go.Proofs.Ytcddopooofdgcaa
open Go.Ev Go.Sp
theorem fn_add64 : FnOk Try.prog 54 sigAdd64 [] := Go.Ev.fn_add64 ⟨Try.f54, Try.func54, by kernel_rfl, by kernel_rfl, by kernel_rfl, by kernel_rfl⟩
end Go.Proofs.Ytcddopooofdgcaa

namespace Go.Proofs.Ytcddopooofdgcaa
open Go.Ev Go.Sp
set_option maxRecDepth 100000
theorem vc_plus : vcFn Try.prog [(54, Ext.ctr (ctOf sigAdd64))] tab [] 100 22 sigPlus = (allB fun n0 : Int => 
impB ((-9223372036854775808 : Int) ≤ n0) (
impB (n0 ≤ (9223372036854775807 : Int)) (
allB fun n1 : Int => 
impB ((0 : Int) ≤ n1) (
impB (n1 ≤ (18446744073709551615 : Int)) (
allB fun n2 : Int => 
impB ((-9223372036854775808 : Int) ≤ n2) (
impB (n2 ≤ (9223372036854775807 : Int)) (
allB fun n3 : Int => 
impB ((0 : Int) ≤ n3) (
impB (n3 ≤ (18446744073709551615 : Int)) (
impB (sigPlus.pre [DV.n n0, DV.n n1, DV.n n2, DV.n n3]) (
reqB ((0 : Int) ≤ n1) (
reqB (n1 ≤ (18446744073709551615 : Int)) (
reqB ((0 : Int) ≤ n3) (
reqB (n3 ≤ (18446744073709551615 : Int)) (
reqB (sigAdd64.pre [DV.n n1, DV.n n3, DV.n (0 : Int)]) (
allB fun n4 : Int => 
impB ((0 : Int) ≤ n4) (
impB (n4 ≤ (18446744073709551615 : Int)) (
allB fun n5 : Int => 
impB ((0 : Int) ≤ n5) (
impB (n5 ≤ (1 : Int)) (
impB (sigAdd64.post [DV.n n1, DV.n n3, DV.n (0 : Int)] [DV.n n4, DV.n n5]) (
allB fun n6 : Int => 
impB (n6 = Go.IntKind.i64.wrap (n0 + n2)) (
impB (Int.negSucc (9223372036854775807 : Nat) ≤ n6) (
impB (n6 ≤ Int.ofNat (9223372036854775807 : Nat)) (
allB fun n7 : Int => 
impB (n7 = Go.IntKind.i64.wrap (n6 + n5)) (
impB (Int.negSucc (9223372036854775807 : Nat) ≤ n7) (
impB (n7 ≤ Int.ofNat (9223372036854775807 : Nat)) (
bR (bR (dec (n0 < (0 : Int))) (
 dec (n2 < (0 : Int))) (
 bR (dec (n2 < (0 : Int))) (
  false) (
  true))) (
 bR (bR (bR (dec (n7 < (0 : Int))) (
  dec (n0 < (0 : Int))) (
  bR (dec (n0 < (0 : Int))) (
   false) (
   true))) (
  false) (
  true)) (
  reqB (sigPlus.post [DV.n n0, DV.n n1, DV.n n2, DV.n n3]
  [DV.n (0 : Int), DV.n (0 : Int), DV.n (5 : Int)]) (
  true)) (
  reqB ((-9223372036854775808 : Int) ≤ n7) (
  reqB (n7 ≤ (9223372036854775807 : Int)) (
  reqB ((0 : Int) ≤ n4) (
  reqB (n4 ≤ (18446744073709551615 : Int)) (
  reqB (sigPlus.post [DV.n n0, DV.n n1, DV.n n2, DV.n n3]
  [DV.n n7, DV.n n4, DV.n (0 : Int)]) (
  true))))))) (
 reqB ((-9223372036854775808 : Int) ≤ n7) (
 reqB (n7 ≤ (9223372036854775807 : Int)) (
 reqB ((0 : Int) ≤ n4) (
 reqB (n4 ≤ (18446744073709551615 : Int)) (
 reqB (sigPlus.post [DV.n n0, DV.n n1, DV.n n2, DV.n n3]
  [DV.n n7, DV.n n4, DV.n (0 : Int)]) (
 true)))))))))))))))))))))))))))))))) := by kernel_rfl
set_option maxHeartbeats 8000000 in
theorem vt_plus : vcFn Try.prog [(54, Ext.ctr (ctOf sigAdd64))] tab [] 100 22 sigPlus = true := by
  rw [vc_plus]
  try simp only [Int.toNat_natCast, List.length_set, List.length_replicate, List.length_take, List.length_drop, List.length_append, List.length_cons, List.length_nil, Nat.min_self, List.take_take, lenCols_i, lenCols_b, List.drop_zero, List.take_length, Nat.add_eq, Nat.mul_eq, Nat.sub_eq, Nat.zero_add, Nat.sub_zero, Nat.mul_one]
  refine all_i fun n0 => ?_
  refine imp_i fun h0 => ?_
  refine imp_i fun h1 => ?_
  refine all_i fun n1 => ?_
  refine imp_i fun h2 => ?_
  refine imp_i fun h3 => ?_
  refine all_i fun n2 => ?_
  refine imp_i fun h4 => ?_
  refine imp_i fun h5 => ?_
  refine all_i fun n3 => ?_
  refine imp_i fun h6 => ?_
  refine imp_i fun h7 => ?_
  refine imp_i fun h8 => ?_
  try simp only [sigPlus, plusPost, List.cons.injEq, DV.b.injEq, and_true, List.length_cons, List.length_nil] at h8
  refine req_i ?_ ?_
  · -- r0
    first | omega | assumption | grind
  refine req_i ?_ ?_
  · -- r1
    first | omega | assumption | grind
  refine req_i ?_ ?_
  · -- r2
    first | omega | assumption | grind
  refine req_i ?_ ?_
  · -- r3
    first | omega | assumption | grind
  refine req_i ?_ ?_
  · -- r4
    first | trivial | assumption | (simp only [sigAdd64, add64Post, List.cons.injEq, DV.b.injEq, and_true, List.length_cons, List.length_nil]; done) | ((try simp only [sigAdd64, add64Post, List.cons.injEq, DV.b.injEq, and_true, List.length_cons, List.length_nil]); first | omega | assumption | grind)
  refine all_i fun n4 => ?_
  refine imp_i fun h9 => ?_
  refine imp_i fun h10 => ?_
  refine all_i fun n5 => ?_
  refine imp_i fun h11 => ?_
  refine imp_i fun h12 => ?_
  refine imp_i fun h13 => ?_
  try simp only [sigAdd64, add64Post, List.cons.injEq, DV.b.injEq, and_true, List.length_cons, List.length_nil] at h13
  refine all_i fun n6 => ?_
  refine imp_i fun h14 => ?_
  simp only [wrap_i64] at h14
  refine imp_i fun h15 => ?_
  refine imp_i fun h16 => ?_
  refine all_i fun n7 => ?_
  refine imp_i fun h17 => ?_
  simp only [wrap_i64] at h17
  refine imp_i fun h18 => ?_
  refine imp_i fun h19 => ?_
  refine bR_i (fun h20 => ?_) (fun h20 => ?_)
  ·
    simp only [bR_iff, bR_iff_f, dec_iff, dec_f, Bool.false_eq_true, Bool.true_eq_false, false_implies, imp_false, and_true, true_and, implies_true, Classical.not_not] at h20
    refine bR_i (fun h21 => ?_) (fun h21 => ?_)
    ·
      simp only [bR_iff, bR_iff_f, dec_iff, dec_f, Bool.false_eq_true, Bool.true_eq_false, false_implies, imp_false, and_true, true_and, implies_true, Classical.not_not] at h21
      refine req_i ?_ ?_
      · -- r5
        first | omega | ((try simp only [sigPlus, plusPost, List.cons.injEq, DV.b.injEq, and_true, List.length_cons, List.length_nil]); first | done | omega | assumption | grind [getD_set, getD_rep, toNat_succ, cntN_yes, cntN_no])
      rfl
    ·
      simp only [bR_iff, bR_iff_f, dec_iff, dec_f, Bool.false_eq_true, Bool.true_eq_false, false_implies, imp_false, and_true, true_and, implies_true, Classical.not_not] at h21
      refine req_i ?_ ?_
      · -- r6
        first | omega | assumption | grind
      refine req_i ?_ ?_
      · -- r7
        first | omega | assumption | grind
      refine req_i ?_ ?_
      · -- r8
        first | omega | assumption | grind
      refine req_i ?_ ?_
      · -- r9
        first | omega | assumption | grind
      refine req_i ?_ ?_
      · -- r10
        first | omega | ((try simp only [sigPlus, plusPost, List.cons.injEq, DV.b.injEq, and_true, List.length_cons, List.length_nil]); first | done | omega | assumption | grind [getD_set, getD_rep, toNat_succ, cntN_yes, cntN_no])
      rfl
  ·
    simp only [bR_iff, bR_iff_f, dec_iff, dec_f, Bool.false_eq_true, Bool.true_eq_false, false_implies, imp_false, and_true, true_and, implies_true, Classical.not_not] at h20
    refine req_i ?_ ?_
    · -- r11
      first | omega | assumption | grind
    refine req_i ?_ ?_
    · -- r12
      first | omega | assumption | grind
    refine req_i ?_ ?_
    · -- r13
      first | omega | assumption | grind
    refine req_i ?_ ?_
    · -- r14
      first | omega | assumption | grind
    refine req_i ?_ ?_
    · -- r15
      first | omega | ((try simp only [sigPlus, plusPost, List.cons.injEq, DV.b.injEq, and_true, List.length_cons, List.length_nil]); first | done | omega | assumption | grind [getD_set, getD_rep, toNat_succ, cntN_yes, cntN_no])
    rfl
theorem ext_plus : ∀ p ∈ ([(54, Ext.ctr (ctOf sigAdd64))] : List (Nat × Ext)), ExtRow Try.prog p.1 p.2 := by
  intro p hp
  simp only [List.mem_cons, List.not_mem_nil, or_false] at hp
  rcases hp with rfl
  · trivial
theorem cts_plus : CtsOk Try.prog [(54, Ext.ctr (ctOf sigAdd64))] := ctsOk_of (cs := [(54, sigAdd64)])
  (fun p hp => by
    simp only [List.mem_cons, List.not_mem_nil, or_false] at hp
    rcases hp with rfl
    · exact fn_add64
)
  (fun f c h => by
    simp only [List.lookup_cons] at h
    repeat' split at h
    all_goals first | (cases h; done) | (rename_i e; have e := beq_iff_eq.1 e; subst e; cases h; exact ⟨_, by simp, rfl⟩))
theorem fn_plus : FnOk Try.prog 22 sigPlus [] := fn_sound (by kernel_rfl) ext_plus cts_plus names vt_plus
end Go.Proofs.Ytcddopooofdgcaa

namespace Go.Proofs.Ytcddopooofdgcaa
open Go.Ev Go.Sp
set_option maxRecDepth 100000
theorem vc_minus : vcFn Try.prog [(55, Ext.ctr (ctOf sigSub64))] tab [] 100 35 sigMinus = (allB fun n0 : Int => 
impB ((-9223372036854775808 : Int) ≤ n0) (
impB (n0 ≤ (9223372036854775807 : Int)) (
allB fun n1 : Int => 
impB ((0 : Int) ≤ n1) (
impB (n1 ≤ (18446744073709551615 : Int)) (
allB fun n2 : Int => 
impB ((-9223372036854775808 : Int) ≤ n2) (
impB (n2 ≤ (9223372036854775807 : Int)) (
allB fun n3 : Int => 
impB ((0 : Int) ≤ n3) (
impB (n3 ≤ (18446744073709551615 : Int)) (
impB (sigMinus.pre [DV.n n0, DV.n n1, DV.n n2, DV.n n3]) (
reqB ((0 : Int) ≤ n1) (
reqB (n1 ≤ (18446744073709551615 : Int)) (
reqB ((0 : Int) ≤ n3) (
reqB (n3 ≤ (18446744073709551615 : Int)) (
reqB (sigSub64.pre [DV.n n1, DV.n n3, DV.n (0 : Int)]) (
allB fun n4 : Int => 
impB ((0 : Int) ≤ n4) (
impB (n4 ≤ (18446744073709551615 : Int)) (
allB fun n5 : Int => 
impB ((0 : Int) ≤ n5) (
impB (n5 ≤ (1 : Int)) (
impB (sigSub64.post [DV.n n1, DV.n n3, DV.n (0 : Int)] [DV.n n4, DV.n n5]) (
allB fun n6 : Int => 
impB (n6 = Go.IntKind.i64.wrap (n0 - n2)) (
impB (Int.negSucc (9223372036854775807 : Nat) ≤ n6) (
impB (n6 ≤ Int.ofNat (9223372036854775807 : Nat)) (
allB fun n7 : Int => 
impB (n7 = Go.IntKind.i64.wrap (n6 - n5)) (
impB (Int.negSucc (9223372036854775807 : Nat) ≤ n7) (
impB (n7 ≤ Int.ofNat (9223372036854775807 : Nat)) (
bR (bR (bR (dec (n0 < (0 : Int))) (
 dec (n2 < (0 : Int))) (
 bR (dec (n2 < (0 : Int))) (
  false) (
  true))) (
 false) (
 true)) (
 bR (bR (bR (dec (n7 < (0 : Int))) (
  dec (n0 < (0 : Int))) (
  bR (dec (n0 < (0 : Int))) (
   false) (
   true))) (
  false) (
  true)) (
  reqB (sigMinus.post [DV.n n0, DV.n n1, DV.n n2, DV.n n3]
  [DV.n (0 : Int), DV.n (0 : Int), DV.n (5 : Int)]) (
  true)) (
  reqB ((-9223372036854775808 : Int) ≤ n7) (
  reqB (n7 ≤ (9223372036854775807 : Int)) (
  reqB ((0 : Int) ≤ n4) (
  reqB (n4 ≤ (18446744073709551615 : Int)) (
  reqB (sigMinus.post [DV.n n0, DV.n n1, DV.n n2, DV.n n3]
  [DV.n n7, DV.n n4, DV.n (0 : Int)]) (
  true))))))) (
 reqB ((-9223372036854775808 : Int) ≤ n7) (
 reqB (n7 ≤ (9223372036854775807 : Int)) (
 reqB ((0 : Int) ≤ n4) (
 reqB (n4 ≤ (18446744073709551615 : Int)) (
 reqB (sigMinus.post [DV.n n0, DV.n n1, DV.n n2, DV.n n3]
  [DV.n n7, DV.n n4, DV.n (0 : Int)]) (
 true)))))))))))))))))))))))))))))))) := by kernel_rfl
set_option maxHeartbeats 8000000 in
theorem vt_minus : vcFn Try.prog [(55, Ext.ctr (ctOf sigSub64))] tab [] 100 35 sigMinus = true := by
  rw [vc_minus]
  try simp only [Int.toNat_natCast, List.length_set, List.length_replicate, List.length_take, List.length_drop, List.length_append, List.length_cons, List.length_nil, Nat.min_self, List.take_take, lenCols_i, lenCols_b, List.drop_zero, List.take_length, Nat.add_eq, Nat.mul_eq, Nat.sub_eq, Nat.zero_add, Nat.sub_zero, Nat.mul_one]
  refine all_i fun n0 => ?_
  refine imp_i fun h0 => ?_
  refine imp_i fun h1 => ?_
  refine all_i fun n1 => ?_
  refine imp_i fun h2 => ?_
  refine imp_i fun h3 => ?_
  refine all_i fun n2 => ?_
  refine imp_i fun h4 => ?_
  refine imp_i fun h5 => ?_
  refine all_i fun n3 => ?_
  refine imp_i fun h6 => ?_
  refine imp_i fun h7 => ?_
  refine imp_i fun h8 => ?_
  try simp only [sigMinus, minusPost, List.cons.injEq, DV.b.injEq, and_true, List.length_cons, List.length_nil] at h8
  refine req_i ?_ ?_
  · -- r0
    first | omega | assumption | grind
  refine req_i ?_ ?_
  · -- r1
    first | omega | assumption | grind
  refine req_i ?_ ?_
  · -- r2
    first | omega | assumption | grind
  refine req_i ?_ ?_
  · -- r3
    first | omega | assumption | grind
  refine req_i ?_ ?_
  · -- r4
    first | trivial | assumption | (simp only [sigSub64, sub64Post, List.cons.injEq, DV.b.injEq, and_true, List.length_cons, List.length_nil]; done) | ((try simp only [sigSub64, sub64Post, List.cons.injEq, DV.b.injEq, and_true, List.length_cons, List.length_nil]); first | omega | assumption | grind)
  refine all_i fun n4 => ?_
  refine imp_i fun h9 => ?_
  refine imp_i fun h10 => ?_
  refine all_i fun n5 => ?_
  refine imp_i fun h11 => ?_
  refine imp_i fun h12 => ?_
  refine imp_i fun h13 => ?_
  try simp only [sigSub64, sub64Post, List.cons.injEq, DV.b.injEq, and_true, List.length_cons, List.length_nil] at h13
  refine all_i fun n6 => ?_
  refine imp_i fun h14 => ?_
  simp only [wrap_i64] at h14
  refine imp_i fun h15 => ?_
  refine imp_i fun h16 => ?_
  refine all_i fun n7 => ?_
  refine imp_i fun h17 => ?_
  simp only [wrap_i64] at h17
  refine imp_i fun h18 => ?_
  refine imp_i fun h19 => ?_
  refine bR_i (fun h20 => ?_) (fun h20 => ?_)
  ·
    simp only [bR_iff, bR_iff_f, dec_iff, dec_f, Bool.false_eq_true, Bool.true_eq_false, false_implies, imp_false, and_true, true_and, implies_true, Classical.not_not] at h20
    refine bR_i (fun h21 => ?_) (fun h21 => ?_)
    ·
      simp only [bR_iff, bR_iff_f, dec_iff, dec_f, Bool.false_eq_true, Bool.true_eq_false, false_implies, imp_false, and_true, true_and, implies_true, Classical.not_not] at h21
      refine req_i ?_ ?_
      · -- r5
        first | omega | ((try simp only [sigMinus, minusPost, List.cons.injEq, DV.b.injEq, and_true, List.length_cons, List.length_nil]); first | done | omega | assumption | grind [getD_set, getD_rep, toNat_succ, cntN_yes, cntN_no])
      rfl
    ·
      simp only [bR_iff, bR_iff_f, dec_iff, dec_f, Bool.false_eq_true, Bool.true_eq_false, false_implies, imp_false, and_true, true_and, implies_true, Classical.not_not] at h21
      refine req_i ?_ ?_
      · -- r6
        first | omega | assumption | grind
      refine req_i ?_ ?_
      · -- r7
        first | omega | assumption | grind
      refine req_i ?_ ?_
      · -- r8
        first | omega | assumption | grind
      refine req_i ?_ ?_
      · -- r9
        first | omega | assumption | grind
      refine req_i ?_ ?_
      · -- r10
        first | omega | ((try simp only [sigMinus, minusPost, List.cons.injEq, DV.b.injEq, and_true, List.length_cons, List.length_nil]); first | done | omega | assumption | grind [getD_set, getD_rep, toNat_succ, cntN_yes, cntN_no])
      rfl
  ·
    simp only [bR_iff, bR_iff_f, dec_iff, dec_f, Bool.false_eq_true, Bool.true_eq_false, false_implies, imp_false, and_true, true_and, implies_true, Classical.not_not] at h20
    refine req_i ?_ ?_
    · -- r11
      first | omega | assumption | grind
    refine req_i ?_ ?_
    · -- r12
      first | omega | assumption | grind
    refine req_i ?_ ?_
    · -- r13
      first | omega | assumption | grind
    refine req_i ?_ ?_
    · -- r14
      first | omega | assumption | grind
    refine req_i ?_ ?_
    · -- r15
      first | omega | ((try simp only [sigMinus, minusPost, List.cons.injEq, DV.b.injEq, and_true, List.length_cons, List.length_nil]); first | done | omega | assumption | grind [getD_set, getD_rep, toNat_succ, cntN_yes, cntN_no])
    rfl
theorem ext_minus : ∀ p ∈ ([(55, Ext.ctr (ctOf sigSub64))] : List (Nat × Ext)), ExtRow Try.prog p.1 p.2 := by
  intro p hp
  simp only [List.mem_cons, List.not_mem_nil, or_false] at hp
  rcases hp with rfl
  · trivial
theorem cts_minus : CtsOk Try.prog [(55, Ext.ctr (ctOf sigSub64))] := ctsOk_of (cs := [(55, sigSub64)])
  (fun p hp => by
    simp only [List.mem_cons, List.not_mem_nil, or_false] at hp
    rcases hp with rfl
    · exact fn_sub64
)
  (fun f c h => by
    simp only [List.lookup_cons] at h
    repeat' split at h
    all_goals first | (cases h; done) | (rename_i e; have e := beq_iff_eq.1 e; subst e; cases h; exact ⟨_, by simp, rfl⟩))
theorem fn_minus : FnOk Try.prog 35 sigMinus [] := fn_sound (by kernel_rfl) ext_minus cts_minus names vt_minus
end Go.Proofs.Ytcddopooofdgcaa

namespace Go.Proofs.Ytcddopooofdgcaa
open Go.Ev Go.Sp
set_option maxRecDepth 100000
theorem vc_cmp : vcFn Try.prog [] noA [] 100 25 sigCmp = (allB fun n0 : Int => 
impB ((-9223372036854775808 : Int) ≤ n0) (
impB (n0 ≤ (9223372036854775807 : Int)) (
allB fun n1 : Int => 
impB ((0 : Int) ≤ n1) (
impB (n1 ≤ (18446744073709551615 : Int)) (
allB fun n2 : Int => 
impB ((-9223372036854775808 : Int) ≤ n2) (
impB (n2 ≤ (9223372036854775807 : Int)) (
allB fun n3 : Int => 
impB ((0 : Int) ≤ n3) (
impB (n3 ≤ (18446744073709551615 : Int)) (
impB (sigCmp.pre [DV.n n0, DV.n n1, DV.n n2, DV.n n3]) (
bR (dec (n0 ≠ n0)) (
 bR (dec (n2 ≠ n2)) (
  bR (dec (n1 ≠ n1)) (
   bR (dec (n3 ≠ n3)) (
    reqB (sigCmp.post [DV.n n0, DV.n n1, DV.n n2, DV.n n3] [DV.n (0 : Int)]) (
    true)) (
    reqB (sigCmp.post [DV.n n0, DV.n n1, DV.n n2, DV.n n3] [DV.n (-1 : Int)]) (
    true))) (
   bR (dec (n3 ≠ n3)) (
    reqB (sigCmp.post [DV.n n0, DV.n n1, DV.n n2, DV.n n3] [DV.n (1 : Int)]) (
    true)) (
    bR (dec (n1 < n3)) (
     reqB (sigCmp.post [DV.n n0, DV.n n1, DV.n n2, DV.n n3] [DV.n (-1 : Int)]) (
     true)) (
     bR (dec (n3 < n1)) (
      reqB (sigCmp.post [DV.n n0, DV.n n1, DV.n n2, DV.n n3] [DV.n (1 : Int)]) (
      true)) (
      reqB (sigCmp.post [DV.n n0, DV.n n1, DV.n n2, DV.n n3] [DV.n (0 : Int)]) (
      true)))))) (
  bR (dec (n1 ≠ n1)) (
   bR (dec (n3 ≠ n3)) (
    reqB (sigCmp.post [DV.n n0, DV.n n1, DV.n n2, DV.n n3] [DV.n (-1 : Int)]) (
    true)) (
    reqB (sigCmp.post [DV.n n0, DV.n n1, DV.n n2, DV.n n3] [DV.n (-1 : Int)]) (
    true))) (
   bR (dec (n3 ≠ n3)) (
    reqB (sigCmp.post [DV.n n0, DV.n n1, DV.n n2, DV.n n3] [DV.n (-1 : Int)]) (
    true)) (
    bR (dec (n1 < n3)) (
     reqB (sigCmp.post [DV.n n0, DV.n n1, DV.n n2, DV.n n3] [DV.n (-1 : Int)]) (
     true)) (
     bR (dec (n3 < n1)) (
      reqB (sigCmp.post [DV.n n0, DV.n n1, DV.n n2, DV.n n3] [DV.n (-1 : Int)]) (
      true)) (
      reqB (sigCmp.post [DV.n n0, DV.n n1, DV.n n2, DV.n n3] [DV.n (-1 : Int)]) (
      true))))))) (
 bR (dec (n2 ≠ n2)) (
  bR (dec (n1 ≠ n1)) (
   bR (dec (n3 ≠ n3)) (
    reqB (sigCmp.post [DV.n n0, DV.n n1, DV.n n2, DV.n n3] [DV.n (1 : Int)]) (
    true)) (
    reqB (sigCmp.post [DV.n n0, DV.n n1, DV.n n2, DV.n n3] [DV.n (1 : Int)]) (
    true))) (
   bR (dec (n3 ≠ n3)) (
    reqB (sigCmp.post [DV.n n0, DV.n n1, DV.n n2, DV.n n3] [DV.n (1 : Int)]) (
    true)) (
    bR (dec (n1 < n3)) (
     reqB (sigCmp.post [DV.n n0, DV.n n1, DV.n n2, DV.n n3] [DV.n (1 : Int)]) (
     true)) (
     bR (dec (n3 < n1)) (
      reqB (sigCmp.post [DV.n n0, DV.n n1, DV.n n2, DV.n n3] [DV.n (1 : Int)]) (
      true)) (
      reqB (sigCmp.post [DV.n n0, DV.n n1, DV.n n2, DV.n n3] [DV.n (1 : Int)]) (
      true)))))) (
  bR (dec (n0 < n2)) (
   bR (dec (n1 ≠ n1)) (
    bR (dec (n3 ≠ n3)) (
     reqB (sigCmp.post [DV.n n0, DV.n n1, DV.n n2, DV.n n3] [DV.n (-1 : Int)]) (
     true)) (
     reqB (sigCmp.post [DV.n n0, DV.n n1, DV.n n2, DV.n n3] [DV.n (-1 : Int)]) (
     true))) (
    bR (dec (n3 ≠ n3)) (
     reqB (sigCmp.post [DV.n n0, DV.n n1, DV.n n2, DV.n n3] [DV.n (-1 : Int)]) (
     true)) (
     bR (dec (n1 < n3)) (
      reqB (sigCmp.post [DV.n n0, DV.n n1, DV.n n2, DV.n n3] [DV.n (-1 : Int)]) (
      true)) (
      bR (dec (n3 < n1)) (
       reqB (sigCmp.post [DV.n n0, DV.n n1, DV.n n2, DV.n n3] [DV.n (-1 : Int)]) (
       true)) (
       reqB (sigCmp.post [DV.n n0, DV.n n1, DV.n n2, DV.n n3] [DV.n (-1 : Int)]) (
       true)))))) (
   bR (dec (n2 < n0)) (
    bR (dec (n1 ≠ n1)) (
     bR (dec (n3 ≠ n3)) (
      reqB (sigCmp.post [DV.n n0, DV.n n1, DV.n n2, DV.n n3] [DV.n (1 : Int)]) (
      true)) (
      reqB (sigCmp.post [DV.n n0, DV.n n1, DV.n n2, DV.n n3] [DV.n (1 : Int)]) (
      true))) (
     bR (dec (n3 ≠ n3)) (
      reqB (sigCmp.post [DV.n n0, DV.n n1, DV.n n2, DV.n n3] [DV.n (1 : Int)]) (
      true)) (
      bR (dec (n1 < n3)) (
       reqB (sigCmp.post [DV.n n0, DV.n n1, DV.n n2, DV.n n3] [DV.n (1 : Int)]) (
       true)) (
       bR (dec (n3 < n1)) (
        reqB (sigCmp.post [DV.n n0, DV.n n1, DV.n n2, DV.n n3] [DV.n (1 : Int)]) (
        true)) (
        reqB (sigCmp.post [DV.n n0, DV.n n1, DV.n n2, DV.n n3] [DV.n (1 : Int)]) (
        true)))))) (
    bR (dec (n1 ≠ n1)) (
     bR (dec (n3 ≠ n3)) (
      reqB (sigCmp.post [DV.n n0, DV.n n1, DV.n n2, DV.n n3] [DV.n (0 : Int)]) (
      true)) (
      reqB (sigCmp.post [DV.n n0, DV.n n1, DV.n n2, DV.n n3] [DV.n (-1 : Int)]) (
      true))) (
     bR (dec (n3 ≠ n3)) (
      reqB (sigCmp.post [DV.n n0, DV.n n1, DV.n n2, DV.n n3] [DV.n (1 : Int)]) (
      true)) (
      bR (dec (n1 < n3)) (
       reqB (sigCmp.post [DV.n n0, DV.n n1, DV.n n2, DV.n n3] [DV.n (-1 : Int)]) (
       true)) (
       bR (dec (n3 < n1)) (
        reqB (sigCmp.post [DV.n n0, DV.n n1, DV.n n2, DV.n n3] [DV.n (1 : Int)]) (
        true)) (
        reqB (sigCmp.post [DV.n n0, DV.n n1, DV.n n2, DV.n n3] [DV.n (0 : Int)]) (
        true))))))))))))))))))) := by kernel_rfl
set_option maxHeartbeats 8000000 in
theorem vt_cmp : vcFn Try.prog [] noA [] 100 25 sigCmp = true := by
  rw [vc_cmp]
  try simp only [Int.toNat_natCast, List.length_set, List.length_replicate, List.length_take, List.length_drop, List.length_append, List.length_cons, List.length_nil, Nat.min_self, List.take_take, lenCols_i, lenCols_b, List.drop_zero, List.take_length, Nat.add_eq, Nat.mul_eq, Nat.sub_eq, Nat.zero_add, Nat.sub_zero, Nat.mul_one]
  refine all_i fun n0 => ?_
  refine imp_i fun h0 => ?_
  refine imp_i fun h1 => ?_
  refine all_i fun n1 => ?_
  refine imp_i fun h2 => ?_
  refine imp_i fun h3 => ?_
  refine all_i fun n2 => ?_
  refine imp_i fun h4 => ?_
  refine imp_i fun h5 => ?_
  refine all_i fun n3 => ?_
  refine imp_i fun h6 => ?_
  refine imp_i fun h7 => ?_
  refine imp_i fun h8 => ?_
  try simp only [sigCmp, cmpPost, List.cons.injEq, DV.b.injEq, and_true, List.length_cons, List.length_nil] at h8
  refine bR_dec (fun h9 => ?_) (fun h9 => ?_)
  ·
    refine bR_dec (fun h10 => ?_) (fun h10 => ?_)
    ·
      refine bR_dec (fun h11 => ?_) (fun h11 => ?_)
      ·
        refine bR_dec (fun h12 => ?_) (fun h12 => ?_)
        ·
          refine req_i ?_ ?_
          · -- r0
            first | omega | ((try simp only [sigCmp, cmpPost, List.cons.injEq, DV.b.injEq, and_true, List.length_cons, List.length_nil]); first | done | omega | assumption | grind [getD_set, getD_rep, toNat_succ, cntN_yes, cntN_no])
          rfl
        ·
          refine req_i ?_ ?_
          · -- r1
            first | omega | ((try simp only [sigCmp, cmpPost, List.cons.injEq, DV.b.injEq, and_true, List.length_cons, List.length_nil]); first | done | omega | assumption | grind [getD_set, getD_rep, toNat_succ, cntN_yes, cntN_no])
          rfl
      ·
        refine bR_dec (fun h13 => ?_) (fun h13 => ?_)
        ·
          refine req_i ?_ ?_
          · -- r2
            first | omega | ((try simp only [sigCmp, cmpPost, List.cons.injEq, DV.b.injEq, and_true, List.length_cons, List.length_nil]); first | done | omega | assumption | grind [getD_set, getD_rep, toNat_succ, cntN_yes, cntN_no])
          rfl
        ·
          refine bR_dec (fun h14 => ?_) (fun h14 => ?_)
          ·
            refine req_i ?_ ?_
            · -- r3
              first | omega | ((try simp only [sigCmp, cmpPost, List.cons.injEq, DV.b.injEq, and_true, List.length_cons, List.length_nil]); first | done | omega | assumption | grind [getD_set, getD_rep, toNat_succ, cntN_yes, cntN_no])
            rfl
          ·
            refine bR_dec (fun h15 => ?_) (fun h15 => ?_)
            ·
              refine req_i ?_ ?_
              · -- r4
                first | omega | ((try simp only [sigCmp, cmpPost, List.cons.injEq, DV.b.injEq, and_true, List.length_cons, List.length_nil]); first | done | omega | assumption | grind [getD_set, getD_rep, toNat_succ, cntN_yes, cntN_no])
              rfl
            ·
              refine req_i ?_ ?_
              · -- r5
                first | omega | ((try simp only [sigCmp, cmpPost, List.cons.injEq, DV.b.injEq, and_true, List.length_cons, List.length_nil]); first | done | omega | assumption | grind [getD_set, getD_rep, toNat_succ, cntN_yes, cntN_no])
              rfl
    ·
      refine bR_dec (fun h16 => ?_) (fun h16 => ?_)
      ·
        refine bR_dec (fun h17 => ?_) (fun h17 => ?_)
        ·
          refine req_i ?_ ?_
          · -- r6
            first | omega | ((try simp only [sigCmp, cmpPost, List.cons.injEq, DV.b.injEq, and_true, List.length_cons, List.length_nil]); first | done | omega | assumption | grind [getD_set, getD_rep, toNat_succ, cntN_yes, cntN_no])
          rfl
        ·
          refine req_i ?_ ?_
          · -- r7
            first | omega | ((try simp only [sigCmp, cmpPost, List.cons.injEq, DV.b.injEq, and_true, List.length_cons, List.length_nil]); first | done | omega | assumption | grind [getD_set, getD_rep, toNat_succ, cntN_yes, cntN_no])
          rfl
      ·
        refine bR_dec (fun h18 => ?_) (fun h18 => ?_)
        ·
          refine req_i ?_ ?_
          · -- r8
            first | omega | ((try simp only [sigCmp, cmpPost, List.cons.injEq, DV.b.injEq, and_true, List.length_cons, List.length_nil]); first | done | omega | assumption | grind [getD_set, getD_rep, toNat_succ, cntN_yes, cntN_no])
          rfl
        ·
          refine bR_dec (fun h19 => ?_) (fun h19 => ?_)
          ·
            refine req_i ?_ ?_
            · -- r9
              first | omega | ((try simp only [sigCmp, cmpPost, List.cons.injEq, DV.b.injEq, and_true, List.length_cons, List.length_nil]); first | done | omega | assumption | grind [getD_set, getD_rep, toNat_succ, cntN_yes, cntN_no])
            rfl
          ·
            refine bR_dec (fun h20 => ?_) (fun h20 => ?_)
            ·
              refine req_i ?_ ?_
              · -- r10
                first | omega | ((try simp only [sigCmp, cmpPost, List.cons.injEq, DV.b.injEq, and_true, List.length_cons, List.length_nil]); first | done | omega | assumption | grind [getD_set, getD_rep, toNat_succ, cntN_yes, cntN_no])
              rfl
            ·
              refine req_i ?_ ?_
              · -- r11
                first | omega | ((try simp only [sigCmp, cmpPost, List.cons.injEq, DV.b.injEq, and_true, List.length_cons, List.length_nil]); first | done | omega | assumption | grind [getD_set, getD_rep, toNat_succ, cntN_yes, cntN_no])
              rfl
  ·
    refine bR_dec (fun h21 => ?_) (fun h21 => ?_)
    ·
      refine bR_dec (fun h22 => ?_) (fun h22 => ?_)
      ·
        refine bR_dec (fun h23 => ?_) (fun h23 => ?_)
        ·
          refine req_i ?_ ?_
          · -- r12
            first | omega | ((try simp only [sigCmp, cmpPost, List.cons.injEq, DV.b.injEq, and_true, List.length_cons, List.length_nil]); first | done | omega | assumption | grind [getD_set, getD_rep, toNat_succ, cntN_yes, cntN_no])
          rfl
        ·
          refine req_i ?_ ?_
          · -- r13
            first | omega | ((try simp only [sigCmp, cmpPost, List.cons.injEq, DV.b.injEq, and_true, List.length_cons, List.length_nil]); first | done | omega | assumption | grind [getD_set, getD_rep, toNat_succ, cntN_yes, cntN_no])
          rfl
      ·
        refine bR_dec (fun h24 => ?_) (fun h24 => ?_)
        ·
          refine req_i ?_ ?_
          · -- r14
            first | omega | ((try simp only [sigCmp, cmpPost, List.cons.injEq, DV.b.injEq, and_true, List.length_cons, List.length_nil]); first | done | omega | assumption | grind [getD_set, getD_rep, toNat_succ, cntN_yes, cntN_no])
          rfl
        ·
          refine bR_dec (fun h25 => ?_) (fun h25 => ?_)
          ·
            refine req_i ?_ ?_
            · -- r15
              first | omega | ((try simp only [sigCmp, cmpPost, List.cons.injEq, DV.b.injEq, and_true, List.length_cons, List.length_nil]); first | done | omega | assumption | grind [getD_set, getD_rep, toNat_succ, cntN_yes, cntN_no])
            rfl
          ·
            refine bR_dec (fun h26 => ?_) (fun h26 => ?_)
            ·
              refine req_i ?_ ?_
              · -- r16
                first | omega | ((try simp only [sigCmp, cmpPost, List.cons.injEq, DV.b.injEq, and_true, List.length_cons, List.length_nil]); first | done | omega | assumption | grind [getD_set, getD_rep, toNat_succ, cntN_yes, cntN_no])
              rfl
            ·
              refine req_i ?_ ?_
              · -- r17
                first | omega | ((try simp only [sigCmp, cmpPost, List.cons.injEq, DV.b.injEq, and_true, List.length_cons, List.length_nil]); first | done | omega | assumption | grind [getD_set, getD_rep, toNat_succ, cntN_yes, cntN_no])
              rfl
    ·
      refine bR_dec (fun h27 => ?_) (fun h27 => ?_)
      ·
        refine bR_dec (fun h28 => ?_) (fun h28 => ?_)
        ·
          refine bR_dec (fun h29 => ?_) (fun h29 => ?_)
          ·
            refine req_i ?_ ?_
            · -- r18
              first | omega | ((try simp only [sigCmp, cmpPost, List.cons.injEq, DV.b.injEq, and_true, List.length_cons, List.length_nil]); first | done | omega | assumption | grind [getD_set, getD_rep, toNat_succ, cntN_yes, cntN_no])
            rfl
          ·
            refine req_i ?_ ?_
            · -- r19
              first | omega | ((try simp only [sigCmp, cmpPost, List.cons.injEq, DV.b.injEq, and_true, List.length_cons, List.length_nil]); first | done | omega | assumption | grind [getD_set, getD_rep, toNat_succ, cntN_yes, cntN_no])
            rfl
        ·
          refine bR_dec (fun h30 => ?_) (fun h30 => ?_)
          ·
            refine req_i ?_ ?_
            · -- r20
              first | omega | ((try simp only [sigCmp, cmpPost, List.cons.injEq, DV.b.injEq, and_true, List.length_cons, List.length_nil]); first | done | omega | assumption | grind [getD_set, getD_rep, toNat_succ, cntN_yes, cntN_no])
            rfl
          ·
            refine bR_dec (fun h31 => ?_) (fun h31 => ?_)
            ·
              refine req_i ?_ ?_
              · -- r21
                first | omega | ((try simp only [sigCmp, cmpPost, List.cons.injEq, DV.b.injEq, and_true, List.length_cons, List.length_nil]); first | done | omega | assumption | grind [getD_set, getD_rep, toNat_succ, cntN_yes, cntN_no])
              rfl
            ·
              refine bR_dec (fun h32 => ?_) (fun h32 => ?_)
              ·
                refine req_i ?_ ?_
                · -- r22
                  first | omega | ((try simp only [sigCmp, cmpPost, List.cons.injEq, DV.b.injEq, and_true, List.length_cons, List.length_nil]); first | done | omega | assumption | grind [getD_set, getD_rep, toNat_succ, cntN_yes, cntN_no])
                rfl
              ·
                refine req_i ?_ ?_
                · -- r23
                  first | omega | ((try simp only [sigCmp, cmpPost, List.cons.injEq, DV.b.injEq, and_true, List.length_cons, List.length_nil]); first | done | omega | assumption | grind [getD_set, getD_rep, toNat_succ, cntN_yes, cntN_no])
                rfl
      ·
        refine bR_dec (fun h33 => ?_) (fun h33 => ?_)
        ·
          refine bR_dec (fun h34 => ?_) (fun h34 => ?_)
          ·
            refine bR_dec (fun h35 => ?_) (fun h35 => ?_)
            ·
              refine req_i ?_ ?_
              · -- r24
                first | omega | ((try simp only [sigCmp, cmpPost, List.cons.injEq, DV.b.injEq, and_true, List.length_cons, List.length_nil]); first | done | omega | assumption | grind [getD_set, getD_rep, toNat_succ, cntN_yes, cntN_no])
              rfl
            ·
              refine req_i ?_ ?_
              · -- r25
                first | omega | ((try simp only [sigCmp, cmpPost, List.cons.injEq, DV.b.injEq, and_true, List.length_cons, List.length_nil]); first | done | omega | assumption | grind [getD_set, getD_rep, toNat_succ, cntN_yes, cntN_no])
              rfl
          ·
            refine bR_dec (fun h36 => ?_) (fun h36 => ?_)
            ·
              refine req_i ?_ ?_
              · -- r26
                first | omega | ((try simp only [sigCmp, cmpPost, List.cons.injEq, DV.b.injEq, and_true, List.length_cons, List.length_nil]); first | done | omega | assumption | grind [getD_set, getD_rep, toNat_succ, cntN_yes, cntN_no])
              rfl
            ·
              refine bR_dec (fun h37 => ?_) (fun h37 => ?_)
              ·
                refine req_i ?_ ?_
                · -- r27
                  first | omega | ((try simp only [sigCmp, cmpPost, List.cons.injEq, DV.b.injEq, and_true, List.length_cons, List.length_nil]); first | done | omega | assumption | grind [getD_set, getD_rep, toNat_succ, cntN_yes, cntN_no])
                rfl
              ·
                refine bR_dec (fun h38 => ?_) (fun h38 => ?_)
                ·
                  refine req_i ?_ ?_
                  · -- r28
                    first | omega | ((try simp only [sigCmp, cmpPost, List.cons.injEq, DV.b.injEq, and_true, List.length_cons, List.length_nil]); first | done | omega | assumption | grind [getD_set, getD_rep, toNat_succ, cntN_yes, cntN_no])
                  rfl
                ·
                  refine req_i ?_ ?_
                  · -- r29
                    first | omega | ((try simp only [sigCmp, cmpPost, List.cons.injEq, DV.b.injEq, and_true, List.length_cons, List.length_nil]); first | done | omega | assumption | grind [getD_set, getD_rep, toNat_succ, cntN_yes, cntN_no])
                  rfl
        ·
          refine bR_dec (fun h39 => ?_) (fun h39 => ?_)
          ·
            refine bR_dec (fun h40 => ?_) (fun h40 => ?_)
            ·
              refine req_i ?_ ?_
              · -- r30
                first | omega | ((try simp only [sigCmp, cmpPost, List.cons.injEq, DV.b.injEq, and_true, List.length_cons, List.length_nil]); first | done | omega | assumption | grind [getD_set, getD_rep, toNat_succ, cntN_yes, cntN_no])
              rfl
            ·
              refine req_i ?_ ?_
              · -- r31
                first | omega | ((try simp only [sigCmp, cmpPost, List.cons.injEq, DV.b.injEq, and_true, List.length_cons, List.length_nil]); first | done | omega | assumption | grind [getD_set, getD_rep, toNat_succ, cntN_yes, cntN_no])
              rfl
          ·
            refine bR_dec (fun h41 => ?_) (fun h41 => ?_)
            ·
              refine req_i ?_ ?_
              · -- r32
                first | omega | ((try simp only [sigCmp, cmpPost, List.cons.injEq, DV.b.injEq, and_true, List.length_cons, List.length_nil]); first | done | omega | assumption | grind [getD_set, getD_rep, toNat_succ, cntN_yes, cntN_no])
              rfl
            ·
              refine bR_dec (fun h42 => ?_) (fun h42 => ?_)
              ·
                refine req_i ?_ ?_
                · -- r33
                  first | omega | ((try simp only [sigCmp, cmpPost, List.cons.injEq, DV.b.injEq, and_true, List.length_cons, List.length_nil]); first | done | omega | assumption | grind [getD_set, getD_rep, toNat_succ, cntN_yes, cntN_no])
                rfl
              ·
                refine bR_dec (fun h43 => ?_) (fun h43 => ?_)
                ·
                  refine req_i ?_ ?_
                  · -- r34
                    first | omega | ((try simp only [sigCmp, cmpPost, List.cons.injEq, DV.b.injEq, and_true, List.length_cons, List.length_nil]); first | done | omega | assumption | grind [getD_set, getD_rep, toNat_succ, cntN_yes, cntN_no])
                  rfl
                ·
                  refine req_i ?_ ?_
                  · -- r35
                    first | omega | ((try simp only [sigCmp, cmpPost, List.cons.injEq, DV.b.injEq, and_true, List.length_cons, List.length_nil]); first | done | omega | assumption | grind [getD_set, getD_rep, toNat_succ, cntN_yes, cntN_no])
                  rfl
theorem ext_cmp : ∀ p ∈ ([] : List (Nat × Ext)), ExtRow Try.prog p.1 p.2 := by
  intro p hp
  cases hp
theorem cts_cmp : CtsOk Try.prog [] := fun f c h => by cases h
theorem fn_cmp : FnOk Try.prog 25 sigCmp [] := fn_sound (by kernel_rfl) ext_cmp cts_cmp names vt_cmp
end Go.Proofs.Ytcddopooofdgcaa

namespace Go.Proofs.Ytcddopooofdgcaa
open Go.Ev Go.Sp
set_option maxRecDepth 100000
theorem vc_narrow : vcFn Try.prog [] tab [] 100 21 sigNar = (allB fun n0 : Int => 
impB ((-9223372036854775808 : Int) ≤ n0) (
impB (n0 ≤ (9223372036854775807 : Int)) (
allB fun n1 : Int => 
impB ((0 : Int) ≤ n1) (
impB (n1 ≤ (18446744073709551615 : Int)) (
impB (sigNar.pre [DV.n n0, DV.n n1]) (
allB fun n2 : Int => 
impB (n2 = Go.IntKind.i64.wrap n1) (
impB (Int.negSucc (9223372036854775807 : Nat) ≤ n2) (
impB (n2 ≤ Int.ofNat (9223372036854775807 : Nat)) (
bR (dec (n0 ≠ n2 / Int.ofNat (9223372036854775808 : Nat))) (
 reqB (sigNar.post [DV.n n0, DV.n n1] [DV.n (0 : Int), DV.n (5 : Int)]) (
 true)) (
 allB fun n3 : Int => 
 impB (n3 = Go.IntKind.i64.wrap n1) (
 impB (Int.negSucc (9223372036854775807 : Nat) ≤ n3) (
 impB (n3 ≤ Int.ofNat (9223372036854775807 : Nat)) (
 reqB ((-9223372036854775808 : Int) ≤ n3) (
 reqB (n3 ≤ (9223372036854775807 : Int)) (
 reqB (sigNar.post [DV.n n0, DV.n n1] [DV.n n3, DV.n (0 : Int)]) (
 true)))))))))))))))) := by kernel_rfl
set_option maxHeartbeats 8000000 in
theorem vt_narrow : vcFn Try.prog [] tab [] 100 21 sigNar = true := by
  rw [vc_narrow]
  try simp only [Int.toNat_natCast, List.length_set, List.length_replicate, List.length_take, List.length_drop, List.length_append, List.length_cons, List.length_nil, Nat.min_self, List.take_take, lenCols_i, lenCols_b, List.drop_zero, List.take_length, Nat.add_eq, Nat.mul_eq, Nat.sub_eq, Nat.zero_add, Nat.sub_zero, Nat.mul_one]
  refine all_i fun n0 => ?_
  refine imp_i fun h0 => ?_
  refine imp_i fun h1 => ?_
  refine all_i fun n1 => ?_
  refine imp_i fun h2 => ?_
  refine imp_i fun h3 => ?_
  refine imp_i fun h4 => ?_
  try simp only [sigNar, narPost, List.cons.injEq, DV.b.injEq, and_true, List.length_cons, List.length_nil] at h4
  refine all_i fun n2 => ?_
  refine imp_i fun h5 => ?_
  simp only [wrap_i64] at h5
  refine imp_i fun h6 => ?_
  refine imp_i fun h7 => ?_
  refine bR_dec (fun h8 => ?_) (fun h8 => ?_)
  ·
    refine req_i ?_ ?_
    · -- r0
      first | omega | ((try simp only [sigNar, narPost, List.cons.injEq, DV.b.injEq, and_true, List.length_cons, List.length_nil]); first | done | omega | assumption | grind [getD_set, getD_rep, toNat_succ, cntN_yes, cntN_no])
    rfl
  ·
    refine all_i fun n3 => ?_
    refine imp_i fun h9 => ?_
    simp only [wrap_i64] at h9
    refine imp_i fun h10 => ?_
    refine imp_i fun h11 => ?_
    refine req_i ?_ ?_
    · -- r1
      first | omega | assumption | grind
    refine req_i ?_ ?_
    · -- r2
      first | omega | assumption | grind
    refine req_i ?_ ?_
    · -- r3
      first | omega | ((try simp only [sigNar, narPost, List.cons.injEq, DV.b.injEq, and_true, List.length_cons, List.length_nil]); first | done | omega | assumption | grind [getD_set, getD_rep, toNat_succ, cntN_yes, cntN_no])
    rfl
theorem ext_narrow : ∀ p ∈ ([] : List (Nat × Ext)), ExtRow Try.prog p.1 p.2 := by
  intro p hp
  cases hp
theorem cts_narrow : CtsOk Try.prog [] := fun f c h => by cases h
theorem fn_narrow : FnOk Try.prog 21 sigNar [] := fn_sound (by kernel_rfl) ext_narrow cts_narrow names vt_narrow
end Go.Proofs.Ytcddopooofdgcaa

namespace Go.Proofs.Ytcddopooofdgcaa
open Go.Ev Go.Sp
set_option maxRecDepth 100000
theorem vc_FixedWideRing : vcFn Try.prog [(10, Ext.ctr (ctOf sigTrue0)), (24, Ext.ctr (ctOf sigProd)), (22, Ext.ctr (ctOf sigPlus)), (35, Ext.ctr (ctOf sigMinus)), (25, Ext.ctr (ctOf sigCmp)), (21, Ext.ctr (ctOf sigNar))] tab [] 100 9 sigL3 = (allB fun n0 : Int => 
impB ((-9223372036854775808 : Int) ≤ n0) (
impB (n0 ≤ (9223372036854775807 : Int)) (
allB fun n1 : Int => 
impB ((-9223372036854775808 : Int) ≤ n1) (
impB (n1 ≤ (9223372036854775807 : Int)) (
allB fun n2 : Int => 
impB ((-9223372036854775808 : Int) ≤ n2) (
impB (n2 ≤ (9223372036854775807 : Int)) (
impB (sigL3.pre [DV.n n0, DV.n n1, DV.n n2]) (
reqB ((-9223372036854775808 : Int) ≤ n0) (
reqB (n0 ≤ (9223372036854775807 : Int)) (
reqB ((-9223372036854775808 : Int) ≤ n1.tdiv (2 : Int)) (
reqB (n1.tdiv (2 : Int) ≤ (9223372036854775807 : Int)) (
reqB (sigProd.pre [DV.n n0, DV.n (n1.tdiv (2 : Int))]) (
allB fun n3 : Int => 
impB ((-9223372036854775808 : Int) ≤ n3) (
impB (n3 ≤ (9223372036854775807 : Int)) (
allB fun n4 : Int => 
impB ((0 : Int) ≤ n4) (
impB (n4 ≤ (18446744073709551615 : Int)) (
impB (sigProd.post [DV.n n0, DV.n (n1.tdiv (2 : Int))] [DV.n n3, DV.n n4]) (
reqB ((-9223372036854775808 : Int) ≤ n0) (
reqB (n0 ≤ (9223372036854775807 : Int)) (
reqB ((-9223372036854775808 : Int) ≤ n2.tdiv (2 : Int)) (
reqB (n2.tdiv (2 : Int) ≤ (9223372036854775807 : Int)) (
reqB (sigProd.pre [DV.n n0, DV.n (n2.tdiv (2 : Int))]) (
allB fun n5 : Int => 
impB ((-9223372036854775808 : Int) ≤ n5) (
impB (n5 ≤ (9223372036854775807 : Int)) (
allB fun n6 : Int => 
impB ((0 : Int) ≤ n6) (
impB (n6 ≤ (18446744073709551615 : Int)) (
impB (sigProd.post [DV.n n0, DV.n (n2.tdiv (2 : Int))] [DV.n n5, DV.n n6]) (
reqB ((-9223372036854775808 : Int) ≤ n3) (
reqB (n3 ≤ (9223372036854775807 : Int)) (
reqB ((0 : Int) ≤ n4) (
reqB (n4 ≤ (18446744073709551615 : Int)) (
reqB ((-9223372036854775808 : Int) ≤ n5) (
reqB (n5 ≤ (9223372036854775807 : Int)) (
reqB ((0 : Int) ≤ n6) (
reqB (n6 ≤ (18446744073709551615 : Int)) (
reqB (sigPlus.pre [DV.n n3, DV.n n4, DV.n n5, DV.n n6]) (
allB fun n7 : Int => 
impB ((-9223372036854775808 : Int) ≤ n7) (
impB (n7 ≤ (9223372036854775807 : Int)) (
allB fun n8 : Int => 
impB ((0 : Int) ≤ n8) (
impB (n8 ≤ (18446744073709551615 : Int)) (
allB fun n9 : Int => 
impB ((0 : Int) ≤ n9) (
impB (n9 ≤ (18 : Int)) (
impB (sigPlus.post [DV.n n3, DV.n n4, DV.n n5, DV.n n6]
  [DV.n n7, DV.n n8, DV.n n9]) (
reqB ((-9223372036854775808 : Int) ≤ n7) (
reqB (n7 ≤ (9223372036854775807 : Int)) (
reqB ((0 : Int) ≤ n8) (
reqB (n8 ≤ (18446744073709551615 : Int)) (
reqB ((-9223372036854775808 : Int) ≤ n5) (
reqB (n5 ≤ (9223372036854775807 : Int)) (
reqB ((0 : Int) ≤ n6) (
reqB (n6 ≤ (18446744073709551615 : Int)) (
reqB (sigMinus.pre [DV.n n7, DV.n n8, DV.n n5, DV.n n6]) (
allB fun n10 : Int => 
impB ((-9223372036854775808 : Int) ≤ n10) (
impB (n10 ≤ (9223372036854775807 : Int)) (
allB fun n11 : Int => 
impB ((0 : Int) ≤ n11) (
impB (n11 ≤ (18446744073709551615 : Int)) (
allB fun n12 : Int => 
impB ((0 : Int) ≤ n12) (
impB (n12 ≤ (18 : Int)) (
impB (sigMinus.post [DV.n n7, DV.n n8, DV.n n5, DV.n n6]
  [DV.n n10, DV.n n11, DV.n n12]) (
reqB ((-9223372036854775808 : Int) ≤ n0) (
reqB (n0 ≤ (9223372036854775807 : Int)) (
reqB (sigProd.pre [DV.n n0, DV.n (1 : Int)]) (
allB fun n13 : Int => 
impB ((-9223372036854775808 : Int) ≤ n13) (
impB (n13 ≤ (9223372036854775807 : Int)) (
allB fun n14 : Int => 
impB ((0 : Int) ≤ n14) (
impB (n14 ≤ (18446744073709551615 : Int)) (
impB (sigProd.post [DV.n n0, DV.n (1 : Int)] [DV.n n13, DV.n n14]) (
reqB ((-9223372036854775808 : Int) ≤ n13) (
reqB (n13 ≤ (9223372036854775807 : Int)) (
reqB ((0 : Int) ≤ n14) (
reqB (n14 ≤ (18446744073709551615 : Int)) (
reqB (sigNar.pre [DV.n n13, DV.n n14]) (
allB fun n15 : Int => 
impB ((-9223372036854775808 : Int) ≤ n15) (
impB (n15 ≤ (9223372036854775807 : Int)) (
allB fun n16 : Int => 
impB ((0 : Int) ≤ n16) (
impB (n16 ≤ (18 : Int)) (
impB (sigNar.post [DV.n n13, DV.n n14] [DV.n n15, DV.n n16]) (
reqB ((-9223372036854775808 : Int) ≤ n1.tdiv (2 : Int)) (
reqB (n1.tdiv (2 : Int) ≤ (9223372036854775807 : Int)) (
reqB (sigProd.pre [DV.n (n1.tdiv (2 : Int)), DV.n (1 : Int)]) (
allB fun n17 : Int => 
impB ((-9223372036854775808 : Int) ≤ n17) (
impB (n17 ≤ (9223372036854775807 : Int)) (
allB fun n18 : Int => 
impB ((0 : Int) ≤ n18) (
impB (n18 ≤ (18446744073709551615 : Int)) (
impB (sigProd.post [DV.n (n1.tdiv (2 : Int)), DV.n (1 : Int)] [DV.n n17, DV.n n18]) (
reqB ((-9223372036854775808 : Int) ≤ n2.tdiv (2 : Int)) (
reqB (n2.tdiv (2 : Int) ≤ (9223372036854775807 : Int)) (
reqB (sigProd.pre [DV.n (n2.tdiv (2 : Int)), DV.n (1 : Int)]) (
allB fun n19 : Int => 
impB ((-9223372036854775808 : Int) ≤ n19) (
impB (n19 ≤ (9223372036854775807 : Int)) (
allB fun n20 : Int => 
impB ((0 : Int) ≤ n20) (
impB (n20 ≤ (18446744073709551615 : Int)) (
impB (sigProd.post [DV.n (n2.tdiv (2 : Int)), DV.n (1 : Int)] [DV.n n19, DV.n n20]) (
reqB ((-9223372036854775808 : Int) ≤ n17) (
reqB (n17 ≤ (9223372036854775807 : Int)) (
reqB ((0 : Int) ≤ n18) (
reqB (n18 ≤ (18446744073709551615 : Int)) (
reqB ((-9223372036854775808 : Int) ≤ n19) (
reqB (n19 ≤ (9223372036854775807 : Int)) (
reqB ((0 : Int) ≤ n20) (
reqB (n20 ≤ (18446744073709551615 : Int)) (
reqB (sigMinus.pre [DV.n n17, DV.n n18, DV.n n19, DV.n n20]) (
allB fun n21 : Int => 
impB ((-9223372036854775808 : Int) ≤ n21) (
impB (n21 ≤ (9223372036854775807 : Int)) (
allB fun n22 : Int => 
impB ((0 : Int) ≤ n22) (
impB (n22 ≤ (18446744073709551615 : Int)) (
allB fun n23 : Int => 
impB ((0 : Int) ≤ n23) (
impB (n23 ≤ (18 : Int)) (
impB (sigMinus.post [DV.n n17, DV.n n18, DV.n n19, DV.n n20]
  [DV.n n21, DV.n n22, DV.n n23]) (
bR (dec (n1.tdiv (2 : Int) < n2.tdiv (2 : Int))) (
 reqB (sigTrue0.pre []) (
 allB fun b24 : Bool => 
 impB (sigTrue0.post [] [DV.b b24]) (
 bR (bR (b24) (
  false) (
  true)) (
  reqB (sigL3.post [DV.n n0, DV.n n1, DV.n n2] [DV.b Bool.false]) (
  true)) (
  bR (dec (n9 ≠ (0 : Int))) (
   reqB (sigL3.post [DV.n n0, DV.n n1, DV.n n2] [DV.b Bool.false]) (
   true)) (
   bR (dec (n12 ≠ (0 : Int))) (
    reqB (sigL3.post [DV.n n0, DV.n n1, DV.n n2] [DV.b Bool.false]) (
    true)) (
    bR (dec (n16 ≠ (0 : Int))) (
     reqB (sigL3.post [DV.n n0, DV.n n1, DV.n n2] [DV.b Bool.false]) (
     true)) (
     bR (dec (n23 ≠ (0 : Int))) (
      reqB (sigL3.post [DV.n n0, DV.n n1, DV.n n2] [DV.b Bool.false]) (
      true)) (
      reqB ((-9223372036854775808 : Int) ≤ n0) (
      reqB (n0 ≤ (9223372036854775807 : Int)) (
      reqB ((-9223372036854775808 : Int) ≤ n1.tdiv (2 : Int) + n2.tdiv (2 : Int)) (
      reqB (n1.tdiv (2 : Int) + n2.tdiv (2 : Int) ≤ (9223372036854775807 : Int)) (
      reqB (sigProd.pre [DV.n n0, DV.n (n1.tdiv (2 : Int) + n2.tdiv (2 : Int))]) (
      allB fun n25 : Int => 
      impB ((-9223372036854775808 : Int) ≤ n25) (
      impB (n25 ≤ (9223372036854775807 : Int)) (
      allB fun n26 : Int => 
      impB ((0 : Int) ≤ n26) (
      impB (n26 ≤ (18446744073709551615 : Int)) (
      impB (sigProd.post [DV.n n0, DV.n (n1.tdiv (2 : Int) + n2.tdiv (2 : Int))] [DV.n n25, DV.n n26]) (
      bR (bR (bR (dec (n7 = n25)) (
       bR (dec (n8 = n26)) (
        true) (
        false)) (
       false)) (
       false) (
       true)) (
       reqB (sigL3.post [DV.n n0, DV.n n1, DV.n n2] [DV.b Bool.false]) (
       true)) (
       bR (bR (bR (dec (n10 = n3)) (
        bR (dec (n11 = n4)) (
         true) (
         false)) (
        false)) (
        false) (
        true)) (
        reqB (sigL3.post [DV.n n0, DV.n n1, DV.n n2] [DV.b Bool.false]) (
        true)) (
        bR (dec (n15 ≠ n0)) (
         reqB (sigL3.post [DV.n n0, DV.n n1, DV.n n2] [DV.b Bool.false]) (
         true)) (
         reqB ((-9223372036854775808 : Int) ≤ n1.tdiv (2 : Int)) (
         reqB (n1.tdiv (2 : Int) ≤ (9223372036854775807 : Int)) (
         reqB ((-9223372036854775808 : Int) ≤ n0) (
         reqB (n0 ≤ (9223372036854775807 : Int)) (
         reqB (sigProd.pre [DV.n (n1.tdiv (2 : Int)), DV.n n0]) (
         allB fun n27 : Int => 
         impB ((-9223372036854775808 : Int) ≤ n27) (
         impB (n27 ≤ (9223372036854775807 : Int)) (
         allB fun n28 : Int => 
         impB ((0 : Int) ≤ n28) (
         impB (n28 ≤ (18446744073709551615 : Int)) (
         impB (sigProd.post [DV.n (n1.tdiv (2 : Int)), DV.n n0] [DV.n n27, DV.n n28]) (
         bR (bR (bR (dec (n3 = n27)) (
          bR (dec (n4 = n28)) (
           true) (
           false)) (
          false)) (
          false) (
          true)) (
          reqB (sigL3.post [DV.n n0, DV.n n1, DV.n n2] [DV.b Bool.false]) (
          true)) (
          reqB ((-9223372036854775808 : Int) ≤ n1.tdiv (2 : Int)) (
          reqB (n1.tdiv (2 : Int) ≤ (9223372036854775807 : Int)) (
          reqB (sigProd.pre [DV.n (n1.tdiv (2 : Int)), DV.n (1 : Int)]) (
          allB fun n29 : Int => 
          impB ((-9223372036854775808 : Int) ≤ n29) (
          impB (n29 ≤ (9223372036854775807 : Int)) (
          allB fun n30 : Int => 
          impB ((0 : Int) ≤ n30) (
          impB (n30 ≤ (18446744073709551615 : Int)) (
          impB (sigProd.post [DV.n (n1.tdiv (2 : Int)), DV.n (1 : Int)] [DV.n n29, DV.n n30]) (
          reqB ((-9223372036854775808 : Int) ≤ n2.tdiv (2 : Int)) (
          reqB (n2.tdiv (2 : Int) ≤ (9223372036854775807 : Int)) (
          reqB (sigProd.pre [DV.n (n2.tdiv (2 : Int)), DV.n (1 : Int)]) (
          allB fun n31 : Int => 
          impB ((-9223372036854775808 : Int) ≤ n31) (
          impB (n31 ≤ (9223372036854775807 : Int)) (
          allB fun n32 : Int => 
          impB ((0 : Int) ≤ n32) (
          impB (n32 ≤ (18446744073709551615 : Int)) (
          impB (sigProd.post [DV.n (n2.tdiv (2 : Int)), DV.n (1 : Int)] [DV.n n31, DV.n n32]) (
          reqB ((-9223372036854775808 : Int) ≤ n29) (
          reqB (n29 ≤ (9223372036854775807 : Int)) (
          reqB ((0 : Int) ≤ n30) (
          reqB (n30 ≤ (18446744073709551615 : Int)) (
          reqB ((-9223372036854775808 : Int) ≤ n31) (
          reqB (n31 ≤ (9223372036854775807 : Int)) (
          reqB ((0 : Int) ≤ n32) (
          reqB (n32 ≤ (18446744073709551615 : Int)) (
          reqB (sigCmp.pre [DV.n n29, DV.n n30, DV.n n31, DV.n n32]) (
          allB fun n33 : Int => 
          impB ((-1 : Int) ≤ n33) (
          impB (n33 ≤ (1 : Int)) (
          impB (sigCmp.post [DV.n n29, DV.n n30, DV.n n31, DV.n n32] [DV.n n33]) (
          bR (dec (n33 = (-1 : Int))) (
           reqB ((-9223372036854775808 : Int) ≤ n21) (
           reqB (n21 ≤ (9223372036854775807 : Int)) (
           reqB ((0 : Int) ≤ n22) (
           reqB (n22 ≤ (18446744073709551615 : Int)) (
           reqB (sigCmp.pre [DV.n n21, DV.n n22, DV.n (0 : Int), DV.n (0 : Int)]) (
           allB fun n34 : Int => 
           impB ((-1 : Int) ≤ n34) (
           impB (n34 ≤ (1 : Int)) (
           impB (sigCmp.post [DV.n n21, DV.n n22, DV.n (0 : Int), DV.n (0 : Int)] [DV.n n34]) (
           reqB (sigL3.post [DV.n n0, DV.n n1, DV.n n2] [DV.b (dec (n34 = (-1 : Int)))]) (
           true)))))))))) (
           reqB (sigL3.post [DV.n n0, DV.n n1, DV.n n2] [DV.b Bool.false]) (
           true)))))))))))))))))))))))))))))))))))))))))))))))))))))))))))))) (
 bR (dec (n2.tdiv (2 : Int) < n1.tdiv (2 : Int))) (
  reqB (sigTrue0.pre []) (
  allB fun b35 : Bool => 
  impB (sigTrue0.post [] [DV.b b35]) (
  bR (bR (b35) (
   false) (
   true)) (
   reqB (sigL3.post [DV.n n0, DV.n n1, DV.n n2] [DV.b Bool.false]) (
   true)) (
   bR (dec (n9 ≠ (0 : Int))) (
    reqB (sigL3.post [DV.n n0, DV.n n1, DV.n n2] [DV.b Bool.false]) (
    true)) (
    bR (dec (n12 ≠ (0 : Int))) (
     reqB (sigL3.post [DV.n n0, DV.n n1, DV.n n2] [DV.b Bool.false]) (
     true)) (
     bR (dec (n16 ≠ (0 : Int))) (
      reqB (sigL3.post [DV.n n0, DV.n n1, DV.n n2] [DV.b Bool.false]) (
      true)) (
      bR (dec (n23 ≠ (0 : Int))) (
       reqB (sigL3.post [DV.n n0, DV.n n1, DV.n n2] [DV.b Bool.false]) (
       true)) (
       reqB ((-9223372036854775808 : Int) ≤ n0) (
       reqB (n0 ≤ (9223372036854775807 : Int)) (
       reqB ((-9223372036854775808 : Int) ≤ n1.tdiv (2 : Int) + n2.tdiv (2 : Int)) (
       reqB (n1.tdiv (2 : Int) + n2.tdiv (2 : Int) ≤ (9223372036854775807 : Int)) (
       reqB (sigProd.pre [DV.n n0, DV.n (n1.tdiv (2 : Int) + n2.tdiv (2 : Int))]) (
       allB fun n36 : Int => 
       impB ((-9223372036854775808 : Int) ≤ n36) (
       impB (n36 ≤ (9223372036854775807 : Int)) (
       allB fun n37 : Int => 
       impB ((0 : Int) ≤ n37) (
       impB (n37 ≤ (18446744073709551615 : Int)) (
       impB (sigProd.post [DV.n n0, DV.n (n1.tdiv (2 : Int) + n2.tdiv (2 : Int))] [DV.n n36, DV.n n37]) (
       bR (bR (bR (dec (n7 = n36)) (
        bR (dec (n8 = n37)) (
         true) (
         false)) (
        false)) (
        false) (
        true)) (
        reqB (sigL3.post [DV.n n0, DV.n n1, DV.n n2] [DV.b Bool.false]) (
        true)) (
        bR (bR (bR (dec (n10 = n3)) (
         bR (dec (n11 = n4)) (
          true) (
          false)) (
         false)) (
         false) (
         true)) (
         reqB (sigL3.post [DV.n n0, DV.n n1, DV.n n2] [DV.b Bool.false]) (
         true)) (
         bR (dec (n15 ≠ n0)) (
          reqB (sigL3.post [DV.n n0, DV.n n1, DV.n n2] [DV.b Bool.false]) (
          true)) (
          reqB ((-9223372036854775808 : Int) ≤ n1.tdiv (2 : Int)) (
          reqB (n1.tdiv (2 : Int) ≤ (9223372036854775807 : Int)) (
          reqB ((-9223372036854775808 : Int) ≤ n0) (
          reqB (n0 ≤ (9223372036854775807 : Int)) (
          reqB (sigProd.pre [DV.n (n1.tdiv (2 : Int)), DV.n n0]) (
          allB fun n38 : Int => 
          impB ((-9223372036854775808 : Int) ≤ n38) (
          impB (n38 ≤ (9223372036854775807 : Int)) (
          allB fun n39 : Int => 
          impB ((0 : Int) ≤ n39) (
          impB (n39 ≤ (18446744073709551615 : Int)) (
          impB (sigProd.post [DV.n (n1.tdiv (2 : Int)), DV.n n0] [DV.n n38, DV.n n39]) (
          bR (bR (bR (dec (n3 = n38)) (
           bR (dec (n4 = n39)) (
            true) (
            false)) (
           false)) (
           false) (
           true)) (
           reqB (sigL3.post [DV.n n0, DV.n n1, DV.n n2] [DV.b Bool.false]) (
           true)) (
           reqB ((-9223372036854775808 : Int) ≤ n1.tdiv (2 : Int)) (
           reqB (n1.tdiv (2 : Int) ≤ (9223372036854775807 : Int)) (
           reqB (sigProd.pre [DV.n (n1.tdiv (2 : Int)), DV.n (1 : Int)]) (
           allB fun n40 : Int => 
           impB ((-9223372036854775808 : Int) ≤ n40) (
           impB (n40 ≤ (9223372036854775807 : Int)) (
           allB fun n41 : Int => 
           impB ((0 : Int) ≤ n41) (
           impB (n41 ≤ (18446744073709551615 : Int)) (
           impB (sigProd.post [DV.n (n1.tdiv (2 : Int)), DV.n (1 : Int)] [DV.n n40, DV.n n41]) (
           reqB ((-9223372036854775808 : Int) ≤ n2.tdiv (2 : Int)) (
           reqB (n2.tdiv (2 : Int) ≤ (9223372036854775807 : Int)) (
           reqB (sigProd.pre [DV.n (n2.tdiv (2 : Int)), DV.n (1 : Int)]) (
           allB fun n42 : Int => 
           impB ((-9223372036854775808 : Int) ≤ n42) (
           impB (n42 ≤ (9223372036854775807 : Int)) (
           allB fun n43 : Int => 
           impB ((0 : Int) ≤ n43) (
           impB (n43 ≤ (18446744073709551615 : Int)) (
           impB (sigProd.post [DV.n (n2.tdiv (2 : Int)), DV.n (1 : Int)] [DV.n n42, DV.n n43]) (
           reqB ((-9223372036854775808 : Int) ≤ n40) (
           reqB (n40 ≤ (9223372036854775807 : Int)) (
           reqB ((0 : Int) ≤ n41) (
           reqB (n41 ≤ (18446744073709551615 : Int)) (
           reqB ((-9223372036854775808 : Int) ≤ n42) (
           reqB (n42 ≤ (9223372036854775807 : Int)) (
           reqB ((0 : Int) ≤ n43) (
           reqB (n43 ≤ (18446744073709551615 : Int)) (
           reqB (sigCmp.pre [DV.n n40, DV.n n41, DV.n n42, DV.n n43]) (
           allB fun n44 : Int => 
           impB ((-1 : Int) ≤ n44) (
           impB (n44 ≤ (1 : Int)) (
           impB (sigCmp.post [DV.n n40, DV.n n41, DV.n n42, DV.n n43] [DV.n n44]) (
           bR (dec (n44 = (1 : Int))) (
            reqB ((-9223372036854775808 : Int) ≤ n21) (
            reqB (n21 ≤ (9223372036854775807 : Int)) (
            reqB ((0 : Int) ≤ n22) (
            reqB (n22 ≤ (18446744073709551615 : Int)) (
            reqB (sigCmp.pre [DV.n n21, DV.n n22, DV.n (0 : Int), DV.n (0 : Int)]) (
            allB fun n45 : Int => 
            impB ((-1 : Int) ≤ n45) (
            impB (n45 ≤ (1 : Int)) (
            impB (sigCmp.post [DV.n n21, DV.n n22, DV.n (0 : Int), DV.n (0 : Int)] [DV.n n45]) (
            reqB (sigL3.post [DV.n n0, DV.n n1, DV.n n2] [DV.b (dec (n45 = (1 : Int)))]) (
            true)))))))))) (
            reqB (sigL3.post [DV.n n0, DV.n n1, DV.n n2] [DV.b Bool.false]) (
            true)))))))))))))))))))))))))))))))))))))))))))))))))))))))))))))) (
  reqB (sigTrue0.pre []) (
  allB fun b46 : Bool => 
  impB (sigTrue0.post [] [DV.b b46]) (
  bR (bR (b46) (
   false) (
   true)) (
   reqB (sigL3.post [DV.n n0, DV.n n1, DV.n n2] [DV.b Bool.false]) (
   true)) (
   bR (dec (n9 ≠ (0 : Int))) (
    reqB (sigL3.post [DV.n n0, DV.n n1, DV.n n2] [DV.b Bool.false]) (
    true)) (
    bR (dec (n12 ≠ (0 : Int))) (
     reqB (sigL3.post [DV.n n0, DV.n n1, DV.n n2] [DV.b Bool.false]) (
     true)) (
     bR (dec (n16 ≠ (0 : Int))) (
      reqB (sigL3.post [DV.n n0, DV.n n1, DV.n n2] [DV.b Bool.false]) (
      true)) (
      bR (dec (n23 ≠ (0 : Int))) (
       reqB (sigL3.post [DV.n n0, DV.n n1, DV.n n2] [DV.b Bool.false]) (
       true)) (
       reqB ((-9223372036854775808 : Int) ≤ n0) (
       reqB (n0 ≤ (9223372036854775807 : Int)) (
       reqB ((-9223372036854775808 : Int) ≤ n1.tdiv (2 : Int) + n2.tdiv (2 : Int)) (
       reqB (n1.tdiv (2 : Int) + n2.tdiv (2 : Int) ≤ (9223372036854775807 : Int)) (
       reqB (sigProd.pre [DV.n n0, DV.n (n1.tdiv (2 : Int) + n2.tdiv (2 : Int))]) (
       allB fun n47 : Int => 
       impB ((-9223372036854775808 : Int) ≤ n47) (
       impB (n47 ≤ (9223372036854775807 : Int)) (
       allB fun n48 : Int => 
       impB ((0 : Int) ≤ n48) (
       impB (n48 ≤ (18446744073709551615 : Int)) (
       impB (sigProd.post [DV.n n0, DV.n (n1.tdiv (2 : Int) + n2.tdiv (2 : Int))] [DV.n n47, DV.n n48]) (
       bR (bR (bR (dec (n7 = n47)) (
        bR (dec (n8 = n48)) (
         true) (
         false)) (
        false)) (
        false) (
        true)) (
        reqB (sigL3.post [DV.n n0, DV.n n1, DV.n n2] [DV.b Bool.false]) (
        true)) (
        bR (bR (bR (dec (n10 = n3)) (
         bR (dec (n11 = n4)) (
          true) (
          false)) (
         false)) (
         false) (
         true)) (
         reqB (sigL3.post [DV.n n0, DV.n n1, DV.n n2] [DV.b Bool.false]) (
         true)) (
         bR (dec (n15 ≠ n0)) (
          reqB (sigL3.post [DV.n n0, DV.n n1, DV.n n2] [DV.b Bool.false]) (
          true)) (
          reqB ((-9223372036854775808 : Int) ≤ n1.tdiv (2 : Int)) (
          reqB (n1.tdiv (2 : Int) ≤ (9223372036854775807 : Int)) (
          reqB ((-9223372036854775808 : Int) ≤ n0) (
          reqB (n0 ≤ (9223372036854775807 : Int)) (
          reqB (sigProd.pre [DV.n (n1.tdiv (2 : Int)), DV.n n0]) (
          allB fun n49 : Int => 
          impB ((-9223372036854775808 : Int) ≤ n49) (
          impB (n49 ≤ (9223372036854775807 : Int)) (
          allB fun n50 : Int => 
          impB ((0 : Int) ≤ n50) (
          impB (n50 ≤ (18446744073709551615 : Int)) (
          impB (sigProd.post [DV.n (n1.tdiv (2 : Int)), DV.n n0] [DV.n n49, DV.n n50]) (
          bR (bR (bR (dec (n3 = n49)) (
           bR (dec (n4 = n50)) (
            true) (
            false)) (
           false)) (
           false) (
           true)) (
           reqB (sigL3.post [DV.n n0, DV.n n1, DV.n n2] [DV.b Bool.false]) (
           true)) (
           reqB ((-9223372036854775808 : Int) ≤ n1.tdiv (2 : Int)) (
           reqB (n1.tdiv (2 : Int) ≤ (9223372036854775807 : Int)) (
           reqB (sigProd.pre [DV.n (n1.tdiv (2 : Int)), DV.n (1 : Int)]) (
           allB fun n51 : Int => 
           impB ((-9223372036854775808 : Int) ≤ n51) (
           impB (n51 ≤ (9223372036854775807 : Int)) (
           allB fun n52 : Int => 
           impB ((0 : Int) ≤ n52) (
           impB (n52 ≤ (18446744073709551615 : Int)) (
           impB (sigProd.post [DV.n (n1.tdiv (2 : Int)), DV.n (1 : Int)] [DV.n n51, DV.n n52]) (
           reqB ((-9223372036854775808 : Int) ≤ n2.tdiv (2 : Int)) (
           reqB (n2.tdiv (2 : Int) ≤ (9223372036854775807 : Int)) (
           reqB (sigProd.pre [DV.n (n2.tdiv (2 : Int)), DV.n (1 : Int)]) (
           allB fun n53 : Int => 
           impB ((-9223372036854775808 : Int) ≤ n53) (
           impB (n53 ≤ (9223372036854775807 : Int)) (
           allB fun n54 : Int => 
           impB ((0 : Int) ≤ n54) (
           impB (n54 ≤ (18446744073709551615 : Int)) (
           impB (sigProd.post [DV.n (n2.tdiv (2 : Int)), DV.n (1 : Int)] [DV.n n53, DV.n n54]) (
           reqB ((-9223372036854775808 : Int) ≤ n51) (
           reqB (n51 ≤ (9223372036854775807 : Int)) (
           reqB ((0 : Int) ≤ n52) (
           reqB (n52 ≤ (18446744073709551615 : Int)) (
           reqB ((-9223372036854775808 : Int) ≤ n53) (
           reqB (n53 ≤ (9223372036854775807 : Int)) (
           reqB ((0 : Int) ≤ n54) (
           reqB (n54 ≤ (18446744073709551615 : Int)) (
           reqB (sigCmp.pre [DV.n n51, DV.n n52, DV.n n53, DV.n n54]) (
           allB fun n55 : Int => 
           impB ((-1 : Int) ≤ n55) (
           impB (n55 ≤ (1 : Int)) (
           impB (sigCmp.post [DV.n n51, DV.n n52, DV.n n53, DV.n n54] [DV.n n55]) (
           bR (dec (n55 = (0 : Int))) (
            reqB ((-9223372036854775808 : Int) ≤ n21) (
            reqB (n21 ≤ (9223372036854775807 : Int)) (
            reqB ((0 : Int) ≤ n22) (
            reqB (n22 ≤ (18446744073709551615 : Int)) (
            reqB (sigCmp.pre [DV.n n21, DV.n n22, DV.n (0 : Int), DV.n (0 : Int)]) (
            allB fun n56 : Int => 
            impB ((-1 : Int) ≤ n56) (
            impB (n56 ≤ (1 : Int)) (
            impB (sigCmp.post [DV.n n21, DV.n n22, DV.n (0 : Int), DV.n (0 : Int)] [DV.n n56]) (
            reqB (sigL3.post [DV.n n0, DV.n n1, DV.n n2] [DV.b (dec (n56 = (0 : Int)))]) (
            true)))))))))) (
            reqB (sigL3.post [DV.n n0, DV.n n1, DV.n n2] [DV.b Bool.false]) (
            true))))))))))))))))))))))))))))))))))))))))))))))))))))))))))))))))))))))))))))))))))))))))))))))))))))))))))))))))))))))))))))))))))))))))))))))))))))))))))))))))))))))))))))) := by kernel_rfl
set_option maxHeartbeats 8000000 in
theorem vt_FixedWideRing : vcFn Try.prog [(10, Ext.ctr (ctOf sigTrue0)), (24, Ext.ctr (ctOf sigProd)), (22, Ext.ctr (ctOf sigPlus)), (35, Ext.ctr (ctOf sigMinus)), (25, Ext.ctr (ctOf sigCmp)), (21, Ext.ctr (ctOf sigNar))] tab [] 100 9 sigL3 = true := by
  rw [vc_FixedWideRing]
  try simp only [Int.toNat_natCast, List.length_set, List.length_replicate, List.length_take, List.length_drop, List.length_append, List.length_cons, List.length_nil, Nat.min_self, List.take_take, lenCols_i, lenCols_b, List.drop_zero, List.take_length, Nat.add_eq, Nat.mul_eq, Nat.sub_eq, Nat.zero_add, Nat.sub_zero, Nat.mul_one]
  refine all_i fun n0 => ?_
  refine imp_i fun h0 => ?_
  refine imp_i fun h1 => ?_
  refine all_i fun n1 => ?_
  refine imp_i fun h2 => ?_
  refine imp_i fun h3 => ?_
  refine all_i fun n2 => ?_
  refine imp_i fun h4 => ?_
  refine imp_i fun h5 => ?_
  refine imp_i fun h6 => ?_
  try simp only [sigL3, List.cons.injEq, DV.b.injEq, and_true, List.length_cons, List.length_nil] at h6
  have tx := tdiv2_bd (a := n1) (by omega) (by omega)
  have ty := tdiv2_bd (a := n2) (by omega) (by omega)
  have mx := mul_in2 (a := n0) (b := n1.tdiv 2) (A := 9223372036854775808) (B := 4611686018427387904) (by omega) (by omega) (by omega) (by omega)
  have my := mul_in2 (a := n0) (b := n2.tdiv 2) (A := 9223372036854775808) (B := 4611686018427387904) (by omega) (by omega) (by omega) (by omega)
  refine req_i ?_ ?_
  · -- r0
    first | omega | assumption | grind
  refine req_i ?_ ?_
  · -- r1
    first | omega | assumption | grind
  refine req_i ?_ ?_
  · -- r2
    first | omega | assumption | grind
  refine req_i ?_ ?_
  · -- r3
    first | omega | assumption | grind
  refine req_i ?_ ?_
  · -- r4
    first | trivial | assumption | (simp only [sigProd, prodPost, List.cons.injEq, DV.b.injEq, and_true, List.length_cons, List.length_nil]; done) | ((try simp only [sigProd, prodPost, List.cons.injEq, DV.b.injEq, and_true, List.length_cons, List.length_nil]); first | omega | assumption | grind)
  refine all_i fun n3 => ?_
  refine imp_i fun h7 => ?_
  refine imp_i fun h8 => ?_
  refine all_i fun n4 => ?_
  refine imp_i fun h9 => ?_
  refine imp_i fun h10 => ?_
  refine imp_i fun h11 => ?_
  try simp only [sigProd, prodPost, List.cons.injEq, DV.b.injEq, and_true, List.length_cons, List.length_nil] at h11
  refine req_i ?_ ?_
  · -- r5
    first | omega | assumption | grind
  refine req_i ?_ ?_
  · -- r6
    first | omega | assumption | grind
  refine req_i ?_ ?_
  · -- r7
    first | omega | assumption | grind
  refine req_i ?_ ?_
  · -- r8
    first | omega | assumption | grind
  refine req_i ?_ ?_
  · -- r9
    first | trivial | assumption | (simp only [sigProd, prodPost, List.cons.injEq, DV.b.injEq, and_true, List.length_cons, List.length_nil]; done) | ((try simp only [sigProd, prodPost, List.cons.injEq, DV.b.injEq, and_true, List.length_cons, List.length_nil]); first | omega | assumption | grind)
  refine all_i fun n5 => ?_
  refine imp_i fun h12 => ?_
  refine imp_i fun h13 => ?_
  refine all_i fun n6 => ?_
  refine imp_i fun h14 => ?_
  refine imp_i fun h15 => ?_
  refine imp_i fun h16 => ?_
  try simp only [sigProd, prodPost, List.cons.injEq, DV.b.injEq, and_true, List.length_cons, List.length_nil] at h16
  refine req_i ?_ ?_
  · -- r10
    first | omega | assumption | grind
  refine req_i ?_ ?_
  · -- r11
    first | omega | assumption | grind
  refine req_i ?_ ?_
  · -- r12
    first | omega | assumption | grind
  refine req_i ?_ ?_
  · -- r13
    first | omega | assumption | grind
  refine req_i ?_ ?_
  · -- r14
    first | omega | assumption | grind
  refine req_i ?_ ?_
  · -- r15
    first | omega | assumption | grind
  refine req_i ?_ ?_
  · -- r16
    first | omega | assumption | grind
  refine req_i ?_ ?_
  · -- r17
    first | omega | assumption | grind
  refine req_i ?_ ?_
  · -- r18
    first | trivial | assumption | (simp only [sigPlus, plusPost, List.cons.injEq, DV.b.injEq, and_true, List.length_cons, List.length_nil]; done) | ((try simp only [sigPlus, plusPost, List.cons.injEq, DV.b.injEq, and_true, List.length_cons, List.length_nil]); first | omega | assumption | grind)
  refine all_i fun n7 => ?_
  refine imp_i fun h17 => ?_
  refine imp_i fun h18 => ?_
  refine all_i fun n8 => ?_
  refine imp_i fun h19 => ?_
  refine imp_i fun h20 => ?_
  refine all_i fun n9 => ?_
  refine imp_i fun h21 => ?_
  refine imp_i fun h22 => ?_
  refine imp_i fun h23 => ?_
  try simp only [sigPlus, plusPost, List.cons.injEq, DV.b.injEq, and_true, List.length_cons, List.length_nil] at h23
  refine req_i ?_ ?_
  · -- r19
    first | omega | assumption | grind
  refine req_i ?_ ?_
  · -- r20
    first | omega | assumption | grind
  refine req_i ?_ ?_
  · -- r21
    first | omega | assumption | grind
  refine req_i ?_ ?_
  · -- r22
    first | omega | assumption | grind
  refine req_i ?_ ?_
  · -- r23
    first | omega | assumption | grind
  refine req_i ?_ ?_
  · -- r24
    first | omega | assumption | grind
  refine req_i ?_ ?_
  · -- r25
    first | omega | assumption | grind
  refine req_i ?_ ?_
  · -- r26
    first | omega | assumption | grind
  refine req_i ?_ ?_
  · -- r27
    first | trivial | assumption | (simp only [sigMinus, minusPost, List.cons.injEq, DV.b.injEq, and_true, List.length_cons, List.length_nil]; done) | ((try simp only [sigMinus, minusPost, List.cons.injEq, DV.b.injEq, and_true, List.length_cons, List.length_nil]); first | omega | assumption | grind)
  refine all_i fun n10 => ?_
  refine imp_i fun h24 => ?_
  refine imp_i fun h25 => ?_
  refine all_i fun n11 => ?_
  refine imp_i fun h26 => ?_
  refine imp_i fun h27 => ?_
  refine all_i fun n12 => ?_
  refine imp_i fun h28 => ?_
  refine imp_i fun h29 => ?_
  refine imp_i fun h30 => ?_
  try simp only [sigMinus, minusPost, List.cons.injEq, DV.b.injEq, and_true, List.length_cons, List.length_nil] at h30
  refine req_i ?_ ?_
  · -- r28
    first | omega | assumption | grind
  refine req_i ?_ ?_
  · -- r29
    first | omega | assumption | grind
  refine req_i ?_ ?_
  · -- r30
    first | trivial | assumption | (simp only [sigProd, prodPost, List.cons.injEq, DV.b.injEq, and_true, List.length_cons, List.length_nil]; done) | ((try simp only [sigProd, prodPost, List.cons.injEq, DV.b.injEq, and_true, List.length_cons, List.length_nil]); first | omega | assumption | grind)
  refine all_i fun n13 => ?_
  refine imp_i fun h31 => ?_
  refine imp_i fun h32 => ?_
  refine all_i fun n14 => ?_
  refine imp_i fun h33 => ?_
  refine imp_i fun h34 => ?_
  refine imp_i fun h35 => ?_
  try simp only [sigProd, prodPost, List.cons.injEq, DV.b.injEq, and_true, List.length_cons, List.length_nil] at h35
  simp only [Int.mul_one] at h35
  refine req_i ?_ ?_
  · -- r31
    first | omega | assumption | grind
  refine req_i ?_ ?_
  · -- r32
    first | omega | assumption | grind
  refine req_i ?_ ?_
  · -- r33
    first | omega | assumption | grind
  refine req_i ?_ ?_
  · -- r34
    first | omega | assumption | grind
  refine req_i ?_ ?_
  · -- r35
    first | trivial | assumption | (simp only [sigNar, narPost, List.cons.injEq, DV.b.injEq, and_true, List.length_cons, List.length_nil]; done) | ((try simp only [sigNar, narPost, List.cons.injEq, DV.b.injEq, and_true, List.length_cons, List.length_nil]); first | omega | assumption | grind)
  refine all_i fun n15 => ?_
  refine imp_i fun h36 => ?_
  refine imp_i fun h37 => ?_
  refine all_i fun n16 => ?_
  refine imp_i fun h38 => ?_
  refine imp_i fun h39 => ?_
  refine imp_i fun h40 => ?_
  try simp only [sigNar, narPost, List.cons.injEq, DV.b.injEq, and_true, List.length_cons, List.length_nil] at h40
  refine req_i ?_ ?_
  · -- r36
    first | omega | assumption | grind
  refine req_i ?_ ?_
  · -- r37
    first | omega | assumption | grind
  refine req_i ?_ ?_
  · -- r38
    first | trivial | assumption | (simp only [sigProd, prodPost, List.cons.injEq, DV.b.injEq, and_true, List.length_cons, List.length_nil]; done) | ((try simp only [sigProd, prodPost, List.cons.injEq, DV.b.injEq, and_true, List.length_cons, List.length_nil]); first | omega | assumption | grind)
  refine all_i fun n17 => ?_
  refine imp_i fun h41 => ?_
  refine imp_i fun h42 => ?_
  refine all_i fun n18 => ?_
  refine imp_i fun h43 => ?_
  refine imp_i fun h44 => ?_
  refine imp_i fun h45 => ?_
  try simp only [sigProd, prodPost, List.cons.injEq, DV.b.injEq, and_true, List.length_cons, List.length_nil] at h45
  simp only [Int.mul_one] at h45
  refine req_i ?_ ?_
  · -- r39
    first | omega | assumption | grind
  refine req_i ?_ ?_
  · -- r40
    first | omega | assumption | grind
  refine req_i ?_ ?_
  · -- r41
    first | trivial | assumption | (simp only [sigProd, prodPost, List.cons.injEq, DV.b.injEq, and_true, List.length_cons, List.length_nil]; done) | ((try simp only [sigProd, prodPost, List.cons.injEq, DV.b.injEq, and_true, List.length_cons, List.length_nil]); first | omega | assumption | grind)
  refine all_i fun n19 => ?_
  refine imp_i fun h46 => ?_
  refine imp_i fun h47 => ?_
  refine all_i fun n20 => ?_
  refine imp_i fun h48 => ?_
  refine imp_i fun h49 => ?_
  refine imp_i fun h50 => ?_
  try simp only [sigProd, prodPost, List.cons.injEq, DV.b.injEq, and_true, List.length_cons, List.length_nil] at h50
  simp only [Int.mul_one] at h50
  refine req_i ?_ ?_
  · -- r42
    first | omega | assumption | grind
  refine req_i ?_ ?_
  · -- r43
    first | omega | assumption | grind
  refine req_i ?_ ?_
  · -- r44
    first | omega | assumption | grind
  refine req_i ?_ ?_
  · -- r45
    first | omega | assumption | grind
  refine req_i ?_ ?_
  · -- r46
    first | omega | assumption | grind
  refine req_i ?_ ?_
  · -- r47
    first | omega | assumption | grind
  refine req_i ?_ ?_
  · -- r48
    first | omega | assumption | grind
  refine req_i ?_ ?_
  · -- r49
    first | omega | assumption | grind
  refine req_i ?_ ?_
  · -- r50
    first | trivial | assumption | (simp only [sigMinus, minusPost, List.cons.injEq, DV.b.injEq, and_true, List.length_cons, List.length_nil]; done) | ((try simp only [sigMinus, minusPost, List.cons.injEq, DV.b.injEq, and_true, List.length_cons, List.length_nil]); first | omega | assumption | grind)
  refine all_i fun n21 => ?_
  refine imp_i fun h51 => ?_
  refine imp_i fun h52 => ?_
  refine all_i fun n22 => ?_
  refine imp_i fun h53 => ?_
  refine imp_i fun h54 => ?_
  refine all_i fun n23 => ?_
  refine imp_i fun h55 => ?_
  refine imp_i fun h56 => ?_
  refine imp_i fun h57 => ?_
  try simp only [sigMinus, minusPost, List.cons.injEq, DV.b.injEq, and_true, List.length_cons, List.length_nil] at h57
  refine bR_dec (fun h58 => ?_) (fun h58 => ?_)
  ·
    refine req_i ?_ ?_
    · -- r51
      first | omega | assumption | grind
    refine all_i fun b24 => ?_
    refine imp_i fun h59 => ?_
    try simp only [sigTrue0, List.cons.injEq, DV.b.injEq, and_true, List.length_cons, List.length_nil] at h59
    refine bR_i (fun h60 => ?_) (fun h60 => ?_)
    ·
      simp only [bR_iff, bR_iff_f, dec_iff, dec_f, Bool.false_eq_true, Bool.true_eq_false, false_implies, imp_false, and_true, true_and, implies_true, Classical.not_not] at h60
      refine req_i ?_ ?_
      · -- r52
        first | omega | ((try simp only [sigL3, List.cons.injEq, DV.b.injEq, and_true, List.length_cons, List.length_nil]); first | done | omega | assumption | grind [getD_set, getD_rep, toNat_succ, cntN_yes, cntN_no])
      rfl
    ·
      simp only [bR_iff, bR_iff_f, dec_iff, dec_f, Bool.false_eq_true, Bool.true_eq_false, false_implies, imp_false, and_true, true_and, implies_true, Classical.not_not] at h60
      refine bR_dec (fun h61 => ?_) (fun h61 => ?_)
      ·
        refine req_i ?_ ?_
        · -- r53
          first | omega | ((try simp only [sigL3, List.cons.injEq, DV.b.injEq, and_true, List.length_cons, List.length_nil]); first | done | omega | assumption | grind [getD_set, getD_rep, toNat_succ, cntN_yes, cntN_no])
        rfl
      ·
        refine bR_dec (fun h62 => ?_) (fun h62 => ?_)
        ·
          refine req_i ?_ ?_
          · -- r54
            first | omega | ((try simp only [sigL3, List.cons.injEq, DV.b.injEq, and_true, List.length_cons, List.length_nil]); first | done | omega | assumption | grind [getD_set, getD_rep, toNat_succ, cntN_yes, cntN_no])
          rfl
        ·
          refine bR_dec (fun h63 => ?_) (fun h63 => ?_)
          ·
            refine req_i ?_ ?_
            · -- r55
              first | omega | ((try simp only [sigL3, List.cons.injEq, DV.b.injEq, and_true, List.length_cons, List.length_nil]); first | done | omega | assumption | grind [getD_set, getD_rep, toNat_succ, cntN_yes, cntN_no])
            rfl
          ·
            refine bR_dec (fun h64 => ?_) (fun h64 => ?_)
            ·
              refine req_i ?_ ?_
              · -- r56
                first | omega | ((try simp only [sigL3, List.cons.injEq, DV.b.injEq, and_true, List.length_cons, List.length_nil]); first | done | omega | assumption | grind [getD_set, getD_rep, toNat_succ, cntN_yes, cntN_no])
              rfl
            ·
              refine req_i ?_ ?_
              · -- r57
                first | omega | assumption | grind
              refine req_i ?_ ?_
              · -- r58
                first | omega | assumption | grind
              refine req_i ?_ ?_
              · -- r59
                first | omega | assumption | grind
              refine req_i ?_ ?_
              · -- r60
                first | omega | assumption | grind
              refine req_i ?_ ?_
              · -- r61
                first | trivial | assumption | (simp only [sigProd, prodPost, List.cons.injEq, DV.b.injEq, and_true, List.length_cons, List.length_nil]; done) | ((try simp only [sigProd, prodPost, List.cons.injEq, DV.b.injEq, and_true, List.length_cons, List.length_nil]); first | omega | assumption | grind)
              refine all_i fun n25 => ?_
              refine imp_i fun h65 => ?_
              refine imp_i fun h66 => ?_
              refine all_i fun n26 => ?_
              refine imp_i fun h67 => ?_
              refine imp_i fun h68 => ?_
              refine imp_i fun h69 => ?_
              try simp only [sigProd, prodPost, List.cons.injEq, DV.b.injEq, and_true, List.length_cons, List.length_nil] at h69
              simp only [Int.mul_add] at h69
              refine bR_i (fun h70 => ?_) (fun h70 => ?_)
              ·
                simp only [bR_iff, bR_iff_f, dec_iff, dec_f, Bool.false_eq_true, Bool.true_eq_false, false_implies, imp_false, and_true, true_and, implies_true, Classical.not_not] at h70
                refine req_i ?_ ?_
                · -- r62
                  first | omega | ((try simp only [sigL3, List.cons.injEq, DV.b.injEq, and_true, List.length_cons, List.length_nil]); first | done | omega | assumption | grind [getD_set, getD_rep, toNat_succ, cntN_yes, cntN_no])
                rfl
              ·
                simp only [bR_iff, bR_iff_f, dec_iff, dec_f, Bool.false_eq_true, Bool.true_eq_false, false_implies, imp_false, and_true, true_and, implies_true, Classical.not_not] at h70
                refine bR_i (fun h71 => ?_) (fun h71 => ?_)
                ·
                  simp only [bR_iff, bR_iff_f, dec_iff, dec_f, Bool.false_eq_true, Bool.true_eq_false, false_implies, imp_false, and_true, true_and, implies_true, Classical.not_not] at h71
                  refine req_i ?_ ?_
                  · -- r63
                    first | omega | ((try simp only [sigL3, List.cons.injEq, DV.b.injEq, and_true, List.length_cons, List.length_nil]); first | done | omega | assumption | grind [getD_set, getD_rep, toNat_succ, cntN_yes, cntN_no])
                  rfl
                ·
                  simp only [bR_iff, bR_iff_f, dec_iff, dec_f, Bool.false_eq_true, Bool.true_eq_false, false_implies, imp_false, and_true, true_and, implies_true, Classical.not_not] at h71
                  refine bR_dec (fun h72 => ?_) (fun h72 => ?_)
                  ·
                    refine req_i ?_ ?_
                    · -- r64
                      first | omega | ((try simp only [sigL3, List.cons.injEq, DV.b.injEq, and_true, List.length_cons, List.length_nil]); first | done | omega | assumption | grind [getD_set, getD_rep, toNat_succ, cntN_yes, cntN_no])
                    rfl
                  ·
                    refine req_i ?_ ?_
                    · -- r65
                      first | omega | assumption | grind
                    refine req_i ?_ ?_
                    · -- r66
                      first | omega | assumption | grind
                    refine req_i ?_ ?_
                    · -- r67
                      first | omega | assumption | grind
                    refine req_i ?_ ?_
                    · -- r68
                      first | omega | assumption | grind
                    refine req_i ?_ ?_
                    · -- r69
                      first | trivial | assumption | (simp only [sigProd, prodPost, List.cons.injEq, DV.b.injEq, and_true, List.length_cons, List.length_nil]; done) | ((try simp only [sigProd, prodPost, List.cons.injEq, DV.b.injEq, and_true, List.length_cons, List.length_nil]); first | omega | assumption | grind)
                    refine all_i fun n27 => ?_
                    refine imp_i fun h73 => ?_
                    refine imp_i fun h74 => ?_
                    refine all_i fun n28 => ?_
                    refine imp_i fun h75 => ?_
                    refine imp_i fun h76 => ?_
                    refine imp_i fun h77 => ?_
                    try simp only [sigProd, prodPost, List.cons.injEq, DV.b.injEq, and_true, List.length_cons, List.length_nil] at h77
                    rw [Int.mul_comm] at h77
                    refine bR_i (fun h78 => ?_) (fun h78 => ?_)
                    ·
                      simp only [bR_iff, bR_iff_f, dec_iff, dec_f, Bool.false_eq_true, Bool.true_eq_false, false_implies, imp_false, and_true, true_and, implies_true, Classical.not_not] at h78
                      refine req_i ?_ ?_
                      · -- r70
                        first | omega | ((try simp only [sigL3, List.cons.injEq, DV.b.injEq, and_true, List.length_cons, List.length_nil]); first | done | omega | assumption | grind [getD_set, getD_rep, toNat_succ, cntN_yes, cntN_no])
                      rfl
                    ·
                      simp only [bR_iff, bR_iff_f, dec_iff, dec_f, Bool.false_eq_true, Bool.true_eq_false, false_implies, imp_false, and_true, true_and, implies_true, Classical.not_not] at h78
                      refine req_i ?_ ?_
                      · -- r71
                        first | omega | assumption | grind
                      refine req_i ?_ ?_
                      · -- r72
                        first | omega | assumption | grind
                      refine req_i ?_ ?_
                      · -- r73
                        first | trivial | assumption | (simp only [sigProd, prodPost, List.cons.injEq, DV.b.injEq, and_true, List.length_cons, List.length_nil]; done) | ((try simp only [sigProd, prodPost, List.cons.injEq, DV.b.injEq, and_true, List.length_cons, List.length_nil]); first | omega | assumption | grind)
                      refine all_i fun n29 => ?_
                      refine imp_i fun h79 => ?_
                      refine imp_i fun h80 => ?_
                      refine all_i fun n30 => ?_
                      refine imp_i fun h81 => ?_
                      refine imp_i fun h82 => ?_
                      refine imp_i fun h83 => ?_
                      try simp only [sigProd, prodPost, List.cons.injEq, DV.b.injEq, and_true, List.length_cons, List.length_nil] at h83
                      simp only [Int.mul_one] at h83
                      refine req_i ?_ ?_
                      · -- r74
                        first | omega | assumption | grind
                      refine req_i ?_ ?_
                      · -- r75
                        first | omega | assumption | grind
                      refine req_i ?_ ?_
                      · -- r76
                        first | trivial | assumption | (simp only [sigProd, prodPost, List.cons.injEq, DV.b.injEq, and_true, List.length_cons, List.length_nil]; done) | ((try simp only [sigProd, prodPost, List.cons.injEq, DV.b.injEq, and_true, List.length_cons, List.length_nil]); first | omega | assumption | grind)
                      refine all_i fun n31 => ?_
                      refine imp_i fun h84 => ?_
                      refine imp_i fun h85 => ?_
                      refine all_i fun n32 => ?_
                      refine imp_i fun h86 => ?_
                      refine imp_i fun h87 => ?_
                      refine imp_i fun h88 => ?_
                      try simp only [sigProd, prodPost, List.cons.injEq, DV.b.injEq, and_true, List.length_cons, List.length_nil] at h88
                      simp only [Int.mul_one] at h88
                      refine req_i ?_ ?_
                      · -- r77
                        first | omega | assumption | grind
                      refine req_i ?_ ?_
                      · -- r78
                        first | omega | assumption | grind
                      refine req_i ?_ ?_
                      · -- r79
                        first | omega | assumption | grind
                      refine req_i ?_ ?_
                      · -- r80
                        first | omega | assumption | grind
                      refine req_i ?_ ?_
                      · -- r81
                        first | omega | assumption | grind
                      refine req_i ?_ ?_
                      · -- r82
                        first | omega | assumption | grind
                      refine req_i ?_ ?_
                      · -- r83
                        first | omega | assumption | grind
                      refine req_i ?_ ?_
                      · -- r84
                        first | omega | assumption | grind
                      refine req_i ?_ ?_
                      · -- r85
                        first | trivial | assumption | (simp only [sigCmp, cmpPost, List.cons.injEq, DV.b.injEq, and_true, List.length_cons, List.length_nil]; done) | ((try simp only [sigCmp, cmpPost, List.cons.injEq, DV.b.injEq, and_true, List.length_cons, List.length_nil]); first | omega | assumption | grind)
                      refine all_i fun n33 => ?_
                      refine imp_i fun h89 => ?_
                      refine imp_i fun h90 => ?_
                      refine imp_i fun h91 => ?_
                      try simp only [sigCmp, cmpPost, List.cons.injEq, DV.b.injEq, and_true, List.length_cons, List.length_nil] at h91
                      refine bR_dec (fun h92 => ?_) (fun h92 => ?_)
                      ·
                        refine req_i ?_ ?_
                        · -- r86
                          first | omega | assumption | grind
                        refine req_i ?_ ?_
                        · -- r87
                          first | omega | assumption | grind
                        refine req_i ?_ ?_
                        · -- r88
                          first | omega | assumption | grind
                        refine req_i ?_ ?_
                        · -- r89
                          first | omega | assumption | grind
                        refine req_i ?_ ?_
                        · -- r90
                          first | trivial | assumption | (simp only [sigCmp, cmpPost, List.cons.injEq, DV.b.injEq, and_true, List.length_cons, List.length_nil]; done) | ((try simp only [sigCmp, cmpPost, List.cons.injEq, DV.b.injEq, and_true, List.length_cons, List.length_nil]); first | omega | assumption | grind)
                        refine all_i fun n34 => ?_
                        refine imp_i fun h93 => ?_
                        refine imp_i fun h94 => ?_
                        refine imp_i fun h95 => ?_
                        try simp only [sigCmp, cmpPost, List.cons.injEq, DV.b.injEq, and_true, List.length_cons, List.length_nil] at h95
                        refine req_i ?_ ?_
                        · -- r91
                          first | omega | ((try simp only [sigL3, List.cons.injEq, DV.b.injEq, and_true, List.length_cons, List.length_nil, dec_iff]); first | done | omega | assumption | grind [getD_set, getD_rep, toNat_succ, cntN_yes, cntN_no])
                        rfl
                      ·
                        refine req_i ?_ ?_
                        · -- r92
                          first | omega | ((try simp only [sigL3, List.cons.injEq, DV.b.injEq, and_true, List.length_cons, List.length_nil]); first | done | omega | assumption | grind [getD_set, getD_rep, toNat_succ, cntN_yes, cntN_no])
                        rfl
  ·
    refine bR_dec (fun h96 => ?_) (fun h96 => ?_)
    ·
      refine req_i ?_ ?_
      · -- r93
        first | omega | assumption | grind
      refine all_i fun b35 => ?_
      refine imp_i fun h97 => ?_
      try simp only [sigTrue0, List.cons.injEq, DV.b.injEq, and_true, List.length_cons, List.length_nil] at h97
      refine bR_i (fun h98 => ?_) (fun h98 => ?_)
      ·
        simp only [bR_iff, bR_iff_f, dec_iff, dec_f, Bool.false_eq_true, Bool.true_eq_false, false_implies, imp_false, and_true, true_and, implies_true, Classical.not_not] at h98
        refine req_i ?_ ?_
        · -- r94
          first | omega | ((try simp only [sigL3, List.cons.injEq, DV.b.injEq, and_true, List.length_cons, List.length_nil]); first | done | omega | assumption | grind [getD_set, getD_rep, toNat_succ, cntN_yes, cntN_no])
        rfl
      ·
        simp only [bR_iff, bR_iff_f, dec_iff, dec_f, Bool.false_eq_true, Bool.true_eq_false, false_implies, imp_false, and_true, true_and, implies_true, Classical.not_not] at h98
        refine bR_dec (fun h99 => ?_) (fun h99 => ?_)
        ·
          refine req_i ?_ ?_
          · -- r95
            first | omega | ((try simp only [sigL3, List.cons.injEq, DV.b.injEq, and_true, List.length_cons, List.length_nil]); first | done | omega | assumption | grind [getD_set, getD_rep, toNat_succ, cntN_yes, cntN_no])
          rfl
        ·
          refine bR_dec (fun h100 => ?_) (fun h100 => ?_)
          ·
            refine req_i ?_ ?_
            · -- r96
              first | omega | ((try simp only [sigL3, List.cons.injEq, DV.b.injEq, and_true, List.length_cons, List.length_nil]); first | done | omega | assumption | grind [getD_set, getD_rep, toNat_succ, cntN_yes, cntN_no])
            rfl
          ·
            refine bR_dec (fun h101 => ?_) (fun h101 => ?_)
            ·
              refine req_i ?_ ?_
              · -- r97
                first | omega | ((try simp only [sigL3, List.cons.injEq, DV.b.injEq, and_true, List.length_cons, List.length_nil]); first | done | omega | assumption | grind [getD_set, getD_rep, toNat_succ, cntN_yes, cntN_no])
              rfl
            ·
              refine bR_dec (fun h102 => ?_) (fun h102 => ?_)
              ·
                refine req_i ?_ ?_
                · -- r98
                  first | omega | ((try simp only [sigL3, List.cons.injEq, DV.b.injEq, and_true, List.length_cons, List.length_nil]); first | done | omega | assumption | grind [getD_set, getD_rep, toNat_succ, cntN_yes, cntN_no])
                rfl
              ·
                refine req_i ?_ ?_
                · -- r99
                  first | omega | assumption | grind
                refine req_i ?_ ?_
                · -- r100
                  first | omega | assumption | grind
                refine req_i ?_ ?_
                · -- r101
                  first | omega | assumption | grind
                refine req_i ?_ ?_
                · -- r102
                  first | omega | assumption | grind
                refine req_i ?_ ?_
                · -- r103
                  first | trivial | assumption | (simp only [sigProd, prodPost, List.cons.injEq, DV.b.injEq, and_true, List.length_cons, List.length_nil]; done) | ((try simp only [sigProd, prodPost, List.cons.injEq, DV.b.injEq, and_true, List.length_cons, List.length_nil]); first | omega | assumption | grind)
                refine all_i fun n36 => ?_
                refine imp_i fun h103 => ?_
                refine imp_i fun h104 => ?_
                refine all_i fun n37 => ?_
                refine imp_i fun h105 => ?_
                refine imp_i fun h106 => ?_
                refine imp_i fun h107 => ?_
                try simp only [sigProd, prodPost, List.cons.injEq, DV.b.injEq, and_true, List.length_cons, List.length_nil] at h107
                simp only [Int.mul_add] at h107
                refine bR_i (fun h108 => ?_) (fun h108 => ?_)
                ·
                  simp only [bR_iff, bR_iff_f, dec_iff, dec_f, Bool.false_eq_true, Bool.true_eq_false, false_implies, imp_false, and_true, true_and, implies_true, Classical.not_not] at h108
                  refine req_i ?_ ?_
                  · -- r104
                    first | omega | ((try simp only [sigL3, List.cons.injEq, DV.b.injEq, and_true, List.length_cons, List.length_nil]); first | done | omega | assumption | grind [getD_set, getD_rep, toNat_succ, cntN_yes, cntN_no])
                  rfl
                ·
                  simp only [bR_iff, bR_iff_f, dec_iff, dec_f, Bool.false_eq_true, Bool.true_eq_false, false_implies, imp_false, and_true, true_and, implies_true, Classical.not_not] at h108
                  refine bR_i (fun h109 => ?_) (fun h109 => ?_)
                  ·
                    simp only [bR_iff, bR_iff_f, dec_iff, dec_f, Bool.false_eq_true, Bool.true_eq_false, false_implies, imp_false, and_true, true_and, implies_true, Classical.not_not] at h109
                    refine req_i ?_ ?_
                    · -- r105
                      first | omega | ((try simp only [sigL3, List.cons.injEq, DV.b.injEq, and_true, List.length_cons, List.length_nil]); first | done | omega | assumption | grind [getD_set, getD_rep, toNat_succ, cntN_yes, cntN_no])
                    rfl
                  ·
                    simp only [bR_iff, bR_iff_f, dec_iff, dec_f, Bool.false_eq_true, Bool.true_eq_false, false_implies, imp_false, and_true, true_and, implies_true, Classical.not_not] at h109
                    refine bR_dec (fun h110 => ?_) (fun h110 => ?_)
                    ·
                      refine req_i ?_ ?_
                      · -- r106
                        first | omega | ((try simp only [sigL3, List.cons.injEq, DV.b.injEq, and_true, List.length_cons, List.length_nil]); first | done | omega | assumption | grind [getD_set, getD_rep, toNat_succ, cntN_yes, cntN_no])
                      rfl
                    ·
                      refine req_i ?_ ?_
                      · -- r107
                        first | omega | assumption | grind
                      refine req_i ?_ ?_
                      · -- r108
                        first | omega | assumption | grind
                      refine req_i ?_ ?_
                      · -- r109
                        first | omega | assumption | grind
                      refine req_i ?_ ?_
                      · -- r110
                        first | omega | assumption | grind
                      refine req_i ?_ ?_
                      · -- r111
                        first | trivial | assumption | (simp only [sigProd, prodPost, List.cons.injEq, DV.b.injEq, and_true, List.length_cons, List.length_nil]; done) | ((try simp only [sigProd, prodPost, List.cons.injEq, DV.b.injEq, and_true, List.length_cons, List.length_nil]); first | omega | assumption | grind)
                      refine all_i fun n38 => ?_
                      refine imp_i fun h111 => ?_
                      refine imp_i fun h112 => ?_
                      refine all_i fun n39 => ?_
                      refine imp_i fun h113 => ?_
                      refine imp_i fun h114 => ?_
                      refine imp_i fun h115 => ?_
                      try simp only [sigProd, prodPost, List.cons.injEq, DV.b.injEq, and_true, List.length_cons, List.length_nil] at h115
                      rw [Int.mul_comm] at h115
                      refine bR_i (fun h116 => ?_) (fun h116 => ?_)
                      ·
                        simp only [bR_iff, bR_iff_f, dec_iff, dec_f, Bool.false_eq_true, Bool.true_eq_false, false_implies, imp_false, and_true, true_and, implies_true, Classical.not_not] at h116
                        refine req_i ?_ ?_
                        · -- r112
                          first | omega | ((try simp only [sigL3, List.cons.injEq, DV.b.injEq, and_true, List.length_cons, List.length_nil]); first | done | omega | assumption | grind [getD_set, getD_rep, toNat_succ, cntN_yes, cntN_no])
                        rfl
                      ·
                        simp only [bR_iff, bR_iff_f, dec_iff, dec_f, Bool.false_eq_true, Bool.true_eq_false, false_implies, imp_false, and_true, true_and, implies_true, Classical.not_not] at h116
                        refine req_i ?_ ?_
                        · -- r113
                          first | omega | assumption | grind
                        refine req_i ?_ ?_
                        · -- r114
                          first | omega | assumption | grind
                        refine req_i ?_ ?_
                        · -- r115
                          first | trivial | assumption | (simp only [sigProd, prodPost, List.cons.injEq, DV.b.injEq, and_true, List.length_cons, List.length_nil]; done) | ((try simp only [sigProd, prodPost, List.cons.injEq, DV.b.injEq, and_true, List.length_cons, List.length_nil]); first | omega | assumption | grind)
                        refine all_i fun n40 => ?_
                        refine imp_i fun h117 => ?_
                        refine imp_i fun h118 => ?_
                        refine all_i fun n41 => ?_
                        refine imp_i fun h119 => ?_
                        refine imp_i fun h120 => ?_
                        refine imp_i fun h121 => ?_
                        try simp only [sigProd, prodPost, List.cons.injEq, DV.b.injEq, and_true, List.length_cons, List.length_nil] at h121
                        simp only [Int.mul_one] at h121
                        refine req_i ?_ ?_
                        · -- r116
                          first | omega | assumption | grind
                        refine req_i ?_ ?_
                        · -- r117
                          first | omega | assumption | grind
                        refine req_i ?_ ?_
                        · -- r118
                          first | trivial | assumption | (simp only [sigProd, prodPost, List.cons.injEq, DV.b.injEq, and_true, List.length_cons, List.length_nil]; done) | ((try simp only [sigProd, prodPost, List.cons.injEq, DV.b.injEq, and_true, List.length_cons, List.length_nil]); first | omega | assumption | grind)
                        refine all_i fun n42 => ?_
                        refine imp_i fun h122 => ?_
                        refine imp_i fun h123 => ?_
                        refine all_i fun n43 => ?_
                        refine imp_i fun h124 => ?_
                        refine imp_i fun h125 => ?_
                        refine imp_i fun h126 => ?_
                        try simp only [sigProd, prodPost, List.cons.injEq, DV.b.injEq, and_true, List.length_cons, List.length_nil] at h126
                        simp only [Int.mul_one] at h126
                        refine req_i ?_ ?_
                        · -- r119
                          first | omega | assumption | grind
                        refine req_i ?_ ?_
                        · -- r120
                          first | omega | assumption | grind
                        refine req_i ?_ ?_
                        · -- r121
                          first | omega | assumption | grind
                        refine req_i ?_ ?_
                        · -- r122
                          first | omega | assumption | grind
                        refine req_i ?_ ?_
                        · -- r123
                          first | omega | assumption | grind
                        refine req_i ?_ ?_
                        · -- r124
                          first | omega | assumption | grind
                        refine req_i ?_ ?_
                        · -- r125
                          first | omega | assumption | grind
                        refine req_i ?_ ?_
                        · -- r126
                          first | omega | assumption | grind
                        refine req_i ?_ ?_
                        · -- r127
                          first | trivial | assumption | (simp only [sigCmp, cmpPost, List.cons.injEq, DV.b.injEq, and_true, List.length_cons, List.length_nil]; done) | ((try simp only [sigCmp, cmpPost, List.cons.injEq, DV.b.injEq, and_true, List.length_cons, List.length_nil]); first | omega | assumption | grind)
                        refine all_i fun n44 => ?_
                        refine imp_i fun h127 => ?_
                        refine imp_i fun h128 => ?_
                        refine imp_i fun h129 => ?_
                        try simp only [sigCmp, cmpPost, List.cons.injEq, DV.b.injEq, and_true, List.length_cons, List.length_nil] at h129
                        refine bR_dec (fun h130 => ?_) (fun h130 => ?_)
                        ·
                          refine req_i ?_ ?_
                          · -- r128
                            first | omega | assumption | grind
                          refine req_i ?_ ?_
                          · -- r129
                            first | omega | assumption | grind
                          refine req_i ?_ ?_
                          · -- r130
                            first | omega | assumption | grind
                          refine req_i ?_ ?_
                          · -- r131
                            first | omega | assumption | grind
                          refine req_i ?_ ?_
                          · -- r132
                            first | trivial | assumption | (simp only [sigCmp, cmpPost, List.cons.injEq, DV.b.injEq, and_true, List.length_cons, List.length_nil]; done) | ((try simp only [sigCmp, cmpPost, List.cons.injEq, DV.b.injEq, and_true, List.length_cons, List.length_nil]); first | omega | assumption | grind)
                          refine all_i fun n45 => ?_
                          refine imp_i fun h131 => ?_
                          refine imp_i fun h132 => ?_
                          refine imp_i fun h133 => ?_
                          try simp only [sigCmp, cmpPost, List.cons.injEq, DV.b.injEq, and_true, List.length_cons, List.length_nil] at h133
                          refine req_i ?_ ?_
                          · -- r133
                            first | omega | ((try simp only [sigL3, List.cons.injEq, DV.b.injEq, and_true, List.length_cons, List.length_nil, dec_iff]); first | done | omega | assumption | grind [getD_set, getD_rep, toNat_succ, cntN_yes, cntN_no])
                          rfl
                        ·
                          refine req_i ?_ ?_
                          · -- r134
                            first | omega | ((try simp only [sigL3, List.cons.injEq, DV.b.injEq, and_true, List.length_cons, List.length_nil]); first | done | omega | assumption | grind [getD_set, getD_rep, toNat_succ, cntN_yes, cntN_no])
                          rfl
    ·
      refine req_i ?_ ?_
      · -- r135
        first | omega | assumption | grind
      refine all_i fun b46 => ?_
      refine imp_i fun h134 => ?_
      try simp only [sigTrue0, List.cons.injEq, DV.b.injEq, and_true, List.length_cons, List.length_nil] at h134
      refine bR_i (fun h135 => ?_) (fun h135 => ?_)
      ·
        simp only [bR_iff, bR_iff_f, dec_iff, dec_f, Bool.false_eq_true, Bool.true_eq_false, false_implies, imp_false, and_true, true_and, implies_true, Classical.not_not] at h135
        refine req_i ?_ ?_
        · -- r136
          first | omega | ((try simp only [sigL3, List.cons.injEq, DV.b.injEq, and_true, List.length_cons, List.length_nil]); first | done | omega | assumption | grind [getD_set, getD_rep, toNat_succ, cntN_yes, cntN_no])
        rfl
      ·
        simp only [bR_iff, bR_iff_f, dec_iff, dec_f, Bool.false_eq_true, Bool.true_eq_false, false_implies, imp_false, and_true, true_and, implies_true, Classical.not_not] at h135
        refine bR_dec (fun h136 => ?_) (fun h136 => ?_)
        ·
          refine req_i ?_ ?_
          · -- r137
            first | omega | ((try simp only [sigL3, List.cons.injEq, DV.b.injEq, and_true, List.length_cons, List.length_nil]); first | done | omega | assumption | grind [getD_set, getD_rep, toNat_succ, cntN_yes, cntN_no])
          rfl
        ·
          refine bR_dec (fun h137 => ?_) (fun h137 => ?_)
          ·
            refine req_i ?_ ?_
            · -- r138
              first | omega | ((try simp only [sigL3, List.cons.injEq, DV.b.injEq, and_true, List.length_cons, List.length_nil]); first | done | omega | assumption | grind [getD_set, getD_rep, toNat_succ, cntN_yes, cntN_no])
            rfl
          ·
            refine bR_dec (fun h138 => ?_) (fun h138 => ?_)
            ·
              refine req_i ?_ ?_
              · -- r139
                first | omega | ((try simp only [sigL3, List.cons.injEq, DV.b.injEq, and_true, List.length_cons, List.length_nil]); first | done | omega | assumption | grind [getD_set, getD_rep, toNat_succ, cntN_yes, cntN_no])
              rfl
            ·
              refine bR_dec (fun h139 => ?_) (fun h139 => ?_)
              ·
                refine req_i ?_ ?_
                · -- r140
                  first | omega | ((try simp only [sigL3, List.cons.injEq, DV.b.injEq, and_true, List.length_cons, List.length_nil]); first | done | omega | assumption | grind [getD_set, getD_rep, toNat_succ, cntN_yes, cntN_no])
                rfl
              ·
                refine req_i ?_ ?_
                · -- r141
                  first | omega | assumption | grind
                refine req_i ?_ ?_
                · -- r142
                  first | omega | assumption | grind
                refine req_i ?_ ?_
                · -- r143
                  first | omega | assumption | grind
                refine req_i ?_ ?_
                · -- r144
                  first | omega | assumption | grind
                refine req_i ?_ ?_
                · -- r145
                  first | trivial | assumption | (simp only [sigProd, prodPost, List.cons.injEq, DV.b.injEq, and_true, List.length_cons, List.length_nil]; done) | ((try simp only [sigProd, prodPost, List.cons.injEq, DV.b.injEq, and_true, List.length_cons, List.length_nil]); first | omega | assumption | grind)
                refine all_i fun n47 => ?_
                refine imp_i fun h140 => ?_
                refine imp_i fun h141 => ?_
                refine all_i fun n48 => ?_
                refine imp_i fun h142 => ?_
                refine imp_i fun h143 => ?_
                refine imp_i fun h144 => ?_
                try simp only [sigProd, prodPost, List.cons.injEq, DV.b.injEq, and_true, List.length_cons, List.length_nil] at h144
                simp only [Int.mul_add] at h144
                refine bR_i (fun h145 => ?_) (fun h145 => ?_)
                ·
                  simp only [bR_iff, bR_iff_f, dec_iff, dec_f, Bool.false_eq_true, Bool.true_eq_false, false_implies, imp_false, and_true, true_and, implies_true, Classical.not_not] at h145
                  refine req_i ?_ ?_
                  · -- r146
                    first | omega | ((try simp only [sigL3, List.cons.injEq, DV.b.injEq, and_true, List.length_cons, List.length_nil]); first | done | omega | assumption | grind [getD_set, getD_rep, toNat_succ, cntN_yes, cntN_no])
                  rfl
                ·
                  simp only [bR_iff, bR_iff_f, dec_iff, dec_f, Bool.false_eq_true, Bool.true_eq_false, false_implies, imp_false, and_true, true_and, implies_true, Classical.not_not] at h145
                  refine bR_i (fun h146 => ?_) (fun h146 => ?_)
                  ·
                    simp only [bR_iff, bR_iff_f, dec_iff, dec_f, Bool.false_eq_true, Bool.true_eq_false, false_implies, imp_false, and_true, true_and, implies_true, Classical.not_not] at h146
                    refine req_i ?_ ?_
                    · -- r147
                      first | omega | ((try simp only [sigL3, List.cons.injEq, DV.b.injEq, and_true, List.length_cons, List.length_nil]); first | done | omega | assumption | grind [getD_set, getD_rep, toNat_succ, cntN_yes, cntN_no])
                    rfl
                  ·
                    simp only [bR_iff, bR_iff_f, dec_iff, dec_f, Bool.false_eq_true, Bool.true_eq_false, false_implies, imp_false, and_true, true_and, implies_true, Classical.not_not] at h146
                    refine bR_dec (fun h147 => ?_) (fun h147 => ?_)
                    ·
                      refine req_i ?_ ?_
                      · -- r148
                        first | omega | ((try simp only [sigL3, List.cons.injEq, DV.b.injEq, and_true, List.length_cons, List.length_nil]); first | done | omega | assumption | grind [getD_set, getD_rep, toNat_succ, cntN_yes, cntN_no])
                      rfl
                    ·
                      refine req_i ?_ ?_
                      · -- r149
                        first | omega | assumption | grind
                      refine req_i ?_ ?_
                      · -- r150
                        first | omega | assumption | grind
                      refine req_i ?_ ?_
                      · -- r151
                        first | omega | assumption | grind
                      refine req_i ?_ ?_
                      · -- r152
                        first | omega | assumption | grind
                      refine req_i ?_ ?_
                      · -- r153
                        first | trivial | assumption | (simp only [sigProd, prodPost, List.cons.injEq, DV.b.injEq, and_true, List.length_cons, List.length_nil]; done) | ((try simp only [sigProd, prodPost, List.cons.injEq, DV.b.injEq, and_true, List.length_cons, List.length_nil]); first | omega | assumption | grind)
                      refine all_i fun n49 => ?_
                      refine imp_i fun h148 => ?_
                      refine imp_i fun h149 => ?_
                      refine all_i fun n50 => ?_
                      refine imp_i fun h150 => ?_
                      refine imp_i fun h151 => ?_
                      refine imp_i fun h152 => ?_
                      try simp only [sigProd, prodPost, List.cons.injEq, DV.b.injEq, and_true, List.length_cons, List.length_nil] at h152
                      rw [Int.mul_comm] at h152
                      refine bR_i (fun h153 => ?_) (fun h153 => ?_)
                      ·
                        simp only [bR_iff, bR_iff_f, dec_iff, dec_f, Bool.false_eq_true, Bool.true_eq_false, false_implies, imp_false, and_true, true_and, implies_true, Classical.not_not] at h153
                        refine req_i ?_ ?_
                        · -- r154
                          first | omega | ((try simp only [sigL3, List.cons.injEq, DV.b.injEq, and_true, List.length_cons, List.length_nil]); first | done | omega | assumption | grind [getD_set, getD_rep, toNat_succ, cntN_yes, cntN_no])
                        rfl
                      ·
                        simp only [bR_iff, bR_iff_f, dec_iff, dec_f, Bool.false_eq_true, Bool.true_eq_false, false_implies, imp_false, and_true, true_and, implies_true, Classical.not_not] at h153
                        refine req_i ?_ ?_
                        · -- r155
                          first | omega | assumption | grind
                        refine req_i ?_ ?_
                        · -- r156
                          first | omega | assumption | grind
                        refine req_i ?_ ?_
                        · -- r157
                          first | trivial | assumption | (simp only [sigProd, prodPost, List.cons.injEq, DV.b.injEq, and_true, List.length_cons, List.length_nil]; done) | ((try simp only [sigProd, prodPost, List.cons.injEq, DV.b.injEq, and_true, List.length_cons, List.length_nil]); first | omega | assumption | grind)
                        refine all_i fun n51 => ?_
                        refine imp_i fun h154 => ?_
                        refine imp_i fun h155 => ?_
                        refine all_i fun n52 => ?_
                        refine imp_i fun h156 => ?_
                        refine imp_i fun h157 => ?_
                        refine imp_i fun h158 => ?_
                        try simp only [sigProd, prodPost, List.cons.injEq, DV.b.injEq, and_true, List.length_cons, List.length_nil] at h158
                        simp only [Int.mul_one] at h158
                        refine req_i ?_ ?_
                        · -- r158
                          first | omega | assumption | grind
                        refine req_i ?_ ?_
                        · -- r159
                          first | omega | assumption | grind
                        refine req_i ?_ ?_
                        · -- r160
                          first | trivial | assumption | (simp only [sigProd, prodPost, List.cons.injEq, DV.b.injEq, and_true, List.length_cons, List.length_nil]; done) | ((try simp only [sigProd, prodPost, List.cons.injEq, DV.b.injEq, and_true, List.length_cons, List.length_nil]); first | omega | assumption | grind)
                        refine all_i fun n53 => ?_
                        refine imp_i fun h159 => ?_
                        refine imp_i fun h160 => ?_
                        refine all_i fun n54 => ?_
                        refine imp_i fun h161 => ?_
                        refine imp_i fun h162 => ?_
                        refine imp_i fun h163 => ?_
                        try simp only [sigProd, prodPost, List.cons.injEq, DV.b.injEq, and_true, List.length_cons, List.length_nil] at h163
                        simp only [Int.mul_one] at h163
                        refine req_i ?_ ?_
                        · -- r161
                          first | omega | assumption | grind
                        refine req_i ?_ ?_
                        · -- r162
                          first | omega | assumption | grind
                        refine req_i ?_ ?_
                        · -- r163
                          first | omega | assumption | grind
                        refine req_i ?_ ?_
                        · -- r164
                          first | omega | assumption | grind
                        refine req_i ?_ ?_
                        · -- r165
                          first | omega | assumption | grind
                        refine req_i ?_ ?_
                        · -- r166
                          first | omega | assumption | grind
                        refine req_i ?_ ?_
                        · -- r167
                          first | omega | assumption | grind
                        refine req_i ?_ ?_
                        · -- r168
                          first | omega | assumption | grind
                        refine req_i ?_ ?_
                        · -- r169
                          first | trivial | assumption | (simp only [sigCmp, cmpPost, List.cons.injEq, DV.b.injEq, and_true, List.length_cons, List.length_nil]; done) | ((try simp only [sigCmp, cmpPost, List.cons.injEq, DV.b.injEq, and_true, List.length_cons, List.length_nil]); first | omega | assumption | grind)
                        refine all_i fun n55 => ?_
                        refine imp_i fun h164 => ?_
                        refine imp_i fun h165 => ?_
                        refine imp_i fun h166 => ?_
                        try simp only [sigCmp, cmpPost, List.cons.injEq, DV.b.injEq, and_true, List.length_cons, List.length_nil] at h166
                        refine bR_dec (fun h167 => ?_) (fun h167 => ?_)
                        ·
                          refine req_i ?_ ?_
                          · -- r170
                            first | omega | assumption | grind
                          refine req_i ?_ ?_
                          · -- r171
                            first | omega | assumption | grind
                          refine req_i ?_ ?_
                          · -- r172
                            first | omega | assumption | grind
                          refine req_i ?_ ?_
                          · -- r173
                            first | omega | assumption | grind
                          refine req_i ?_ ?_
                          · -- r174
                            first | trivial | assumption | (simp only [sigCmp, cmpPost, List.cons.injEq, DV.b.injEq, and_true, List.length_cons, List.length_nil]; done) | ((try simp only [sigCmp, cmpPost, List.cons.injEq, DV.b.injEq, and_true, List.length_cons, List.length_nil]); first | omega | assumption | grind)
                          refine all_i fun n56 => ?_
                          refine imp_i fun h168 => ?_
                          refine imp_i fun h169 => ?_
                          refine imp_i fun h170 => ?_
                          try simp only [sigCmp, cmpPost, List.cons.injEq, DV.b.injEq, and_true, List.length_cons, List.length_nil] at h170
                          refine req_i ?_ ?_
                          · -- r175
                            first | omega | ((try simp only [sigL3, List.cons.injEq, DV.b.injEq, and_true, List.length_cons, List.length_nil, dec_iff]); first | done | omega | assumption | grind [getD_set, getD_rep, toNat_succ, cntN_yes, cntN_no])
                          rfl
                        ·
                          refine req_i ?_ ?_
                          · -- r176
                            first | omega | ((try simp only [sigL3, List.cons.injEq, DV.b.injEq, and_true, List.length_cons, List.length_nil]); first | done | omega | assumption | grind [getD_set, getD_rep, toNat_succ, cntN_yes, cntN_no])
                          rfl
theorem ext_FixedWideRing : ∀ p ∈ ([(10, Ext.ctr (ctOf sigTrue0)), (24, Ext.ctr (ctOf sigProd)), (22, Ext.ctr (ctOf sigPlus)), (35, Ext.ctr (ctOf sigMinus)), (25, Ext.ctr (ctOf sigCmp)), (21, Ext.ctr (ctOf sigNar))] : List (Nat × Ext)), ExtRow Try.prog p.1 p.2 := by
  intro p hp
  simp only [List.mem_cons, List.not_mem_nil, or_false] at hp
  rcases hp with rfl | rfl | rfl | rfl | rfl | rfl
  · trivial
  · trivial
  · trivial
  · trivial
  · trivial
  · trivial
theorem cts_FixedWideRing : CtsOk Try.prog [(10, Ext.ctr (ctOf sigTrue0)), (24, Ext.ctr (ctOf sigProd)), (22, Ext.ctr (ctOf sigPlus)), (35, Ext.ctr (ctOf sigMinus)), (25, Ext.ctr (ctOf sigCmp)), (21, Ext.ctr (ctOf sigNar))] := ctsOk_of (cs := [(10, sigTrue0), (24, sigProd), (22, sigPlus), (35, sigMinus), (25, sigCmp), (21, sigNar)])
  (fun p hp => by
    simp only [List.mem_cons, List.not_mem_nil, or_false] at hp
    rcases hp with rfl | rfl | rfl | rfl | rfl | rfl
    · exact fn_lives
    · exact fn_prod
    · exact fn_plus
    · exact fn_minus
    · exact fn_cmp
    · exact fn_narrow
)
  (fun f c h => by
    simp only [List.lookup_cons] at h
    repeat' split at h
    all_goals first | (cases h; done) | (rename_i e; have e := beq_iff_eq.1 e; subst e; cases h; exact ⟨_, by simp, rfl⟩))
theorem fn_FixedWideRing : FnOk Try.prog 9 sigL3 [] := fn_sound (by kernel_rfl) ext_FixedWideRing cts_FixedWideRing names vt_FixedWideRing
end Go.Proofs.Ytcddopooofdgcaa

