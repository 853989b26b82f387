import Derived.Test.YtikcjpkocadfdaaDoorSpec02e
import Derived.Test.YtikcjpkocadfdaaDoorRows
import Derived.Test.YtikcjpkocadfdaaDoorEvSU
import Derived.Test.YtikcjpkocadfdaaDoorFnames
namespace Go.Proofs.YtikcjpkocadfdaaDoor
open Go.Ev Go.Sp
set_option maxRecDepth 100000
theorem vc_lives : vcFn Tryd.prog [(60, Ext.sub64), (72, Ext.add64)] noA gl11 3000 11 sigTrue0 = (impB (sigTrue0.pre []) (
reqB (sigTrue0.post [] [DV.b (eqI (Int.ofNat (3 : Nat)) (3 : Int))]) (
true))) := by kernel_rfl
set_option maxHeartbeats 8000000 in
theorem vt_lives : vcFn Tryd.prog [(60, Ext.sub64), (72, Ext.add64)] noA gl11 3000 11 sigTrue0 = true := by
  rw [vc_lives]
  try simp only [bR_same, dec_same, bR_true, bR_false]
  simp only [allB_iff, impB_iff, reqB_iff, bR_iff, bR_iff_f, dec_iff, dec_f, reduceCtorEq, imp_false, Classical.not_not, implies_true, true_and, and_true]
  intro _
  first | rfl | trivial | simp [sigTrue0]
theorem ext_lives : ∀ p ∈ ([(60, Ext.sub64), (72, Ext.add64)] : List (Nat × Ext)), ExtRow Tryd.prog p.1 p.2 := by
  intro p hp
  simp only [List.mem_cons, List.not_mem_nil, or_false] at hp
  rcases hp with rfl | rfl
  · exact ⟨Tryd.f60, Tryd.func60, by kernel_rfl, by kernel_rfl, by kernel_rfl, by kernel_rfl⟩
  · exact ⟨Tryd.f72, Tryd.func72, by kernel_rfl, by kernel_rfl, by kernel_rfl, by kernel_rfl⟩
theorem cts_lives : CtsOk Tryd.prog [(60, Ext.sub64), (72, Ext.add64)] := fun f c h => by
  simp only [List.lookup_cons, List.lookup_nil] at h
  repeat' split at h
  all_goals cases h
theorem fn_lives : FnOk Tryd.prog 11 sigTrue0 gl11 := fn_sound (by kernel_rfl) ext_lives cts_lives names vt_lives
end Go.Proofs.YtikcjpkocadfdaaDoor

namespace Go.Proofs.YtikcjpkocadfdaaDoor
open Go.Ev Go.Sp
set_option maxRecDepth 100000
theorem vc_root : vcFn Tryd.prog [] tab02 gl11 100 25 sigRt = (allB fun n0 : Int => 
impB ((-9223372036854775808 : Int) ≤ n0) (
impB (n0 ≤ (9223372036854775807 : Int)) (
impB (sigRt.pre [DV.n n0]) (
bR (dec (n0 < (0 : Int))) (
 reqB (sigRt.post [DV.n n0] [DV.n (0 : Int), DV.n (2 : Int)]) (
 true)) (
 reqB ((-9223372036854775808 : Int) ≤ n0) (
 reqB (n0 ≤ (9223372036854775807 : Int)) (
 reqB (rtL.inv [DV.n n0] [DV.n (0 : Int), DV.n (Int.ofNat (2147483648 : Nat))]) (
 allB fun n1 : Int => 
 impB ((0 : Int) ≤ n1) (
 impB (n1 ≤ (4294967296 : Int)) (
 allB fun n2 : Int => 
 impB ((0 : Int) ≤ n2) (
 impB (n2 ≤ (2147483648 : Int)) (
 impB (rtL.inv [DV.n n0] [DV.n n1, DV.n n2]) (
 bR (dec ((0 : Int) < n2)) (
 allB fun n3 : Int => 
 impB (n3 = Go.IntKind.u64.wrap ((n1 + n2) * (n1 + n2))) (
 impB (Int.ofNat (0 : Nat) ≤ n3) (
 impB (n3 ≤ Int.ofNat (18446744073709551615 : Nat)) (
 allB fun n4 : Int => 
 impB (n4 = Go.IntKind.u64.wrap n0) (
 impB (Int.ofNat (0 : Nat) ≤ n4) (
 impB (n4 ≤ Int.ofNat (18446744073709551615 : Nat)) (
 bR (dec (n3 ≠ n3)) (
 bR (dec (n4 ≠ n4)) (
 reqB ((0 : Int) ≤ n1 + n2) (
 reqB (n1 + n2 ≤ (9223372036854775807 : Int)) (
 reqB (sigRt.post [DV.n n0] [DV.n (n1 + n2), DV.n (0 : Int)]) (
 true)))) (
 bR (bR (dec (n0 = n0)) (
 true) (
 false)) (
 reqB ((0 : Int) ≤ n1 + n2) (
 reqB (n1 + n2 ≤ (4294967296 : Int)) (
 reqB ((0 : Int) ≤ n2.tdiv (2 : Int)) (
 reqB (n2.tdiv (2 : Int) ≤ (2147483648 : Int)) (
 reqB (rtL.inv [DV.n n0] [DV.n (n1 + n2), DV.n (n2.tdiv (2 : Int))]) (
 reqB (rtL.mea [DV.n n0] [DV.n (n1 + n2), DV.n (n2.tdiv (2 : Int))] <
 rtL.mea [DV.n n0] [DV.n n1, DV.n n2]) (
 true))))))) (
 false))) (
 bR (dec (n4 ≠ n4)) (
 bR (bR (dec (n0 = n0)) (
 true) (
 false)) (
 reqB ((0 : Int) ≤ n1) (
 reqB (n1 ≤ (4294967296 : Int)) (
 reqB ((0 : Int) ≤ n2.tdiv (2 : Int)) (
 reqB (n2.tdiv (2 : Int) ≤ (2147483648 : Int)) (
 reqB (rtL.inv [DV.n n0] [DV.n n1, DV.n (n2.tdiv (2 : Int))]) (
 reqB (rtL.mea [DV.n n0] [DV.n n1, DV.n (n2.tdiv (2 : Int))] <
 rtL.mea [DV.n n0] [DV.n n1, DV.n n2]) (
 true))))))) (
 false)) (
 bR (dec (n3 < n4)) (
 bR (bR (dec (n0 = n0)) (
 true) (
 false)) (
 reqB ((0 : Int) ≤ n1 + n2) (
 reqB (n1 + n2 ≤ (4294967296 : Int)) (
 reqB ((0 : Int) ≤ n2.tdiv (2 : Int)) (
 reqB (n2.tdiv (2 : Int) ≤ (2147483648 : Int)) (
 reqB (rtL.inv [DV.n n0] [DV.n (n1 + n2), DV.n (n2.tdiv (2 : Int))]) (
 reqB (rtL.mea [DV.n n0] [DV.n (n1 + n2), DV.n (n2.tdiv (2 : Int))] <
 rtL.mea [DV.n n0] [DV.n n1, DV.n n2]) (
 true))))))) (
 false)) (
 bR (dec (n4 < n3)) (
 bR (bR (dec (n0 = n0)) (
 true) (
 false)) (
 reqB ((0 : Int) ≤ n1) (
 reqB (n1 ≤ (4294967296 : Int)) (
 reqB ((0 : Int) ≤ n2.tdiv (2 : Int)) (
 reqB (n2.tdiv (2 : Int) ≤ (2147483648 : Int)) (
 reqB (rtL.inv [DV.n n0] [DV.n n1, DV.n (n2.tdiv (2 : Int))]) (
 reqB (rtL.mea [DV.n n0] [DV.n n1, DV.n (n2.tdiv (2 : Int))] <
 rtL.mea [DV.n n0] [DV.n n1, DV.n n2]) (
 true))))))) (
 false)) (
 reqB ((0 : Int) ≤ n1 + n2) (
 reqB (n1 + n2 ≤ (9223372036854775807 : Int)) (
 reqB (sigRt.post [DV.n n0] [DV.n (n1 + n2), DV.n (0 : Int)]) (
 true)))))))))))))) (
 reqB ((0 : Int) ≤ n1) (
 reqB (n1 ≤ (9223372036854775807 : Int)) (
 reqB (sigRt.post [DV.n n0] [DV.n n1, DV.n (0 : Int)]) (
 true))))))))))))))))) := by kernel_rfl
set_option maxHeartbeats 8000000 in
theorem vt_root : vcFn Tryd.prog [] tab02 gl11 100 25 sigRt = true := by
  rw [vc_root]
  try simp only [Int.toNat_natCast, List.length_set, List.length_replicate, List.length_take, List.length_drop, List.length_append, List.length_cons, List.length_nil, Nat.min_self, List.take_take, lenCols_i, lenCols_b, List.drop_zero, List.take_length, Nat.add_eq, Nat.mul_eq, Nat.sub_eq, Nat.zero_add, Nat.sub_zero, Nat.mul_one]
  refine all_i fun n0 => ?_
  refine imp_i fun h0 => ?_
  refine imp_i fun h1 => ?_
  refine imp_i fun h2 => ?_
  try simp only [sigRt, rtPost, List.cons.injEq, DV.b.injEq, and_true, List.length_cons, List.length_nil] at h2
  refine bR_dec (fun h3 => ?_) (fun h3 => ?_)
  ·
   refine req_i ?_ ?_
   · -- r0
    first | omega | ((try simp only [sigRt, rtPost, List.cons.injEq, DV.b.injEq, and_true, List.length_cons, List.length_nil]); first | done | omega | assumption | grind [getD_set, getD_rep, toNat_succ, cntN_yes, cntN_no])
   rfl
  ·
   refine req_i ?_ ?_
   · -- r1
    first | omega | assumption | grind
   refine req_i ?_ ?_
   · -- r2
    first | omega | assumption | grind
   refine req_i ?_ ?_
   · -- r3
    show 0 ≤ n0 ∧ srch 4294967296 n0 2147483648 0; exact ⟨by omega, srch_0 31 (by decide) (by decide) (by decide) (by omega) (by omega)⟩
   refine all_i fun n1 => ?_
   refine imp_i fun h4 => ?_
   refine imp_i fun h5 => ?_
   refine all_i fun n2 => ?_
   refine imp_i fun h6 => ?_
   refine imp_i fun h7 => ?_
   refine imp_i fun h8 => ?_
   try simp only [rtL, rtInv, rtMea, List.cons.injEq, DV.b.injEq, and_true, List.length_cons, List.length_nil] at h8
   have hs := h8.2
   refine bR_dec (fun h9 => ?_) (fun h9 => ?_)
   ·
    have q := hs.1
    have q4 := hs.2.2.2.1
    have e2 : n2.tdiv 2 = n2 / 2 := tdiv_nn (by omega)
    have mb := mul_bd (a := n1 + n2) (b := n1 + n2) (A := 4294967295) (B := 4294967295) (by omega) (by omega) (by omega) (by omega)
    refine all_i fun n3 => ?_
    refine imp_i fun h10 => ?_
    simp only [wrap_u64] at h10
    try simp only [wrap_i64, wrap_u64] at h10
    have h10 : n3 = (n1 + n2) * (n1 + n2) := by omega
    refine imp_i fun h11 => ?_
    refine imp_i fun h12 => ?_
    refine all_i fun n4 => ?_
    refine imp_i fun h13 => ?_
    simp only [wrap_u64] at h13
    try simp only [wrap_i64, wrap_u64] at h13
    have h13 : n4 = n0 := by omega
    refine imp_i fun h14 => ?_
    refine imp_i fun h15 => ?_
    refine bR_dec (fun h16 => ?_) (fun h16 => ?_)
    ·
     refine bR_dec (fun h17 => ?_) (fun h17 => ?_)
     ·
      refine req_i ?_ ?_
      · -- r4
       first | omega | assumption | grind
      refine req_i ?_ ?_
      · -- r5
       first | omega | assumption | grind
      refine req_i ?_ ?_
      · -- r6
       first | omega | ((try simp only [sigRt, rtPost, List.cons.injEq, DV.b.injEq, and_true, List.length_cons, List.length_nil]); first | done | omega | assumption | grind [getD_set, getD_rep, toNat_succ, cntN_yes, cntN_no])
      rfl
     ·
      refine bR_t ?_ ?_
      · -- g0
       first | rfl | (simp only [bR_iff, bR_iff_f, dec_iff, dec_f, beqB_iff', andB_iff', reduceCtorEq, imp_self, false_implies, and_true, true_and, implies_true, and_self]; done) | (simp [bR_iff, dec_iff, beqB_iff', andB_iff']; done) | (simp [bR_iff, dec_iff, beqB_iff', andB_iff']; omega)
      refine req_i ?_ ?_
      · -- r7
       first | omega | assumption | grind
      refine req_i ?_ ?_
      · -- r8
       first | omega | assumption | grind
      refine req_i ?_ ?_
      · -- r9
       first | omega | assumption | grind
      refine req_i ?_ ?_
      · -- r10
       first | omega | assumption | grind
      refine req_i ?_ ?_
      · -- r11
       first | omega | ((try simp only [rtL, rtInv, rtMea, List.cons.injEq, DV.b.injEq, and_true, List.length_cons, List.length_nil]); first | done | omega | assumption | grind [getD_set, getD_rep, toNat_succ, cntN_yes, cntN_no])
      refine req_i ?_ ?_
      · -- r12
       first | omega | ((try simp only [rtL, rtInv, rtMea, List.cons.injEq, DV.b.injEq, and_true, List.length_cons, List.length_nil]); first | done | omega | assumption | grind [getD_set, getD_rep, toNat_succ, cntN_yes, cntN_no])
      rfl
    ·
     refine bR_dec (fun h18 => ?_) (fun h18 => ?_)
     ·
      refine bR_t ?_ ?_
      · -- g1
       first | rfl | (simp only [bR_iff, bR_iff_f, dec_iff, dec_f, beqB_iff', andB_iff', reduceCtorEq, imp_self, false_implies, and_true, true_and, implies_true, and_self]; done) | (simp [bR_iff, dec_iff, beqB_iff', andB_iff']; done) | (simp [bR_iff, dec_iff, beqB_iff', andB_iff']; omega)
      refine req_i ?_ ?_
      · -- r13
       first | omega | assumption | grind
      refine req_i ?_ ?_
      · -- r14
       first | omega | assumption | grind
      refine req_i ?_ ?_
      · -- r15
       first | omega | assumption | grind
      refine req_i ?_ ?_
      · -- r16
       first | omega | assumption | grind
      refine req_i ?_ ?_
      · -- r17
       first | omega | ((try simp only [rtL, rtInv, rtMea, List.cons.injEq, DV.b.injEq, and_true, List.length_cons, List.length_nil]); first | done | omega | assumption | grind [getD_set, getD_rep, toNat_succ, cntN_yes, cntN_no])
      refine req_i ?_ ?_
      · -- r18
       first | omega | ((try simp only [rtL, rtInv, rtMea, List.cons.injEq, DV.b.injEq, and_true, List.length_cons, List.length_nil]); first | done | omega | assumption | grind [getD_set, getD_rep, toNat_succ, cntN_yes, cntN_no])
      rfl
     ·
      refine bR_dec (fun h19 => ?_) (fun h19 => ?_)
      ·
       refine bR_t ?_ ?_
       · -- g2
        first | rfl | (simp only [bR_iff, bR_iff_f, dec_iff, dec_f, beqB_iff', andB_iff', reduceCtorEq, imp_self, false_implies, and_true, true_and, implies_true, and_self]; done) | (simp [bR_iff, dec_iff, beqB_iff', andB_iff']; done) | (simp [bR_iff, dec_iff, beqB_iff', andB_iff']; omega)
       refine req_i ?_ ?_
       · -- r19
        first | omega | assumption | grind
       refine req_i ?_ ?_
       · -- r20
        first | omega | assumption | grind
       refine req_i ?_ ?_
       · -- r21
        first | omega | assumption | grind
       refine req_i ?_ ?_
       · -- r22
        first | omega | assumption | grind
       refine req_i ?_ ?_
       · -- r23
        show 0 ≤ n0 ∧ srch 4294967296 n0 (n2.tdiv 2) (n1 + n2); rw [e2]; exact ⟨h8.1, srch_up hs h9 (by omega)⟩
       refine req_i ?_ ?_
       · -- r24
        show (n2.tdiv 2).toNat < n2.toNat; rw [e2]; omega
       rfl
      ·
       refine bR_dec (fun h20 => ?_) (fun h20 => ?_)
       ·
        refine bR_t ?_ ?_
        · -- g3
         first | rfl | (simp only [bR_iff, bR_iff_f, dec_iff, dec_f, beqB_iff', andB_iff', reduceCtorEq, imp_self, false_implies, and_true, true_and, implies_true, and_self]; done) | (simp [bR_iff, dec_iff, beqB_iff', andB_iff']; done) | (simp [bR_iff, dec_iff, beqB_iff', andB_iff']; omega)
        refine req_i ?_ ?_
        · -- r25
         first | omega | assumption | grind
        refine req_i ?_ ?_
        · -- r26
         first | omega | assumption | grind
        refine req_i ?_ ?_
        · -- r27
         first | omega | assumption | grind
        refine req_i ?_ ?_
        · -- r28
         first | omega | assumption | grind
        refine req_i ?_ ?_
        · -- r29
         show 0 ≤ n0 ∧ srch 4294967296 n0 (n2.tdiv 2) n1; rw [e2]; exact ⟨h8.1, srch_down hs h9 (by omega)⟩
        refine req_i ?_ ?_
        · -- r30
         show (n2.tdiv 2).toNat < n2.toNat; rw [e2]; omega
        rfl
       ·
        refine req_i ?_ ?_
        · -- r31
         first | omega | assumption | grind
        refine req_i ?_ ?_
        · -- r32
         first | omega | assumption | grind
        refine req_i ?_ ?_
        · -- r33
         exact .inr ⟨h8.1, rfl, srch_hit hs h9 (by omega)⟩
        rfl
   ·
    refine req_i ?_ ?_
    · -- r34
     first | omega | assumption | grind
    refine req_i ?_ ?_
    · -- r35
     first | omega | assumption | grind
    refine req_i ?_ ?_
    · -- r36
     exact .inr ⟨h8.1, rfl, srch_end hs h9⟩
    rfl
theorem ext_root : ∀ p ∈ ([] : List (Nat × Ext)), ExtRow Tryd.prog p.1 p.2 := by
  intro p hp
  cases hp
theorem cts_root : CtsOk Tryd.prog [] := fun f c h => by cases h
theorem fn_root : FnOk Tryd.prog 25 sigRt gl11 := fn_sound (by kernel_rfl) ext_root cts_root names vt_root
end Go.Proofs.YtikcjpkocadfdaaDoor

namespace Go.Proofs.YtikcjpkocadfdaaDoor
open Go.Ev Go.Sp
set_option maxRecDepth 100000
theorem vc_size : vcFn Tryd.prog [] tab02 gl11 100 74 sigSize = (allB fun n0 : Int => 
impB ((-9223372036854775808 : Int) ≤ n0) (
impB (n0 ≤ (9223372036854775807 : Int)) (
impB (sigSize.pre [DV.n n0]) (
bR (dec (n0 < (0 : Int))) (
 allB fun n1 : Int => 
 impB (n1 = Go.IntKind.u64.wrap n0) (
 impB (Int.ofNat (0 : Nat) ≤ n1) (
 impB (n1 ≤ Int.ofNat (18446744073709551615 : Nat)) (
 allB fun n2 : Int => 
 impB (n2 = Go.IntKind.u64.wrap ((0 : Int) - n1)) (
 impB (Int.ofNat (0 : Nat) ≤ n2) (
 impB (n2 ≤ Int.ofNat (18446744073709551615 : Nat)) (
 reqB ((0 : Int) ≤ n2) (
 reqB (n2 ≤ (9223372036854775808 : Int)) (
 reqB (sigSize.post [DV.n n0] [DV.n n2]) (
 true)))))))))) (
 allB fun n3 : Int => 
 impB (n3 = Go.IntKind.u64.wrap n0) (
 impB (Int.ofNat (0 : Nat) ≤ n3) (
 impB (n3 ≤ Int.ofNat (18446744073709551615 : Nat)) (
 reqB ((0 : Int) ≤ n3) (
 reqB (n3 ≤ (9223372036854775808 : Int)) (
 reqB (sigSize.post [DV.n n0] [DV.n n3]) (
 true))))))))))) := by kernel_rfl
set_option maxHeartbeats 8000000 in
theorem vt_size : vcFn Tryd.prog [] tab02 gl11 100 74 sigSize = true := by
  rw [vc_size]
  try simp only [Int.toNat_natCast, List.length_set, List.length_replicate, List.length_take, List.length_drop, List.length_append, List.length_cons, List.length_nil, Nat.min_self, List.take_take, lenCols_i, lenCols_b, List.drop_zero, List.take_length, Nat.add_eq, Nat.mul_eq, Nat.sub_eq, Nat.zero_add, Nat.sub_zero, Nat.mul_one]
  refine all_i fun n0 => ?_
  refine imp_i fun h0 => ?_
  refine imp_i fun h1 => ?_
  refine imp_i fun h2 => ?_
  try simp only [sigSize, sizePost, absI, List.cons.injEq, DV.b.injEq, and_true, List.length_cons, List.length_nil] at h2
  refine bR_dec (fun h3 => ?_) (fun h3 => ?_)
  ·
   refine all_i fun n1 => ?_
   refine imp_i fun h4 => ?_
   simp only [wrap_u64] at h4
   refine imp_i fun h5 => ?_
   refine imp_i fun h6 => ?_
   refine all_i fun n2 => ?_
   refine imp_i fun h7 => ?_
   simp only [wrap_u64] at h7
   refine imp_i fun h8 => ?_
   refine imp_i fun h9 => ?_
   refine req_i ?_ ?_
   · -- r0
    first | omega | assumption | grind
   refine req_i ?_ ?_
   · -- r1
    first | omega | assumption | grind
   refine req_i ?_ ?_
   · -- r2
    first | omega | ((try simp only [sigSize, sizePost, absI, List.cons.injEq, DV.b.injEq, and_true, List.length_cons, List.length_nil]); first | done | omega | assumption | grind [getD_set, getD_rep, toNat_succ, cntN_yes, cntN_no])
   rfl
  ·
   refine all_i fun n3 => ?_
   refine imp_i fun h10 => ?_
   simp only [wrap_u64] at h10
   refine imp_i fun h11 => ?_
   refine imp_i fun h12 => ?_
   refine req_i ?_ ?_
   · -- r3
    first | omega | assumption | grind
   refine req_i ?_ ?_
   · -- r4
    first | omega | assumption | grind
   refine req_i ?_ ?_
   · -- r5
    first | omega | ((try simp only [sigSize, sizePost, absI, List.cons.injEq, DV.b.injEq, and_true, List.length_cons, List.length_nil]); first | done | omega | assumption | grind [getD_set, getD_rep, toNat_succ, cntN_yes, cntN_no])
   rfl
theorem ext_size : ∀ p ∈ ([] : List (Nat × Ext)), ExtRow Tryd.prog p.1 p.2 := by
  intro p hp
  cases hp
theorem cts_size : CtsOk Tryd.prog [] := fun f c h => by cases h
theorem fn_size : FnOk Tryd.prog 74 sigSize gl11 := fn_sound (by kernel_rfl) ext_size cts_size names vt_size
end Go.Proofs.YtikcjpkocadfdaaDoor

namespace Go.Proofs.YtikcjpkocadfdaaDoor
open Go.Ev Go.Sp
set_option maxRecDepth 100000
theorem vc_mul64 : vcFn Tryd.prog [] tab02 gl11 100 58 sigMul = (allB fun n0 : Int => 
impB ((0 : Int) ≤ n0) (
impB (n0 ≤ (18446744073709551615 : Int)) (
allB fun n1 : Int => 
impB ((0 : Int) ≤ n1) (
impB (n1 ≤ (18446744073709551615 : Int)) (
impB (sigMul.pre [DV.n n0, DV.n n1]) (
allB fun n2 : Int => 
impB (n2 = Go.IntKind.u64.wrap (n0 * n1)) (
impB (Int.ofNat (0 : Nat) ≤ n2) (
impB (n2 ≤ Int.ofNat (18446744073709551615 : Nat)) (
reqB ((0 : Int) ≤
 n0 / Int.ofNat (4294967296 : Nat) * (n1 / Int.ofNat (4294967296 : Nat)) +
 (n0 / Int.ofNat (4294967296 : Nat) * (n1 % Int.ofNat (4294967296 : Nat)) +
 n0 % Int.ofNat (4294967296 : Nat) * (n1 % Int.ofNat (4294967296 : Nat)) / Int.ofNat (4294967296 : Nat)) /
 Int.ofNat (4294967296 : Nat) +
 ((n0 / Int.ofNat (4294967296 : Nat) * (n1 % Int.ofNat (4294967296 : Nat)) +
 n0 % Int.ofNat (4294967296 : Nat) * (n1 % Int.ofNat (4294967296 : Nat)) / Int.ofNat (4294967296 : Nat)) %
 Int.ofNat (4294967296 : Nat) +
 n0 % Int.ofNat (4294967296 : Nat) * (n1 / Int.ofNat (4294967296 : Nat))) /
 Int.ofNat (4294967296 : Nat)) (
reqB (n0 / Int.ofNat (4294967296 : Nat) * (n1 / Int.ofNat (4294967296 : Nat)) +
 (n0 / Int.ofNat (4294967296 : Nat) * (n1 % Int.ofNat (4294967296 : Nat)) +
 n0 % Int.ofNat (4294967296 : Nat) * (n1 % Int.ofNat (4294967296 : Nat)) / Int.ofNat (4294967296 : Nat)) /
 Int.ofNat (4294967296 : Nat) +
 ((n0 / Int.ofNat (4294967296 : Nat) * (n1 % Int.ofNat (4294967296 : Nat)) +
 n0 % Int.ofNat (4294967296 : Nat) * (n1 % Int.ofNat (4294967296 : Nat)) / Int.ofNat (4294967296 : Nat)) %
 Int.ofNat (4294967296 : Nat) +
 n0 % Int.ofNat (4294967296 : Nat) * (n1 / Int.ofNat (4294967296 : Nat))) /
 Int.ofNat (4294967296 : Nat) ≤
 (18446744073709551615 : Int)) (
reqB ((0 : Int) ≤ n2) (
reqB (n2 ≤ (18446744073709551615 : Int)) (
reqB (sigMul.post [DV.n n0, DV.n n1]
 [DV.n
 (n0 / Int.ofNat (4294967296 : Nat) * (n1 / Int.ofNat (4294967296 : Nat)) +
 (n0 / Int.ofNat (4294967296 : Nat) * (n1 % Int.ofNat (4294967296 : Nat)) +
 n0 % Int.ofNat (4294967296 : Nat) * (n1 % Int.ofNat (4294967296 : Nat)) / Int.ofNat (4294967296 : Nat)) /
 Int.ofNat (4294967296 : Nat) +
 ((n0 / Int.ofNat (4294967296 : Nat) * (n1 % Int.ofNat (4294967296 : Nat)) +
 n0 % Int.ofNat (4294967296 : Nat) * (n1 % Int.ofNat (4294967296 : Nat)) /
 Int.ofNat (4294967296 : Nat)) %
 Int.ofNat (4294967296 : Nat) +
 n0 % Int.ofNat (4294967296 : Nat) * (n1 / Int.ofNat (4294967296 : Nat))) /
 Int.ofNat (4294967296 : Nat)),
 DV.n n2]) (
true)))))))))))))) := by kernel_rfl
set_option maxHeartbeats 8000000 in
theorem vt_mul64 : vcFn Tryd.prog [] tab02 gl11 100 58 sigMul = true := by
  rw [vc_mul64]
  try simp only [Int.toNat_natCast, List.length_set, List.length_replicate, List.length_take, List.length_drop, List.length_append, List.length_cons, List.length_nil, Nat.min_self, List.take_take, lenCols_i, lenCols_b, List.drop_zero, List.take_length, Nat.add_eq, Nat.mul_eq, Nat.sub_eq, Nat.zero_add, Nat.sub_zero, Nat.mul_one]
  refine all_i fun n0 => ?_
  refine imp_i fun h0 => ?_
  refine imp_i fun h1 => ?_
  refine all_i fun n1 => ?_
  refine imp_i fun h2 => ?_
  refine imp_i fun h3 => ?_
  refine imp_i fun h4 => ?_
  try simp only [sigMul, mulPost, List.cons.injEq, DV.b.injEq, and_true, List.length_cons, List.length_nil] at h4
  have m := mul64_eq (x := n0) (y := n1) (by omega) (by omega) (by omega) (by omega)
  refine all_i fun n2 => ?_
  refine imp_i fun h5 => ?_
  simp only [wrap_u64] at h5
  simp only [show Int.ofNat 4294967296 = 4294967296 from rfl]
  rw [m.2.2]
  refine imp_i fun h6 => ?_
  refine imp_i fun h7 => ?_
  refine req_i ?_ ?_
  · -- r0
   first | omega | assumption | grind
  refine req_i ?_ ?_
  · -- r1
   first | omega | assumption | grind
  refine req_i ?_ ?_
  · -- r2
   first | omega | assumption | grind
  refine req_i ?_ ?_
  · -- r3
   first | omega | assumption | grind
  refine req_i ?_ ?_
  · -- r4
   first | omega | ((try simp only [sigMul, mulPost, List.cons.injEq, DV.b.injEq, and_true, List.length_cons, List.length_nil]); first | done | omega | assumption | grind [getD_set, getD_rep, toNat_succ, cntN_yes, cntN_no])
  rfl
theorem ext_mul64 : ∀ p ∈ ([] : List (Nat × Ext)), ExtRow Tryd.prog p.1 p.2 := by
  intro p hp
  cases hp
theorem cts_mul64 : CtsOk Tryd.prog [] := fun f c h => by cases h
theorem fn_mul64 : FnOk Tryd.prog 58 sigMul gl11 := fn_sound (by kernel_rfl) ext_mul64 cts_mul64 names vt_mul64
end Go.Proofs.YtikcjpkocadfdaaDoor

namespace Go.Proofs.YtikcjpkocadfdaaDoor
open Go.Ev Go.Sp
set_option maxRecDepth 100000
theorem vc_times : vcFn Tryd.prog [(74, Ext.ctr (ctOfG gl11 sigSize)), (58, Ext.ctr (ctOfG gl11 sigMul))] noA gl11 100 69 sigTimes = (allB fun n0 : Int => 
impB ((-9223372036854775808 : Int) ≤ n0) (
impB (n0 ≤ (9223372036854775807 : Int)) (
allB fun n1 : Int => 
impB ((-9223372036854775808 : Int) ≤ n1) (
impB (n1 ≤ (9223372036854775807 : Int)) (
impB (sigTimes.pre [DV.n n0, DV.n n1]) (
reqB ((-9223372036854775808 : Int) ≤ n0) (
reqB (n0 ≤ (9223372036854775807 : Int)) (
reqB (sigSize.pre [DV.n n0]) (
allB fun n2 : Int => 
impB ((0 : Int) ≤ n2) (
impB (n2 ≤ (9223372036854775808 : Int)) (
impB (sigSize.post [DV.n n0] [DV.n n2]) (
reqB ((-9223372036854775808 : Int) ≤ n1) (
reqB (n1 ≤ (9223372036854775807 : Int)) (
reqB (sigSize.pre [DV.n n1]) (
allB fun n3 : Int => 
impB ((0 : Int) ≤ n3) (
impB (n3 ≤ (9223372036854775808 : Int)) (
impB (sigSize.post [DV.n n1] [DV.n n3]) (
reqB ((0 : Int) ≤ n2) (
reqB (n2 ≤ (18446744073709551615 : Int)) (
reqB ((0 : Int) ≤ n3) (
reqB (n3 ≤ (18446744073709551615 : Int)) (
reqB (sigMul.pre [DV.n n2, DV.n n3]) (
allB fun n4 : Int => 
impB ((0 : Int) ≤ n4) (
impB (n4 ≤ (18446744073709551615 : Int)) (
allB fun n5 : Int => 
impB ((0 : Int) ≤ n5) (
impB (n5 ≤ (18446744073709551615 : Int)) (
impB (sigMul.post [DV.n n2, DV.n n3] [DV.n n4, DV.n n5]) (
reqB ((0 : Int) ≤ n4) (
reqB (n4 ≤ (18446744073709551615 : Int)) (
reqB ((0 : Int) ≤ n5) (
reqB (n5 ≤ (18446744073709551615 : Int)) (
reqB (sigTimes.post [DV.n n0, DV.n n1] [DV.n n4, DV.n n5]) (
true))))))))))))))))))))))))))))))))) := by kernel_rfl
set_option maxHeartbeats 8000000 in
theorem vt_times : vcFn Tryd.prog [(74, Ext.ctr (ctOfG gl11 sigSize)), (58, Ext.ctr (ctOfG gl11 sigMul))] noA gl11 100 69 sigTimes = true := by
  rw [vc_times]
  try simp only [Int.toNat_natCast, List.length_set, List.length_replicate, List.length_take, List.length_drop, List.length_append, List.length_cons, List.length_nil, Nat.min_self, List.take_take, lenCols_i, lenCols_b, List.drop_zero, List.take_length, Nat.add_eq, Nat.mul_eq, Nat.sub_eq, Nat.zero_add, Nat.sub_zero, Nat.mul_one]
  refine all_i fun n0 => ?_
  refine imp_i fun h0 => ?_
  refine imp_i fun h1 => ?_
  refine all_i fun n1 => ?_
  refine imp_i fun h2 => ?_
  refine imp_i fun h3 => ?_
  refine imp_i fun h4 => ?_
  try simp only [sigTimes, timesPost, List.cons.injEq, DV.b.injEq, and_true, List.length_cons, List.length_nil] at h4
  refine req_i ?_ ?_
  · -- r0
   first | omega | assumption | grind
  refine req_i ?_ ?_
  · -- r1
   first | omega | assumption | grind
  refine req_i ?_ ?_
  · -- r2
   first | trivial | assumption | (simp only [sigSize, sizePost, List.cons.injEq, DV.b.injEq, and_true, List.length_cons, List.length_nil]; done) | ((try simp only [sigSize, sizePost, List.cons.injEq, DV.b.injEq, and_true, List.length_cons, List.length_nil]); first | omega | assumption | grind)
  refine all_i fun n2 => ?_
  refine imp_i fun h5 => ?_
  refine imp_i fun h6 => ?_
  refine imp_i fun h7 => ?_
  try simp only [sigSize, sizePost, List.cons.injEq, DV.b.injEq, and_true, List.length_cons, List.length_nil] at h7
  refine req_i ?_ ?_
  · -- r3
   first | omega | assumption | grind
  refine req_i ?_ ?_
  · -- r4
   first | omega | assumption | grind
  refine req_i ?_ ?_
  · -- r5
   first | trivial | assumption | (simp only [sigSize, sizePost, List.cons.injEq, DV.b.injEq, and_true, List.length_cons, List.length_nil]; done) | ((try simp only [sigSize, sizePost, List.cons.injEq, DV.b.injEq, and_true, List.length_cons, List.length_nil]); first | omega | assumption | grind)
  refine all_i fun n3 => ?_
  refine imp_i fun h8 => ?_
  refine imp_i fun h9 => ?_
  refine imp_i fun h10 => ?_
  try simp only [sigSize, sizePost, List.cons.injEq, DV.b.injEq, and_true, List.length_cons, List.length_nil] at h10
  refine req_i ?_ ?_
  · -- r6
   first | omega | assumption | grind
  refine req_i ?_ ?_
  · -- r7
   first | omega | assumption | grind
  refine req_i ?_ ?_
  · -- r8
   first | omega | assumption | grind
  refine req_i ?_ ?_
  · -- r9
   first | omega | assumption | grind
  refine req_i ?_ ?_
  · -- r10
   first | trivial | assumption | (simp only [sigMul, mulPost, List.cons.injEq, DV.b.injEq, and_true, List.length_cons, List.length_nil]; done) | ((try simp only [sigMul, mulPost, List.cons.injEq, DV.b.injEq, and_true, List.length_cons, List.length_nil]); first | omega | assumption | grind)
  refine all_i fun n4 => ?_
  refine imp_i fun h11 => ?_
  refine imp_i fun h12 => ?_
  refine all_i fun n5 => ?_
  refine imp_i fun h13 => ?_
  refine imp_i fun h14 => ?_
  refine imp_i fun h15 => ?_
  try simp only [sigMul, mulPost, List.cons.injEq, DV.b.injEq, and_true, List.length_cons, List.length_nil] at h15
  refine req_i ?_ ?_
  · -- r11
   first | omega | assumption | grind
  refine req_i ?_ ?_
  · -- r12
   first | omega | assumption | grind
  refine req_i ?_ ?_
  · -- r13
   first | omega | assumption | grind
  refine req_i ?_ ?_
  · -- r14
   first | omega | assumption | grind
  refine req_i ?_ ?_
  · -- r15
   first | omega | ((try simp only [sigTimes, timesPost, List.cons.injEq, DV.b.injEq, and_true, List.length_cons, List.length_nil]); first | done | omega | assumption | grind [getD_set, getD_rep, toNat_succ, cntN_yes, cntN_no])
  rfl
theorem ext_times : ∀ p ∈ ([(74, Ext.ctr (ctOfG gl11 sigSize)), (58, Ext.ctr (ctOfG gl11 sigMul))] : List (Nat × Ext)), ExtRow Tryd.prog p.1 p.2 := by
  intro p hp
  simp only [List.mem_cons, List.not_mem_nil, or_false] at hp
  rcases hp with rfl | rfl
  · trivial
  · trivial
theorem cts_times : CtsOk Tryd.prog [(74, Ext.ctr (ctOfG gl11 sigSize)), (58, Ext.ctr (ctOfG gl11 sigMul))] := ctsOk_ofG (cs := [(74, sigSize), (58, sigMul)])
  (fun p hp => by
    simp only [List.mem_cons, List.not_mem_nil, or_false] at hp
    rcases hp with rfl | rfl
    · exact fn_size
    · exact fn_mul64
)
  (fun f c h => by
    simp only [List.lookup_cons] at h
    repeat' split at h
    all_goals first | (cases h; done) | (rename_i e; have e := beq_iff_eq.1 e; subst e; cases h; refine ⟨_, ?_, rfl⟩; simp))
theorem fn_times : FnOk Tryd.prog 69 sigTimes gl11 := fn_sound (by kernel_rfl) ext_times cts_times names vt_times
end Go.Proofs.YtikcjpkocadfdaaDoor

namespace Go.Proofs.YtikcjpkocadfdaaDoor
open Go.Ev Go.Sp
theorem fn_sub64 : FnOk Tryd.prog 60 sigSub64 gl11 := FnOk.laid <| Go.Ev.fn_sub64 ⟨Tryd.f60, Tryd.func60, by kernel_rfl, by kernel_rfl, by kernel_rfl, by kernel_rfl⟩
end Go.Proofs.YtikcjpkocadfdaaDoor

namespace Go.Proofs.YtikcjpkocadfdaaDoor
open Go.Ev Go.Sp
set_option maxRecDepth 100000
theorem vc_prod : vcFn Tryd.prog [(69, Ext.ctr (ctOfG gl11 sigTimes)), (60, Ext.ctr (ctOfG gl11 sigSub64))] tab gl11 100 52 sigProd = (allB fun n0 : Int => 
impB ((-9223372036854775808 : Int) ≤ n0) (
impB (n0 ≤ (9223372036854775807 : Int)) (
allB fun n1 : Int => 
impB ((-9223372036854775808 : Int) ≤ n1) (
impB (n1 ≤ (9223372036854775807 : Int)) (
impB (sigProd.pre [DV.n n0, DV.n n1]) (
reqB ((-9223372036854775808 : Int) ≤ n0) (
reqB (n0 ≤ (9223372036854775807 : Int)) (
reqB ((-9223372036854775808 : Int) ≤ n1) (
reqB (n1 ≤ (9223372036854775807 : Int)) (
reqB (sigTimes.pre [DV.n n0, DV.n n1]) (
allB fun n2 : Int => 
impB ((0 : Int) ≤ n2) (
impB (n2 ≤ (18446744073709551615 : Int)) (
allB fun n3 : Int => 
impB ((0 : Int) ≤ n3) (
impB (n3 ≤ (18446744073709551615 : Int)) (
impB (sigTimes.post [DV.n n0, DV.n n1] [DV.n n2, DV.n n3]) (
bR (bR (dec (n0 < (0 : Int))) (
 dec (n1 < (0 : Int))) (
 bR (dec (n1 < (0 : Int))) (
 false) (
 true))) (
 allB fun n4 : Int => 
 impB (n4 = Go.IntKind.i64.wrap n2) (
 impB (Int.negSucc (9223372036854775807 : Nat) ≤ n4) (
 impB (n4 ≤ Int.ofNat (9223372036854775807 : Nat)) (
 reqB ((-9223372036854775808 : Int) ≤ n4) (
 reqB (n4 ≤ (9223372036854775807 : Int)) (
 reqB ((0 : Int) ≤ n3) (
 reqB (n3 ≤ (18446744073709551615 : Int)) (
 reqB (sigProd.post [DV.n n0, DV.n n1] [DV.n n4, DV.n n3]) (
 true))))))))) (
 reqB ((0 : Int) ≤ n3) (
 reqB (n3 ≤ (18446744073709551615 : Int)) (
 reqB (sigSub64.pre [DV.n (0 : Int), DV.n n3, DV.n (0 : Int)]) (
 allB fun n5 : Int => 
 impB ((0 : Int) ≤ n5) (
 impB (n5 ≤ (18446744073709551615 : Int)) (
 allB fun n6 : Int => 
 impB ((0 : Int) ≤ n6) (
 impB (n6 ≤ (1 : Int)) (
 impB (sigSub64.post [DV.n (0 : Int), DV.n n3, DV.n (0 : Int)] [DV.n n5, DV.n n6]) (
 reqB ((0 : Int) ≤ n2) (
 reqB (n2 ≤ (18446744073709551615 : Int)) (
 reqB ((0 : Int) ≤ n6) (
 reqB (n6 ≤ (1 : Int)) (
 reqB (sigSub64.pre [DV.n (0 : Int), DV.n n2, DV.n n6]) (
 allB fun n7 : Int => 
 impB ((0 : Int) ≤ n7) (
 impB (n7 ≤ (18446744073709551615 : Int)) (
 allB fun n8 : Int => 
 impB ((0 : Int) ≤ n8) (
 impB (n8 ≤ (1 : Int)) (
 impB (sigSub64.post [DV.n (0 : Int), DV.n n2, DV.n n6] [DV.n n7, DV.n n8]) (
 allB fun n9 : Int => 
 impB (n9 = Go.IntKind.i64.wrap n7) (
 impB (Int.negSucc (9223372036854775807 : Nat) ≤ n9) (
 impB (n9 ≤ Int.ofNat (9223372036854775807 : Nat)) (
 reqB ((-9223372036854775808 : Int) ≤ n9) (
 reqB (n9 ≤ (9223372036854775807 : Int)) (
 reqB ((0 : Int) ≤ n5) (
 reqB (n5 ≤ (18446744073709551615 : Int)) (
 reqB (sigProd.post [DV.n n0, DV.n n1] [DV.n n9, DV.n n5]) (
 true))))))))))))))))))))))))))))))))))))))))))) := by kernel_rfl
set_option maxHeartbeats 8000000 in
theorem vt_prod : vcFn Tryd.prog [(69, Ext.ctr (ctOfG gl11 sigTimes)), (60, Ext.ctr (ctOfG gl11 sigSub64))] tab gl11 100 52 sigProd = true := by
  rw [vc_prod]
  try simp only [Int.toNat_natCast, List.length_set, List.length_replicate, List.length_take, List.length_drop, List.length_append, List.length_cons, List.length_nil, Nat.min_self, List.take_take, lenCols_i, lenCols_b, List.drop_zero, List.take_length, Nat.add_eq, Nat.mul_eq, Nat.sub_eq, Nat.zero_add, Nat.sub_zero, Nat.mul_one]
  refine all_i fun n0 => ?_
  refine imp_i fun h0 => ?_
  refine imp_i fun h1 => ?_
  refine all_i fun n1 => ?_
  refine imp_i fun h2 => ?_
  refine imp_i fun h3 => ?_
  refine imp_i fun h4 => ?_
  try simp only [sigProd, prodPost, List.cons.injEq, DV.b.injEq, and_true, List.length_cons, List.length_nil] at h4
  have am := abs_mul (a := n0) (b := n1) (by omega) (by omega) (by omega) (by omega)
  refine req_i ?_ ?_
  · -- r0
   first | omega | assumption | grind
  refine req_i ?_ ?_
  · -- r1
   first | omega | assumption | grind
  refine req_i ?_ ?_
  · -- r2
   first | omega | assumption | grind
  refine req_i ?_ ?_
  · -- r3
   first | omega | assumption | grind
  refine req_i ?_ ?_
  · -- r4
   first | trivial | assumption | (simp only [sigTimes, timesPost, List.cons.injEq, DV.b.injEq, and_true, List.length_cons, List.length_nil]; done) | ((try simp only [sigTimes, timesPost, List.cons.injEq, DV.b.injEq, and_true, List.length_cons, List.length_nil]); first | omega | assumption | grind)
  refine all_i fun n2 => ?_
  refine imp_i fun h5 => ?_
  refine imp_i fun h6 => ?_
  refine all_i fun n3 => ?_
  refine imp_i fun h7 => ?_
  refine imp_i fun h8 => ?_
  refine imp_i fun h9 => ?_
  try simp only [sigTimes, timesPost, List.cons.injEq, DV.b.injEq, and_true, List.length_cons, List.length_nil] at h9
  refine bR_i (fun h10 => ?_) (fun h10 => ?_)
  ·
   simp only [bR_iff, bR_iff_f, dec_iff, dec_f, Bool.false_eq_true, Bool.true_eq_false, false_implies, imp_false, and_true, true_and, implies_true, Classical.not_not] at h10
   refine all_i fun n4 => ?_
   refine imp_i fun h11 => ?_
   simp only [wrap_i64] at h11
   refine imp_i fun h12 => ?_
   refine imp_i fun h13 => ?_
   refine req_i ?_ ?_
   · -- r5
    first | omega | assumption | grind
   refine req_i ?_ ?_
   · -- r6
    first | omega | assumption | grind
   refine req_i ?_ ?_
   · -- r7
    first | omega | assumption | grind
   refine req_i ?_ ?_
   · -- r8
    first | omega | assumption | grind
   refine req_i ?_ ?_
   · -- r9
    first | omega | ((try simp only [sigProd, prodPost, List.cons.injEq, DV.b.injEq, and_true, List.length_cons, List.length_nil]); first | done | omega | assumption | grind [getD_set, getD_rep, toNat_succ, cntN_yes, cntN_no])
   rfl
  ·
   simp only [bR_iff, bR_iff_f, dec_iff, dec_f, Bool.false_eq_true, Bool.true_eq_false, false_implies, imp_false, and_true, true_and, implies_true, Classical.not_not] at h10
   refine req_i ?_ ?_
   · -- r10
    first | omega | assumption | grind
   refine req_i ?_ ?_
   · -- r11
    first | omega | assumption | grind
   refine req_i ?_ ?_
   · -- r12
    first | trivial | assumption | (simp only [sigSub64, sub64Post, List.cons.injEq, DV.b.injEq, and_true, List.length_cons, List.length_nil]; done) | ((try simp only [sigSub64, sub64Post, List.cons.injEq, DV.b.injEq, and_true, List.length_cons, List.length_nil]); first | omega | assumption | grind)
   refine all_i fun n5 => ?_
   refine imp_i fun h14 => ?_
   refine imp_i fun h15 => ?_
   refine all_i fun n6 => ?_
   refine imp_i fun h16 => ?_
   refine imp_i fun h17 => ?_
   refine imp_i fun h18 => ?_
   try simp only [sigSub64, sub64Post, List.cons.injEq, DV.b.injEq, and_true, List.length_cons, List.length_nil] at h18
   refine req_i ?_ ?_
   · -- r13
    first | omega | assumption | grind
   refine req_i ?_ ?_
   · -- r14
    first | omega | assumption | grind
   refine req_i ?_ ?_
   · -- r15
    first | omega | assumption | grind
   refine req_i ?_ ?_
   · -- r16
    first | omega | assumption | grind
   refine req_i ?_ ?_
   · -- r17
    first | trivial | assumption | (simp only [sigSub64, sub64Post, List.cons.injEq, DV.b.injEq, and_true, List.length_cons, List.length_nil]; done) | ((try simp only [sigSub64, sub64Post, List.cons.injEq, DV.b.injEq, and_true, List.length_cons, List.length_nil]); first | omega | assumption | grind)
   refine all_i fun n7 => ?_
   refine imp_i fun h19 => ?_
   refine imp_i fun h20 => ?_
   refine all_i fun n8 => ?_
   refine imp_i fun h21 => ?_
   refine imp_i fun h22 => ?_
   refine imp_i fun h23 => ?_
   try simp only [sigSub64, sub64Post, List.cons.injEq, DV.b.injEq, and_true, List.length_cons, List.length_nil] at h23
   refine all_i fun n9 => ?_
   refine imp_i fun h24 => ?_
   simp only [wrap_i64] at h24
   refine imp_i fun h25 => ?_
   refine imp_i fun h26 => ?_
   refine req_i ?_ ?_
   · -- r18
    first | omega | assumption | grind
   refine req_i ?_ ?_
   · -- r19
    first | omega | assumption | grind
   refine req_i ?_ ?_
   · -- r20
    first | omega | assumption | grind
   refine req_i ?_ ?_
   · -- r21
    first | omega | assumption | grind
   refine req_i ?_ ?_
   · -- r22
    first | omega | ((try simp only [sigProd, prodPost, List.cons.injEq, DV.b.injEq, and_true, List.length_cons, List.length_nil]); first | done | omega | assumption | grind [getD_set, getD_rep, toNat_succ, cntN_yes, cntN_no])
   rfl
theorem ext_prod : ∀ p ∈ ([(69, Ext.ctr (ctOfG gl11 sigTimes)), (60, Ext.ctr (ctOfG gl11 sigSub64))] : List (Nat × Ext)), ExtRow Tryd.prog p.1 p.2 := by
  intro p hp
  simp only [List.mem_cons, List.not_mem_nil, or_false] at hp
  rcases hp with rfl | rfl
  · trivial
  · trivial
theorem cts_prod : CtsOk Tryd.prog [(69, Ext.ctr (ctOfG gl11 sigTimes)), (60, Ext.ctr (ctOfG gl11 sigSub64))] := ctsOk_ofG (cs := [(69, sigTimes), (60, sigSub64)])
  (fun p hp => by
    simp only [List.mem_cons, List.not_mem_nil, or_false] at hp
    rcases hp with rfl | rfl
    · exact fn_times
    · exact fn_sub64
)
  (fun f c h => by
    simp only [List.lookup_cons] at h
    repeat' split at h
    all_goals first | (cases h; done) | (rename_i e; have e := beq_iff_eq.1 e; subst e; cases h; refine ⟨_, ?_, rfl⟩; simp))
theorem fn_prod : FnOk Tryd.prog 52 sigProd gl11 := fn_sound (by kernel_rfl) ext_prod cts_prod names vt_prod
end Go.Proofs.YtikcjpkocadfdaaDoor

namespace Go.Proofs.YtikcjpkocadfdaaDoor
open Go.Ev Go.Sp
set_option maxRecDepth 100000
theorem vc_cmp : vcFn Tryd.prog [] noA gl11 100 51 sigCmp = (allB fun n0 : Int => 
impB ((-9223372036854775808 : Int) ≤ n0) (
impB (n0 ≤ (9223372036854775807 : Int)) (
allB fun n1 : Int => 
impB ((0 : Int) ≤ n1) (
impB (n1 ≤ (18446744073709551615 : Int)) (
allB fun n2 : Int => 
impB ((-9223372036854775808 : Int) ≤ n2) (
impB (n2 ≤ (9223372036854775807 : Int)) (
allB fun n3 : Int => 
impB ((0 : Int) ≤ n3) (
impB (n3 ≤ (18446744073709551615 : Int)) (
impB (sigCmp.pre [DV.n n0, DV.n n1, DV.n n2, DV.n n3]) (
bR (dec (n0 ≠ n0)) (
 bR (dec (n2 ≠ n2)) (
 bR (dec (n1 ≠ n1)) (
 bR (dec (n3 ≠ n3)) (
 reqB (sigCmp.post [DV.n n0, DV.n n1, DV.n n2, DV.n n3] [DV.n (0 : Int)]) (
 true)) (
 reqB (sigCmp.post [DV.n n0, DV.n n1, DV.n n2, DV.n n3] [DV.n (-1 : Int)]) (
 true))) (
 bR (dec (n3 ≠ n3)) (
 reqB (sigCmp.post [DV.n n0, DV.n n1, DV.n n2, DV.n n3] [DV.n (1 : Int)]) (
 true)) (
 bR (dec (n1 < n3)) (
 reqB (sigCmp.post [DV.n n0, DV.n n1, DV.n n2, DV.n n3] [DV.n (-1 : Int)]) (
 true)) (
 bR (dec (n3 < n1)) (
 reqB (sigCmp.post [DV.n n0, DV.n n1, DV.n n2, DV.n n3] [DV.n (1 : Int)]) (
 true)) (
 reqB (sigCmp.post [DV.n n0, DV.n n1, DV.n n2, DV.n n3] [DV.n (0 : Int)]) (
 true)))))) (
 bR (dec (n1 ≠ n1)) (
 bR (dec (n3 ≠ n3)) (
 reqB (sigCmp.post [DV.n n0, DV.n n1, DV.n n2, DV.n n3] [DV.n (-1 : Int)]) (
 true)) (
 reqB (sigCmp.post [DV.n n0, DV.n n1, DV.n n2, DV.n n3] [DV.n (-1 : Int)]) (
 true))) (
 bR (dec (n3 ≠ n3)) (
 reqB (sigCmp.post [DV.n n0, DV.n n1, DV.n n2, DV.n n3] [DV.n (-1 : Int)]) (
 true)) (
 bR (dec (n1 < n3)) (
 reqB (sigCmp.post [DV.n n0, DV.n n1, DV.n n2, DV.n n3] [DV.n (-1 : Int)]) (
 true)) (
 bR (dec (n3 < n1)) (
 reqB (sigCmp.post [DV.n n0, DV.n n1, DV.n n2, DV.n n3] [DV.n (-1 : Int)]) (
 true)) (
 reqB (sigCmp.post [DV.n n0, DV.n n1, DV.n n2, DV.n n3] [DV.n (-1 : Int)]) (
 true))))))) (
 bR (dec (n2 ≠ n2)) (
 bR (dec (n1 ≠ n1)) (
 bR (dec (n3 ≠ n3)) (
 reqB (sigCmp.post [DV.n n0, DV.n n1, DV.n n2, DV.n n3] [DV.n (1 : Int)]) (
 true)) (
 reqB (sigCmp.post [DV.n n0, DV.n n1, DV.n n2, DV.n n3] [DV.n (1 : Int)]) (
 true))) (
 bR (dec (n3 ≠ n3)) (
 reqB (sigCmp.post [DV.n n0, DV.n n1, DV.n n2, DV.n n3] [DV.n (1 : Int)]) (
 true)) (
 bR (dec (n1 < n3)) (
 reqB (sigCmp.post [DV.n n0, DV.n n1, DV.n n2, DV.n n3] [DV.n (1 : Int)]) (
 true)) (
 bR (dec (n3 < n1)) (
 reqB (sigCmp.post [DV.n n0, DV.n n1, DV.n n2, DV.n n3] [DV.n (1 : Int)]) (
 true)) (
 reqB (sigCmp.post [DV.n n0, DV.n n1, DV.n n2, DV.n n3] [DV.n (1 : Int)]) (
 true)))))) (
 bR (dec (n0 < n2)) (
 bR (dec (n1 ≠ n1)) (
 bR (dec (n3 ≠ n3)) (
 reqB (sigCmp.post [DV.n n0, DV.n n1, DV.n n2, DV.n n3] [DV.n (-1 : Int)]) (
 true)) (
 reqB (sigCmp.post [DV.n n0, DV.n n1, DV.n n2, DV.n n3] [DV.n (-1 : Int)]) (
 true))) (
 bR (dec (n3 ≠ n3)) (
 reqB (sigCmp.post [DV.n n0, DV.n n1, DV.n n2, DV.n n3] [DV.n (-1 : Int)]) (
 true)) (
 bR (dec (n1 < n3)) (
 reqB (sigCmp.post [DV.n n0, DV.n n1, DV.n n2, DV.n n3] [DV.n (-1 : Int)]) (
 true)) (
 bR (dec (n3 < n1)) (
 reqB (sigCmp.post [DV.n n0, DV.n n1, DV.n n2, DV.n n3] [DV.n (-1 : Int)]) (
 true)) (
 reqB (sigCmp.post [DV.n n0, DV.n n1, DV.n n2, DV.n n3] [DV.n (-1 : Int)]) (
 true)))))) (
 bR (dec (n2 < n0)) (
 bR (dec (n1 ≠ n1)) (
 bR (dec (n3 ≠ n3)) (
 reqB (sigCmp.post [DV.n n0, DV.n n1, DV.n n2, DV.n n3] [DV.n (1 : Int)]) (
 true)) (
 reqB (sigCmp.post [DV.n n0, DV.n n1, DV.n n2, DV.n n3] [DV.n (1 : Int)]) (
 true))) (
 bR (dec (n3 ≠ n3)) (
 reqB (sigCmp.post [DV.n n0, DV.n n1, DV.n n2, DV.n n3] [DV.n (1 : Int)]) (
 true)) (
 bR (dec (n1 < n3)) (
 reqB (sigCmp.post [DV.n n0, DV.n n1, DV.n n2, DV.n n3] [DV.n (1 : Int)]) (
 true)) (
 bR (dec (n3 < n1)) (
 reqB (sigCmp.post [DV.n n0, DV.n n1, DV.n n2, DV.n n3] [DV.n (1 : Int)]) (
 true)) (
 reqB (sigCmp.post [DV.n n0, DV.n n1, DV.n n2, DV.n n3] [DV.n (1 : Int)]) (
 true)))))) (
 bR (dec (n1 ≠ n1)) (
 bR (dec (n3 ≠ n3)) (
 reqB (sigCmp.post [DV.n n0, DV.n n1, DV.n n2, DV.n n3] [DV.n (0 : Int)]) (
 true)) (
 reqB (sigCmp.post [DV.n n0, DV.n n1, DV.n n2, DV.n n3] [DV.n (-1 : Int)]) (
 true))) (
 bR (dec (n3 ≠ n3)) (
 reqB (sigCmp.post [DV.n n0, DV.n n1, DV.n n2, DV.n n3] [DV.n (1 : Int)]) (
 true)) (
 bR (dec (n1 < n3)) (
 reqB (sigCmp.post [DV.n n0, DV.n n1, DV.n n2, DV.n n3] [DV.n (-1 : Int)]) (
 true)) (
 bR (dec (n3 < n1)) (
 reqB (sigCmp.post [DV.n n0, DV.n n1, DV.n n2, DV.n n3] [DV.n (1 : Int)]) (
 true)) (
 reqB (sigCmp.post [DV.n n0, DV.n n1, DV.n n2, DV.n n3] [DV.n (0 : Int)]) (
 true))))))))))))))))))) := by kernel_rfl
set_option maxHeartbeats 8000000 in
theorem vt_cmp : vcFn Tryd.prog [] noA gl11 100 51 sigCmp = true := by
  rw [vc_cmp]
  try simp only [Int.toNat_natCast, List.length_set, List.length_replicate, List.length_take, List.length_drop, List.length_append, List.length_cons, List.length_nil, Nat.min_self, List.take_take, lenCols_i, lenCols_b, List.drop_zero, List.take_length, Nat.add_eq, Nat.mul_eq, Nat.sub_eq, Nat.zero_add, Nat.sub_zero, Nat.mul_one]
  refine all_i fun n0 => ?_
  refine imp_i fun h0 => ?_
  refine imp_i fun h1 => ?_
  refine all_i fun n1 => ?_
  refine imp_i fun h2 => ?_
  refine imp_i fun h3 => ?_
  refine all_i fun n2 => ?_
  refine imp_i fun h4 => ?_
  refine imp_i fun h5 => ?_
  refine all_i fun n3 => ?_
  refine imp_i fun h6 => ?_
  refine imp_i fun h7 => ?_
  refine imp_i fun h8 => ?_
  try simp only [sigCmp, cmpPost, List.cons.injEq, DV.b.injEq, and_true, List.length_cons, List.length_nil] at h8
  refine bR_dec (fun h9 => ?_) (fun h9 => ?_)
  ·
   refine bR_dec (fun h10 => ?_) (fun h10 => ?_)
   ·
    refine bR_dec (fun h11 => ?_) (fun h11 => ?_)
    ·
     refine bR_dec (fun h12 => ?_) (fun h12 => ?_)
     ·
      refine req_i ?_ ?_
      · -- r0
       first | omega | ((try simp only [sigCmp, cmpPost, List.cons.injEq, DV.b.injEq, and_true, List.length_cons, List.length_nil]); first | done | omega | assumption | grind [getD_set, getD_rep, toNat_succ, cntN_yes, cntN_no])
      rfl
     ·
      refine req_i ?_ ?_
      · -- r1
       first | omega | ((try simp only [sigCmp, cmpPost, List.cons.injEq, DV.b.injEq, and_true, List.length_cons, List.length_nil]); first | done | omega | assumption | grind [getD_set, getD_rep, toNat_succ, cntN_yes, cntN_no])
      rfl
    ·
     refine bR_dec (fun h13 => ?_) (fun h13 => ?_)
     ·
      refine req_i ?_ ?_
      · -- r2
       first | omega | ((try simp only [sigCmp, cmpPost, List.cons.injEq, DV.b.injEq, and_true, List.length_cons, List.length_nil]); first | done | omega | assumption | grind [getD_set, getD_rep, toNat_succ, cntN_yes, cntN_no])
      rfl
     ·
      refine bR_dec (fun h14 => ?_) (fun h14 => ?_)
      ·
       refine req_i ?_ ?_
       · -- r3
        first | omega | ((try simp only [sigCmp, cmpPost, List.cons.injEq, DV.b.injEq, and_true, List.length_cons, List.length_nil]); first | done | omega | assumption | grind [getD_set, getD_rep, toNat_succ, cntN_yes, cntN_no])
       rfl
      ·
       refine bR_dec (fun h15 => ?_) (fun h15 => ?_)
       ·
        refine req_i ?_ ?_
        · -- r4
         first | omega | ((try simp only [sigCmp, cmpPost, List.cons.injEq, DV.b.injEq, and_true, List.length_cons, List.length_nil]); first | done | omega | assumption | grind [getD_set, getD_rep, toNat_succ, cntN_yes, cntN_no])
        rfl
       ·
        refine req_i ?_ ?_
        · -- r5
         first | omega | ((try simp only [sigCmp, cmpPost, List.cons.injEq, DV.b.injEq, and_true, List.length_cons, List.length_nil]); first | done | omega | assumption | grind [getD_set, getD_rep, toNat_succ, cntN_yes, cntN_no])
        rfl
   ·
    refine bR_dec (fun h16 => ?_) (fun h16 => ?_)
    ·
     refine bR_dec (fun h17 => ?_) (fun h17 => ?_)
     ·
      refine req_i ?_ ?_
      · -- r6
       first | omega | ((try simp only [sigCmp, cmpPost, List.cons.injEq, DV.b.injEq, and_true, List.length_cons, List.length_nil]); first | done | omega | assumption | grind [getD_set, getD_rep, toNat_succ, cntN_yes, cntN_no])
      rfl
     ·
      refine req_i ?_ ?_
      · -- r7
       first | omega | ((try simp only [sigCmp, cmpPost, List.cons.injEq, DV.b.injEq, and_true, List.length_cons, List.length_nil]); first | done | omega | assumption | grind [getD_set, getD_rep, toNat_succ, cntN_yes, cntN_no])
      rfl
    ·
     refine bR_dec (fun h18 => ?_) (fun h18 => ?_)
     ·
      refine req_i ?_ ?_
      · -- r8
       first | omega | ((try simp only [sigCmp, cmpPost, List.cons.injEq, DV.b.injEq, and_true, List.length_cons, List.length_nil]); first | done | omega | assumption | grind [getD_set, getD_rep, toNat_succ, cntN_yes, cntN_no])
      rfl
     ·
      refine bR_dec (fun h19 => ?_) (fun h19 => ?_)
      ·
       refine req_i ?_ ?_
       · -- r9
        first | omega | ((try simp only [sigCmp, cmpPost, List.cons.injEq, DV.b.injEq, and_true, List.length_cons, List.length_nil]); first | done | omega | assumption | grind [getD_set, getD_rep, toNat_succ, cntN_yes, cntN_no])
       rfl
      ·
       refine bR_dec (fun h20 => ?_) (fun h20 => ?_)
       ·
        refine req_i ?_ ?_
        · -- r10
         first | omega | ((try simp only [sigCmp, cmpPost, List.cons.injEq, DV.b.injEq, and_true, List.length_cons, List.length_nil]); first | done | omega | assumption | grind [getD_set, getD_rep, toNat_succ, cntN_yes, cntN_no])
        rfl
       ·
        refine req_i ?_ ?_
        · -- r11
         first | omega | ((try simp only [sigCmp, cmpPost, List.cons.injEq, DV.b.injEq, and_true, List.length_cons, List.length_nil]); first | done | omega | assumption | grind [getD_set, getD_rep, toNat_succ, cntN_yes, cntN_no])
        rfl
  ·
   refine bR_dec (fun h21 => ?_) (fun h21 => ?_)
   ·
    refine bR_dec (fun h22 => ?_) (fun h22 => ?_)
    ·
     refine bR_dec (fun h23 => ?_) (fun h23 => ?_)
     ·
      refine req_i ?_ ?_
      · -- r12
       first | omega | ((try simp only [sigCmp, cmpPost, List.cons.injEq, DV.b.injEq, and_true, List.length_cons, List.length_nil]); first | done | omega | assumption | grind [getD_set, getD_rep, toNat_succ, cntN_yes, cntN_no])
      rfl
     ·
      refine req_i ?_ ?_
      · -- r13
       first | omega | ((try simp only [sigCmp, cmpPost, List.cons.injEq, DV.b.injEq, and_true, List.length_cons, List.length_nil]); first | done | omega | assumption | grind [getD_set, getD_rep, toNat_succ, cntN_yes, cntN_no])
      rfl
    ·
     refine bR_dec (fun h24 => ?_) (fun h24 => ?_)
     ·
      refine req_i ?_ ?_
      · -- r14
       first | omega | ((try simp only [sigCmp, cmpPost, List.cons.injEq, DV.b.injEq, and_true, List.length_cons, List.length_nil]); first | done | omega | assumption | grind [getD_set, getD_rep, toNat_succ, cntN_yes, cntN_no])
      rfl
     ·
      refine bR_dec (fun h25 => ?_) (fun h25 => ?_)
      ·
       refine req_i ?_ ?_
       · -- r15
        first | omega | ((try simp only [sigCmp, cmpPost, List.cons.injEq, DV.b.injEq, and_true, List.length_cons, List.length_nil]); first | done | omega | assumption | grind [getD_set, getD_rep, toNat_succ, cntN_yes, cntN_no])
       rfl
      ·
       refine bR_dec (fun h26 => ?_) (fun h26 => ?_)
       ·
        refine req_i ?_ ?_
        · -- r16
         first | omega | ((try simp only [sigCmp, cmpPost, List.cons.injEq, DV.b.injEq, and_true, List.length_cons, List.length_nil]); first | done | omega | assumption | grind [getD_set, getD_rep, toNat_succ, cntN_yes, cntN_no])
        rfl
       ·
        refine req_i ?_ ?_
        · -- r17
         first | omega | ((try simp only [sigCmp, cmpPost, List.cons.injEq, DV.b.injEq, and_true, List.length_cons, List.length_nil]); first | done | omega | assumption | grind [getD_set, getD_rep, toNat_succ, cntN_yes, cntN_no])
        rfl
   ·
    refine bR_dec (fun h27 => ?_) (fun h27 => ?_)
    ·
     refine bR_dec (fun h28 => ?_) (fun h28 => ?_)
     ·
      refine bR_dec (fun h29 => ?_) (fun h29 => ?_)
      ·
       refine req_i ?_ ?_
       · -- r18
        first | omega | ((try simp only [sigCmp, cmpPost, List.cons.injEq, DV.b.injEq, and_true, List.length_cons, List.length_nil]); first | done | omega | assumption | grind [getD_set, getD_rep, toNat_succ, cntN_yes, cntN_no])
       rfl
      ·
       refine req_i ?_ ?_
       · -- r19
        first | omega | ((try simp only [sigCmp, cmpPost, List.cons.injEq, DV.b.injEq, and_true, List.length_cons, List.length_nil]); first | done | omega | assumption | grind [getD_set, getD_rep, toNat_succ, cntN_yes, cntN_no])
       rfl
     ·
      refine bR_dec (fun h30 => ?_) (fun h30 => ?_)
      ·
       refine req_i ?_ ?_
       · -- r20
        first | omega | ((try simp only [sigCmp, cmpPost, List.cons.injEq, DV.b.injEq, and_true, List.length_cons, List.length_nil]); first | done | omega | assumption | grind [getD_set, getD_rep, toNat_succ, cntN_yes, cntN_no])
       rfl
      ·
       refine bR_dec (fun h31 => ?_) (fun h31 => ?_)
       ·
        refine req_i ?_ ?_
        · -- r21
         first | omega | ((try simp only [sigCmp, cmpPost, List.cons.injEq, DV.b.injEq, and_true, List.length_cons, List.length_nil]); first | done | omega | assumption | grind [getD_set, getD_rep, toNat_succ, cntN_yes, cntN_no])
        rfl
       ·
        refine bR_dec (fun h32 => ?_) (fun h32 => ?_)
        ·
         refine req_i ?_ ?_
         · -- r22
          first | omega | ((try simp only [sigCmp, cmpPost, List.cons.injEq, DV.b.injEq, and_true, List.length_cons, List.length_nil]); first | done | omega | assumption | grind [getD_set, getD_rep, toNat_succ, cntN_yes, cntN_no])
         rfl
        ·
         refine req_i ?_ ?_
         · -- r23
          first | omega | ((try simp only [sigCmp, cmpPost, List.cons.injEq, DV.b.injEq, and_true, List.length_cons, List.length_nil]); first | done | omega | assumption | grind [getD_set, getD_rep, toNat_succ, cntN_yes, cntN_no])
         rfl
    ·
     refine bR_dec (fun h33 => ?_) (fun h33 => ?_)
     ·
      refine bR_dec (fun h34 => ?_) (fun h34 => ?_)
      ·
       refine bR_dec (fun h35 => ?_) (fun h35 => ?_)
       ·
        refine req_i ?_ ?_
        · -- r24
         first | omega | ((try simp only [sigCmp, cmpPost, List.cons.injEq, DV.b.injEq, and_true, List.length_cons, List.length_nil]); first | done | omega | assumption | grind [getD_set, getD_rep, toNat_succ, cntN_yes, cntN_no])
        rfl
       ·
        refine req_i ?_ ?_
        · -- r25
         first | omega | ((try simp only [sigCmp, cmpPost, List.cons.injEq, DV.b.injEq, and_true, List.length_cons, List.length_nil]); first | done | omega | assumption | grind [getD_set, getD_rep, toNat_succ, cntN_yes, cntN_no])
        rfl
      ·
       refine bR_dec (fun h36 => ?_) (fun h36 => ?_)
       ·
        refine req_i ?_ ?_
        · -- r26
         first | omega | ((try simp only [sigCmp, cmpPost, List.cons.injEq, DV.b.injEq, and_true, List.length_cons, List.length_nil]); first | done | omega | assumption | grind [getD_set, getD_rep, toNat_succ, cntN_yes, cntN_no])
        rfl
       ·
        refine bR_dec (fun h37 => ?_) (fun h37 => ?_)
        ·
         refine req_i ?_ ?_
         · -- r27
          first | omega | ((try simp only [sigCmp, cmpPost, List.cons.injEq, DV.b.injEq, and_true, List.length_cons, List.length_nil]); first | done | omega | assumption | grind [getD_set, getD_rep, toNat_succ, cntN_yes, cntN_no])
         rfl
        ·
         refine bR_dec (fun h38 => ?_) (fun h38 => ?_)
         ·
          refine req_i ?_ ?_
          · -- r28
           first | omega | ((try simp only [sigCmp, cmpPost, List.cons.injEq, DV.b.injEq, and_true, List.length_cons, List.length_nil]); first | done | omega | assumption | grind [getD_set, getD_rep, toNat_succ, cntN_yes, cntN_no])
          rfl
         ·
          refine req_i ?_ ?_
          · -- r29
           first | omega | ((try simp only [sigCmp, cmpPost, List.cons.injEq, DV.b.injEq, and_true, List.length_cons, List.length_nil]); first | done | omega | assumption | grind [getD_set, getD_rep, toNat_succ, cntN_yes, cntN_no])
          rfl
     ·
      refine bR_dec (fun h39 => ?_) (fun h39 => ?_)
      ·
       refine bR_dec (fun h40 => ?_) (fun h40 => ?_)
       ·
        refine req_i ?_ ?_
        · -- r30
         first | omega | ((try simp only [sigCmp, cmpPost, List.cons.injEq, DV.b.injEq, and_true, List.length_cons, List.length_nil]); first | done | omega | assumption | grind [getD_set, getD_rep, toNat_succ, cntN_yes, cntN_no])
        rfl
       ·
        refine req_i ?_ ?_
        · -- r31
         first | omega | ((try simp only [sigCmp, cmpPost, List.cons.injEq, DV.b.injEq, and_true, List.length_cons, List.length_nil]); first | done | omega | assumption | grind [getD_set, getD_rep, toNat_succ, cntN_yes, cntN_no])
        rfl
      ·
       refine bR_dec (fun h41 => ?_) (fun h41 => ?_)
       ·
        refine req_i ?_ ?_
        · -- r32
         first | omega | ((try simp only [sigCmp, cmpPost, List.cons.injEq, DV.b.injEq, and_true, List.length_cons, List.length_nil]); first | done | omega | assumption | grind [getD_set, getD_rep, toNat_succ, cntN_yes, cntN_no])
        rfl
       ·
        refine bR_dec (fun h42 => ?_) (fun h42 => ?_)
        ·
         refine req_i ?_ ?_
         · -- r33
          first | omega | ((try simp only [sigCmp, cmpPost, List.cons.injEq, DV.b.injEq, and_true, List.length_cons, List.length_nil]); first | done | omega | assumption | grind [getD_set, getD_rep, toNat_succ, cntN_yes, cntN_no])
         rfl
        ·
         refine bR_dec (fun h43 => ?_) (fun h43 => ?_)
         ·
          refine req_i ?_ ?_
          · -- r34
           first | omega | ((try simp only [sigCmp, cmpPost, List.cons.injEq, DV.b.injEq, and_true, List.length_cons, List.length_nil]); first | done | omega | assumption | grind [getD_set, getD_rep, toNat_succ, cntN_yes, cntN_no])
          rfl
         ·
          refine req_i ?_ ?_
          · -- r35
           first | omega | ((try simp only [sigCmp, cmpPost, List.cons.injEq, DV.b.injEq, and_true, List.length_cons, List.length_nil]); first | done | omega | assumption | grind [getD_set, getD_rep, toNat_succ, cntN_yes, cntN_no])
          rfl
theorem ext_cmp : ∀ p ∈ ([] : List (Nat × Ext)), ExtRow Tryd.prog p.1 p.2 := by
  intro p hp
  cases hp
theorem cts_cmp : CtsOk Tryd.prog [] := fun f c h => by cases h
theorem fn_cmp : FnOk Tryd.prog 51 sigCmp gl11 := fn_sound (by kernel_rfl) ext_cmp cts_cmp names vt_cmp
end Go.Proofs.YtikcjpkocadfdaaDoor

namespace Go.Proofs.YtikcjpkocadfdaaDoor
open Go.Ev Go.Sp
set_option maxRecDepth 100000
theorem vc_rootW : vcFn Tryd.prog [(52, Ext.ctr (ctOfG gl11 sigProd)), (51, Ext.ctr (ctOfG gl11 sigCmp))] tab02 gl11 100 26 sigRw = (allB fun n0 : Int => 
impB ((-9223372036854775808 : Int) ≤ n0) (
impB (n0 ≤ (9223372036854775807 : Int)) (
allB fun n1 : Int => 
impB ((0 : Int) ≤ n1) (
impB (n1 ≤ (18446744073709551615 : Int)) (
impB (sigRw.pre [DV.n n0, DV.n n1]) (
bR (dec (n0 < (0 : Int))) (
 reqB (sigRw.post [DV.n n0, DV.n n1] [DV.n (0 : Int), DV.n (2 : Int)]) (
 true)) (
 bR (dec ((4611686018427387904 : Int) ≤ n0)) (
 reqB (sigRw.post [DV.n n0, DV.n n1] [DV.n (0 : Int), DV.n (5 : Int)]) (
 true)) (
 reqB ((-9223372036854775808 : Int) ≤ n0) (
 reqB (n0 ≤ (9223372036854775807 : Int)) (
 reqB ((0 : Int) ≤ n1) (
 reqB (n1 ≤ (18446744073709551615 : Int)) (
 reqB (rwL.inv [DV.n n0, DV.n n1] [DV.n (0 : Int), DV.n (Int.ofNat (4611686018427387904 : Nat))]) (
 allB fun n2 : Int => 
 impB ((0 : Int) ≤ n2) (
 impB (n2 ≤ (9223372036854775807 : Int)) (
 allB fun n3 : Int => 
 impB ((0 : Int) ≤ n3) (
 impB (n3 ≤ (4611686018427387904 : Int)) (
 impB (rwL.inv [DV.n n0, DV.n n1] [DV.n n2, DV.n n3]) (
 bR (dec ((0 : Int) < n3)) (
 allB fun n4 : Int => 
 impB (n4 = Go.IntKind.i64.wrap (n2 + n3)) (
 impB (Int.negSucc (9223372036854775807 : Nat) ≤ n4) (
 impB (n4 ≤ Int.ofNat (9223372036854775807 : Nat)) (
 reqB ((-9223372036854775808 : Int) ≤ n4) (
 reqB (n4 ≤ (9223372036854775807 : Int)) (
 reqB ((-9223372036854775808 : Int) ≤ n4) (
 reqB (n4 ≤ (9223372036854775807 : Int)) (
 reqB (sigProd.pre [DV.n n4, DV.n n4]) (
 allB fun n5 : Int => 
 impB ((-9223372036854775808 : Int) ≤ n5) (
 impB (n5 ≤ (9223372036854775807 : Int)) (
 allB fun n6 : Int => 
 impB ((0 : Int) ≤ n6) (
 impB (n6 ≤ (18446744073709551615 : Int)) (
 impB (sigProd.post [DV.n n4, DV.n n4] [DV.n n5, DV.n n6]) (
 reqB ((-9223372036854775808 : Int) ≤ n5) (
 reqB (n5 ≤ (9223372036854775807 : Int)) (
 reqB ((0 : Int) ≤ n6) (
 reqB (n6 ≤ (18446744073709551615 : Int)) (
 reqB ((-9223372036854775808 : Int) ≤ n0) (
 reqB (n0 ≤ (9223372036854775807 : Int)) (
 reqB ((0 : Int) ≤ n1) (
 reqB (n1 ≤ (18446744073709551615 : Int)) (
 reqB (sigCmp.pre [DV.n n5, DV.n n6, DV.n n0, DV.n n1]) (
 allB fun n7 : Int => 
 impB ((-1 : Int) ≤ n7) (
 impB (n7 ≤ (1 : Int)) (
 impB (sigCmp.post [DV.n n5, DV.n n6, DV.n n0, DV.n n1] [DV.n n7]) (
 bR (dec (n7 = (0 : Int))) (
 allB fun n8 : Int => 
 impB (n8 = Go.IntKind.i64.wrap (n2 + n3)) (
 impB (Int.negSucc (9223372036854775807 : Nat) ≤ n8) (
 impB (n8 ≤ Int.ofNat (9223372036854775807 : Nat)) (
 reqB ((0 : Int) ≤ n8) (
 reqB (n8 ≤ (9223372036854775807 : Int)) (
 reqB (sigRw.post [DV.n n0, DV.n n1] [DV.n n8, DV.n (0 : Int)]) (
 true))))))) (
 bR (dec (n7 < (0 : Int))) (
 allB fun n9 : Int => 
 impB (n9 = Go.IntKind.i64.wrap (n2 + n3)) (
 impB (Int.negSucc (9223372036854775807 : Nat) ≤ n9) (
 impB (n9 ≤ Int.ofNat (9223372036854775807 : Nat)) (
 bR (bR (bR (dec (n0 = n0)) (
 bR (dec (n1 = n1)) (
 true) (
 false)) (
 false)) (
 true) (
 false)) (
 bR (bR (bR (dec (n0 = n0)) (
 bR (dec (n1 = n1)) (
 true) (
 false)) (
 false)) (
 bR (bR (dec (n0 = n0)) (
 bR (dec (n1 = n1)) (
 true) (
 false)) (
 false)) (
 true) (
 false)) (
 false)) (
 reqB ((0 : Int) ≤ n9) (
 reqB (n9 ≤ (9223372036854775807 : Int)) (
 reqB ((0 : Int) ≤ n3.tdiv (2 : Int)) (
 reqB (n3.tdiv (2 : Int) ≤ (4611686018427387904 : Int)) (
 reqB (rwL.inv [DV.n n0, DV.n n1] [DV.n n9, DV.n (n3.tdiv (2 : Int))]) (
 reqB (rwL.mea [DV.n n0, DV.n n1] [DV.n n9, DV.n (n3.tdiv (2 : Int))] <
 rwL.mea [DV.n n0, DV.n n1] [DV.n n2, DV.n n3]) (
 true))))))) (
 false)) (
 false))))) (
 bR (bR (bR (dec (n0 = n0)) (
 bR (dec (n1 = n1)) (
 true) (
 false)) (
 false)) (
 true) (
 false)) (
 bR (bR (bR (dec (n0 = n0)) (
 bR (dec (n1 = n1)) (
 true) (
 false)) (
 false)) (
 bR (bR (dec (n0 = n0)) (
 bR (dec (n1 = n1)) (
 true) (
 false)) (
 false)) (
 true) (
 false)) (
 false)) (
 reqB ((0 : Int) ≤ n2) (
 reqB (n2 ≤ (9223372036854775807 : Int)) (
 reqB ((0 : Int) ≤ n3.tdiv (2 : Int)) (
 reqB (n3.tdiv (2 : Int) ≤ (4611686018427387904 : Int)) (
 reqB (rwL.inv [DV.n n0, DV.n n1] [DV.n n2, DV.n (n3.tdiv (2 : Int))]) (
 reqB (rwL.mea [DV.n n0, DV.n n1] [DV.n n2, DV.n (n3.tdiv (2 : Int))] <
 rwL.mea [DV.n n0, DV.n n1] [DV.n n2, DV.n n3]) (
 true))))))) (
 false)) (
 false))))))))))))))))))))))))))))) (
 reqB ((0 : Int) ≤ n2) (
 reqB (n2 ≤ (9223372036854775807 : Int)) (
 reqB (sigRw.post [DV.n n0, DV.n n1] [DV.n n2, DV.n (0 : Int)]) (
 true)))))))))))))))))))))) := by kernel_rfl
set_option maxHeartbeats 8000000 in
theorem vt_rootW : vcFn Tryd.prog [(52, Ext.ctr (ctOfG gl11 sigProd)), (51, Ext.ctr (ctOfG gl11 sigCmp))] tab02 gl11 100 26 sigRw = true := by
  rw [vc_rootW]
  try simp only [Int.toNat_natCast, List.length_set, List.length_replicate, List.length_take, List.length_drop, List.length_append, List.length_cons, List.length_nil, Nat.min_self, List.take_take, lenCols_i, lenCols_b, List.drop_zero, List.take_length, Nat.add_eq, Nat.mul_eq, Nat.sub_eq, Nat.zero_add, Nat.sub_zero, Nat.mul_one]
  refine all_i fun n0 => ?_
  refine imp_i fun h0 => ?_
  refine imp_i fun h1 => ?_
  refine all_i fun n1 => ?_
  refine imp_i fun h2 => ?_
  refine imp_i fun h3 => ?_
  refine imp_i fun h4 => ?_
  try simp only [sigRw, rwPost, List.cons.injEq, DV.b.injEq, and_true, List.length_cons, List.length_nil] at h4
  refine bR_dec (fun h5 => ?_) (fun h5 => ?_)
  ·
   refine req_i ?_ ?_
   · -- r0
    first | omega | ((try simp only [sigRw, rwPost, List.cons.injEq, DV.b.injEq, and_true, List.length_cons, List.length_nil]); first | done | omega | assumption | grind [getD_set, getD_rep, toNat_succ, cntN_yes, cntN_no])
   rfl
  ·
   refine bR_dec (fun h6 => ?_) (fun h6 => ?_)
   ·
    refine req_i ?_ ?_
    · -- r1
     first | omega | ((try simp only [sigRw, rwPost, List.cons.injEq, DV.b.injEq, and_true, List.length_cons, List.length_nil]); first | done | omega | assumption | grind [getD_set, getD_rep, toNat_succ, cntN_yes, cntN_no])
    rfl
   ·
    refine req_i ?_ ?_
    · -- r2
     first | omega | assumption | grind
    refine req_i ?_ ?_
    · -- r3
     first | omega | assumption | grind
    refine req_i ?_ ?_
    · -- r4
     first | omega | assumption | grind
    refine req_i ?_ ?_
    · -- r5
     first | omega | assumption | grind
    refine req_i ?_ ?_
    · -- r6
     show 0 ≤ n0 ∧ n0 < 4611686018427387904 ∧ 0 ≤ n1 ∧ n1 < 18446744073709551616 ∧ srch 9223372036854775808 (n0 * 18446744073709551616 + n1) 4611686018427387904 0; exact ⟨by omega, by omega, by omega, by omega, srch_0 62 (by decide) (by decide) (by decide) (by omega) (by omega)⟩
    refine all_i fun n2 => ?_
    refine imp_i fun h7 => ?_
    refine imp_i fun h8 => ?_
    refine all_i fun n3 => ?_
    refine imp_i fun h9 => ?_
    refine imp_i fun h10 => ?_
    refine imp_i fun h11 => ?_
    try simp only [rwL, rwInv, rtMea, List.cons.injEq, DV.b.injEq, and_true, List.length_cons, List.length_nil] at h11
    have hs := h11.2.2.2.2
    refine bR_dec (fun h12 => ?_) (fun h12 => ?_)
    ·
     have q := hs.1
     have q4 := hs.2.2.2.1
     have e2 : n3.tdiv 2 = n3 / 2 := tdiv_nn (by omega)
     refine all_i fun n4 => ?_
     refine imp_i fun h13 => ?_
     simp only [wrap_i64] at h13
     try simp only [wrap_i64, wrap_u64] at h13
     have h13 : n4 = n2 + n3 := by omega
     refine imp_i fun h14 => ?_
     refine imp_i fun h15 => ?_
     refine req_i ?_ ?_
     · -- r7
      first | omega | assumption | grind
     refine req_i ?_ ?_
     · -- r8
      first | omega | assumption | grind
     refine req_i ?_ ?_
     · -- r9
      first | omega | assumption | grind
     refine req_i ?_ ?_
     · -- r10
      first | omega | assumption | grind
     refine req_i ?_ ?_
     · -- r11
      first | trivial | assumption | (simp only [sigProd, prodPost, List.cons.injEq, DV.b.injEq, and_true, List.length_cons, List.length_nil]; done) | ((try simp only [sigProd, prodPost, List.cons.injEq, DV.b.injEq, and_true, List.length_cons, List.length_nil]); first | omega | assumption | grind)
     refine all_i fun n5 => ?_
     refine imp_i fun h16 => ?_
     refine imp_i fun h17 => ?_
     refine all_i fun n6 => ?_
     refine imp_i fun h18 => ?_
     refine imp_i fun h19 => ?_
     refine imp_i fun h20 => ?_
     try simp only [sigProd, prodPost, List.cons.injEq, DV.b.injEq, and_true, List.length_cons, List.length_nil] at h20
     rw [h13] at h20
     refine req_i ?_ ?_
     · -- r12
      first | omega | assumption | grind
     refine req_i ?_ ?_
     · -- r13
      first | omega | assumption | grind
     refine req_i ?_ ?_
     · -- r14
      first | omega | assumption | grind
     refine req_i ?_ ?_
     · -- r15
      first | omega | assumption | grind
     refine req_i ?_ ?_
     · -- r16
      first | omega | assumption | grind
     refine req_i ?_ ?_
     · -- r17
      first | omega | assumption | grind
     refine req_i ?_ ?_
     · -- r18
      first | omega | assumption | grind
     refine req_i ?_ ?_
     · -- r19
      first | omega | assumption | grind
     refine req_i ?_ ?_
     · -- r20
      first | trivial | assumption | (simp only [sigCmp, cmpPost, List.cons.injEq, DV.b.injEq, and_true, List.length_cons, List.length_nil]; done) | ((try simp only [sigCmp, cmpPost, List.cons.injEq, DV.b.injEq, and_true, List.length_cons, List.length_nil]); first | omega | assumption | grind)
     refine all_i fun n7 => ?_
     refine imp_i fun h21 => ?_
     refine imp_i fun h22 => ?_
     refine imp_i fun h23 => ?_
     try simp only [sigCmp, cmpPost, List.cons.injEq, DV.b.injEq, and_true, List.length_cons, List.length_nil] at h23
     refine bR_dec (fun h24 => ?_) (fun h24 => ?_)
     ·
      refine all_i fun n8 => ?_
      refine imp_i fun h25 => ?_
      simp only [wrap_i64] at h25
      try simp only [wrap_i64, wrap_u64] at h25
      have h25 : n8 = n2 + n3 := by omega
      refine imp_i fun h26 => ?_
      refine imp_i fun h27 => ?_
      refine req_i ?_ ?_
      · -- r21
       first | omega | assumption | grind
      refine req_i ?_ ?_
      · -- r22
       first | omega | assumption | grind
      refine req_i ?_ ?_
      · -- r23
       rw [h25]; exact .inr (.inr ⟨by omega, by omega, rfl, srch_hit hs h12 (by omega)⟩)
      rfl
     ·
      refine bR_dec (fun h28 => ?_) (fun h28 => ?_)
      ·
       refine all_i fun n9 => ?_
       refine imp_i fun h29 => ?_
       simp only [wrap_i64] at h29
       try simp only [wrap_i64, wrap_u64] at h29
       have h29 : n9 = n2 + n3 := by omega
       refine imp_i fun h30 => ?_
       refine imp_i fun h31 => ?_
       refine bR_t ?_ ?_
       · -- g0
        first | rfl | (simp only [bR_iff, bR_iff_f, dec_iff, dec_f, beqB_iff', andB_iff', reduceCtorEq, imp_self, false_implies, and_true, true_and, implies_true, and_self]; done) | (simp [bR_iff, dec_iff, beqB_iff', andB_iff']; done) | (simp [bR_iff, dec_iff, beqB_iff', andB_iff']; omega)
       refine bR_t ?_ ?_
       · -- g1
        first | rfl | (simp only [bR_iff, bR_iff_f, dec_iff, dec_f, beqB_iff', andB_iff', reduceCtorEq, imp_self, false_implies, and_true, true_and, implies_true, and_self]; done) | (simp [bR_iff, dec_iff, beqB_iff', andB_iff']; done) | (simp [bR_iff, dec_iff, beqB_iff', andB_iff']; omega)
       refine req_i ?_ ?_
       · -- r24
        first | omega | assumption | grind
       refine req_i ?_ ?_
       · -- r25
        first | omega | assumption | grind
       refine req_i ?_ ?_
       · -- r26
        first | omega | assumption | grind
       refine req_i ?_ ?_
       · -- r27
        first | omega | assumption | grind
       refine req_i ?_ ?_
       · -- r28
        show 0 ≤ n0 ∧ n0 < 4611686018427387904 ∧ 0 ≤ n1 ∧ n1 < 18446744073709551616 ∧ srch 9223372036854775808 (n0 * 18446744073709551616 + n1) (n3.tdiv 2) (n9); rw [h29, e2]; exact ⟨by omega, by omega, by omega, by omega, srch_up hs h12 (by omega)⟩
       refine req_i ?_ ?_
       · -- r29
        show (n3.tdiv 2).toNat < n3.toNat; rw [e2]; omega
       rfl
      ·
       refine bR_t ?_ ?_
       · -- g2
        first | rfl | (simp only [bR_iff, bR_iff_f, dec_iff, dec_f, beqB_iff', andB_iff', reduceCtorEq, imp_self, false_implies, and_true, true_and, implies_true, and_self]; done) | (simp [bR_iff, dec_iff, beqB_iff', andB_iff']; done) | (simp [bR_iff, dec_iff, beqB_iff', andB_iff']; omega)
       refine bR_t ?_ ?_
       · -- g3
        first | rfl | (simp only [bR_iff, bR_iff_f, dec_iff, dec_f, beqB_iff', andB_iff', reduceCtorEq, imp_self, false_implies, and_true, true_and, implies_true, and_self]; done) | (simp [bR_iff, dec_iff, beqB_iff', andB_iff']; done) | (simp [bR_iff, dec_iff, beqB_iff', andB_iff']; omega)
       refine req_i ?_ ?_
       · -- r30
        first | omega | assumption | grind
       refine req_i ?_ ?_
       · -- r31
        first | omega | assumption | grind
       refine req_i ?_ ?_
       · -- r32
        first | omega | assumption | grind
       refine req_i ?_ ?_
       · -- r33
        first | omega | assumption | grind
       refine req_i ?_ ?_
       · -- r34
        show 0 ≤ n0 ∧ n0 < 4611686018427387904 ∧ 0 ≤ n1 ∧ n1 < 18446744073709551616 ∧ srch 9223372036854775808 (n0 * 18446744073709551616 + n1) (n3.tdiv 2) (n2); rw [e2]; exact ⟨by omega, by omega, by omega, by omega, srch_down hs h12 (by omega)⟩
       refine req_i ?_ ?_
       · -- r35
        show (n3.tdiv 2).toNat < n3.toNat; rw [e2]; omega
       rfl
    ·
     refine req_i ?_ ?_
     · -- r36
      first | omega | assumption | grind
     refine req_i ?_ ?_
     · -- r37
      first | omega | assumption | grind
     refine req_i ?_ ?_
     · -- r38
      exact .inr (.inr ⟨by omega, by omega, rfl, srch_end hs h12⟩)
     rfl
theorem ext_rootW : ∀ p ∈ ([(52, Ext.ctr (ctOfG gl11 sigProd)), (51, Ext.ctr (ctOfG gl11 sigCmp))] : List (Nat × Ext)), ExtRow Tryd.prog p.1 p.2 := by
  intro p hp
  simp only [List.mem_cons, List.not_mem_nil, or_false] at hp
  rcases hp with rfl | rfl
  · trivial
  · trivial
theorem cts_rootW : CtsOk Tryd.prog [(52, Ext.ctr (ctOfG gl11 sigProd)), (51, Ext.ctr (ctOfG gl11 sigCmp))] := ctsOk_ofG (cs := [(52, sigProd), (51, sigCmp)])
  (fun p hp => by
    simp only [List.mem_cons, List.not_mem_nil, or_false] at hp
    rcases hp with rfl | rfl
    · exact fn_prod
    · exact fn_cmp
)
  (fun f c h => by
    simp only [List.lookup_cons] at h
    repeat' split at h
    all_goals first | (cases h; done) | (rename_i e; have e := beq_iff_eq.1 e; subst e; cases h; refine ⟨_, ?_, rfl⟩; simp))
theorem fn_rootW : FnOk Tryd.prog 26 sigRw gl11 := fn_sound (by kernel_rfl) ext_rootW cts_rootW names vt_rootW
end Go.Proofs.YtikcjpkocadfdaaDoor

namespace Go.Proofs.YtikcjpkocadfdaaDoor
open Go.Ev Go.Sp
set_option maxRecDepth 100000
theorem vc_sizeR : vcFn Tryd.prog [] tab02 gl11 100 59 sigSize = (allB fun n0 : Int => 
impB ((-9223372036854775808 : Int) ≤ n0) (
impB (n0 ≤ (9223372036854775807 : Int)) (
impB (sigSize.pre [DV.n n0]) (
bR (dec (n0 < (0 : Int))) (
 allB fun n1 : Int => 
 impB (n1 = Go.IntKind.u64.wrap n0) (
 impB (Int.ofNat (0 : Nat) ≤ n1) (
 impB (n1 ≤ Int.ofNat (18446744073709551615 : Nat)) (
 allB fun n2 : Int => 
 impB (n2 = Go.IntKind.u64.wrap ((0 : Int) - n1)) (
 impB (Int.ofNat (0 : Nat) ≤ n2) (
 impB (n2 ≤ Int.ofNat (18446744073709551615 : Nat)) (
 reqB ((0 : Int) ≤ n2) (
 reqB (n2 ≤ (9223372036854775808 : Int)) (
 reqB (sigSize.post [DV.n n0] [DV.n n2]) (
 true)))))))))) (
 allB fun n3 : Int => 
 impB (n3 = Go.IntKind.u64.wrap n0) (
 impB (Int.ofNat (0 : Nat) ≤ n3) (
 impB (n3 ≤ Int.ofNat (18446744073709551615 : Nat)) (
 reqB ((0 : Int) ≤ n3) (
 reqB (n3 ≤ (9223372036854775808 : Int)) (
 reqB (sigSize.post [DV.n n0] [DV.n n3]) (
 true))))))))))) := by kernel_rfl
set_option maxHeartbeats 8000000 in
theorem vt_sizeR : vcFn Tryd.prog [] tab02 gl11 100 59 sigSize = true := by
  rw [vc_sizeR]
  try simp only [Int.toNat_natCast, List.length_set, List.length_replicate, List.length_take, List.length_drop, List.length_append, List.length_cons, List.length_nil, Nat.min_self, List.take_take, lenCols_i, lenCols_b, List.drop_zero, List.take_length, Nat.add_eq, Nat.mul_eq, Nat.sub_eq, Nat.zero_add, Nat.sub_zero, Nat.mul_one]
  refine all_i fun n0 => ?_
  refine imp_i fun h0 => ?_
  refine imp_i fun h1 => ?_
  refine imp_i fun h2 => ?_
  try simp only [sigSize, sizePost, absI, List.cons.injEq, DV.b.injEq, and_true, List.length_cons, List.length_nil] at h2
  refine bR_dec (fun h3 => ?_) (fun h3 => ?_)
  ·
   refine all_i fun n1 => ?_
   refine imp_i fun h4 => ?_
   simp only [wrap_u64] at h4
   refine imp_i fun h5 => ?_
   refine imp_i fun h6 => ?_
   refine all_i fun n2 => ?_
   refine imp_i fun h7 => ?_
   simp only [wrap_u64] at h7
   refine imp_i fun h8 => ?_
   refine imp_i fun h9 => ?_
   refine req_i ?_ ?_
   · -- r0
    first | omega | assumption | grind
   refine req_i ?_ ?_
   · -- r1
    first | omega | assumption | grind
   refine req_i ?_ ?_
   · -- r2
    first | omega | ((try simp only [sigSize, sizePost, absI, List.cons.injEq, DV.b.injEq, and_true, List.length_cons, List.length_nil]); first | done | omega | assumption | grind [getD_set, getD_rep, toNat_succ, cntN_yes, cntN_no])
   rfl
  ·
   refine all_i fun n3 => ?_
   refine imp_i fun h10 => ?_
   simp only [wrap_u64] at h10
   refine imp_i fun h11 => ?_
   refine imp_i fun h12 => ?_
   refine req_i ?_ ?_
   · -- r3
    first | omega | assumption | grind
   refine req_i ?_ ?_
   · -- r4
    first | omega | assumption | grind
   refine req_i ?_ ?_
   · -- r5
    first | omega | ((try simp only [sigSize, sizePost, absI, List.cons.injEq, DV.b.injEq, and_true, List.length_cons, List.length_nil]); first | done | omega | assumption | grind [getD_set, getD_rep, toNat_succ, cntN_yes, cntN_no])
   rfl
theorem ext_sizeR : ∀ p ∈ ([] : List (Nat × Ext)), ExtRow Tryd.prog p.1 p.2 := by
  intro p hp
  cases hp
theorem cts_sizeR : CtsOk Tryd.prog [] := fun f c h => by cases h
theorem fn_sizeR : FnOk Tryd.prog 59 sigSize gl11 := fn_sound (by kernel_rfl) ext_sizeR cts_sizeR names vt_sizeR
end Go.Proofs.YtikcjpkocadfdaaDoor

namespace Go.Proofs.YtikcjpkocadfdaaDoor
open Go.Ev Go.Sp
set_option maxRecDepth 100000
theorem vc_prodR : vcFn Tryd.prog [(59, Ext.ctr (ctOfG gl11 sigSize)), (58, Ext.ctr (ctOfG gl11 sigMul)), (60, Ext.ctr (ctOfG gl11 sigSub64))] tab02 gl11 100 37 sigProd = (allB fun n0 : Int => 
impB ((-9223372036854775808 : Int) ≤ n0) (
impB (n0 ≤ (9223372036854775807 : Int)) (
allB fun n1 : Int => 
impB ((-9223372036854775808 : Int) ≤ n1) (
impB (n1 ≤ (9223372036854775807 : Int)) (
impB (sigProd.pre [DV.n n0, DV.n n1]) (
reqB ((-9223372036854775808 : Int) ≤ n0) (
reqB (n0 ≤ (9223372036854775807 : Int)) (
reqB (sigSize.pre [DV.n n0]) (
allB fun n2 : Int => 
impB ((0 : Int) ≤ n2) (
impB (n2 ≤ (9223372036854775808 : Int)) (
impB (sigSize.post [DV.n n0] [DV.n n2]) (
reqB ((-9223372036854775808 : Int) ≤ n1) (
reqB (n1 ≤ (9223372036854775807 : Int)) (
reqB (sigSize.pre [DV.n n1]) (
allB fun n3 : Int => 
impB ((0 : Int) ≤ n3) (
impB (n3 ≤ (9223372036854775808 : Int)) (
impB (sigSize.post [DV.n n1] [DV.n n3]) (
reqB ((0 : Int) ≤ n2) (
reqB (n2 ≤ (18446744073709551615 : Int)) (
reqB ((0 : Int) ≤ n3) (
reqB (n3 ≤ (18446744073709551615 : Int)) (
reqB (sigMul.pre [DV.n n2, DV.n n3]) (
allB fun n4 : Int => 
impB ((0 : Int) ≤ n4) (
impB (n4 ≤ (18446744073709551615 : Int)) (
allB fun n5 : Int => 
impB ((0 : Int) ≤ n5) (
impB (n5 ≤ (18446744073709551615 : Int)) (
impB (sigMul.post [DV.n n2, DV.n n3] [DV.n n4, DV.n n5]) (
bR (bR (bR (dec (n0 < (0 : Int))) (
 dec (n1 < (0 : Int))) (
 bR (dec (n1 < (0 : Int))) (
 false) (
 true))) (
 false) (
 true)) (
 reqB ((0 : Int) ≤ n5) (
 reqB (n5 ≤ (18446744073709551615 : Int)) (
 reqB (sigSub64.pre [DV.n (0 : Int), DV.n n5, DV.n (0 : Int)]) (
 allB fun n6 : Int => 
 impB ((0 : Int) ≤ n6) (
 impB (n6 ≤ (18446744073709551615 : Int)) (
 allB fun n7 : Int => 
 impB ((0 : Int) ≤ n7) (
 impB (n7 ≤ (1 : Int)) (
 impB (sigSub64.post [DV.n (0 : Int), DV.n n5, DV.n (0 : Int)] [DV.n n6, DV.n n7]) (
 reqB ((0 : Int) ≤ n4) (
 reqB (n4 ≤ (18446744073709551615 : Int)) (
 reqB ((0 : Int) ≤ n7) (
 reqB (n7 ≤ (1 : Int)) (
 reqB (sigSub64.pre [DV.n (0 : Int), DV.n n4, DV.n n7]) (
 allB fun n8 : Int => 
 impB ((0 : Int) ≤ n8) (
 impB (n8 ≤ (18446744073709551615 : Int)) (
 allB fun n9 : Int => 
 impB ((0 : Int) ≤ n9) (
 impB (n9 ≤ (1 : Int)) (
 impB (sigSub64.post [DV.n (0 : Int), DV.n n4, DV.n n7] [DV.n n8, DV.n n9]) (
 allB fun n10 : Int => 
 impB (n10 = Go.IntKind.i64.wrap n8) (
 impB (Int.negSucc (9223372036854775807 : Nat) ≤ n10) (
 impB (n10 ≤ Int.ofNat (9223372036854775807 : Nat)) (
 reqB ((-9223372036854775808 : Int) ≤ n10) (
 reqB (n10 ≤ (9223372036854775807 : Int)) (
 reqB ((0 : Int) ≤ n6) (
 reqB (n6 ≤ (18446744073709551615 : Int)) (
 reqB (sigProd.post [DV.n n0, DV.n n1] [DV.n n10, DV.n n6]) (
 true))))))))))))))))))))))))))) (
 allB fun n11 : Int => 
 impB (n11 = Go.IntKind.i64.wrap n4) (
 impB (Int.negSucc (9223372036854775807 : Nat) ≤ n11) (
 impB (n11 ≤ Int.ofNat (9223372036854775807 : Nat)) (
 reqB ((-9223372036854775808 : Int) ≤ n11) (
 reqB (n11 ≤ (9223372036854775807 : Int)) (
 reqB ((0 : Int) ≤ n5) (
 reqB (n5 ≤ (18446744073709551615 : Int)) (
 reqB (sigProd.post [DV.n n0, DV.n n1] [DV.n n11, DV.n n5]) (
 true))))))))))))))))))))))))))))))))))))) := by kernel_rfl
set_option maxHeartbeats 8000000 in
theorem vt_prodR : vcFn Tryd.prog [(59, Ext.ctr (ctOfG gl11 sigSize)), (58, Ext.ctr (ctOfG gl11 sigMul)), (60, Ext.ctr (ctOfG gl11 sigSub64))] tab02 gl11 100 37 sigProd = true := by
  rw [vc_prodR]
  try simp only [Int.toNat_natCast, List.length_set, List.length_replicate, List.length_take, List.length_drop, List.length_append, List.length_cons, List.length_nil, Nat.min_self, List.take_take, lenCols_i, lenCols_b, List.drop_zero, List.take_length, Nat.add_eq, Nat.mul_eq, Nat.sub_eq, Nat.zero_add, Nat.sub_zero, Nat.mul_one]
  refine all_i fun n0 => ?_
  refine imp_i fun h0 => ?_
  refine imp_i fun h1 => ?_
  refine all_i fun n1 => ?_
  refine imp_i fun h2 => ?_
  refine imp_i fun h3 => ?_
  refine imp_i fun h4 => ?_
  try simp only [sigProd, prodPost, List.cons.injEq, DV.b.injEq, and_true, List.length_cons, List.length_nil] at h4
  have am := abs_mul (a := n0) (b := n1) (by omega) (by omega) (by omega) (by omega)
  refine req_i ?_ ?_
  · -- r0
   first | omega | assumption | grind
  refine req_i ?_ ?_
  · -- r1
   first | omega | assumption | grind
  refine req_i ?_ ?_
  · -- r2
   first | trivial | assumption | (simp only [sigSize, sizePost, List.cons.injEq, DV.b.injEq, and_true, List.length_cons, List.length_nil]; done) | ((try simp only [sigSize, sizePost, List.cons.injEq, DV.b.injEq, and_true, List.length_cons, List.length_nil]); first | omega | assumption | grind)
  refine all_i fun n2 => ?_
  refine imp_i fun h5 => ?_
  refine imp_i fun h6 => ?_
  refine imp_i fun h7 => ?_
  try simp only [sigSize, sizePost, List.cons.injEq, DV.b.injEq, and_true, List.length_cons, List.length_nil] at h7
  refine req_i ?_ ?_
  · -- r3
   first | omega | assumption | grind
  refine req_i ?_ ?_
  · -- r4
   first | omega | assumption | grind
  refine req_i ?_ ?_
  · -- r5
   first | trivial | assumption | (simp only [sigSize, sizePost, List.cons.injEq, DV.b.injEq, and_true, List.length_cons, List.length_nil]; done) | ((try simp only [sigSize, sizePost, List.cons.injEq, DV.b.injEq, and_true, List.length_cons, List.length_nil]); first | omega | assumption | grind)
  refine all_i fun n3 => ?_
  refine imp_i fun h8 => ?_
  refine imp_i fun h9 => ?_
  refine imp_i fun h10 => ?_
  try simp only [sigSize, sizePost, List.cons.injEq, DV.b.injEq, and_true, List.length_cons, List.length_nil] at h10
  refine req_i ?_ ?_
  · -- r6
   first | omega | assumption | grind
  refine req_i ?_ ?_
  · -- r7
   first | omega | assumption | grind
  refine req_i ?_ ?_
  · -- r8
   first | omega | assumption | grind
  refine req_i ?_ ?_
  · -- r9
   first | omega | assumption | grind
  refine req_i ?_ ?_
  · -- r10
   first | trivial | assumption | (simp only [sigMul, mulPost, List.cons.injEq, DV.b.injEq, and_true, List.length_cons, List.length_nil]; done) | ((try simp only [sigMul, mulPost, List.cons.injEq, DV.b.injEq, and_true, List.length_cons, List.length_nil]); first | omega | assumption | grind)
  refine all_i fun n4 => ?_
  refine imp_i fun h11 => ?_
  refine imp_i fun h12 => ?_
  refine all_i fun n5 => ?_
  refine imp_i fun h13 => ?_
  refine imp_i fun h14 => ?_
  refine imp_i fun h15 => ?_
  try simp only [sigMul, mulPost, List.cons.injEq, DV.b.injEq, and_true, List.length_cons, List.length_nil] at h15
  refine bR_i (fun h16 => ?_) (fun h16 => ?_)
  ·
   simp only [bR_iff, bR_iff_f, dec_iff, dec_f, Bool.false_eq_true, Bool.true_eq_false, false_implies, imp_false, and_true, true_and, implies_true, Classical.not_not] at h16
   refine req_i ?_ ?_
   · -- r11
    first | omega | assumption | grind
   refine req_i ?_ ?_
   · -- r12
    first | omega | assumption | grind
   refine req_i ?_ ?_
   · -- r13
    first | trivial | assumption | (simp only [sigSub64, sub64Post, List.cons.injEq, DV.b.injEq, and_true, List.length_cons, List.length_nil]; done) | ((try simp only [sigSub64, sub64Post, List.cons.injEq, DV.b.injEq, and_true, List.length_cons, List.length_nil]); first | omega | assumption | grind)
   refine all_i fun n6 => ?_
   refine imp_i fun h17 => ?_
   refine imp_i fun h18 => ?_
   refine all_i fun n7 => ?_
   refine imp_i fun h19 => ?_
   refine imp_i fun h20 => ?_
   refine imp_i fun h21 => ?_
   try simp only [sigSub64, sub64Post, List.cons.injEq, DV.b.injEq, and_true, List.length_cons, List.length_nil] at h21
   refine req_i ?_ ?_
   · -- r14
    first | omega | assumption | grind
   refine req_i ?_ ?_
   · -- r15
    first | omega | assumption | grind
   refine req_i ?_ ?_
   · -- r16
    first | omega | assumption | grind
   refine req_i ?_ ?_
   · -- r17
    first | omega | assumption | grind
   refine req_i ?_ ?_
   · -- r18
    first | trivial | assumption | (simp only [sigSub64, sub64Post, List.cons.injEq, DV.b.injEq, and_true, List.length_cons, List.length_nil]; done) | ((try simp only [sigSub64, sub64Post, List.cons.injEq, DV.b.injEq, and_true, List.length_cons, List.length_nil]); first | omega | assumption | grind)
   refine all_i fun n8 => ?_
   refine imp_i fun h22 => ?_
   refine imp_i fun h23 => ?_
   refine all_i fun n9 => ?_
   refine imp_i fun h24 => ?_
   refine imp_i fun h25 => ?_
   refine imp_i fun h26 => ?_
   try simp only [sigSub64, sub64Post, List.cons.injEq, DV.b.injEq, and_true, List.length_cons, List.length_nil] at h26
   refine all_i fun n10 => ?_
   refine imp_i fun h27 => ?_
   simp only [wrap_i64] at h27
   refine imp_i fun h28 => ?_
   refine imp_i fun h29 => ?_
   refine req_i ?_ ?_
   · -- r19
    first | omega | assumption | grind
   refine req_i ?_ ?_
   · -- r20
    first | omega | assumption | grind
   refine req_i ?_ ?_
   · -- r21
    first | omega | assumption | grind
   refine req_i ?_ ?_
   · -- r22
    first | omega | assumption | grind
   refine req_i ?_ ?_
   · -- r23
    have s : (n0 < 0 ∧ ¬n1 < 0) ∨ (¬n0 < 0 ∧ n1 < 0) := by omega
    have ap := am.2.2.2 s
    rw [h7, h10] at h15
    try simp only [wrap_i64] at h27
    obtain ⟨a1, a2⟩ := h21
    obtain ⟨c1, c2⟩ := h26
    show n10 * 18446744073709551616 + n6 = n0 * n1
    split at a2 <;> omega
   rfl
  ·
   simp only [bR_iff, bR_iff_f, dec_iff, dec_f, Bool.false_eq_true, Bool.true_eq_false, false_implies, imp_false, and_true, true_and, implies_true, Classical.not_not] at h16
   refine all_i fun n11 => ?_
   refine imp_i fun h30 => ?_
   simp only [wrap_i64] at h30
   refine imp_i fun h31 => ?_
   refine imp_i fun h32 => ?_
   refine req_i ?_ ?_
   · -- r24
    first | omega | assumption | grind
   refine req_i ?_ ?_
   · -- r25
    first | omega | assumption | grind
   refine req_i ?_ ?_
   · -- r26
    first | omega | assumption | grind
   refine req_i ?_ ?_
   · -- r27
    first | omega | assumption | grind
   refine req_i ?_ ?_
   · -- r28
    first | omega | ((try simp only [sigProd, prodPost, List.cons.injEq, DV.b.injEq, and_true, List.length_cons, List.length_nil]); first | done | omega | assumption | grind [getD_set, getD_rep, toNat_succ, cntN_yes, cntN_no])
   rfl
theorem ext_prodR : ∀ p ∈ ([(59, Ext.ctr (ctOfG gl11 sigSize)), (58, Ext.ctr (ctOfG gl11 sigMul)), (60, Ext.ctr (ctOfG gl11 sigSub64))] : List (Nat × Ext)), ExtRow Tryd.prog p.1 p.2 := by
  intro p hp
  simp only [List.mem_cons, List.not_mem_nil, or_false] at hp
  rcases hp with rfl | rfl | rfl
  · trivial
  · trivial
  · trivial
theorem cts_prodR : CtsOk Tryd.prog [(59, Ext.ctr (ctOfG gl11 sigSize)), (58, Ext.ctr (ctOfG gl11 sigMul)), (60, Ext.ctr (ctOfG gl11 sigSub64))] := ctsOk_ofG (cs := [(59, sigSize), (58, sigMul), (60, sigSub64)])
  (fun p hp => by
    simp only [List.mem_cons, List.not_mem_nil, or_false] at hp
    rcases hp with rfl | rfl | rfl
    · exact fn_sizeR
    · exact fn_mul64
    · exact fn_sub64
)
  (fun f c h => by
    simp only [List.lookup_cons] at h
    repeat' split at h
    all_goals first | (cases h; done) | (rename_i e; have e := beq_iff_eq.1 e; subst e; cases h; refine ⟨_, ?_, rfl⟩; simp))
theorem fn_prodR : FnOk Tryd.prog 37 sigProd gl11 := fn_sound (by kernel_rfl) ext_prodR cts_prodR names vt_prodR
end Go.Proofs.YtikcjpkocadfdaaDoor

namespace Go.Proofs.YtikcjpkocadfdaaDoor
open Go.Ev Go.Sp
set_option maxRecDepth 100000
theorem vc_pick : vcFn Tryd.prog [] tab02 gl11 100 36 (sigPickN 3037000500) = (allB fun n0 : Int => 
impB ((-9223372036854775808 : Int) ≤ n0) (
impB (n0 ≤ (9223372036854775807 : Int)) (
allB fun n1 : Int => 
impB ((1 : Int) ≤ n1) (
impB (n1 ≤ (3037000500 : Int)) (
impB ((sigPickN (3037000500 : Int)).pre [DV.n n0, DV.n n1]) (
bR (dec (n0.tmod n1 < (0 : Int))) (
 reqB ((0 : Int) ≤ n0.tmod n1 + n1) (
 reqB (n0.tmod n1 + n1 ≤ (3037000500 : Int)) (
 reqB ((sigPickN (3037000500 : Int)).post [DV.n n0, DV.n n1] [DV.n (n0.tmod n1 + n1)]) (
 true)))) (
 reqB ((0 : Int) ≤ n0.tmod n1) (
 reqB (n0.tmod n1 ≤ (3037000500 : Int)) (
 reqB ((sigPickN (3037000500 : Int)).post [DV.n n0, DV.n n1] [DV.n (n0.tmod n1)]) (
 true)))))))))) := by kernel_rfl
set_option maxHeartbeats 8000000 in
theorem vt_pick : vcFn Tryd.prog [] tab02 gl11 100 36 (sigPickN 3037000500) = true := by
  rw [vc_pick]
  try simp only [Int.toNat_natCast, List.length_set, List.length_replicate, List.length_take, List.length_drop, List.length_append, List.length_cons, List.length_nil, Nat.min_self, List.take_take, lenCols_i, lenCols_b, List.drop_zero, List.take_length, Nat.add_eq, Nat.mul_eq, Nat.sub_eq, Nat.zero_add, Nat.sub_zero, Nat.mul_one]
  refine all_i fun n0 => ?_
  refine imp_i fun h0 => ?_
  refine imp_i fun h1 => ?_
  refine all_i fun n1 => ?_
  refine imp_i fun h2 => ?_
  refine imp_i fun h3 => ?_
  refine imp_i fun h4 => ?_
  try simp only [sigPickN, pickPost, List.cons.injEq, DV.b.injEq, and_true, List.length_cons, List.length_nil] at h4
  have t := tmod_of (x := n0) (n := n1) (by omega)
  refine bR_dec (fun h5 => ?_) (fun h5 => ?_)
  ·
   refine req_i ?_ ?_
   · -- r0
    first | omega | assumption | grind
   refine req_i ?_ ?_
   · -- r1
    first | omega | assumption | grind
   refine req_i ?_ ?_
   · -- r2
    first | omega | ((try simp only [sigPickN, pickPost, List.cons.injEq, DV.b.injEq, and_true, List.length_cons, List.length_nil]); first | done | omega | assumption | grind [getD_set, getD_rep, toNat_succ, cntN_yes, cntN_no])
   rfl
  ·
   refine req_i ?_ ?_
   · -- r3
    first | omega | assumption | grind
   refine req_i ?_ ?_
   · -- r4
    first | omega | assumption | grind
   refine req_i ?_ ?_
   · -- r5
    first | omega | ((try simp only [sigPickN, pickPost, List.cons.injEq, DV.b.injEq, and_true, List.length_cons, List.length_nil]); first | done | omega | assumption | grind [getD_set, getD_rep, toNat_succ, cntN_yes, cntN_no])
   rfl
theorem ext_pick : ∀ p ∈ ([] : List (Nat × Ext)), ExtRow Tryd.prog p.1 p.2 := by
  intro p hp
  cases hp
theorem cts_pick : CtsOk Tryd.prog [] := fun f c h => by cases h
theorem fn_pick : FnOk Tryd.prog 36 (sigPickN 3037000500) gl11 := fn_sound (by kernel_rfl) ext_pick cts_pick names vt_pick
end Go.Proofs.YtikcjpkocadfdaaDoor

namespace Go.Proofs.YtikcjpkocadfdaaDoor
open Go.Ev Go.Sp
set_option maxRecDepth 100000
theorem vc_AngleSquares : vcFn Tryd.prog [(11, Ext.ctr (ctOfG gl11 sigTrue0)), (25, Ext.ctr (ctOfG gl11 sigRt)), (26, Ext.ctr (ctOfG gl11 sigRw)), (37, Ext.ctr (ctOfG gl11 sigProd)), (36, Ext.ctr (ctOfG gl11 (sigPickN 3037000500)))] tab02 gl11 100 10 sigL2i = (allB fun n0 : Int => 
impB ((-9223372036854775808 : Int) ≤ n0) (
impB (n0 ≤ (9223372036854775807 : Int)) (
allB fun n1 : Int => 
impB ((-9223372036854775808 : Int) ≤ n1) (
impB (n1 ≤ (9223372036854775807 : Int)) (
impB (sigL2i.pre [DV.n n0, DV.n n1]) (
allB fun n2 : Int => 
impB (n2 = Go.IntKind.i64.wrap (n0 + (1 : Int))) (
impB (Int.negSucc (9223372036854775807 : Nat) ≤ n2) (
impB (n2 ≤ Int.ofNat (9223372036854775807 : Nat)) (
allB fun n3 : Int => 
impB (n3 = Go.IntKind.i64.wrap ((0 : Int) - n2)) (
impB (Int.negSucc (9223372036854775807 : Nat) ≤ n3) (
impB (n3 ≤ Int.ofNat (9223372036854775807 : Nat)) (
reqB ((-9223372036854775808 : Int) ≤ n1) (
reqB (n1 ≤ (9223372036854775807 : Int)) (
reqB ((sigPickN (3037000500 : Int)).pre [DV.n n1, DV.n (3037000500 : Int)]) (
allB fun n4 : Int => 
impB ((0 : Int) ≤ n4) (
impB (n4 ≤ (3037000500 : Int)) (
impB ((sigPickN (3037000500 : Int)).post [DV.n n1, DV.n (3037000500 : Int)] [DV.n n4]) (
reqB ((-9223372036854775808 : Int) ≤ Max.max n0 n3) (
reqB (Max.max n0 n3 ≤ (9223372036854775807 : Int)) (
reqB (sigRt.pre [DV.n (Max.max n0 n3)]) (
allB fun n5 : Int => 
impB ((0 : Int) ≤ n5) (
impB (n5 ≤ (9223372036854775807 : Int)) (
allB fun n6 : Int => 
impB ((0 : Int) ≤ n6) (
impB (n6 ≤ (18 : Int)) (
impB (sigRt.post [DV.n (Max.max n0 n3)] [DV.n n5, DV.n n6]) (
allB fun n7 : Int => 
impB (n7 = Go.IntKind.i64.wrap (n4 * n4)) (
impB (Int.negSucc (9223372036854775807 : Nat) ≤ n7) (
impB (n7 ≤ Int.ofNat (9223372036854775807 : Nat)) (
reqB ((-9223372036854775808 : Int) ≤ n7) (
reqB (n7 ≤ (9223372036854775807 : Int)) (
reqB (sigRt.pre [DV.n n7]) (
allB fun n8 : Int => 
impB ((0 : Int) ≤ n8) (
impB (n8 ≤ (9223372036854775807 : Int)) (
allB fun n9 : Int => 
impB ((0 : Int) ≤ n9) (
impB (n9 ≤ (18 : Int)) (
impB (sigRt.post [DV.n n7] [DV.n n8, DV.n n9]) (
reqB ((-9223372036854775808 : Int) ≤ Max.max n0 n3) (
reqB (Max.max n0 n3 ≤ (9223372036854775807 : Int)) (
reqB ((-9223372036854775808 : Int) ≤ Max.max n0 n3) (
reqB (Max.max n0 n3 ≤ (9223372036854775807 : Int)) (
reqB (sigProd.pre [DV.n (Max.max n0 n3), DV.n (Max.max n0 n3)]) (
allB fun n10 : Int => 
impB ((-9223372036854775808 : Int) ≤ n10) (
impB (n10 ≤ (9223372036854775807 : Int)) (
allB fun n11 : Int => 
impB ((0 : Int) ≤ n11) (
impB (n11 ≤ (18446744073709551615 : Int)) (
impB (sigProd.post [DV.n (Max.max n0 n3), DV.n (Max.max n0 n3)] [DV.n n10, DV.n n11]) (
reqB ((-9223372036854775808 : Int) ≤ n10) (
reqB (n10 ≤ (9223372036854775807 : Int)) (
reqB ((0 : Int) ≤ n11) (
reqB (n11 ≤ (18446744073709551615 : Int)) (
reqB (sigRw.pre [DV.n n10, DV.n n11]) (
allB fun n12 : Int => 
impB ((0 : Int) ≤ n12) (
impB (n12 ≤ (9223372036854775807 : Int)) (
allB fun n13 : Int => 
impB ((0 : Int) ≤ n13) (
impB (n13 ≤ (18 : Int)) (
impB (sigRw.post [DV.n n10, DV.n n11] [DV.n n12, DV.n n13]) (
reqB (sigTrue0.pre []) (
allB fun b14 : Bool => 
impB (sigTrue0.post [] [DV.b b14]) (
bR (bR (b14) (
 false) (
 true)) (
 reqB (sigL2i.post [DV.n n0, DV.n n1] [DV.b Bool.false]) (
 true)) (
 bR (dec (n6 ≠ (0 : Int))) (
 reqB (sigL2i.post [DV.n n0, DV.n n1] [DV.b Bool.false]) (
 true)) (
 bR (dec (n9 ≠ (0 : Int))) (
 reqB (sigL2i.post [DV.n n0, DV.n n1] [DV.b Bool.false]) (
 true)) (
 bR (dec (n13 ≠ (0 : Int))) (
 reqB (sigL2i.post [DV.n n0, DV.n n1] [DV.b Bool.false]) (
 true)) (
 bR (dec ((3037000499 : Int) < n5)) (
 reqB (sigL2i.post [DV.n n0, DV.n n1] [DV.b Bool.false]) (
 true)) (
 bR (dec (n8 ≠ n4)) (
 reqB (sigL2i.post [DV.n n0, DV.n n1] [DV.b Bool.false]) (
 true)) (
 bR (dec (n12 ≠ Max.max n0 n3)) (
 reqB (sigL2i.post [DV.n n0, DV.n n1] [DV.b Bool.false]) (
 true)) (
 allB fun n15 : Int => 
 impB (n15 = Go.IntKind.i64.wrap (n5 * n5)) (
 impB (Int.negSucc (9223372036854775807 : Nat) ≤ n15) (
 impB (n15 ≤ Int.ofNat (9223372036854775807 : Nat)) (
 bR (dec (n15 ≤ Max.max n0 n3)) (
 allB fun n16 : Int => 
 impB (n16 = Go.IntKind.i64.wrap (n5 * n5)) (
 impB (Int.negSucc (9223372036854775807 : Nat) ≤ n16) (
 impB (n16 ≤ Int.ofNat (9223372036854775807 : Nat)) (
 allB fun n17 : Int => 
 impB (n17 = Go.IntKind.i64.wrap (Max.max n0 n3 - n16)) (
 impB (Int.negSucc (9223372036854775807 : Nat) ≤ n17) (
 impB (n17 ≤ Int.ofNat (9223372036854775807 : Nat)) (
 allB fun n18 : Int => 
 impB (n18 = Go.IntKind.i64.wrap ((2 : Int) * n5)) (
 impB (Int.negSucc (9223372036854775807 : Nat) ≤ n18) (
 impB (n18 ≤ Int.ofNat (9223372036854775807 : Nat)) (
 reqB (sigL2i.post [DV.n n0, DV.n n1] [DV.b (dec (n17 ≤ n18))]) (
 true))))))))))) (
 reqB (sigL2i.post [DV.n n0, DV.n n1] [DV.b Bool.false]) (
 true))))))))))))))))))))))))))))))))))))))))))))))))))))))))))))))))))))))) := by kernel_rfl
set_option maxHeartbeats 8000000 in
theorem vt_AngleSquares : vcFn Tryd.prog [(11, Ext.ctr (ctOfG gl11 sigTrue0)), (25, Ext.ctr (ctOfG gl11 sigRt)), (26, Ext.ctr (ctOfG gl11 sigRw)), (37, Ext.ctr (ctOfG gl11 sigProd)), (36, Ext.ctr (ctOfG gl11 (sigPickN 3037000500)))] tab02 gl11 100 10 sigL2i = true := by
  rw [vc_AngleSquares]
  try simp only [Int.toNat_natCast, List.length_set, List.length_replicate, List.length_take, List.length_drop, List.length_append, List.length_cons, List.length_nil, Nat.min_self, List.take_take, lenCols_i, lenCols_b, List.drop_zero, List.take_length, Nat.add_eq, Nat.mul_eq, Nat.sub_eq, Nat.zero_add, Nat.sub_zero, Nat.mul_one]
  refine all_i fun n0 => ?_
  refine imp_i fun h0 => ?_
  refine imp_i fun h1 => ?_
  refine all_i fun n1 => ?_
  refine imp_i fun h2 => ?_
  refine imp_i fun h3 => ?_
  refine imp_i fun h4 => ?_
  try simp only [sigL2i, List.cons.injEq, DV.b.injEq, and_true, List.length_cons, List.length_nil] at h4
  refine all_i fun n2 => ?_
  refine imp_i fun h5 => ?_
  simp only [wrap_i64] at h5
  try simp only [wrap_i64, wrap_u64] at h5
  
  refine imp_i fun h6 => ?_
  refine imp_i fun h7 => ?_
  refine all_i fun n3 => ?_
  refine imp_i fun h8 => ?_
  simp only [wrap_i64] at h8
  try simp only [wrap_i64, wrap_u64] at h8
  have hm : 0 ≤ Max.max n0 n3 := by omega
  have hm2 : Max.max n0 n3 ≤ 9223372036854775807 := by omega
  refine imp_i fun h9 => ?_
  refine imp_i fun h10 => ?_
  refine req_i ?_ ?_
  · -- r0
   first | omega | assumption | grind
  refine req_i ?_ ?_
  · -- r1
   first | omega | assumption | grind
  refine req_i ?_ ?_
  · -- r2
   first | trivial | assumption | (simp only [sigPickN, pickPost, List.cons.injEq, DV.b.injEq, and_true, List.length_cons, List.length_nil]; done) | ((try simp only [sigPickN, pickPost, List.cons.injEq, DV.b.injEq, and_true, List.length_cons, List.length_nil]); first | omega | assumption | grind)
  refine all_i fun n4 => ?_
  refine imp_i fun h11 => ?_
  refine imp_i fun h12 => ?_
  refine imp_i fun h13 => ?_
  try simp only [sigPickN, pickPost, List.cons.injEq, DV.b.injEq, and_true, List.length_cons, List.length_nil] at h13
  refine req_i ?_ ?_
  · -- r3
   first | omega | assumption | grind
  refine req_i ?_ ?_
  · -- r4
   first | omega | assumption | grind
  refine req_i ?_ ?_
  · -- r5
   first | trivial | assumption | (simp only [sigRt, rtPost, List.cons.injEq, DV.b.injEq, and_true, List.length_cons, List.length_nil]; done) | ((try simp only [sigRt, rtPost, List.cons.injEq, DV.b.injEq, and_true, List.length_cons, List.length_nil]); first | omega | assumption | grind)
  refine all_i fun n5 => ?_
  refine imp_i fun h14 => ?_
  refine imp_i fun h15 => ?_
  refine all_i fun n6 => ?_
  refine imp_i fun h16 => ?_
  refine imp_i fun h17 => ?_
  refine imp_i fun h18 => ?_
  try simp only [sigRt, rtPost, List.cons.injEq, DV.b.injEq, and_true, List.length_cons, List.length_nil] at h18
  have k18 := h18.resolve_left (by omega)
  have b5 := sq_bd (B := 3037000500) k18.2.2.1 k18.2.2.2.1 (by omega) (by decide)
  refine all_i fun n7 => ?_
  refine imp_i fun h19 => ?_
  simp only [wrap_i64] at h19
  try simp only [wrap_i64, wrap_u64] at h19
  have mb := mul_bd (a := n4) (b := n4) (A := 3037000499) (B := 3037000499) (by omega) (by omega) (by omega) (by omega)
  have h19 : n7 = n4 * n4 := by omega
  refine imp_i fun h20 => ?_
  refine imp_i fun h21 => ?_
  refine req_i ?_ ?_
  · -- r6
   first | omega | assumption | grind
  refine req_i ?_ ?_
  · -- r7
   first | omega | assumption | grind
  refine req_i ?_ ?_
  · -- r8
   first | trivial | assumption | (simp only [sigRt, rtPost, List.cons.injEq, DV.b.injEq, and_true, List.length_cons, List.length_nil]; done) | ((try simp only [sigRt, rtPost, List.cons.injEq, DV.b.injEq, and_true, List.length_cons, List.length_nil]); first | omega | assumption | grind)
  refine all_i fun n8 => ?_
  refine imp_i fun h22 => ?_
  refine imp_i fun h23 => ?_
  refine all_i fun n9 => ?_
  refine imp_i fun h24 => ?_
  refine imp_i fun h25 => ?_
  refine imp_i fun h26 => ?_
  try simp only [sigRt, rtPost, List.cons.injEq, DV.b.injEq, and_true, List.length_cons, List.length_nil] at h26
  have k26 := h26.resolve_left (by omega)
  have e8 : n8 = n4 := isq_one k26.2.2 (by rw [h19]; exact isq_self (by omega))
  refine req_i ?_ ?_
  · -- r9
   first | omega | assumption | grind
  refine req_i ?_ ?_
  · -- r10
   first | omega | assumption | grind
  refine req_i ?_ ?_
  · -- r11
   first | omega | assumption | grind
  refine req_i ?_ ?_
  · -- r12
   first | omega | assumption | grind
  refine req_i ?_ ?_
  · -- r13
   first | trivial | assumption | (simp only [sigProd, prodPost, List.cons.injEq, DV.b.injEq, and_true, List.length_cons, List.length_nil]; done) | ((try simp only [sigProd, prodPost, List.cons.injEq, DV.b.injEq, and_true, List.length_cons, List.length_nil]); first | omega | assumption | grind)
  refine all_i fun n10 => ?_
  refine imp_i fun h27 => ?_
  refine imp_i fun h28 => ?_
  refine all_i fun n11 => ?_
  refine imp_i fun h29 => ?_
  refine imp_i fun h30 => ?_
  refine imp_i fun h31 => ?_
  try simp only [sigProd, prodPost, List.cons.injEq, DV.b.injEq, and_true, List.length_cons, List.length_nil] at h31
  have mm := mul_bd (a := Max.max n0 n3) (b := Max.max n0 n3) (A := 9223372036854775807) (B := 9223372036854775807) hm hm2 hm hm2
  refine req_i ?_ ?_
  · -- r14
   first | omega | assumption | grind
  refine req_i ?_ ?_
  · -- r15
   first | omega | assumption | grind
  refine req_i ?_ ?_
  · -- r16
   first | omega | assumption | grind
  refine req_i ?_ ?_
  · -- r17
   first | omega | assumption | grind
  refine req_i ?_ ?_
  · -- r18
   first | trivial | assumption | (simp only [sigRw, rwPost, List.cons.injEq, DV.b.injEq, and_true, List.length_cons, List.length_nil]; done) | ((try simp only [sigRw, rwPost, List.cons.injEq, DV.b.injEq, and_true, List.length_cons, List.length_nil]); first | omega | assumption | grind)
  refine all_i fun n12 => ?_
  refine imp_i fun h32 => ?_
  refine imp_i fun h33 => ?_
  refine all_i fun n13 => ?_
  refine imp_i fun h34 => ?_
  refine imp_i fun h35 => ?_
  refine imp_i fun h36 => ?_
  try simp only [sigRw, rwPost, List.cons.injEq, DV.b.injEq, and_true, List.length_cons, List.length_nil] at h36
  have k36 : n13 = 0 ∧ isq (Max.max n0 n3 * Max.max n0 n3) n12 := by
    rcases h36 with h | h | h
    · omega
    · omega
    · exact ⟨h.2.2.1, by have e := h.2.2.2; rwa [h31] at e⟩
  have e12 : n12 = Max.max n0 n3 := isq_one k36.2 (isq_self hm)
  have m5 := mul_bd (a := n5) (b := n5) (A := 3037000499) (B := 3037000499) (by omega) (by omega) (by omega) (by omega)
  have m6 : Max.max n0 n3 < n5 * n5 + 2 * n5 + 1 := by have e := k18.2.2.2.2; rwa [show (n5 + 1) * (n5 + 1) = n5 * n5 + 2 * n5 + 1 by grind] at e
  refine req_i ?_ ?_
  · -- r19
   first | omega | assumption | grind
  refine all_i fun b14 => ?_
  refine imp_i fun h37 => ?_
  try simp only [sigTrue0, List.cons.injEq, DV.b.injEq, and_true, List.length_cons, List.length_nil] at h37
  refine bR_i (fun h38 => ?_) (fun h38 => ?_)
  ·
   simp only [bR_iff, bR_iff_f, dec_iff, dec_f, Bool.false_eq_true, Bool.true_eq_false, false_implies, imp_false, and_true, true_and, implies_true, Classical.not_not] at h38
   refine req_i ?_ ?_
   · -- r20
    first | omega | ((try simp only [sigL2i, List.cons.injEq, DV.b.injEq, and_true, List.length_cons, List.length_nil]); first | done | omega | assumption | grind [getD_set, getD_rep, toNat_succ, cntN_yes, cntN_no])
   rfl
  ·
   simp only [bR_iff, bR_iff_f, dec_iff, dec_f, Bool.false_eq_true, Bool.true_eq_false, false_implies, imp_false, and_true, true_and, implies_true, Classical.not_not] at h38
   refine bR_dec (fun h39 => ?_) (fun h39 => ?_)
   ·
    refine req_i ?_ ?_
    · -- r21
     first | omega | ((try simp only [sigL2i, List.cons.injEq, DV.b.injEq, and_true, List.length_cons, List.length_nil]); first | done | omega | assumption | grind [getD_set, getD_rep, toNat_succ, cntN_yes, cntN_no])
    rfl
   ·
    refine bR_dec (fun h40 => ?_) (fun h40 => ?_)
    ·
     refine req_i ?_ ?_
     · -- r22
      first | omega | ((try simp only [sigL2i, List.cons.injEq, DV.b.injEq, and_true, List.length_cons, List.length_nil]); first | done | omega | assumption | grind [getD_set, getD_rep, toNat_succ, cntN_yes, cntN_no])
     rfl
    ·
     refine bR_dec (fun h41 => ?_) (fun h41 => ?_)
     ·
      refine req_i ?_ ?_
      · -- r23
       first | omega | ((try simp only [sigL2i, List.cons.injEq, DV.b.injEq, and_true, List.length_cons, List.length_nil]); first | done | omega | assumption | grind [getD_set, getD_rep, toNat_succ, cntN_yes, cntN_no])
      rfl
     ·
      refine bR_dec (fun h42 => ?_) (fun h42 => ?_)
      ·
       refine req_i ?_ ?_
       · -- r24
        first | omega | ((try simp only [sigL2i, List.cons.injEq, DV.b.injEq, and_true, List.length_cons, List.length_nil]); first | done | omega | assumption | grind [getD_set, getD_rep, toNat_succ, cntN_yes, cntN_no])
       rfl
      ·
       refine bR_dec (fun h43 => ?_) (fun h43 => ?_)
       ·
        refine req_i ?_ ?_
        · -- r25
         first | omega | ((try simp only [sigL2i, List.cons.injEq, DV.b.injEq, and_true, List.length_cons, List.length_nil]); first | done | omega | assumption | grind [getD_set, getD_rep, toNat_succ, cntN_yes, cntN_no])
        rfl
       ·
        refine bR_dec (fun h44 => ?_) (fun h44 => ?_)
        ·
         refine req_i ?_ ?_
         · -- r26
          first | omega | ((try simp only [sigL2i, List.cons.injEq, DV.b.injEq, and_true, List.length_cons, List.length_nil]); first | done | omega | assumption | grind [getD_set, getD_rep, toNat_succ, cntN_yes, cntN_no])
         rfl
        ·
         refine all_i fun n15 => ?_
         refine imp_i fun h45 => ?_
         simp only [wrap_i64] at h45
         try simp only [wrap_i64, wrap_u64] at h45
         have h45 : n15 = n5 * n5 := by omega
         refine imp_i fun h46 => ?_
         refine imp_i fun h47 => ?_
         refine bR_dec (fun h48 => ?_) (fun h48 => ?_)
         ·
          refine all_i fun n16 => ?_
          refine imp_i fun h49 => ?_
          simp only [wrap_i64] at h49
          try simp only [wrap_i64, wrap_u64] at h49
          have h49 : n16 = n5 * n5 := by omega
          have m7 := k18.2.2.2.1
          refine imp_i fun h50 => ?_
          refine imp_i fun h51 => ?_
          refine all_i fun n17 => ?_
          refine imp_i fun h52 => ?_
          simp only [wrap_i64] at h52
          try simp only [wrap_i64, wrap_u64] at h52
          have h52 : n17 = Max.max n0 n3 - n5 * n5 := by omega
          refine imp_i fun h53 => ?_
          refine imp_i fun h54 => ?_
          refine all_i fun n18 => ?_
          refine imp_i fun h55 => ?_
          simp only [wrap_i64] at h55
          try simp only [wrap_i64, wrap_u64] at h55
          have h55 : n18 = 2 * n5 := by omega
          refine imp_i fun h56 => ?_
          refine imp_i fun h57 => ?_
          refine req_i ?_ ?_
          · -- r27
           have g1 : n17 ≤ n18 := by omega
           simp only [sigL2i]; rw [dec_iff.2 g1]
          rfl
         ·
          have m7 := k18.2.2.2.1
          refine req_i ?_ ?_
          · -- r28
           first | omega | ((try simp only [sigL2i, List.cons.injEq, DV.b.injEq, and_true, List.length_cons, List.length_nil]); first | done | omega | assumption | grind [getD_set, getD_rep, toNat_succ, cntN_yes, cntN_no])
          rfl
theorem ext_AngleSquares : ∀ p ∈ ([(11, Ext.ctr (ctOfG gl11 sigTrue0)), (25, Ext.ctr (ctOfG gl11 sigRt)), (26, Ext.ctr (ctOfG gl11 sigRw)), (37, Ext.ctr (ctOfG gl11 sigProd)), (36, Ext.ctr (ctOfG gl11 (sigPickN 3037000500)))] : List (Nat × Ext)), ExtRow Tryd.prog p.1 p.2 := by
  intro p hp
  simp only [List.mem_cons, List.not_mem_nil, or_false] at hp
  rcases hp with rfl | rfl | rfl | rfl | rfl
  · trivial
  · trivial
  · trivial
  · trivial
  · trivial
theorem cts_AngleSquares : CtsOk Tryd.prog [(11, Ext.ctr (ctOfG gl11 sigTrue0)), (25, Ext.ctr (ctOfG gl11 sigRt)), (26, Ext.ctr (ctOfG gl11 sigRw)), (37, Ext.ctr (ctOfG gl11 sigProd)), (36, Ext.ctr (ctOfG gl11 (sigPickN 3037000500)))] := ctsOk_ofG (cs := [(11, sigTrue0), (25, sigRt), (26, sigRw), (37, sigProd), (36, (sigPickN 3037000500))])
  (fun p hp => by
    simp only [List.mem_cons, List.not_mem_nil, or_false] at hp
    rcases hp with rfl | rfl | rfl | rfl | rfl
    · exact fn_lives
    · exact fn_root
    · exact fn_rootW
    · exact fn_prodR
    · exact fn_pick
)
  (fun f c h => by
    simp only [List.lookup_cons] at h
    repeat' split at h
    all_goals first | (cases h; done) | (rename_i e; have e := beq_iff_eq.1 e; subst e; cases h; refine ⟨_, ?_, rfl⟩; simp))
theorem fn_AngleSquares : FnOk Tryd.prog 10 sigL2i gl11 := fn_sound (by kernel_rfl) ext_AngleSquares cts_AngleSquares names vt_AngleSquares
end Go.Proofs.YtikcjpkocadfdaaDoor

