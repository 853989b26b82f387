import Derived.Test.YtikcjpkocadfdaaDoorSpec02e
import Derived.Test.YtikcjpkocadfdaaDoorRows
import Derived.Test.YtikcjpkocadfdaaDoorFaAngleSamples
namespace Go.Proofs.YtikcjpkocadfdaaDoor
open Go.Ev Go.Sp
set_option maxRecDepth 100000
theorem vc_PowerR : vcFn Tryd.prog [(53, Ext.ctr (ctOfG gl11 sigSmallB)), (37, Ext.ctr (ctOfG gl11 sigProd)), (55, Ext.ctr (ctOfG gl11 sigPlus)), (56, Ext.ctr (ctOfG gl11 sigNar))] tab02 gl11 100 33 sigPow = (allB fun n0 : Int => 
impB ((-9223372036854775808 : Int) ≤ n0) (
impB (n0 ≤ (9223372036854775807 : Int)) (
allB fun n1 : Int => 
impB ((-9223372036854775808 : Int) ≤ n1) (
impB (n1 ≤ (9223372036854775807 : Int)) (
impB (sigPow.pre [DV.n n0, DV.n n1]) (
reqB ((-9223372036854775808 : Int) ≤ n0) (
reqB (n0 ≤ (9223372036854775807 : Int)) (
reqB ((-9223372036854775808 : Int) ≤ n1) (
reqB (n1 ≤ (9223372036854775807 : Int)) (
reqB (sigSmallB.pre [DV.n n0, DV.n n1]) (
allB fun b2 : Bool => 
impB (sigSmallB.post [DV.n n0, DV.n n1] [DV.b b2]) (
bR (bR (b2) (
 false) (
 true)) (
 reqB (sigPow.post [DV.n n0, DV.n n1] [DV.n (0 : Int), DV.n (2 : Int)]) (
 true)) (
 reqB ((-9223372036854775808 : Int) ≤ n0) (
 reqB (n0 ≤ (9223372036854775807 : Int)) (
 reqB ((-9223372036854775808 : Int) ≤ n0) (
 reqB (n0 ≤ (9223372036854775807 : Int)) (
 reqB (sigProd.pre [DV.n n0, DV.n n0]) (
 allB fun n3 : Int => 
 impB ((-9223372036854775808 : Int) ≤ n3) (
 impB (n3 ≤ (9223372036854775807 : Int)) (
 allB fun n4 : Int => 
 impB ((0 : Int) ≤ n4) (
 impB (n4 ≤ (18446744073709551615 : Int)) (
 impB (sigProd.post [DV.n n0, DV.n n0] [DV.n n3, DV.n n4]) (
 reqB ((-9223372036854775808 : Int) ≤ n1) (
 reqB (n1 ≤ (9223372036854775807 : Int)) (
 reqB ((-9223372036854775808 : Int) ≤ n1) (
 reqB (n1 ≤ (9223372036854775807 : Int)) (
 reqB (sigProd.pre [DV.n n1, DV.n n1]) (
 allB fun n5 : Int => 
 impB ((-9223372036854775808 : Int) ≤ n5) (
 impB (n5 ≤ (9223372036854775807 : Int)) (
 allB fun n6 : Int => 
 impB ((0 : Int) ≤ n6) (
 impB (n6 ≤ (18446744073709551615 : Int)) (
 impB (sigProd.post [DV.n n1, DV.n n1] [DV.n n5, DV.n n6]) (
 reqB ((-9223372036854775808 : Int) ≤ n3) (
 reqB (n3 ≤ (9223372036854775807 : Int)) (
 reqB ((0 : Int) ≤ n4) (
 reqB (n4 ≤ (18446744073709551615 : Int)) (
 reqB ((-9223372036854775808 : Int) ≤ n5) (
 reqB (n5 ≤ (9223372036854775807 : Int)) (
 reqB ((0 : Int) ≤ n6) (
 reqB (n6 ≤ (18446744073709551615 : Int)) (
 reqB (sigPlus.pre [DV.n n3, DV.n n4, DV.n n5, DV.n n6]) (
 allB fun n7 : Int => 
 impB ((-9223372036854775808 : Int) ≤ n7) (
 impB (n7 ≤ (9223372036854775807 : Int)) (
 allB fun n8 : Int => 
 impB ((0 : Int) ≤ n8) (
 impB (n8 ≤ (18446744073709551615 : Int)) (
 allB fun n9 : Int => 
 impB ((0 : Int) ≤ n9) (
 impB (n9 ≤ (18 : Int)) (
 impB (sigPlus.post [DV.n n3, DV.n n4, DV.n n5, DV.n n6]
 [DV.n n7, DV.n n8, DV.n n9]) (
 reqB ((-9223372036854775808 : Int) ≤ n7) (
 reqB (n7 ≤ (9223372036854775807 : Int)) (
 reqB ((0 : Int) ≤ n8) (
 reqB (n8 ≤ (18446744073709551615 : Int)) (
 reqB (sigNar.pre [DV.n n7, DV.n n8]) (
 allB fun n10 : Int => 
 impB ((-9223372036854775808 : Int) ≤ n10) (
 impB (n10 ≤ (9223372036854775807 : Int)) (
 allB fun n11 : Int => 
 impB ((0 : Int) ≤ n11) (
 impB (n11 ≤ (18 : Int)) (
 impB (sigNar.post [DV.n n7, DV.n n8] [DV.n n10, DV.n n11]) (
 reqB ((-9223372036854775808 : Int) ≤ n10) (
 reqB (n10 ≤ (9223372036854775807 : Int)) (
 reqB ((0 : Int) ≤ n11) (
 reqB (n11 ≤ (18 : Int)) (
 reqB (sigPow.post [DV.n n0, DV.n n1] [DV.n n10, DV.n n11]) (
 true)))))))))))))))))))))))))))))))))))))))))))))))))))))))))))))))) := by kernel_rfl
set_option maxHeartbeats 8000000 in
theorem vt_PowerR : vcFn Tryd.prog [(53, Ext.ctr (ctOfG gl11 sigSmallB)), (37, Ext.ctr (ctOfG gl11 sigProd)), (55, Ext.ctr (ctOfG gl11 sigPlus)), (56, Ext.ctr (ctOfG gl11 sigNar))] tab02 gl11 100 33 sigPow = true := by
  rw [vc_PowerR]
  try simp only [Int.toNat_natCast, List.length_set, List.length_replicate, List.length_take, List.length_drop, List.length_append, List.length_cons, List.length_nil, Nat.min_self, List.take_take, lenCols_i, lenCols_b, List.drop_zero, List.take_length, Nat.add_eq, Nat.mul_eq, Nat.sub_eq, Nat.zero_add, Nat.sub_zero, Nat.mul_one]
  refine all_i fun n0 => ?_
  refine imp_i fun h0 => ?_
  refine imp_i fun h1 => ?_
  refine all_i fun n1 => ?_
  refine imp_i fun h2 => ?_
  refine imp_i fun h3 => ?_
  refine imp_i fun h4 => ?_
  try simp only [sigPow, smpV, powPost, sml, List.cons.injEq, DV.b.injEq, and_true, List.length_cons, List.length_nil] at h4
  refine req_i ?_ ?_
  · -- r0
   first | omega | assumption | grind
  refine req_i ?_ ?_
  · -- r1
   first | omega | assumption | grind
  refine req_i ?_ ?_
  · -- r2
   first | omega | assumption | grind
  refine req_i ?_ ?_
  · -- r3
   first | omega | assumption | grind
  refine req_i ?_ ?_
  · -- r4
   first | trivial | assumption | (simp only [sigSmallB, smpV, smallBPost, sml, List.cons.injEq, DV.b.injEq, and_true, List.length_cons, List.length_nil]; done) | ((try simp only [sigSmallB, smpV, smallBPost, sml, List.cons.injEq, DV.b.injEq, and_true, List.length_cons, List.length_nil]); first | omega | assumption | grind)
  refine all_i fun b2 => ?_
  refine imp_i fun h5 => ?_
  try simp only [sigSmallB, smpV, smallBPost, sml, List.cons.injEq, DV.b.injEq, and_true, List.length_cons, List.length_nil] at h5
  refine bR_i (fun h6 => ?_) (fun h6 => ?_)
  ·
   simp only [bR_iff, bR_iff_f, dec_iff, dec_f, Bool.false_eq_true, Bool.true_eq_false, false_implies, imp_false, and_true, true_and, implies_true, Classical.not_not] at h6
   refine req_i ?_ ?_
   · -- r5
    exact .inl ⟨fun g => by simp [h5.2 g] at h6, rfl, rfl⟩
   rfl
  ·
   simp only [bR_iff, bR_iff_f, dec_iff, dec_f, Bool.false_eq_true, Bool.true_eq_false, false_implies, imp_false, and_true, true_and, implies_true, Classical.not_not] at h6
   have hsm : sml n0 n1 := h5.1 (by first | exact h6 | simpa using h6)
   have hs2 := hsm
   unfold sml at hs2
   refine req_i ?_ ?_
   · -- r6
    first | omega | assumption | grind
   refine req_i ?_ ?_
   · -- r7
    first | omega | assumption | grind
   refine req_i ?_ ?_
   · -- r8
    first | omega | assumption | grind
   refine req_i ?_ ?_
   · -- r9
    first | omega | assumption | grind
   refine req_i ?_ ?_
   · -- r10
    first | trivial | assumption | (simp only [sigProd, prodPost, List.cons.injEq, DV.b.injEq, and_true, List.length_cons, List.length_nil]; done) | ((try simp only [sigProd, prodPost, List.cons.injEq, DV.b.injEq, and_true, List.length_cons, List.length_nil]); first | omega | assumption | grind)
   refine all_i fun n3 => ?_
   refine imp_i fun h7 => ?_
   refine imp_i fun h8 => ?_
   refine all_i fun n4 => ?_
   refine imp_i fun h9 => ?_
   refine imp_i fun h10 => ?_
   refine imp_i fun h11 => ?_
   try simp only [sigProd, prodPost, List.cons.injEq, DV.b.injEq, and_true, List.length_cons, List.length_nil] at h11
   have s1 := sq_abs (a := n0) (A := 70368744177664) (by omega) (by omega)
   refine req_i ?_ ?_
   · -- r11
    first | omega | assumption | grind
   refine req_i ?_ ?_
   · -- r12
    first | omega | assumption | grind
   refine req_i ?_ ?_
   · -- r13
    first | omega | assumption | grind
   refine req_i ?_ ?_
   · -- r14
    first | omega | assumption | grind
   refine req_i ?_ ?_
   · -- r15
    first | trivial | assumption | (simp only [sigProd, prodPost, List.cons.injEq, DV.b.injEq, and_true, List.length_cons, List.length_nil]; done) | ((try simp only [sigProd, prodPost, List.cons.injEq, DV.b.injEq, and_true, List.length_cons, List.length_nil]); first | omega | assumption | grind)
   refine all_i fun n5 => ?_
   refine imp_i fun h12 => ?_
   refine imp_i fun h13 => ?_
   refine all_i fun n6 => ?_
   refine imp_i fun h14 => ?_
   refine imp_i fun h15 => ?_
   refine imp_i fun h16 => ?_
   try simp only [sigProd, prodPost, List.cons.injEq, DV.b.injEq, and_true, List.length_cons, List.length_nil] at h16
   have s2 := sq_abs (a := n1) (A := 70368744177664) (by omega) (by omega)
   refine req_i ?_ ?_
   · -- r16
    first | omega | assumption | grind
   refine req_i ?_ ?_
   · -- r17
    first | omega | assumption | grind
   refine req_i ?_ ?_
   · -- r18
    first | omega | assumption | grind
   refine req_i ?_ ?_
   · -- r19
    first | omega | assumption | grind
   refine req_i ?_ ?_
   · -- r20
    first | omega | assumption | grind
   refine req_i ?_ ?_
   · -- r21
    first | omega | assumption | grind
   refine req_i ?_ ?_
   · -- r22
    first | omega | assumption | grind
   refine req_i ?_ ?_
   · -- r23
    first | omega | assumption | grind
   refine req_i ?_ ?_
   · -- r24
    first | trivial | assumption | (simp only [sigPlus, plusPost, List.cons.injEq, DV.b.injEq, and_true, List.length_cons, List.length_nil]; done) | ((try simp only [sigPlus, plusPost, List.cons.injEq, DV.b.injEq, and_true, List.length_cons, List.length_nil]); first | omega | assumption | grind)
   refine all_i fun n7 => ?_
   refine imp_i fun h17 => ?_
   refine imp_i fun h18 => ?_
   refine all_i fun n8 => ?_
   refine imp_i fun h19 => ?_
   refine imp_i fun h20 => ?_
   refine all_i fun n9 => ?_
   refine imp_i fun h21 => ?_
   refine imp_i fun h22 => ?_
   refine imp_i fun h23 => ?_
   try simp only [sigPlus, plusPost, List.cons.injEq, DV.b.injEq, and_true, List.length_cons, List.length_nil] at h23
   refine req_i ?_ ?_
   · -- r25
    first | omega | assumption | grind
   refine req_i ?_ ?_
   · -- r26
    first | omega | assumption | grind
   refine req_i ?_ ?_
   · -- r27
    first | omega | assumption | grind
   refine req_i ?_ ?_
   · -- r28
    first | omega | assumption | grind
   refine req_i ?_ ?_
   · -- r29
    first | trivial | assumption | (simp only [sigNar, narPost, List.cons.injEq, DV.b.injEq, and_true, List.length_cons, List.length_nil]; done) | ((try simp only [sigNar, narPost, List.cons.injEq, DV.b.injEq, and_true, List.length_cons, List.length_nil]); first | omega | assumption | grind)
   refine all_i fun n10 => ?_
   refine imp_i fun h24 => ?_
   refine imp_i fun h25 => ?_
   refine all_i fun n11 => ?_
   refine imp_i fun h26 => ?_
   refine imp_i fun h27 => ?_
   refine imp_i fun h28 => ?_
   try simp only [sigNar, narPost, List.cons.injEq, DV.b.injEq, and_true, List.length_cons, List.length_nil] at h28
   refine req_i ?_ ?_
   · -- r30
    first | omega | assumption | grind
   refine req_i ?_ ?_
   · -- r31
    first | omega | assumption | grind
   refine req_i ?_ ?_
   · -- r32
    first | omega | assumption | grind
   refine req_i ?_ ?_
   · -- r33
    first | omega | assumption | grind
   refine req_i ?_ ?_
   · -- r34
    by_cases hb : n0 * n0 + n1 * n1 ≤ 9223372036854775807
    · exact .inr (.inl ⟨hsm, hb, by omega, by omega⟩)
    · exact .inr (.inr ⟨hsm, by omega, by omega, by omega⟩)
   rfl
theorem ext_PowerR : ∀ p ∈ ([(53, Ext.ctr (ctOfG gl11 sigSmallB)), (37, Ext.ctr (ctOfG gl11 sigProd)), (55, Ext.ctr (ctOfG gl11 sigPlus)), (56, Ext.ctr (ctOfG gl11 sigNar))] : List (Nat × Ext)), ExtRow Tryd.prog p.1 p.2 := by
  intro p hp
  simp only [List.mem_cons, List.not_mem_nil, or_false] at hp
  rcases hp with rfl | rfl | rfl | rfl
  · trivial
  · trivial
  · trivial
  · trivial
theorem cts_PowerR : CtsOk Tryd.prog [(53, Ext.ctr (ctOfG gl11 sigSmallB)), (37, Ext.ctr (ctOfG gl11 sigProd)), (55, Ext.ctr (ctOfG gl11 sigPlus)), (56, Ext.ctr (ctOfG gl11 sigNar))] := ctsOk_ofG (cs := [(53, sigSmallB), (37, sigProd), (55, sigPlus), (56, sigNar)])
  (fun p hp => by
    simp only [List.mem_cons, List.not_mem_nil, or_false] at hp
    rcases hp with rfl | rfl | rfl | rfl
    · exact fn_smallR
    · exact fn_prodR
    · exact fn_plusR
    · exact fn_narrowR
)
  (fun f c h => by
    simp only [List.lookup_cons] at h
    repeat' split at h
    all_goals first | (cases h; done) | (rename_i e; have e := beq_iff_eq.1 e; subst e; cases h; refine ⟨_, ?_, rfl⟩; simp))
theorem fn_PowerR : FnOk Tryd.prog 33 sigPow gl11 := fn_sound (by kernel_rfl) ext_PowerR cts_PowerR names vt_PowerR
end Go.Proofs.YtikcjpkocadfdaaDoor

namespace Go.Proofs.YtikcjpkocadfdaaDoor
open Go.Ev Go.Sp
set_option maxRecDepth 100000
theorem vc_AngleSamples : vcFn Tryd.prog [(11, Ext.ctr (ctOfG gl11 sigTrue0)), (19, Ext.ctr (ctOfG gl11 sigSector)), (31, Ext.ctr (ctOfG gl11 sigSector)), (23, Ext.ctr (ctOfG gl11 sigFine)), (32, Ext.ctr (ctOfG gl11 sigFine)), (24, Ext.ctr (ctOfG gl11 sigPow)), (33, Ext.ctr (ctOfG gl11 sigPow))] tab02 gl11 100 5 sigSm2 = (allB fun n0 : Int => 
impB ((-9223372036854775808 : Int) ≤ n0) (
impB (n0 ≤ (9223372036854775807 : Int)) (
allB fun n1 : Int => 
impB ((-9223372036854775808 : Int) ≤ n1) (
impB (n1 ≤ (9223372036854775807 : Int)) (
impB (sigSm2.pre [DV.n n0, DV.n n1]) (
reqB ((-9223372036854775808 : Int) ≤ n0) (
reqB (n0 ≤ (9223372036854775807 : Int)) (
reqB ((-9223372036854775808 : Int) ≤ n1) (
reqB (n1 ≤ (9223372036854775807 : Int)) (
reqB (sigSector.pre [DV.n n0, DV.n n1]) (
allB fun n2 : Int => 
impB ((0 : Int) ≤ n2) (
impB (n2 ≤ (63 : Int)) (
allB fun n3 : Int => 
impB ((0 : Int) ≤ n3) (
impB (n3 ≤ (18 : Int)) (
impB (sigSector.post [DV.n n0, DV.n n1] [DV.n n2, DV.n n3]) (
reqB ((-9223372036854775808 : Int) ≤ n0) (
reqB (n0 ≤ (9223372036854775807 : Int)) (
reqB ((-9223372036854775808 : Int) ≤ n1) (
reqB (n1 ≤ (9223372036854775807 : Int)) (
reqB (sigSector.pre [DV.n n0, DV.n n1]) (
allB fun n4 : Int => 
impB ((0 : Int) ≤ n4) (
impB (n4 ≤ (63 : Int)) (
allB fun n5 : Int => 
impB ((0 : Int) ≤ n5) (
impB (n5 ≤ (18 : Int)) (
impB (sigSector.post [DV.n n0, DV.n n1] [DV.n n4, DV.n n5]) (
reqB ((-9223372036854775808 : Int) ≤ n0) (
reqB (n0 ≤ (9223372036854775807 : Int)) (
reqB ((-9223372036854775808 : Int) ≤ n1) (
reqB (n1 ≤ (9223372036854775807 : Int)) (
reqB (sigFine.pre [DV.n n0, DV.n n1]) (
allB fun n6 : Int => 
impB ((0 : Int) ≤ n6) (
impB (n6 ≤ (4095 : Int)) (
allB fun n7 : Int => 
impB ((0 : Int) ≤ n7) (
impB (n7 ≤ (18 : Int)) (
impB (sigFine.post [DV.n n0, DV.n n1] [DV.n n6, DV.n n7]) (
reqB ((-9223372036854775808 : Int) ≤ n0) (
reqB (n0 ≤ (9223372036854775807 : Int)) (
reqB ((-9223372036854775808 : Int) ≤ n1) (
reqB (n1 ≤ (9223372036854775807 : Int)) (
reqB (sigFine.pre [DV.n n0, DV.n n1]) (
allB fun n8 : Int => 
impB ((0 : Int) ≤ n8) (
impB (n8 ≤ (4095 : Int)) (
allB fun n9 : Int => 
impB ((0 : Int) ≤ n9) (
impB (n9 ≤ (18 : Int)) (
impB (sigFine.post [DV.n n0, DV.n n1] [DV.n n8, DV.n n9]) (
reqB ((-9223372036854775808 : Int) ≤ n0) (
reqB (n0 ≤ (9223372036854775807 : Int)) (
reqB ((-9223372036854775808 : Int) ≤ n1) (
reqB (n1 ≤ (9223372036854775807 : Int)) (
reqB (sigPow.pre [DV.n n0, DV.n n1]) (
allB fun n10 : Int => 
impB ((-9223372036854775808 : Int) ≤ n10) (
impB (n10 ≤ (9223372036854775807 : Int)) (
allB fun n11 : Int => 
impB ((0 : Int) ≤ n11) (
impB (n11 ≤ (18 : Int)) (
impB (sigPow.post [DV.n n0, DV.n n1] [DV.n n10, DV.n n11]) (
reqB ((-9223372036854775808 : Int) ≤ n0) (
reqB (n0 ≤ (9223372036854775807 : Int)) (
reqB ((-9223372036854775808 : Int) ≤ n1) (
reqB (n1 ≤ (9223372036854775807 : Int)) (
reqB (sigPow.pre [DV.n n0, DV.n n1]) (
allB fun n12 : Int => 
impB ((-9223372036854775808 : Int) ≤ n12) (
impB (n12 ≤ (9223372036854775807 : Int)) (
allB fun n13 : Int => 
impB ((0 : Int) ≤ n13) (
impB (n13 ≤ (18 : Int)) (
impB (sigPow.post [DV.n n0, DV.n n1] [DV.n n12, DV.n n13]) (
reqB (sigTrue0.pre []) (
allB fun b14 : Bool => 
impB (sigTrue0.post [] [DV.b b14]) (
bR (b14) (
 bR (dec (n2 = n4)) (
 bR (dec (n3 = n5)) (
 bR (dec (n6 = n8)) (
 bR (dec (n7 = n9)) (
 bR (dec (n10 = n12)) (
 reqB (sigSm2.post [DV.n n0, DV.n n1] [DV.b (dec (n11 = n13))]) (
 true)) (
 reqB (sigSm2.post [DV.n n0, DV.n n1] [DV.b Bool.false]) (
 true))) (
 reqB (sigSm2.post [DV.n n0, DV.n n1] [DV.b Bool.false]) (
 true))) (
 reqB (sigSm2.post [DV.n n0, DV.n n1] [DV.b Bool.false]) (
 true))) (
 reqB (sigSm2.post [DV.n n0, DV.n n1] [DV.b Bool.false]) (
 true))) (
 reqB (sigSm2.post [DV.n n0, DV.n n1] [DV.b Bool.false]) (
 true))) (
 reqB (sigSm2.post [DV.n n0, DV.n n1] [DV.b Bool.false]) (
 true)))))))))))))))))))))))))))))))))))))))))))))))))))))))))))))))))))))) := by kernel_rfl
set_option maxHeartbeats 8000000 in
theorem vt_AngleSamples : vcFn Tryd.prog [(11, Ext.ctr (ctOfG gl11 sigTrue0)), (19, Ext.ctr (ctOfG gl11 sigSector)), (31, Ext.ctr (ctOfG gl11 sigSector)), (23, Ext.ctr (ctOfG gl11 sigFine)), (32, Ext.ctr (ctOfG gl11 sigFine)), (24, Ext.ctr (ctOfG gl11 sigPow)), (33, Ext.ctr (ctOfG gl11 sigPow))] tab02 gl11 100 5 sigSm2 = true := by
  rw [vc_AngleSamples]
  try simp only [Int.toNat_natCast, List.length_set, List.length_replicate, List.length_take, List.length_drop, List.length_append, List.length_cons, List.length_nil, Nat.min_self, List.take_take, lenCols_i, lenCols_b, List.drop_zero, List.take_length, Nat.add_eq, Nat.mul_eq, Nat.sub_eq, Nat.zero_add, Nat.sub_zero, Nat.mul_one]
  refine all_i fun n0 => ?_
  refine imp_i fun h0 => ?_
  refine imp_i fun h1 => ?_
  refine all_i fun n1 => ?_
  refine imp_i fun h2 => ?_
  refine imp_i fun h3 => ?_
  refine imp_i fun h4 => ?_
  try simp only [sigSm2, smpV, List.cons.injEq, DV.b.injEq, and_true, List.length_cons, List.length_nil] at h4
  refine req_i ?_ ?_
  · -- r0
   first | omega | assumption | grind
  refine req_i ?_ ?_
  · -- r1
   first | omega | assumption | grind
  refine req_i ?_ ?_
  · -- r2
   first | omega | assumption | grind
  refine req_i ?_ ?_
  · -- r3
   first | omega | assumption | grind
  refine req_i ?_ ?_
  · -- r4
   first | trivial | assumption | (simp only [sigSector, smpV, sectorPost, sml, List.cons.injEq, DV.b.injEq, and_true, List.length_cons, List.length_nil]; done) | ((try simp only [sigSector, smpV, sectorPost, sml, List.cons.injEq, DV.b.injEq, and_true, List.length_cons, List.length_nil]); first | omega | assumption | grind)
  refine all_i fun n2 => ?_
  refine imp_i fun h5 => ?_
  refine imp_i fun h6 => ?_
  refine all_i fun n3 => ?_
  refine imp_i fun h7 => ?_
  refine imp_i fun h8 => ?_
  refine imp_i fun h9 => ?_
  try simp only [sigSector, smpV, sectorPost, sml, List.cons.injEq, DV.b.injEq, and_true, List.length_cons, List.length_nil] at h9
  refine req_i ?_ ?_
  · -- r5
   first | omega | assumption | grind
  refine req_i ?_ ?_
  · -- r6
   first | omega | assumption | grind
  refine req_i ?_ ?_
  · -- r7
   first | omega | assumption | grind
  refine req_i ?_ ?_
  · -- r8
   first | omega | assumption | grind
  refine req_i ?_ ?_
  · -- r9
   first | trivial | assumption | (simp only [sigSector, smpV, sectorPost, sml, List.cons.injEq, DV.b.injEq, and_true, List.length_cons, List.length_nil]; done) | ((try simp only [sigSector, smpV, sectorPost, sml, List.cons.injEq, DV.b.injEq, and_true, List.length_cons, List.length_nil]); first | omega | assumption | grind)
  refine all_i fun n4 => ?_
  refine imp_i fun h10 => ?_
  refine imp_i fun h11 => ?_
  refine all_i fun n5 => ?_
  refine imp_i fun h12 => ?_
  refine imp_i fun h13 => ?_
  refine imp_i fun h14 => ?_
  try simp only [sigSector, smpV, sectorPost, sml, List.cons.injEq, DV.b.injEq, and_true, List.length_cons, List.length_nil] at h14
  refine req_i ?_ ?_
  · -- r10
   first | omega | assumption | grind
  refine req_i ?_ ?_
  · -- r11
   first | omega | assumption | grind
  refine req_i ?_ ?_
  · -- r12
   first | omega | assumption | grind
  refine req_i ?_ ?_
  · -- r13
   first | omega | assumption | grind
  refine req_i ?_ ?_
  · -- r14
   first | trivial | assumption | (simp only [sigFine, smpV, finePost, sml, List.cons.injEq, DV.b.injEq, and_true, List.length_cons, List.length_nil]; done) | ((try simp only [sigFine, smpV, finePost, sml, List.cons.injEq, DV.b.injEq, and_true, List.length_cons, List.length_nil]); first | omega | assumption | grind)
  refine all_i fun n6 => ?_
  refine imp_i fun h15 => ?_
  refine imp_i fun h16 => ?_
  refine all_i fun n7 => ?_
  refine imp_i fun h17 => ?_
  refine imp_i fun h18 => ?_
  refine imp_i fun h19 => ?_
  try simp only [sigFine, smpV, finePost, sml, List.cons.injEq, DV.b.injEq, and_true, List.length_cons, List.length_nil] at h19
  refine req_i ?_ ?_
  · -- r15
   first | omega | assumption | grind
  refine req_i ?_ ?_
  · -- r16
   first | omega | assumption | grind
  refine req_i ?_ ?_
  · -- r17
   first | omega | assumption | grind
  refine req_i ?_ ?_
  · -- r18
   first | omega | assumption | grind
  refine req_i ?_ ?_
  · -- r19
   first | trivial | assumption | (simp only [sigFine, smpV, finePost, sml, List.cons.injEq, DV.b.injEq, and_true, List.length_cons, List.length_nil]; done) | ((try simp only [sigFine, smpV, finePost, sml, List.cons.injEq, DV.b.injEq, and_true, List.length_cons, List.length_nil]); first | omega | assumption | grind)
  refine all_i fun n8 => ?_
  refine imp_i fun h20 => ?_
  refine imp_i fun h21 => ?_
  refine all_i fun n9 => ?_
  refine imp_i fun h22 => ?_
  refine imp_i fun h23 => ?_
  refine imp_i fun h24 => ?_
  try simp only [sigFine, smpV, finePost, sml, List.cons.injEq, DV.b.injEq, and_true, List.length_cons, List.length_nil] at h24
  refine req_i ?_ ?_
  · -- r20
   first | omega | assumption | grind
  refine req_i ?_ ?_
  · -- r21
   first | omega | assumption | grind
  refine req_i ?_ ?_
  · -- r22
   first | omega | assumption | grind
  refine req_i ?_ ?_
  · -- r23
   first | omega | assumption | grind
  refine req_i ?_ ?_
  · -- r24
   first | trivial | assumption | (simp only [sigPow, smpV, powPost, sml, List.cons.injEq, DV.b.injEq, and_true, List.length_cons, List.length_nil]; done) | ((try simp only [sigPow, smpV, powPost, sml, List.cons.injEq, DV.b.injEq, and_true, List.length_cons, List.length_nil]); first | omega | assumption | grind)
  refine all_i fun n10 => ?_
  refine imp_i fun h25 => ?_
  refine imp_i fun h26 => ?_
  refine all_i fun n11 => ?_
  refine imp_i fun h27 => ?_
  refine imp_i fun h28 => ?_
  refine imp_i fun h29 => ?_
  try simp only [sigPow, smpV, powPost, sml, List.cons.injEq, DV.b.injEq, and_true, List.length_cons, List.length_nil] at h29
  refine req_i ?_ ?_
  · -- r25
   first | omega | assumption | grind
  refine req_i ?_ ?_
  · -- r26
   first | omega | assumption | grind
  refine req_i ?_ ?_
  · -- r27
   first | omega | assumption | grind
  refine req_i ?_ ?_
  · -- r28
   first | omega | assumption | grind
  refine req_i ?_ ?_
  · -- r29
   first | trivial | assumption | (simp only [sigPow, smpV, powPost, sml, List.cons.injEq, DV.b.injEq, and_true, List.length_cons, List.length_nil]; done) | ((try simp only [sigPow, smpV, powPost, sml, List.cons.injEq, DV.b.injEq, and_true, List.length_cons, List.length_nil]); first | omega | assumption | grind)
  refine all_i fun n12 => ?_
  refine imp_i fun h30 => ?_
  refine imp_i fun h31 => ?_
  refine all_i fun n13 => ?_
  refine imp_i fun h32 => ?_
  refine imp_i fun h33 => ?_
  refine imp_i fun h34 => ?_
  try simp only [sigPow, smpV, powPost, sml, List.cons.injEq, DV.b.injEq, and_true, List.length_cons, List.length_nil] at h34
  refine req_i ?_ ?_
  · -- r30
   first | omega | assumption | grind
  refine all_i fun b14 => ?_
  refine imp_i fun h35 => ?_
  try simp only [sigTrue0, List.cons.injEq, DV.b.injEq, and_true, List.length_cons, List.length_nil] at h35
  refine bR_i (fun h36 => ?_) (fun h36 => ?_)
  ·
   refine bR_dec (fun h37 => ?_) (fun h37 => ?_)
   ·
    refine bR_dec (fun h38 => ?_) (fun h38 => ?_)
    ·
     refine bR_dec (fun h39 => ?_) (fun h39 => ?_)
     ·
      refine bR_dec (fun h40 => ?_) (fun h40 => ?_)
      ·
       refine bR_dec (fun h41 => ?_) (fun h41 => ?_)
       ·
        refine req_i ?_ ?_
        · -- r31
         first | omega | ((try simp only [sigSm2, smpV, List.cons.injEq, DV.b.injEq, and_true, List.length_cons, List.length_nil, dec_iff]); first | done | omega | assumption | grind [getD_set, getD_rep, toNat_succ, cntN_yes, cntN_no])
        rfl
       ·
        refine req_i ?_ ?_
        · -- r32
         first | omega | ((try simp only [sigSm2, smpV, List.cons.injEq, DV.b.injEq, and_true, List.length_cons, List.length_nil]); first | done | omega | assumption | grind [getD_set, getD_rep, toNat_succ, cntN_yes, cntN_no])
        rfl
      ·
       refine req_i ?_ ?_
       · -- r33
        first | omega | ((try simp only [sigSm2, smpV, List.cons.injEq, DV.b.injEq, and_true, List.length_cons, List.length_nil]); first | done | omega | assumption | grind [getD_set, getD_rep, toNat_succ, cntN_yes, cntN_no])
       rfl
     ·
      refine req_i ?_ ?_
      · -- r34
       first | omega | ((try simp only [sigSm2, smpV, List.cons.injEq, DV.b.injEq, and_true, List.length_cons, List.length_nil]); first | done | omega | assumption | grind [getD_set, getD_rep, toNat_succ, cntN_yes, cntN_no])
      rfl
    ·
     refine req_i ?_ ?_
     · -- r35
      first | omega | ((try simp only [sigSm2, smpV, List.cons.injEq, DV.b.injEq, and_true, List.length_cons, List.length_nil]); first | done | omega | assumption | grind [getD_set, getD_rep, toNat_succ, cntN_yes, cntN_no])
     rfl
   ·
    refine req_i ?_ ?_
    · -- r36
     first | omega | ((try simp only [sigSm2, smpV, List.cons.injEq, DV.b.injEq, and_true, List.length_cons, List.length_nil]); first | done | omega | assumption | grind [getD_set, getD_rep, toNat_succ, cntN_yes, cntN_no])
    rfl
  ·
   refine req_i ?_ ?_
   · -- r37
    first | omega | ((try simp only [sigSm2, smpV, List.cons.injEq, DV.b.injEq, and_true, List.length_cons, List.length_nil]); first | done | omega | assumption | grind [getD_set, getD_rep, toNat_succ, cntN_yes, cntN_no])
   rfl
theorem ext_AngleSamples : ∀ p ∈ ([(11, Ext.ctr (ctOfG gl11 sigTrue0)), (19, Ext.ctr (ctOfG gl11 sigSector)), (31, Ext.ctr (ctOfG gl11 sigSector)), (23, Ext.ctr (ctOfG gl11 sigFine)), (32, Ext.ctr (ctOfG gl11 sigFine)), (24, Ext.ctr (ctOfG gl11 sigPow)), (33, Ext.ctr (ctOfG gl11 sigPow))] : List (Nat × Ext)), ExtRow Tryd.prog p.1 p.2 := by
  intro p hp
  simp only [List.mem_cons, List.not_mem_nil, or_false] at hp
  rcases hp with rfl | rfl | rfl | rfl | rfl | rfl | rfl
  · trivial
  · trivial
  · trivial
  · trivial
  · trivial
  · trivial
  · trivial
theorem cts_AngleSamples : CtsOk Tryd.prog [(11, Ext.ctr (ctOfG gl11 sigTrue0)), (19, Ext.ctr (ctOfG gl11 sigSector)), (31, Ext.ctr (ctOfG gl11 sigSector)), (23, Ext.ctr (ctOfG gl11 sigFine)), (32, Ext.ctr (ctOfG gl11 sigFine)), (24, Ext.ctr (ctOfG gl11 sigPow)), (33, Ext.ctr (ctOfG gl11 sigPow))] := ctsOk_ofG (cs := [(11, sigTrue0), (19, sigSector), (31, sigSector), (23, sigFine), (32, sigFine), (24, sigPow), (33, sigPow)])
  (fun p hp => by
    simp only [List.mem_cons, List.not_mem_nil, or_false] at hp
    rcases hp with rfl | rfl | rfl | rfl | rfl | rfl | rfl
    · exact fn_lives
    · exact fn_Sector
    · exact fn_SectorR
    · exact fn_Fine
    · exact fn_FineR
    · exact fn_Power
    · exact fn_PowerR
)
  (fun f c h => by
    simp only [List.lookup_cons] at h
    repeat' split at h
    all_goals first | (cases h; done) | (rename_i e; have e := beq_iff_eq.1 e; subst e; cases h; refine ⟨_, ?_, rfl⟩; simp))
theorem fn_AngleSamples : FnOk Tryd.prog 5 sigSm2 gl11 := fn_sound (by kernel_rfl) ext_AngleSamples cts_AngleSamples names vt_AngleSamples
end Go.Proofs.YtikcjpkocadfdaaDoor

