import Derived.Test.YtemcaojbhfgpgaaSpec13e
import Derived.Test.YtemcaojbhfgpgaaRows
import Derived.Test.YtemcaojbhfgpgaaFaQuantGains
namespace Go.Proofs.Ytemcaojbhfgpgaa
open Go.Ev Go.Sp
set_option maxRecDepth 100000
theorem vc_adaptR : vcFn Try.prog [(22, Ext.ctr (ctOf sigChkG)), (43, Ext.ctr (ctOf sigChkSR)), (44, Ext.ctr (ctOf sigQ44)), (46, Ext.ctr (ctOf (sigHv (-70368744177664) 70368744177664))), (45, Ext.ctr (ctOf sigGr))] tab [] 100 28 sigAdapt = (allB fun l0 : List Int => 
impB (l0.length ≤ (300 : Nat)) (
impB (∀ (y : Int), y ∈ l0 → (-9223372036854775808 : Int) ≤ y ∧ y ≤ (9223372036854775807 : Int)) (
allB fun l1 : List Int => 
impB (l1.length = l0.length) (
impB (∀ (y : Int), y ∈ l1 → (-9223372036854775808 : Int) ≤ y ∧ y ≤ (9223372036854775807 : Int)) (
allB fun n2 : Int => 
impB ((-9223372036854775808 : Int) ≤ n2) (
impB (n2 ≤ (9223372036854775807 : Int)) (
allB fun n3 : Int => 
impB ((-9223372036854775808 : Int) ≤ n3) (
impB (n3 ≤ (9223372036854775807 : Int)) (
impB (sigAdapt.pre [DV.l l0, DV.l l1, DV.n n2, DV.n n3]) (
reqB ((-9223372036854775808 : Int) ≤ n2) (
reqB (n2 ≤ (9223372036854775807 : Int)) (
reqB ((-9223372036854775808 : Int) ≤ n3) (
reqB (n3 ≤ (9223372036854775807 : Int)) (
reqB (sigChkG.pre [DV.n n2, DV.n n3]) (
allB fun n4 : Int => 
impB ((0 : Int) ≤ n4) (
impB (n4 ≤ (18 : Int)) (
impB (sigChkG.post [DV.n n2, DV.n n3] [DV.n n4]) (
bR (dec (n4 ≠ (0 : Int))) (
 reqB ((0 : Int) ≤ n4) (
 reqB (n4 ≤ (18 : Int)) (
 reqB (sigAdapt.post [DV.l l0, DV.l l1, DV.n n2, DV.n n3]
  [DV.n (0 : Int), DV.n (0 : Int), DV.n n4]) (
 true)))) (
 reqB (((0 : Nat) + l0.length) * (2 : Nat) ≤ l0.length.mul (2 : Nat)) (
 reqB (l0.length ≤ (9223372036854775807 : Nat)) (
 reqB ((List.take l0.length (List.drop (0 : Nat) l0)).length = l0.length) (
 reqB (∀ (y : Int),
  y ∈ List.take l0.length (List.drop (0 : Nat) l0) → (-9223372036854775808 : Int) ≤ y ∧ y ≤ (9223372036854775807 : Int)) (
 reqB ((List.take l0.length (List.drop (0 : Nat) l1)).length = l0.length) (
 reqB (∀ (y : Int),
  y ∈ List.take l0.length (List.drop (0 : Nat) l1) → (-9223372036854775808 : Int) ≤ y ∧ y ≤ (9223372036854775807 : Int)) (
 reqB (sigChkSR.pre
  [DV.l (List.take l0.length (List.drop (0 : Nat) l0)), DV.l (List.take l0.length (List.drop (0 : Nat) l1))]) (
 allB fun n5 : Int => 
 impB ((0 : Int) ≤ n5) (
 impB (n5 ≤ (18 : Int)) (
 impB (sigChkSR.post
  [DV.l (List.take l0.length (List.drop (0 : Nat) l0)), DV.l (List.take l0.length (List.drop (0 : Nat) l1))]
  [DV.n n5]) (
 bR (dec (n5 ≠ (0 : Int))) (
  reqB ((0 : Int) ≤ n5) (
  reqB (n5 ≤ (18 : Int)) (
  reqB (sigAdapt.post [DV.l l0, DV.l l1, DV.n n2, DV.n n3]
  [DV.n (0 : Int), DV.n (0 : Int), DV.n n5]) (
  true)))) (
  reqB (((0 : Nat) + l0.length) * (2 : Nat) ≤ l0.length.mul (2 : Nat)) (
  reqB (l0.length ≤ (300 : Nat)) (
  reqB ((List.take l0.length (List.drop (0 : Nat) l0)).length = l0.length) (
  reqB (∀ (y : Int),
  y ∈ List.take l0.length (List.drop (0 : Nat) l0) → (-9223372036854775808 : Int) ≤ y ∧ y ≤ (9223372036854775807 : Int)) (
  reqB ((List.take l0.length (List.drop (0 : Nat) l1)).length = l0.length) (
  reqB (∀ (y : Int),
  y ∈ List.take l0.length (List.drop (0 : Nat) l1) → (-9223372036854775808 : Int) ≤ y ∧ y ≤ (9223372036854775807 : Int)) (
  reqB ((-9223372036854775808 : Int) ≤ n3) (
  reqB (n3 ≤ (9223372036854775807 : Int)) (
  reqB (adaLR.inv
  [DV.l (List.take l0.length (List.drop (0 : Nat) l0)), DV.l (List.take l0.length (List.drop (0 : Nat) l1)),
    DV.n n3]
  [DV.n (0 : Int), DV.n (0 : Int)]) (
  allB fun n6 : Int => 
  impB ((0 : Int) ≤ n6) (
  impB (n6 ≤ (300 : Int)) (
  allB fun n7 : Int => 
  impB ((0 : Int) ≤ n7) (
  impB (n7 ≤ (70368744177664 : Int)) (
  impB (adaLR.inv
  [DV.l (List.take l0.length (List.drop (0 : Nat) l0)), DV.l (List.take l0.length (List.drop (0 : Nat) l1)),
    DV.n n3]
  [DV.n n6, DV.n n7]) (
  bR (dec (n6 < (↑l0.length : Int))) (
   reqB (n6.toNat < l0.length) (
   reqB (Nat.add (0 : Nat) n6.toNat < l0.length) (
   reqB ((-70368744177664 : Int) ≤ l0.getD (Nat.add (0 : Nat) n6.toNat) (0 : Int)) (
   reqB (l0.getD (Nat.add (0 : Nat) n6.toNat) (0 : Int) ≤ (70368744177664 : Int)) (
   reqB ((0 : Int) ≤ n3) (
   reqB (n3 ≤ (30 : Int)) (
   reqB ((sigHv (-70368744177664 : Int) (70368744177664 : Int)).pre
  [DV.n (l0.getD (Nat.add (0 : Nat) n6.toNat) (0 : Int)), DV.n n3]) (
   allB fun n8 : Int => 
   impB ((-70368744177664 : Int) ≤ n8) (
   impB (n8 ≤ (70368744177664 : Int)) (
   impB ((sigHv (-70368744177664 : Int) (70368744177664 : Int)).post
  [DV.n (l0.getD (Nat.add (0 : Nat) n6.toNat) (0 : Int)), DV.n n3] [DV.n n8]) (
   reqB (n6.toNat < l0.length) (
   reqB (Nat.add (0 : Nat) n6.toNat < l1.length) (
   reqB ((-70368744177664 : Int) ≤ l1.getD (Nat.add (0 : Nat) n6.toNat) (0 : Int)) (
   reqB (l1.getD (Nat.add (0 : Nat) n6.toNat) (0 : Int) ≤ (70368744177664 : Int)) (
   reqB ((0 : Int) ≤ n3) (
   reqB (n3 ≤ (30 : Int)) (
   reqB ((sigHv (-70368744177664 : Int) (70368744177664 : Int)).pre
  [DV.n (l1.getD (Nat.add (0 : Nat) n6.toNat) (0 : Int)), DV.n n3]) (
   allB fun n9 : Int => 
   impB ((-70368744177664 : Int) ≤ n9) (
   impB (n9 ≤ (70368744177664 : Int)) (
   impB ((sigHv (-70368744177664 : Int) (70368744177664 : Int)).post
  [DV.n (l1.getD (Nat.add (0 : Nat) n6.toNat) (0 : Int)), DV.n n3] [DV.n n9]) (
   bR (bR (bR (dec ((0 : Nat) = (0 : Nat))) (
    dec (l0.length = l0.length)) (
    false)) (
    true) (
    false)) (
    bR (bR (bR (dec (n2 = n2)) (
     bR (dec (n3 = n3)) (
      true) (
      false)) (
     false)) (
     true) (
     false)) (
     reqB ((0 : Int) ≤ n6 + (1 : Int)) (
     reqB (n6 + (1 : Int) ≤ (300 : Int)) (
     reqB ((0 : Int) ≤ Max.max (Max.max (Max.max (Max.max n7 n8) ((0 : Int) - n8)) n9) ((0 : Int) - n9)) (
     reqB (Max.max (Max.max (Max.max (Max.max n7 n8) ((0 : Int) - n8)) n9) ((0 : Int) - n9) ≤ (70368744177664 : Int)) (
     reqB (adaLR.inv
  [DV.l (List.take l0.length (List.drop (0 : Nat) l0)), DV.l (List.take l0.length (List.drop (0 : Nat) l1)),
    DV.n n3]
  [DV.n (n6 + (1 : Int)),
    DV.n (Max.max (Max.max (Max.max (Max.max n7 n8) ((0 : Int) - n8)) n9) ((0 : Int) - n9))]) (
     reqB (adaLR.mea
    [DV.l (List.take l0.length (List.drop (0 : Nat) l0)),
      DV.l (List.take l0.length (List.drop (0 : Nat) l1)), DV.n n3]
    [DV.n (n6 + (1 : Int)),
      DV.n (Max.max (Max.max (Max.max (Max.max n7 n8) ((0 : Int) - n8)) n9) ((0 : Int) - n9))] <
  adaLR.mea
    [DV.l (List.take l0.length (List.drop (0 : Nat) l0)),
      DV.l (List.take l0.length (List.drop (0 : Nat) l1)), DV.n n3]
    [DV.n n6, DV.n n7]) (
     true))))))) (
     false)) (
    false)))))))))))))))))))))) (
   reqB (((0 : Nat) + l0.length) * (2 : Nat) ≤ l0.length.mul (2 : Nat)) (
   reqB (l0.length ≤ (300 : Nat)) (
   reqB ((List.take l0.length (List.drop (0 : Nat) l0)).length = l0.length) (
   reqB (∀ (y : Int),
  y ∈ List.take l0.length (List.drop (0 : Nat) l0) → (-9223372036854775808 : Int) ≤ y ∧ y ≤ (9223372036854775807 : Int)) (
   reqB ((List.take l0.length (List.drop (0 : Nat) l1)).length = l0.length) (
   reqB (∀ (y : Int),
  y ∈ List.take l0.length (List.drop (0 : Nat) l1) → (-9223372036854775808 : Int) ≤ y ∧ y ≤ (9223372036854775807 : Int)) (
   reqB ((2 : Int) ≤ n2) (
   reqB (n2 ≤ (8 : Int)) (
   reqB ((0 : Int) ≤ n3) (
   reqB (n3 ≤ (30 : Int)) (
   reqB (sigQ44.pre
  [DV.l (List.take l0.length (List.drop (0 : Nat) l0)), DV.l (List.take l0.length (List.drop (0 : Nat) l1)),
    DV.n n2, DV.n n3]) (
   allB fun l10 : List Int => 
   impB (l10.length ≤ (300 : Nat)) (
   impB (∀ (y : Int), y ∈ l10 → (-9223372036854775808 : Int) ≤ y ∧ y ≤ (9223372036854775807 : Int)) (
   allB fun l11 : List Int => 
   impB (l11.length = l10.length) (
   impB (∀ (y : Int), y ∈ l11 → (-9223372036854775808 : Int) ≤ y ∧ y ≤ (9223372036854775807 : Int)) (
   allB fun n12 : Int => 
   impB ((0 : Int) ≤ n12) (
   impB (n12 ≤ (300 : Int)) (
   impB (sigQ44.post
  [DV.l (List.take l0.length (List.drop (0 : Nat) l0)), DV.l (List.take l0.length (List.drop (0 : Nat) l1)),
    DV.n n2, DV.n n3]
  [DV.l l10, DV.l l11, DV.n n12]) (
   bR (dec ((↑l0.length : Int) < (16 : Int) * n12)) (
    allB fun n13 : Int => 
    impB (n13 = Go.IntKind.i64.wrap (n3 + (1 : Int))) (
    impB (Int.negSucc (9223372036854775807 : Nat) ≤ n13) (
    impB (n13 ≤ Int.ofNat (9223372036854775807 : Nat)) (
    reqB ((0 : Int) ≤ n2) (
    reqB (n2 ≤ (8 : Int)) (
    reqB ((0 : Int) ≤ Min.min n13 (30 : Int)) (
    reqB (Min.min n13 (30 : Int) ≤ (30 : Int)) (
    reqB (sigAdapt.post [DV.l l0, DV.l l1, DV.n n2, DV.n n3]
  [DV.n n2, DV.n (Min.min n13 (30 : Int)), DV.n (0 : Int)]) (
    true))))))))) (
    reqB ((2 : Int) ≤ n2) (
    reqB (n2 ≤ (8 : Int)) (
    reqB ((0 : Int) ≤ n3) (
    reqB (n3 ≤ (30 : Int)) (
    reqB (sigGr.pre [DV.n n2, DV.n n3]) (
    allB fun n14 : Int => 
    impB ((1 : Int) ≤ n14) (
    impB (n14 ≤ (127 : Int)) (
    impB (sigGr.post [DV.n n2, DV.n n3] [DV.n n14]) (
    bR (dec ((4 : Int) * n7 ≤ n14)) (
     allB fun n15 : Int => 
     impB (n15 = Go.IntKind.i64.wrap (n3 - (1 : Int))) (
     impB (Int.negSucc (9223372036854775807 : Nat) ≤ n15) (
     impB (n15 ≤ Int.ofNat (9223372036854775807 : Nat)) (
     reqB ((0 : Int) ≤ n2) (
     reqB (n2 ≤ (8 : Int)) (
     reqB ((0 : Int) ≤ Max.max n15 (0 : Int)) (
     reqB (Max.max n15 (0 : Int) ≤ (30 : Int)) (
     reqB (sigAdapt.post [DV.l l0, DV.l l1, DV.n n2, DV.n n3]
  [DV.n n2, DV.n (Max.max n15 (0 : Int)), DV.n (0 : Int)]) (
     true))))))))) (
     reqB ((0 : Int) ≤ n2) (
     reqB (n2 ≤ (8 : Int)) (
     reqB ((0 : Int) ≤ n3) (
     reqB (n3 ≤ (30 : Int)) (
     reqB (sigAdapt.post [DV.l l0, DV.l l1, DV.n n2, DV.n n3]
  [DV.n n2, DV.n n3, DV.n (0 : Int)]) (
     true)))))))))))))))))))))))))))))))))))))))))))))))))))))))))))))))))))))))))))))) := by kernel_rfl
set_option maxHeartbeats 8000000 in
theorem vt_adaptR : vcFn Try.prog [(22, Ext.ctr (ctOf sigChkG)), (43, Ext.ctr (ctOf sigChkSR)), (44, Ext.ctr (ctOf sigQ44)), (46, Ext.ctr (ctOf (sigHv (-70368744177664) 70368744177664))), (45, Ext.ctr (ctOf sigGr))] tab [] 100 28 sigAdapt = true := by
  rw [vc_adaptR]
  try simp only [Int.toNat_natCast, List.length_set, List.length_replicate, List.length_take, List.length_drop, List.length_append, List.length_cons, List.length_nil, Nat.min_self, List.take_take, lenCols_i, lenCols_b, List.drop_zero, List.take_length, Nat.add_eq, Nat.mul_eq, Nat.sub_eq, Nat.zero_add, Nat.sub_zero, Nat.mul_one]
  refine all_i fun l0 => ?_
  refine imp_i fun h0 => ?_
  refine imp_i fun h1 => ?_
  refine all_i fun l1 => ?_
  refine imp_i fun h2 => ?_
  have tkl1 := take_eq h2
  try simp only [tkl1]
  refine imp_i fun h3 => ?_
  refine all_i fun n2 => ?_
  refine imp_i fun h4 => ?_
  refine imp_i fun h5 => ?_
  refine all_i fun n3 => ?_
  refine imp_i fun h6 => ?_
  refine imp_i fun h7 => ?_
  refine imp_i fun h8 => ?_
  try simp only [sigAdapt, adaptPost, List.cons.injEq, DV.b.injEq, and_true, List.length_cons, List.length_nil] at h8
  refine req_i ?_ ?_
  · -- r0
    first | omega | assumption | grind
  refine req_i ?_ ?_
  · -- r1
    first | omega | assumption | grind
  refine req_i ?_ ?_
  · -- r2
    first | omega | assumption | grind
  refine req_i ?_ ?_
  · -- r3
    first | omega | assumption | grind
  refine req_i ?_ ?_
  · -- r4
    first | trivial | assumption | (simp only [sigChkG, chkGPost, List.cons.injEq, DV.b.injEq, and_true, List.length_cons, List.length_nil]; done) | ((try simp only [sigChkG, chkGPost, List.cons.injEq, DV.b.injEq, and_true, List.length_cons, List.length_nil]); first | omega | assumption | grind)
  refine all_i fun n4 => ?_
  refine imp_i fun h9 => ?_
  refine imp_i fun h10 => ?_
  refine imp_i fun h11 => ?_
  try simp only [sigChkG, chkGPost, List.cons.injEq, DV.b.injEq, and_true, List.length_cons, List.length_nil] at h11
  have eS : errG n2 n3 ≠ 0 → errS n2 n3 70368744177664 l0 l1 = errG n2 n3 := fun h => by rw [errS, if_neg h]
  refine bR_dec (fun h12 => ?_) (fun h12 => ?_)
  ·
    refine req_i ?_ ?_
    · -- r5
      first | omega | assumption | grind
    refine req_i ?_ ?_
    · -- r6
      first | omega | assumption | grind
    refine req_i ?_ ?_
    · -- r7
      first | omega | ((try simp only [sigAdapt, adaptPost, List.cons.injEq, DV.b.injEq, and_true, List.length_cons, List.length_nil]); first | done | omega | assumption | grind [getD_set, getD_rep, toNat_succ, cntN_yes, cntN_no])
    rfl
  ·
    have G := errG_ok (b := n2) (n := n3) (by omega)
    refine req_i ?_ ?_
    · -- r8
      first | omega | ((try simp only [Nat.mul_eq]); first | done | omega | assumption | grind [getD_set, getD_rep, toNat_succ, cntN_yes, cntN_no])
    refine req_i ?_ ?_
    · -- r9
      first | omega | ((try simp only [Nat.zero_add]); first | done | omega | assumption | grind [getD_set, getD_rep, toNat_succ, cntN_yes, cntN_no])
    refine req_i ?_ ?_
    · -- r10
      first | omega | ((try simp only [List.length_take, List.take_length, List.take_take, Nat.min_self, List.length_drop, List.drop_zero, List.length_cons, List.length_nil]); first | done | omega | assumption | grind [getD_set, getD_rep, toNat_succ, cntN_yes, cntN_no])
    refine req_i ?_ ?_
    · -- r11
      first | assumption | exact rep_bd (by omega) (by omega) | exact set_bd (by assumption) (by omega) (by omega) | exact take_bd (by assumption) | ((try simp only [List.length_take, List.take_length, List.take_take, Nat.min_self, List.length_drop, List.drop_zero, List.length_cons, List.length_nil]); first | assumption | exact rep_bd (by omega) (by omega) | exact set_bd (by assumption) (by omega) (by omega) | exact take_bd (by assumption) | grind [getD_set, getD_rep, toNat_succ, cntN_yes, cntN_no])
    refine req_i ?_ ?_
    · -- r12
      first | omega | ((try simp only [List.length_take, List.take_length, List.take_take, Nat.min_self, List.length_drop, List.drop_zero, List.length_cons, List.length_nil]); first | done | omega | assumption | grind [getD_set, getD_rep, toNat_succ, cntN_yes, cntN_no])
    refine req_i ?_ ?_
    · -- r13
      first | assumption | exact rep_bd (by omega) (by omega) | exact set_bd (by assumption) (by omega) (by omega) | exact take_bd (by assumption) | ((try simp only [List.length_take, List.take_length, List.take_take, Nat.min_self, List.length_drop, List.drop_zero, List.length_cons, List.length_nil]); first | assumption | exact rep_bd (by omega) (by omega) | exact set_bd (by assumption) (by omega) (by omega) | exact take_bd (by assumption) | grind [getD_set, getD_rep, toNat_succ, cntN_yes, cntN_no])
    refine req_i ?_ ?_
    · -- r14
      first | omega | ((try simp only [sigChkSR, chkSRPost, List.cons.injEq, DV.b.injEq, and_true, List.length_take, List.take_length, List.take_take, Nat.min_self, List.length_drop, List.drop_zero, List.length_cons, List.length_nil]); first | done | omega | assumption | grind [getD_set, getD_rep, toNat_succ, cntN_yes, cntN_no])
    refine all_i fun n5 => ?_
    refine imp_i fun h13 => ?_
    refine imp_i fun h14 => ?_
    refine imp_i fun h15 => ?_
    try simp only [sigChkSR, chkSRPost, List.cons.injEq, DV.b.injEq, and_true, List.length_take, List.take_length, List.take_take, Nat.min_self, List.length_drop, List.drop_zero, List.length_cons, List.length_nil] at h15
    have eT : errS n2 n3 70368744177664 l0 l1 = n5 := by rw [errS, if_pos (by omega)]; exact h15.symm
    refine bR_dec (fun h16 => ?_) (fun h16 => ?_)
    ·
      refine req_i ?_ ?_
      · -- r15
        first | omega | assumption | grind
      refine req_i ?_ ?_
      · -- r16
        first | omega | assumption | grind
      refine req_i ?_ ?_
      · -- r17
        first | omega | ((try simp only [sigAdapt, adaptPost, List.cons.injEq, DV.b.injEq, and_true, List.length_cons, List.length_nil]); first | done | omega | assumption | grind [getD_set, getD_rep, toNat_succ, cntN_yes, cntN_no])
      rfl
    ·
      have L := errL_ok (m := 70368744177664) (a := l0) (b := l1) (by omega)
      have gz : hv (grtN l0 l1 0) n3 = 0 := hv_0 n3
      refine req_i ?_ ?_
      · -- r18
        first | omega | ((try simp only [Nat.mul_eq]); first | done | omega | assumption | grind [getD_set, getD_rep, toNat_succ, cntN_yes, cntN_no])
      refine req_i ?_ ?_
      · -- r19
        first | omega | ((try simp only [Nat.zero_add]); first | done | omega | assumption | grind [getD_set, getD_rep, toNat_succ, cntN_yes, cntN_no])
      refine req_i ?_ ?_
      · -- r20
        first | omega | ((try simp only [List.length_take, List.take_length, List.take_take, Nat.min_self, List.length_drop, List.drop_zero, List.length_cons, List.length_nil]); first | done | omega | assumption | grind [getD_set, getD_rep, toNat_succ, cntN_yes, cntN_no])
      refine req_i ?_ ?_
      · -- r21
        first | assumption | exact rep_bd (by omega) (by omega) | exact set_bd (by assumption) (by omega) (by omega) | exact take_bd (by assumption) | ((try simp only [List.length_take, List.take_length, List.take_take, Nat.min_self, List.length_drop, List.drop_zero, List.length_cons, List.length_nil]); first | assumption | exact rep_bd (by omega) (by omega) | exact set_bd (by assumption) (by omega) (by omega) | exact take_bd (by assumption) | grind [getD_set, getD_rep, toNat_succ, cntN_yes, cntN_no])
      refine req_i ?_ ?_
      · -- r22
        first | omega | ((try simp only [List.length_take, List.take_length, List.take_take, Nat.min_self, List.length_drop, List.drop_zero, List.length_cons, List.length_nil]); first | done | omega | assumption | grind [getD_set, getD_rep, toNat_succ, cntN_yes, cntN_no])
      refine req_i ?_ ?_
      · -- r23
        first | assumption | exact rep_bd (by omega) (by omega) | exact set_bd (by assumption) (by omega) (by omega) | exact take_bd (by assumption) | ((try simp only [List.length_take, List.take_length, List.take_take, Nat.min_self, List.length_drop, List.drop_zero, List.length_cons, List.length_nil]); first | assumption | exact rep_bd (by omega) (by omega) | exact set_bd (by assumption) (by omega) (by omega) | exact take_bd (by assumption) | grind [getD_set, getD_rep, toNat_succ, cntN_yes, cntN_no])
      refine req_i ?_ ?_
      · -- r24
        first | omega | assumption | grind
      refine req_i ?_ ?_
      · -- r25
        first | omega | assumption | grind
      refine req_i ?_ ?_
      · -- r26
        first | omega | ((try simp only [adaLR, adaInvR, mea0, List.cons.injEq, DV.b.injEq, and_true, List.length_take, List.take_length, List.take_take, Nat.min_self, List.length_drop, List.drop_zero, List.length_cons, List.length_nil]); first | done | omega | assumption | grind [getD_set, getD_rep, toNat_succ, cntN_yes, cntN_no])
      refine all_i fun n6 => ?_
      refine imp_i fun h17 => ?_
      refine imp_i fun h18 => ?_
      refine all_i fun n7 => ?_
      refine imp_i fun h19 => ?_
      refine imp_i fun h20 => ?_
      refine imp_i fun h21 => ?_
      try simp only [adaLR, adaInvR, mea0, List.cons.injEq, DV.b.injEq, and_true, List.length_take, List.take_length, List.take_take, Nat.min_self, List.length_drop, List.drop_zero, List.length_cons, List.length_nil] at h21
      refine bR_dec (fun h22 => ?_) (fun h22 => ?_)
      ·
        have ib := inS_bd L.2 (i := n6) (by omega)
        have gb := grtN_bd (m := 70368744177664) (by omega) L.2 n6.toNat (by omega)
        have ts := toNat_succ h21.1
        have gs := grt_step (s := l0) (t := l1) (n := n3) (k := n6.toNat)
        refine req_i ?_ ?_
        · -- r27
          first | omega | ((try simp only [Int.toNat_natCast, List.length_cons, List.length_nil]); first | done | omega | assumption | grind [getD_set, getD_rep, toNat_succ, cntN_yes, cntN_no])
        refine req_i ?_ ?_
        · -- r28
          first | omega | ((try simp only [Int.toNat_natCast, List.length_cons, List.length_nil, Nat.add_eq, Nat.zero_add]); first | done | omega | assumption | grind [getD_set, getD_rep, toNat_succ, cntN_yes, cntN_no])
        refine req_i ?_ ?_
        · -- r29
          first | omega | assumption | grind
        refine req_i ?_ ?_
        · -- r30
          first | omega | assumption | grind
        refine req_i ?_ ?_
        · -- r31
          first | omega | assumption | grind
        refine req_i ?_ ?_
        · -- r32
          first | omega | assumption | grind
        refine req_i ?_ ?_
        · -- r33
          first | omega | ((try simp only [sigHv, hvPost, List.cons.injEq, DV.b.injEq, and_true, Int.toNat_natCast, List.length_cons, List.length_nil, Nat.add_eq, Nat.zero_add]); first | done | omega | assumption | grind [getD_set, getD_rep, toNat_succ, cntN_yes, cntN_no])
        refine all_i fun n8 => ?_
        refine imp_i fun h23 => ?_
        refine imp_i fun h24 => ?_
        refine imp_i fun h25 => ?_
        try simp only [sigHv, hvPost, List.cons.injEq, DV.b.injEq, and_true, Int.toNat_natCast, List.length_cons, List.length_nil, Nat.add_eq, Nat.zero_add] at h25
        refine req_i ?_ ?_
        · -- r34
          first | omega | ((try simp only [Int.toNat_natCast, List.length_cons, List.length_nil]); first | done | omega | assumption | grind [getD_set, getD_rep, toNat_succ, cntN_yes, cntN_no])
        refine req_i ?_ ?_
        · -- r35
          first | omega | ((try simp only [Int.toNat_natCast, List.length_cons, List.length_nil, Nat.add_eq, Nat.zero_add]); first | done | omega | assumption | grind [getD_set, getD_rep, toNat_succ, cntN_yes, cntN_no])
        refine req_i ?_ ?_
        · -- r36
          first | omega | assumption | grind
        refine req_i ?_ ?_
        · -- r37
          first | omega | assumption | grind
        refine req_i ?_ ?_
        · -- r38
          first | omega | assumption | grind
        refine req_i ?_ ?_
        · -- r39
          first | omega | assumption | grind
        refine req_i ?_ ?_
        · -- r40
          first | omega | ((try simp only [sigHv, hvPost, List.cons.injEq, DV.b.injEq, and_true, Int.toNat_natCast, List.length_cons, List.length_nil, Nat.add_eq, Nat.zero_add]); first | done | omega | assumption | grind [getD_set, getD_rep, toNat_succ, cntN_yes, cntN_no])
        refine all_i fun n9 => ?_
        refine imp_i fun h26 => ?_
        refine imp_i fun h27 => ?_
        refine imp_i fun h28 => ?_
        try simp only [sigHv, hvPost, List.cons.injEq, DV.b.injEq, and_true, Int.toNat_natCast, List.length_cons, List.length_nil, Nat.add_eq, Nat.zero_add] at h28
        refine bR_t ?_ ?_
        · -- g0
          first | rfl | (simp only [bR_iff, bR_iff_f, dec_iff, dec_f, beqB_iff', andB_iff', reduceCtorEq, imp_self, false_implies, and_true, true_and, implies_true, and_self]; done) | (simp [bR_iff, dec_iff, beqB_iff', andB_iff']; done) | (simp [bR_iff, dec_iff, beqB_iff', andB_iff']; omega)
        refine bR_t ?_ ?_
        · -- g1
          first | rfl | (simp only [bR_iff, bR_iff_f, dec_iff, dec_f, beqB_iff', andB_iff', reduceCtorEq, imp_self, false_implies, and_true, true_and, implies_true, and_self]; done) | (simp [bR_iff, dec_iff, beqB_iff', andB_iff']; done) | (simp [bR_iff, dec_iff, beqB_iff', andB_iff']; omega)
        refine req_i ?_ ?_
        · -- r41
          first | omega | assumption | grind
        refine req_i ?_ ?_
        · -- r42
          first | omega | assumption | grind
        refine req_i ?_ ?_
        · -- r43
          first | omega | assumption | grind
        refine req_i ?_ ?_
        · -- r44
          first | omega | assumption | grind
        refine req_i ?_ ?_
        · -- r45
          first | omega | ((try simp only [adaLR, adaInvR, mea0, List.cons.injEq, DV.b.injEq, and_true, List.length_take, List.take_length, List.take_take, Nat.min_self, List.length_drop, List.drop_zero, List.length_cons, List.length_nil]); first | done | omega | assumption | grind [getD_set, getD_rep, toNat_succ, cntN_yes, cntN_no])
        refine req_i ?_ ?_
        · -- r46
          first | omega | ((try simp only [adaLR, adaInvR, mea0, List.cons.injEq, DV.b.injEq, and_true, List.length_take, List.take_length, List.take_take, Nat.min_self, List.length_drop, List.drop_zero, List.length_cons, List.length_nil]); first | done | omega | assumption | grind [getD_set, getD_rep, toNat_succ, cntN_yes, cntN_no])
        rfl
      ·
        have et : n6.toNat = l0.length := by omega
        rw [et] at h21
        refine req_i ?_ ?_
        · -- r47
          first | omega | ((try simp only [Nat.mul_eq]); first | done | omega | assumption | grind [getD_set, getD_rep, toNat_succ, cntN_yes, cntN_no])
        refine req_i ?_ ?_
        · -- r48
          first | omega | ((try simp only [Nat.zero_add]); first | done | omega | assumption | grind [getD_set, getD_rep, toNat_succ, cntN_yes, cntN_no])
        refine req_i ?_ ?_
        · -- r49
          first | omega | ((try simp only [List.length_take, List.take_length, List.take_take, Nat.min_self, List.length_drop, List.drop_zero, List.length_cons, List.length_nil]); first | done | omega | assumption | grind [getD_set, getD_rep, toNat_succ, cntN_yes, cntN_no])
        refine req_i ?_ ?_
        · -- r50
          first | assumption | exact rep_bd (by omega) (by omega) | exact set_bd (by assumption) (by omega) (by omega) | exact take_bd (by assumption) | ((try simp only [List.length_take, List.take_length, List.take_take, Nat.min_self, List.length_drop, List.drop_zero, List.length_cons, List.length_nil]); first | assumption | exact rep_bd (by omega) (by omega) | exact set_bd (by assumption) (by omega) (by omega) | exact take_bd (by assumption) | grind [getD_set, getD_rep, toNat_succ, cntN_yes, cntN_no])
        refine req_i ?_ ?_
        · -- r51
          first | omega | ((try simp only [List.length_take, List.take_length, List.take_take, Nat.min_self, List.length_drop, List.drop_zero, List.length_cons, List.length_nil]); first | done | omega | assumption | grind [getD_set, getD_rep, toNat_succ, cntN_yes, cntN_no])
        refine req_i ?_ ?_
        · -- r52
          first | assumption | exact rep_bd (by omega) (by omega) | exact set_bd (by assumption) (by omega) (by omega) | exact take_bd (by assumption) | ((try simp only [List.length_take, List.take_length, List.take_take, Nat.min_self, List.length_drop, List.drop_zero, List.length_cons, List.length_nil]); first | assumption | exact rep_bd (by omega) (by omega) | exact set_bd (by assumption) (by omega) (by omega) | exact take_bd (by assumption) | grind [getD_set, getD_rep, toNat_succ, cntN_yes, cntN_no])
        refine req_i ?_ ?_
        · -- r53
          first | omega | assumption | grind
        refine req_i ?_ ?_
        · -- r54
          first | omega | assumption | grind
        refine req_i ?_ ?_
        · -- r55
          first | omega | assumption | grind
        refine req_i ?_ ?_
        · -- r56
          first | omega | assumption | grind
        refine req_i ?_ ?_
        · -- r57
          exact L.2
        refine all_i fun l10 => ?_
        refine imp_i fun h29 => ?_
        refine imp_i fun h30 => ?_
        refine all_i fun l11 => ?_
        refine imp_i fun h31 => ?_
        have tkl11 := take_eq h31
        try simp only [tkl11]
        refine imp_i fun h32 => ?_
        refine all_i fun n12 => ?_
        refine imp_i fun h33 => ?_
        refine imp_i fun h34 => ?_
        refine imp_i fun h35 => ?_
        try simp only [sigQ44, q44Pre, q44Post, inS, List.cons.injEq, DV.b.injEq, and_true, List.length_take, List.take_length, List.take_take, Nat.min_self, List.length_drop, List.drop_zero, List.length_cons, List.length_nil] at h35
        have qr := quarter (b := n2) (n := n3) (s := l0) (t := l1) (by omega) (by omega)
        have nx := nextS.eq_1 n2 n3 l0 l1
        rw [← h35.2.2, ← h21.2.2] at nx
        rw [← h35.2.2, ← h21.2.2] at qr
        refine bR_dec (fun h36 => ?_) (fun h36 => ?_)
        ·
          refine all_i fun n13 => ?_
          refine imp_i fun h37 => ?_
          simp only [wrap_i64] at h37
          refine imp_i fun h38 => ?_
          refine imp_i fun h39 => ?_
          refine req_i ?_ ?_
          · -- r58
            first | omega | assumption | grind
          refine req_i ?_ ?_
          · -- r59
            first | omega | assumption | grind
          refine req_i ?_ ?_
          · -- r60
            first | omega | assumption | grind
          refine req_i ?_ ?_
          · -- r61
            first | omega | assumption | grind
          refine req_i ?_ ?_
          · -- r62
            first | omega | ((try simp only [sigAdapt, adaptPost, List.cons.injEq, DV.b.injEq, and_true, List.length_cons, List.length_nil]); first | done | omega | assumption | grind [getD_set, getD_rep, toNat_succ, cntN_yes, cntN_no])
          rfl
        ·
          refine req_i ?_ ?_
          · -- r63
            first | omega | assumption | grind
          refine req_i ?_ ?_
          · -- r64
            first | omega | assumption | grind
          refine req_i ?_ ?_
          · -- r65
            first | omega | assumption | grind
          refine req_i ?_ ?_
          · -- r66
            first | omega | assumption | grind
          refine req_i ?_ ?_
          · -- r67
            first | trivial | assumption | (simp only [sigGr, grPost, List.cons.injEq, DV.b.injEq, and_true, List.length_cons, List.length_nil]; done) | ((try simp only [sigGr, grPost, List.cons.injEq, DV.b.injEq, and_true, List.length_cons, List.length_nil]); first | omega | assumption | grind)
          refine all_i fun n14 => ?_
          refine imp_i fun h40 => ?_
          refine imp_i fun h41 => ?_
          refine imp_i fun h42 => ?_
          try simp only [sigGr, grPost, List.cons.injEq, DV.b.injEq, and_true, List.length_cons, List.length_nil] at h42
          refine bR_dec (fun h43 => ?_) (fun h43 => ?_)
          ·
            refine all_i fun n15 => ?_
            refine imp_i fun h44 => ?_
            simp only [wrap_i64] at h44
            refine imp_i fun h45 => ?_
            refine imp_i fun h46 => ?_
            refine req_i ?_ ?_
            · -- r68
              first | omega | assumption | grind
            refine req_i ?_ ?_
            · -- r69
              first | omega | assumption | grind
            refine req_i ?_ ?_
            · -- r70
              first | omega | assumption | grind
            refine req_i ?_ ?_
            · -- r71
              first | omega | assumption | grind
            refine req_i ?_ ?_
            · -- r72
              first | omega | ((try simp only [sigAdapt, adaptPost, List.cons.injEq, DV.b.injEq, and_true, List.length_cons, List.length_nil]); first | done | omega | assumption | grind [getD_set, getD_rep, toNat_succ, cntN_yes, cntN_no])
            rfl
          ·
            refine req_i ?_ ?_
            · -- r73
              first | omega | assumption | grind
            refine req_i ?_ ?_
            · -- r74
              first | omega | assumption | grind
            refine req_i ?_ ?_
            · -- r75
              first | omega | assumption | grind
            refine req_i ?_ ?_
            · -- r76
              first | omega | assumption | grind
            refine req_i ?_ ?_
            · -- r77
              first | omega | ((try simp only [sigAdapt, adaptPost, List.cons.injEq, DV.b.injEq, and_true, List.length_cons, List.length_nil]); first | done | omega | assumption | grind [getD_set, getD_rep, toNat_succ, cntN_yes, cntN_no])
            rfl
theorem ext_adaptR : ∀ p ∈ ([(22, Ext.ctr (ctOf sigChkG)), (43, Ext.ctr (ctOf sigChkSR)), (44, Ext.ctr (ctOf sigQ44)), (46, Ext.ctr (ctOf (sigHv (-70368744177664) 70368744177664))), (45, Ext.ctr (ctOf sigGr))] : List (Nat × Ext)), ExtRow Try.prog p.1 p.2 := by
  intro p hp
  simp only [List.mem_cons, List.not_mem_nil, or_false] at hp
  rcases hp with rfl | rfl | rfl | rfl | rfl <;> trivial
theorem cts_adaptR : CtsOk Try.prog [(22, Ext.ctr (ctOf sigChkG)), (43, Ext.ctr (ctOf sigChkSR)), (44, Ext.ctr (ctOf sigQ44)), (46, Ext.ctr (ctOf (sigHv (-70368744177664) 70368744177664))), (45, Ext.ctr (ctOf sigGr))] := ctsOk_of (cs := [(22, sigChkG), (43, sigChkSR), (44, sigQ44), (46, (sigHv (-70368744177664) 70368744177664)), (45, sigGr)])
  (fun p hp => by
    simp only [List.mem_cons, List.not_mem_nil, or_false] at hp
    rcases hp with rfl | rfl | rfl | rfl | rfl
    · exact fn_chkGR
    · exact fn_chkSR
    · exact fn_q44
    · exact fn_hvR
    · exact fn_grR
)
  (fun f c h => by
    simp only [List.lookup_cons] at h
    repeat' split at h
    all_goals first | (cases h; done) | (rename_i e; have e := beq_iff_eq.1 e; subst e; cases h; exact ⟨_, by simp, rfl⟩))
theorem fn_adaptR : FnOk Try.prog 28 sigAdapt [] := fn_sound (by kernel_rfl) ext_adaptR cts_adaptR names vt_adaptR
end Go.Proofs.Ytemcaojbhfgpgaa

namespace Go.Proofs.Ytemcaojbhfgpgaa
open Go.Ev Go.Sp
set_option maxRecDepth 100000
theorem vc_QuantGains : vcFn Try.prog [(17, Ext.ctr (ctOf sigTrue0)), (14, Ext.ctr (ctOf sigLeast)), (27, Ext.ctr (ctOf sigLeast)), (15, Ext.ctr (ctOf sigAdapt)), (28, Ext.ctr (ctOf sigAdapt))] tab [] 100 6 sigQG = (allB fun l0 : List Int => 
impB (l0.length ≤ (9223372036854775807 : Nat)) (
impB (∀ (y : Int), y ∈ l0 → (-9223372036854775808 : Int) ≤ y ∧ y ≤ (9223372036854775807 : Int)) (
allB fun l1 : List Int => 
impB (l1.length = l0.length) (
impB (∀ (y : Int), y ∈ l1 → (-9223372036854775808 : Int) ≤ y ∧ y ≤ (9223372036854775807 : Int)) (
allB fun n2 : Int => 
impB ((-9223372036854775808 : Int) ≤ n2) (
impB (n2 ≤ (9223372036854775807 : Int)) (
allB fun n3 : Int => 
impB ((-9223372036854775808 : Int) ≤ n3) (
impB (n3 ≤ (9223372036854775807 : Int)) (
allB fun n4 : Int => 
impB ((-9223372036854775808 : Int) ≤ n4) (
impB (n4 ≤ (9223372036854775807 : Int)) (
impB (sigQG.pre [DV.l l0, DV.l l1, DV.n n2, DV.n n3, DV.n n4]) (
bR (dec ((300 : Int) < (↑l0.length : Int))) (
 reqB (sigTrue0.pre []) (
 allB fun b5 : Bool => 
 impB (sigTrue0.post [] [DV.b b5]) (
 reqB (sigQG.post [DV.l l0, DV.l l1, DV.n n2, DV.n n3, DV.n n4] [DV.b b5]) (
 true)))) (
 reqB (((0 : Nat) + l0.length) * (2 : Nat) ≤ l0.length.mul (2 : Nat)) (
 reqB (l0.length ≤ (300 : Nat)) (
 reqB ((List.take l0.length (List.drop (0 : Nat) l0)).length = l0.length) (
 reqB (∀ (y : Int),
  y ∈ List.take l0.length (List.drop (0 : Nat) l0) → (-9223372036854775808 : Int) ≤ y ∧ y ≤ (9223372036854775807 : Int)) (
 reqB ((List.take l0.length (List.drop (0 : Nat) l1)).length = l0.length) (
 reqB (∀ (y : Int),
  y ∈ List.take l0.length (List.drop (0 : Nat) l1) → (-9223372036854775808 : Int) ≤ y ∧ y ≤ (9223372036854775807 : Int)) (
 reqB ((-9223372036854775808 : Int) ≤ n4) (
 reqB (n4 ≤ (9223372036854775807 : Int)) (
 reqB (sigLeast.pre
  [DV.l (List.take l0.length (List.drop (0 : Nat) l0)), DV.l (List.take l0.length (List.drop (0 : Nat) l1)),
    DV.n n4]) (
 allB fun n6 : Int => 
 impB ((0 : Int) ≤ n6) (
 impB (n6 ≤ (8 : Int)) (
 allB fun n7 : Int => 
 impB ((0 : Int) ≤ n7) (
 impB (n7 ≤ (30 : Int)) (
 allB fun n8 : Int => 
 impB ((0 : Int) ≤ n8) (
 impB (n8 ≤ (18 : Int)) (
 impB (sigLeast.post
  [DV.l (List.take l0.length (List.drop (0 : Nat) l0)), DV.l (List.take l0.length (List.drop (0 : Nat) l1)),
    DV.n n4]
  [DV.n n6, DV.n n7, DV.n n8]) (
 reqB (((0 : Nat) + l0.length) * (2 : Nat) ≤ l0.length.mul (2 : Nat)) (
 reqB (l0.length ≤ (300 : Nat)) (
 reqB ((List.take l0.length (List.drop (0 : Nat) l0)).length = l0.length) (
 reqB (∀ (y : Int),
  y ∈ List.take l0.length (List.drop (0 : Nat) l0) → (-9223372036854775808 : Int) ≤ y ∧ y ≤ (9223372036854775807 : Int)) (
 reqB ((List.take l0.length (List.drop (0 : Nat) l1)).length = l0.length) (
 reqB (∀ (y : Int),
  y ∈ List.take l0.length (List.drop (0 : Nat) l1) → (-9223372036854775808 : Int) ≤ y ∧ y ≤ (9223372036854775807 : Int)) (
 reqB ((-9223372036854775808 : Int) ≤ n4) (
 reqB (n4 ≤ (9223372036854775807 : Int)) (
 reqB (sigLeast.pre
  [DV.l (List.take l0.length (List.drop (0 : Nat) l0)), DV.l (List.take l0.length (List.drop (0 : Nat) l1)),
    DV.n n4]) (
 allB fun n9 : Int => 
 impB ((0 : Int) ≤ n9) (
 impB (n9 ≤ (8 : Int)) (
 allB fun n10 : Int => 
 impB ((0 : Int) ≤ n10) (
 impB (n10 ≤ (30 : Int)) (
 allB fun n11 : Int => 
 impB ((0 : Int) ≤ n11) (
 impB (n11 ≤ (18 : Int)) (
 impB (sigLeast.post
  [DV.l (List.take l0.length (List.drop (0 : Nat) l0)), DV.l (List.take l0.length (List.drop (0 : Nat) l1)),
    DV.n n4]
  [DV.n n9, DV.n n10, DV.n n11]) (
 reqB (((0 : Nat) + l0.length) * (2 : Nat) ≤ l0.length.mul (2 : Nat)) (
 reqB (l0.length ≤ (300 : Nat)) (
 reqB ((List.take l0.length (List.drop (0 : Nat) l0)).length = l0.length) (
 reqB (∀ (y : Int),
  y ∈ List.take l0.length (List.drop (0 : Nat) l0) → (-9223372036854775808 : Int) ≤ y ∧ y ≤ (9223372036854775807 : Int)) (
 reqB ((List.take l0.length (List.drop (0 : Nat) l1)).length = l0.length) (
 reqB (∀ (y : Int),
  y ∈ List.take l0.length (List.drop (0 : Nat) l1) → (-9223372036854775808 : Int) ≤ y ∧ y ≤ (9223372036854775807 : Int)) (
 reqB ((-9223372036854775808 : Int) ≤ n2) (
 reqB (n2 ≤ (9223372036854775807 : Int)) (
 reqB ((-9223372036854775808 : Int) ≤ n3) (
 reqB (n3 ≤ (9223372036854775807 : Int)) (
 reqB (sigAdapt.pre
  [DV.l (List.take l0.length (List.drop (0 : Nat) l0)), DV.l (List.take l0.length (List.drop (0 : Nat) l1)),
    DV.n n2, DV.n n3]) (
 allB fun n12 : Int => 
 impB ((0 : Int) ≤ n12) (
 impB (n12 ≤ (8 : Int)) (
 allB fun n13 : Int => 
 impB ((0 : Int) ≤ n13) (
 impB (n13 ≤ (30 : Int)) (
 allB fun n14 : Int => 
 impB ((0 : Int) ≤ n14) (
 impB (n14 ≤ (18 : Int)) (
 impB (sigAdapt.post
  [DV.l (List.take l0.length (List.drop (0 : Nat) l0)), DV.l (List.take l0.length (List.drop (0 : Nat) l1)),
    DV.n n2, DV.n n3]
  [DV.n n12, DV.n n13, DV.n n14]) (
 reqB (((0 : Nat) + l0.length) * (2 : Nat) ≤ l0.length.mul (2 : Nat)) (
 reqB (l0.length ≤ (300 : Nat)) (
 reqB ((List.take l0.length (List.drop (0 : Nat) l0)).length = l0.length) (
 reqB (∀ (y : Int),
  y ∈ List.take l0.length (List.drop (0 : Nat) l0) → (-9223372036854775808 : Int) ≤ y ∧ y ≤ (9223372036854775807 : Int)) (
 reqB ((List.take l0.length (List.drop (0 : Nat) l1)).length = l0.length) (
 reqB (∀ (y : Int),
  y ∈ List.take l0.length (List.drop (0 : Nat) l1) → (-9223372036854775808 : Int) ≤ y ∧ y ≤ (9223372036854775807 : Int)) (
 reqB ((-9223372036854775808 : Int) ≤ n2) (
 reqB (n2 ≤ (9223372036854775807 : Int)) (
 reqB ((-9223372036854775808 : Int) ≤ n3) (
 reqB (n3 ≤ (9223372036854775807 : Int)) (
 reqB (sigAdapt.pre
  [DV.l (List.take l0.length (List.drop (0 : Nat) l0)), DV.l (List.take l0.length (List.drop (0 : Nat) l1)),
    DV.n n2, DV.n n3]) (
 allB fun n15 : Int => 
 impB ((0 : Int) ≤ n15) (
 impB (n15 ≤ (8 : Int)) (
 allB fun n16 : Int => 
 impB ((0 : Int) ≤ n16) (
 impB (n16 ≤ (30 : Int)) (
 allB fun n17 : Int => 
 impB ((0 : Int) ≤ n17) (
 impB (n17 ≤ (18 : Int)) (
 impB (sigAdapt.post
  [DV.l (List.take l0.length (List.drop (0 : Nat) l0)), DV.l (List.take l0.length (List.drop (0 : Nat) l1)),
    DV.n n2, DV.n n3]
  [DV.n n15, DV.n n16, DV.n n17]) (
 bR (bR (dec (n6 = n9)) (
  bR (dec (n7 = n10)) (
   true) (
   false)) (
  false)) (
  bR (dec (n8 = n11)) (
   bR (bR (dec (n12 = n15)) (
    bR (dec (n13 = n16)) (
     true) (
     false)) (
    false)) (
    bR (dec (n14 = n17)) (
     reqB (sigTrue0.pre []) (
     allB fun b18 : Bool => 
     impB (sigTrue0.post [] [DV.b b18]) (
     reqB (sigQG.post [DV.l l0, DV.l l1, DV.n n2, DV.n n3, DV.n n4] [DV.b b18]) (
     true)))) (
     reqB (sigQG.post [DV.l l0, DV.l l1, DV.n n2, DV.n n3, DV.n n4] [DV.b Bool.false]) (
     true))) (
    reqB (sigQG.post [DV.l l0, DV.l l1, DV.n n2, DV.n n3, DV.n n4] [DV.b Bool.false]) (
    true))) (
   reqB (sigQG.post [DV.l l0, DV.l l1, DV.n n2, DV.n n3, DV.n n4] [DV.b Bool.false]) (
   true))) (
  reqB (sigQG.post [DV.l l0, DV.l l1, DV.n n2, DV.n n3, DV.n n4] [DV.b Bool.false]) (
  true))))))))))))))))))))))))))))))))))))))))))))))))))))))))))))))))))))))))))))))))))) := by kernel_rfl
set_option maxHeartbeats 8000000 in
theorem vt_QuantGains : vcFn Try.prog [(17, Ext.ctr (ctOf sigTrue0)), (14, Ext.ctr (ctOf sigLeast)), (27, Ext.ctr (ctOf sigLeast)), (15, Ext.ctr (ctOf sigAdapt)), (28, Ext.ctr (ctOf sigAdapt))] tab [] 100 6 sigQG = true := by
  rw [vc_QuantGains]
  try simp only [Int.toNat_natCast, List.length_set, List.length_replicate, List.length_take, List.length_drop, List.length_append, List.length_cons, List.length_nil, Nat.min_self, List.take_take, lenCols_i, lenCols_b, List.drop_zero, List.take_length, Nat.add_eq, Nat.mul_eq, Nat.sub_eq, Nat.zero_add, Nat.sub_zero, Nat.mul_one]
  refine all_i fun l0 => ?_
  refine imp_i fun h0 => ?_
  refine imp_i fun h1 => ?_
  refine all_i fun l1 => ?_
  refine imp_i fun h2 => ?_
  have tkl1 := take_eq h2
  try simp only [tkl1]
  refine imp_i fun h3 => ?_
  refine all_i fun n2 => ?_
  refine imp_i fun h4 => ?_
  refine imp_i fun h5 => ?_
  refine all_i fun n3 => ?_
  refine imp_i fun h6 => ?_
  refine imp_i fun h7 => ?_
  refine all_i fun n4 => ?_
  refine imp_i fun h8 => ?_
  refine imp_i fun h9 => ?_
  refine imp_i fun h10 => ?_
  try simp only [sigQG, List.cons.injEq, DV.b.injEq, and_true, List.length_cons, List.length_nil] at h10
  refine bR_dec (fun h11 => ?_) (fun h11 => ?_)
  ·
    refine req_i ?_ ?_
    · -- r0
      first | omega | assumption | grind
    refine all_i fun b5 => ?_
    refine imp_i fun h12 => ?_
    try simp only [sigTrue0, List.cons.injEq, DV.b.injEq, and_true, List.length_cons, List.length_nil] at h12
    refine req_i ?_ ?_
    · -- r1
      first | omega | ((try simp only [sigQG, List.cons.injEq, DV.b.injEq, and_true, List.length_cons, List.length_nil]); first | done | omega | assumption | grind [getD_set, getD_rep, toNat_succ, cntN_yes, cntN_no])
    rfl
  ·
    refine req_i ?_ ?_
    · -- r2
      first | omega | ((try simp only [Nat.mul_eq]); first | done | omega | assumption | grind [getD_set, getD_rep, toNat_succ, cntN_yes, cntN_no])
    refine req_i ?_ ?_
    · -- r3
      first | omega | ((try simp only [Nat.zero_add]); first | done | omega | assumption | grind [getD_set, getD_rep, toNat_succ, cntN_yes, cntN_no])
    refine req_i ?_ ?_
    · -- r4
      first | omega | ((try simp only [List.length_take, List.take_length, List.take_take, Nat.min_self, List.length_drop, List.drop_zero, List.length_cons, List.length_nil]); first | done | omega | assumption | grind [getD_set, getD_rep, toNat_succ, cntN_yes, cntN_no])
    refine req_i ?_ ?_
    · -- r5
      first | assumption | exact rep_bd (by omega) (by omega) | exact set_bd (by assumption) (by omega) (by omega) | exact take_bd (by assumption) | ((try simp only [List.length_take, List.take_length, List.take_take, Nat.min_self, List.length_drop, List.drop_zero, List.length_cons, List.length_nil]); first | assumption | exact rep_bd (by omega) (by omega) | exact set_bd (by assumption) (by omega) (by omega) | exact take_bd (by assumption) | grind [getD_set, getD_rep, toNat_succ, cntN_yes, cntN_no])
    refine req_i ?_ ?_
    · -- r6
      first | omega | ((try simp only [List.length_take, List.take_length, List.take_take, Nat.min_self, List.length_drop, List.drop_zero, List.length_cons, List.length_nil]); first | done | omega | assumption | grind [getD_set, getD_rep, toNat_succ, cntN_yes, cntN_no])
    refine req_i ?_ ?_
    · -- r7
      first | assumption | exact rep_bd (by omega) (by omega) | exact set_bd (by assumption) (by omega) (by omega) | exact take_bd (by assumption) | ((try simp only [List.length_take, List.take_length, List.take_take, Nat.min_self, List.length_drop, List.drop_zero, List.length_cons, List.length_nil]); first | assumption | exact rep_bd (by omega) (by omega) | exact set_bd (by assumption) (by omega) (by omega) | exact take_bd (by assumption) | grind [getD_set, getD_rep, toNat_succ, cntN_yes, cntN_no])
    refine req_i ?_ ?_
    · -- r8
      first | omega | assumption | grind
    refine req_i ?_ ?_
    · -- r9
      first | omega | assumption | grind
    refine req_i ?_ ?_
    · -- r10
      first | omega | ((try simp only [sigLeast, leastPost, List.cons.injEq, DV.b.injEq, and_true, List.length_take, List.take_length, List.take_take, Nat.min_self, List.length_drop, List.drop_zero, List.length_cons, List.length_nil]); first | done | omega | assumption | grind [getD_set, getD_rep, toNat_succ, cntN_yes, cntN_no])
    refine all_i fun n6 => ?_
    refine imp_i fun h13 => ?_
    refine imp_i fun h14 => ?_
    refine all_i fun n7 => ?_
    refine imp_i fun h15 => ?_
    refine imp_i fun h16 => ?_
    refine all_i fun n8 => ?_
    refine imp_i fun h17 => ?_
    refine imp_i fun h18 => ?_
    refine imp_i fun h19 => ?_
    try simp only [Int.toNat_natCast, List.length_set, List.length_replicate, List.length_take, List.length_drop, List.length_append, List.length_cons, List.length_nil, Nat.min_self, List.take_take, lenCols_i, lenCols_b, List.drop_zero, List.take_length, Nat.add_eq, Nat.mul_eq, Nat.sub_eq, Nat.zero_add, Nat.sub_zero, Nat.mul_one] at h19
    refine req_i ?_ ?_
    · -- r11
      first | omega | ((try simp only [Nat.mul_eq]); first | done | omega | assumption | grind [getD_set, getD_rep, toNat_succ, cntN_yes, cntN_no])
    refine req_i ?_ ?_
    · -- r12
      first | omega | ((try simp only [Nat.zero_add]); first | done | omega | assumption | grind [getD_set, getD_rep, toNat_succ, cntN_yes, cntN_no])
    refine req_i ?_ ?_
    · -- r13
      first | omega | ((try simp only [List.length_take, List.take_length, List.take_take, Nat.min_self, List.length_drop, List.drop_zero, List.length_cons, List.length_nil]); first | done | omega | assumption | grind [getD_set, getD_rep, toNat_succ, cntN_yes, cntN_no])
    refine req_i ?_ ?_
    · -- r14
      first | assumption | exact rep_bd (by omega) (by omega) | exact set_bd (by assumption) (by omega) (by omega) | exact take_bd (by assumption) | ((try simp only [List.length_take, List.take_length, List.take_take, Nat.min_self, List.length_drop, List.drop_zero, List.length_cons, List.length_nil]); first | assumption | exact rep_bd (by omega) (by omega) | exact set_bd (by assumption) (by omega) (by omega) | exact take_bd (by assumption) | grind [getD_set, getD_rep, toNat_succ, cntN_yes, cntN_no])
    refine req_i ?_ ?_
    · -- r15
      first | omega | ((try simp only [List.length_take, List.take_length, List.take_take, Nat.min_self, List.length_drop, List.drop_zero, List.length_cons, List.length_nil]); first | done | omega | assumption | grind [getD_set, getD_rep, toNat_succ, cntN_yes, cntN_no])
    refine req_i ?_ ?_
    · -- r16
      first | assumption | exact rep_bd (by omega) (by omega) | exact set_bd (by assumption) (by omega) (by omega) | exact take_bd (by assumption) | ((try simp only [List.length_take, List.take_length, List.take_take, Nat.min_self, List.length_drop, List.drop_zero, List.length_cons, List.length_nil]); first | assumption | exact rep_bd (by omega) (by omega) | exact set_bd (by assumption) (by omega) (by omega) | exact take_bd (by assumption) | grind [getD_set, getD_rep, toNat_succ, cntN_yes, cntN_no])
    refine req_i ?_ ?_
    · -- r17
      first | omega | assumption | grind
    refine req_i ?_ ?_
    · -- r18
      first | omega | assumption | grind
    refine req_i ?_ ?_
    · -- r19
      first | omega | ((try simp only [sigLeast, leastPost, List.cons.injEq, DV.b.injEq, and_true, List.length_take, List.take_length, List.take_take, Nat.min_self, List.length_drop, List.drop_zero, List.length_cons, List.length_nil]); first | done | omega | assumption | grind [getD_set, getD_rep, toNat_succ, cntN_yes, cntN_no])
    refine all_i fun n9 => ?_
    refine imp_i fun h20 => ?_
    refine imp_i fun h21 => ?_
    refine all_i fun n10 => ?_
    refine imp_i fun h22 => ?_
    refine imp_i fun h23 => ?_
    refine all_i fun n11 => ?_
    refine imp_i fun h24 => ?_
    refine imp_i fun h25 => ?_
    refine imp_i fun h26 => ?_
    try simp only [Int.toNat_natCast, List.length_set, List.length_replicate, List.length_take, List.length_drop, List.length_append, List.length_cons, List.length_nil, Nat.min_self, List.take_take, lenCols_i, lenCols_b, List.drop_zero, List.take_length, Nat.add_eq, Nat.mul_eq, Nat.sub_eq, Nat.zero_add, Nat.sub_zero, Nat.mul_one] at h26
    obtain ⟨eA, eB, eC⟩ := least_fun h19 h26
    refine req_i ?_ ?_
    · -- r20
      first | omega | ((try simp only [Nat.mul_eq]); first | done | omega | assumption | grind [getD_set, getD_rep, toNat_succ, cntN_yes, cntN_no])
    refine req_i ?_ ?_
    · -- r21
      first | omega | ((try simp only [Nat.zero_add]); first | done | omega | assumption | grind [getD_set, getD_rep, toNat_succ, cntN_yes, cntN_no])
    refine req_i ?_ ?_
    · -- r22
      first | omega | ((try simp only [List.length_take, List.take_length, List.take_take, Nat.min_self, List.length_drop, List.drop_zero, List.length_cons, List.length_nil]); first | done | omega | assumption | grind [getD_set, getD_rep, toNat_succ, cntN_yes, cntN_no])
    refine req_i ?_ ?_
    · -- r23
      first | assumption | exact rep_bd (by omega) (by omega) | exact set_bd (by assumption) (by omega) (by omega) | exact take_bd (by assumption) | ((try simp only [List.length_take, List.take_length, List.take_take, Nat.min_self, List.length_drop, List.drop_zero, List.length_cons, List.length_nil]); first | assumption | exact rep_bd (by omega) (by omega) | exact set_bd (by assumption) (by omega) (by omega) | exact take_bd (by assumption) | grind [getD_set, getD_rep, toNat_succ, cntN_yes, cntN_no])
    refine req_i ?_ ?_
    · -- r24
      first | omega | ((try simp only [List.length_take, List.take_length, List.take_take, Nat.min_self, List.length_drop, List.drop_zero, List.length_cons, List.length_nil]); first | done | omega | assumption | grind [getD_set, getD_rep, toNat_succ, cntN_yes, cntN_no])
    refine req_i ?_ ?_
    · -- r25
      first | assumption | exact rep_bd (by omega) (by omega) | exact set_bd (by assumption) (by omega) (by omega) | exact take_bd (by assumption) | ((try simp only [List.length_take, List.take_length, List.take_take, Nat.min_self, List.length_drop, List.drop_zero, List.length_cons, List.length_nil]); first | assumption | exact rep_bd (by omega) (by omega) | exact set_bd (by assumption) (by omega) (by omega) | exact take_bd (by assumption) | grind [getD_set, getD_rep, toNat_succ, cntN_yes, cntN_no])
    refine req_i ?_ ?_
    · -- r26
      first | omega | assumption | grind
    refine req_i ?_ ?_
    · -- r27
      first | omega | assumption | grind
    refine req_i ?_ ?_
    · -- r28
      first | omega | assumption | grind
    refine req_i ?_ ?_
    · -- r29
      first | omega | assumption | grind
    refine req_i ?_ ?_
    · -- r30
      first | omega | ((try simp only [sigAdapt, adaptPost, List.cons.injEq, DV.b.injEq, and_true, List.length_take, List.take_length, List.take_take, Nat.min_self, List.length_drop, List.drop_zero, List.length_cons, List.length_nil]); first | done | omega | assumption | grind [getD_set, getD_rep, toNat_succ, cntN_yes, cntN_no])
    refine all_i fun n12 => ?_
    refine imp_i fun h27 => ?_
    refine imp_i fun h28 => ?_
    refine all_i fun n13 => ?_
    refine imp_i fun h29 => ?_
    refine imp_i fun h30 => ?_
    refine all_i fun n14 => ?_
    refine imp_i fun h31 => ?_
    refine imp_i fun h32 => ?_
    refine imp_i fun h33 => ?_
    try simp only [Int.toNat_natCast, List.length_set, List.length_replicate, List.length_take, List.length_drop, List.length_append, List.length_cons, List.length_nil, Nat.min_self, List.take_take, lenCols_i, lenCols_b, List.drop_zero, List.take_length, Nat.add_eq, Nat.mul_eq, Nat.sub_eq, Nat.zero_add, Nat.sub_zero, Nat.mul_one] at h33
    refine req_i ?_ ?_
    · -- r31
      first | omega | ((try simp only [Nat.mul_eq]); first | done | omega | assumption | grind [getD_set, getD_rep, toNat_succ, cntN_yes, cntN_no])
    refine req_i ?_ ?_
    · -- r32
      first | omega | ((try simp only [Nat.zero_add]); first | done | omega | assumption | grind [getD_set, getD_rep, toNat_succ, cntN_yes, cntN_no])
    refine req_i ?_ ?_
    · -- r33
      first | omega | ((try simp only [List.length_take, List.take_length, List.take_take, Nat.min_self, List.length_drop, List.drop_zero, List.length_cons, List.length_nil]); first | done | omega | assumption | grind [getD_set, getD_rep, toNat_succ, cntN_yes, cntN_no])
    refine req_i ?_ ?_
    · -- r34
      first | assumption | exact rep_bd (by omega) (by omega) | exact set_bd (by assumption) (by omega) (by omega) | exact take_bd (by assumption) | ((try simp only [List.length_take, List.take_length, List.take_take, Nat.min_self, List.length_drop, List.drop_zero, List.length_cons, List.length_nil]); first | assumption | exact rep_bd (by omega) (by omega) | exact set_bd (by assumption) (by omega) (by omega) | exact take_bd (by assumption) | grind [getD_set, getD_rep, toNat_succ, cntN_yes, cntN_no])
    refine req_i ?_ ?_
    · -- r35
      first | omega | ((try simp only [List.length_take, List.take_length, List.take_take, Nat.min_self, List.length_drop, List.drop_zero, List.length_cons, List.length_nil]); first | done | omega | assumption | grind [getD_set, getD_rep, toNat_succ, cntN_yes, cntN_no])
    refine req_i ?_ ?_
    · -- r36
      first | assumption | exact rep_bd (by omega) (by omega) | exact set_bd (by assumption) (by omega) (by omega) | exact take_bd (by assumption) | ((try simp only [List.length_take, List.take_length, List.take_take, Nat.min_self, List.length_drop, List.drop_zero, List.length_cons, List.length_nil]); first | assumption | exact rep_bd (by omega) (by omega) | exact set_bd (by assumption) (by omega) (by omega) | exact take_bd (by assumption) | grind [getD_set, getD_rep, toNat_succ, cntN_yes, cntN_no])
    refine req_i ?_ ?_
    · -- r37
      first | omega | assumption | grind
    refine req_i ?_ ?_
    · -- r38
      first | omega | assumption | grind
    refine req_i ?_ ?_
    · -- r39
      first | omega | assumption | grind
    refine req_i ?_ ?_
    · -- r40
      first | omega | assumption | grind
    refine req_i ?_ ?_
    · -- r41
      first | omega | ((try simp only [sigAdapt, adaptPost, List.cons.injEq, DV.b.injEq, and_true, List.length_take, List.take_length, List.take_take, Nat.min_self, List.length_drop, List.drop_zero, List.length_cons, List.length_nil]); first | done | omega | assumption | grind [getD_set, getD_rep, toNat_succ, cntN_yes, cntN_no])
    refine all_i fun n15 => ?_
    refine imp_i fun h34 => ?_
    refine imp_i fun h35 => ?_
    refine all_i fun n16 => ?_
    refine imp_i fun h36 => ?_
    refine imp_i fun h37 => ?_
    refine all_i fun n17 => ?_
    refine imp_i fun h38 => ?_
    refine imp_i fun h39 => ?_
    refine imp_i fun h40 => ?_
    try simp only [Int.toNat_natCast, List.length_set, List.length_replicate, List.length_take, List.length_drop, List.length_append, List.length_cons, List.length_nil, Nat.min_self, List.take_take, lenCols_i, lenCols_b, List.drop_zero, List.take_length, Nat.add_eq, Nat.mul_eq, Nat.sub_eq, Nat.zero_add, Nat.sub_zero, Nat.mul_one] at h40
    obtain ⟨eD, eE, eF⟩ := adapt_fun h33 h40
    refine bR_i (fun h41 => ?_) (fun h41 => ?_)
    ·
      simp only [bR_iff, bR_iff_f, dec_iff, dec_f, Bool.false_eq_true, Bool.true_eq_false, false_implies, imp_false, and_true, true_and, implies_true, Classical.not_not] at h41
      refine bR_dec (fun h42 => ?_) (fun h42 => ?_)
      ·
        refine bR_i (fun h43 => ?_) (fun h43 => ?_)
        ·
          simp only [bR_iff, bR_iff_f, dec_iff, dec_f, Bool.false_eq_true, Bool.true_eq_false, false_implies, imp_false, and_true, true_and, implies_true, Classical.not_not] at h43
          refine bR_dec (fun h44 => ?_) (fun h44 => ?_)
          ·
            refine req_i ?_ ?_
            · -- r42
              first | omega | assumption | grind
            refine all_i fun b18 => ?_
            refine imp_i fun h45 => ?_
            try simp only [sigTrue0, List.cons.injEq, DV.b.injEq, and_true, List.length_cons, List.length_nil] at h45
            refine req_i ?_ ?_
            · -- r43
              first | omega | ((try simp only [sigQG, List.cons.injEq, DV.b.injEq, and_true, List.length_cons, List.length_nil]); first | done | omega | assumption | grind [getD_set, getD_rep, toNat_succ, cntN_yes, cntN_no])
            rfl
          ·
            refine req_i ?_ ?_
            · -- r44
              first | omega | ((try simp only [sigQG, List.cons.injEq, DV.b.injEq, and_true, List.length_cons, List.length_nil]); first | done | omega | assumption | grind [getD_set, getD_rep, toNat_succ, cntN_yes, cntN_no])
            rfl
        ·
          simp only [bR_iff, bR_iff_f, dec_iff, dec_f, Bool.false_eq_true, Bool.true_eq_false, false_implies, imp_false, and_true, true_and, implies_true, Classical.not_not] at h43
          refine req_i ?_ ?_
          · -- r45
            first | omega | ((try simp only [sigQG, List.cons.injEq, DV.b.injEq, and_true, List.length_cons, List.length_nil]); first | done | omega | assumption | grind [getD_set, getD_rep, toNat_succ, cntN_yes, cntN_no])
          rfl
      ·
        refine req_i ?_ ?_
        · -- r46
          first | omega | ((try simp only [sigQG, List.cons.injEq, DV.b.injEq, and_true, List.length_cons, List.length_nil]); first | done | omega | assumption | grind [getD_set, getD_rep, toNat_succ, cntN_yes, cntN_no])
        rfl
    ·
      simp only [bR_iff, bR_iff_f, dec_iff, dec_f, Bool.false_eq_true, Bool.true_eq_false, false_implies, imp_false, and_true, true_and, implies_true, Classical.not_not] at h41
      refine req_i ?_ ?_
      · -- r47
        first | omega | ((try simp only [sigQG, List.cons.injEq, DV.b.injEq, and_true, List.length_cons, List.length_nil]); first | done | omega | assumption | grind [getD_set, getD_rep, toNat_succ, cntN_yes, cntN_no])
      rfl
theorem ext_QuantGains : ∀ p ∈ ([(17, Ext.ctr (ctOf sigTrue0)), (14, Ext.ctr (ctOf sigLeast)), (27, Ext.ctr (ctOf sigLeast)), (15, Ext.ctr (ctOf sigAdapt)), (28, Ext.ctr (ctOf sigAdapt))] : List (Nat × Ext)), ExtRow Try.prog p.1 p.2 := by
  intro p hp
  simp only [List.mem_cons, List.not_mem_nil, or_false] at hp
  rcases hp with rfl | rfl | rfl | rfl | rfl <;> trivial
theorem cts_QuantGains : CtsOk Try.prog [(17, Ext.ctr (ctOf sigTrue0)), (14, Ext.ctr (ctOf sigLeast)), (27, Ext.ctr (ctOf sigLeast)), (15, Ext.ctr (ctOf sigAdapt)), (28, Ext.ctr (ctOf sigAdapt))] := ctsOk_of (cs := [(17, sigTrue0), (14, sigLeast), (27, sigLeast), (15, sigAdapt), (28, sigAdapt)])
  (fun p hp => by
    simp only [List.mem_cons, List.not_mem_nil, or_false] at hp
    rcases hp with rfl | rfl | rfl | rfl | rfl
    · exact fn_awake
    · exact fn_least
    · exact fn_leastR
    · exact fn_adapt
    · exact fn_adaptR
)
  (fun f c h => by
    simp only [List.lookup_cons] at h
    repeat' split at h
    all_goals first | (cases h; done) | (rename_i e; have e := beq_iff_eq.1 e; subst e; cases h; exact ⟨_, by simp, rfl⟩))
theorem fn_QuantGains : FnOk Try.prog 6 sigQG [] := fn_sound (by kernel_rfl) ext_QuantGains cts_QuantGains names vt_QuantGains
end Go.Proofs.Ytemcaojbhfgpgaa

