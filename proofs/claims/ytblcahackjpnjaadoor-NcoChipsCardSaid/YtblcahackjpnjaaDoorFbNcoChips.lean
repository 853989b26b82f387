import Derived.Test.YtblcahackjpnjaaDoorSpec11e
import Derived.Test.YtblcahackjpnjaaDoorRows
import Derived.Test.YtblcahackjpnjaaDoorFaNcoChips
namespace Go.Proofs.YtblcahackjpnjaaDoor
open Go.Ev Go.Sp
set_option maxRecDepth 100000
theorem vc_NcoChips : vcFn Tryd.prog [(17, Ext.ctr (ctOfG gl11 sigChips)), (27, Ext.ctr (ctOfG gl11 sigChips)), (19, Ext.ctr (ctOfG gl11 sigEquG)), (18, Ext.ctr (ctOfG gl11 sigTrue0))] noA gl11 100 6 sigNG5 = (allB fun n0 : Int => 
impB ((-9223372036854775808 : Int) ≤ n0) (
impB (n0 ≤ (9223372036854775807 : Int)) (
allB fun n1 : Int => 
impB ((-9223372036854775808 : Int) ≤ n1) (
impB (n1 ≤ (9223372036854775807 : Int)) (
allB fun n2 : Int => 
impB ((-9223372036854775808 : Int) ≤ n2) (
impB (n2 ≤ (9223372036854775807 : Int)) (
allB fun n3 : Int => 
impB ((-9223372036854775808 : Int) ≤ n3) (
impB (n3 ≤ (9223372036854775807 : Int)) (
allB fun n4 : Int => 
impB ((-9223372036854775808 : Int) ≤ n4) (
impB (n4 ≤ (9223372036854775807 : Int)) (
impB (sigNG5.pre [DV.n n0, DV.n n1, DV.n n2, DV.n n3, DV.n n4]) (
bR (dec ((300 : Int) < n4)) (
 bR (dec (n4 ≤ (100000 : Int))) (
 reqB (sigTrue0.pre []) (
 allB fun b5 : Bool => 
 impB (sigTrue0.post [] [DV.b b5]) (
 reqB (sigNG5.post [DV.n n0, DV.n n1, DV.n n2, DV.n n3, DV.n n4] [DV.b b5]) (
 true)))) (
 reqB ((-9223372036854775808 : Int) ≤ n0) (
 reqB (n0 ≤ (9223372036854775807 : Int)) (
 reqB ((-9223372036854775808 : Int) ≤ n1) (
 reqB (n1 ≤ (9223372036854775807 : Int)) (
 reqB ((-9223372036854775808 : Int) ≤ n2) (
 reqB (n2 ≤ (9223372036854775807 : Int)) (
 reqB ((-9223372036854775808 : Int) ≤ n3) (
 reqB (n3 ≤ (9223372036854775807 : Int)) (
 reqB ((-9223372036854775808 : Int) ≤ n4) (
 reqB (n4 ≤ (9223372036854775807 : Int)) (
 reqB (sigChips.pre [DV.n n0, DV.n n1, DV.n n2, DV.n n3, DV.n n4]) (
 allB fun l6 : List Int => 
 impB (l6.length ≤ (600 : Nat)) (
 impB (∀ (y : Int), y ∈ l6 → (-1 : Int) ≤ y ∧ y ≤ (1 : Int)) (
 allB fun n7 : Int => 
 impB ((0 : Int) ≤ n7) (
 impB (n7 ≤ (18 : Int)) (
 impB (sigChips.post [DV.n n0, DV.n n1, DV.n n2, DV.n n3, DV.n n4]
 [DV.l l6, DV.n n7]) (
 reqB ((-9223372036854775808 : Int) ≤ n0) (
 reqB (n0 ≤ (9223372036854775807 : Int)) (
 reqB ((-9223372036854775808 : Int) ≤ n1) (
 reqB (n1 ≤ (9223372036854775807 : Int)) (
 reqB ((-9223372036854775808 : Int) ≤ n2) (
 reqB (n2 ≤ (9223372036854775807 : Int)) (
 reqB ((-9223372036854775808 : Int) ≤ n3) (
 reqB (n3 ≤ (9223372036854775807 : Int)) (
 reqB ((-9223372036854775808 : Int) ≤ n4) (
 reqB (n4 ≤ (9223372036854775807 : Int)) (
 reqB (sigChips.pre [DV.n n0, DV.n n1, DV.n n2, DV.n n3, DV.n n4]) (
 allB fun l8 : List Int => 
 impB (l8.length ≤ (600 : Nat)) (
 impB (∀ (y : Int), y ∈ l8 → (-1 : Int) ≤ y ∧ y ≤ (1 : Int)) (
 allB fun n9 : Int => 
 impB ((0 : Int) ≤ n9) (
 impB (n9 ≤ (18 : Int)) (
 impB (sigChips.post [DV.n n0, DV.n n1, DV.n n2, DV.n n3, DV.n n4]
 [DV.l l8, DV.n n9]) (
 reqB (((0 : Nat) + l6.length) * (1 : Nat) ≤ l6.length.mul (1 : Nat)) (
 reqB (l6.length ≤ (1100 : Nat)) (
 reqB ((List.take l6.length (List.drop (0 : Nat) l6)).length = l6.length) (
 reqB (∀ (y : Int),
 y ∈ List.take l6.length (List.drop (0 : Nat) l6) → (-9223372036854775808 : Int) ≤ y ∧ y ≤ (9223372036854775807 : Int)) (
 reqB (((0 : Nat) + l8.length) * (1 : Nat) ≤ l8.length.mul (1 : Nat)) (
 reqB (l8.length ≤ (1100 : Nat)) (
 reqB ((List.take l8.length (List.drop (0 : Nat) l8)).length = l8.length) (
 reqB (∀ (y : Int),
 y ∈ List.take l8.length (List.drop (0 : Nat) l8) → (-9223372036854775808 : Int) ≤ y ∧ y ≤ (9223372036854775807 : Int)) (
 reqB (sigEquG.pre
 [DV.l (List.take l6.length (List.drop (0 : Nat) l6)), DV.l (List.take l8.length (List.drop (0 : Nat) l8))]) (
 allB fun b10 : Bool => 
 impB (sigEquG.post
 [DV.l (List.take l6.length (List.drop (0 : Nat) l6)), DV.l (List.take l8.length (List.drop (0 : Nat) l8))]
 [DV.b b10]) (
 bR (b10) (
 bR (dec (n7 = n9)) (
 reqB (sigTrue0.pre []) (
 allB fun b11 : Bool => 
 impB (sigTrue0.post [] [DV.b b11]) (
 reqB (sigNG5.post [DV.n n0, DV.n n1, DV.n n2, DV.n n3, DV.n n4] [DV.b b11]) (
 true)))) (
 reqB (sigNG5.post [DV.n n0, DV.n n1, DV.n n2, DV.n n3, DV.n n4] [DV.b Bool.false]) (
 true))) (
 reqB (sigNG5.post [DV.n n0, DV.n n1, DV.n n2, DV.n n3, DV.n n4] [DV.b Bool.false]) (
 true)))))))))))))))))))))))))))))))))))))))))))))) (
 reqB ((-9223372036854775808 : Int) ≤ n0) (
 reqB (n0 ≤ (9223372036854775807 : Int)) (
 reqB ((-9223372036854775808 : Int) ≤ n1) (
 reqB (n1 ≤ (9223372036854775807 : Int)) (
 reqB ((-9223372036854775808 : Int) ≤ n2) (
 reqB (n2 ≤ (9223372036854775807 : Int)) (
 reqB ((-9223372036854775808 : Int) ≤ n3) (
 reqB (n3 ≤ (9223372036854775807 : Int)) (
 reqB ((-9223372036854775808 : Int) ≤ n4) (
 reqB (n4 ≤ (9223372036854775807 : Int)) (
 reqB (sigChips.pre [DV.n n0, DV.n n1, DV.n n2, DV.n n3, DV.n n4]) (
 allB fun l12 : List Int => 
 impB (l12.length ≤ (600 : Nat)) (
 impB (∀ (y : Int), y ∈ l12 → (-1 : Int) ≤ y ∧ y ≤ (1 : Int)) (
 allB fun n13 : Int => 
 impB ((0 : Int) ≤ n13) (
 impB (n13 ≤ (18 : Int)) (
 impB (sigChips.post [DV.n n0, DV.n n1, DV.n n2, DV.n n3, DV.n n4]
 [DV.l l12, DV.n n13]) (
 reqB ((-9223372036854775808 : Int) ≤ n0) (
 reqB (n0 ≤ (9223372036854775807 : Int)) (
 reqB ((-9223372036854775808 : Int) ≤ n1) (
 reqB (n1 ≤ (9223372036854775807 : Int)) (
 reqB ((-9223372036854775808 : Int) ≤ n2) (
 reqB (n2 ≤ (9223372036854775807 : Int)) (
 reqB ((-9223372036854775808 : Int) ≤ n3) (
 reqB (n3 ≤ (9223372036854775807 : Int)) (
 reqB ((-9223372036854775808 : Int) ≤ n4) (
 reqB (n4 ≤ (9223372036854775807 : Int)) (
 reqB (sigChips.pre [DV.n n0, DV.n n1, DV.n n2, DV.n n3, DV.n n4]) (
 allB fun l14 : List Int => 
 impB (l14.length ≤ (600 : Nat)) (
 impB (∀ (y : Int), y ∈ l14 → (-1 : Int) ≤ y ∧ y ≤ (1 : Int)) (
 allB fun n15 : Int => 
 impB ((0 : Int) ≤ n15) (
 impB (n15 ≤ (18 : Int)) (
 impB (sigChips.post [DV.n n0, DV.n n1, DV.n n2, DV.n n3, DV.n n4]
 [DV.l l14, DV.n n15]) (
 reqB (((0 : Nat) + l12.length) * (1 : Nat) ≤ l12.length.mul (1 : Nat)) (
 reqB (l12.length ≤ (1100 : Nat)) (
 reqB ((List.take l12.length (List.drop (0 : Nat) l12)).length = l12.length) (
 reqB (∀ (y : Int),
 y ∈ List.take l12.length (List.drop (0 : Nat) l12) →
 (-9223372036854775808 : Int) ≤ y ∧ y ≤ (9223372036854775807 : Int)) (
 reqB (((0 : Nat) + l14.length) * (1 : Nat) ≤ l14.length.mul (1 : Nat)) (
 reqB (l14.length ≤ (1100 : Nat)) (
 reqB ((List.take l14.length (List.drop (0 : Nat) l14)).length = l14.length) (
 reqB (∀ (y : Int),
 y ∈ List.take l14.length (List.drop (0 : Nat) l14) →
 (-9223372036854775808 : Int) ≤ y ∧ y ≤ (9223372036854775807 : Int)) (
 reqB (sigEquG.pre
 [DV.l (List.take l12.length (List.drop (0 : Nat) l12)),
 DV.l (List.take l14.length (List.drop (0 : Nat) l14))]) (
 allB fun b16 : Bool => 
 impB (sigEquG.post
 [DV.l (List.take l12.length (List.drop (0 : Nat) l12)),
 DV.l (List.take l14.length (List.drop (0 : Nat) l14))]
 [DV.b b16]) (
 bR (b16) (
 bR (dec (n13 = n15)) (
 reqB (sigTrue0.pre []) (
 allB fun b17 : Bool => 
 impB (sigTrue0.post [] [DV.b b17]) (
 reqB (sigNG5.post [DV.n n0, DV.n n1, DV.n n2, DV.n n3, DV.n n4] [DV.b b17]) (
 true)))) (
 reqB (sigNG5.post [DV.n n0, DV.n n1, DV.n n2, DV.n n3, DV.n n4] [DV.b Bool.false]) (
 true))) (
 reqB (sigNG5.post [DV.n n0, DV.n n1, DV.n n2, DV.n n3, DV.n n4] [DV.b Bool.false]) (
 true))))))))))))))))))))))))))))))))))))))))))))))))))))))))) := by kernel_rfl
set_option maxHeartbeats 8000000 in
theorem vt_NcoChips : vcFn Tryd.prog [(17, Ext.ctr (ctOfG gl11 sigChips)), (27, Ext.ctr (ctOfG gl11 sigChips)), (19, Ext.ctr (ctOfG gl11 sigEquG)), (18, Ext.ctr (ctOfG gl11 sigTrue0))] noA gl11 100 6 sigNG5 = true := by
  rw [vc_NcoChips]
  try simp only [Int.toNat_natCast, List.length_set, List.length_replicate, List.length_take, List.length_drop, List.length_append, List.length_cons, List.length_nil, Nat.min_self, List.take_take, lenCols_i, lenCols_b, List.drop_zero, List.take_length, Nat.add_eq, Nat.mul_eq, Nat.sub_eq, Nat.zero_add, Nat.sub_zero, Nat.mul_one]
  refine all_i fun n0 => ?_
  refine imp_i fun h0 => ?_
  refine imp_i fun h1 => ?_
  refine all_i fun n1 => ?_
  refine imp_i fun h2 => ?_
  refine imp_i fun h3 => ?_
  refine all_i fun n2 => ?_
  refine imp_i fun h4 => ?_
  refine imp_i fun h5 => ?_
  refine all_i fun n3 => ?_
  refine imp_i fun h6 => ?_
  refine imp_i fun h7 => ?_
  refine all_i fun n4 => ?_
  refine imp_i fun h8 => ?_
  refine imp_i fun h9 => ?_
  refine imp_i fun h10 => ?_
  try simp only [sigNG5, sigNG, List.cons.injEq, DV.b.injEq, and_true, List.length_cons, List.length_nil] at h10
  refine bR_dec (fun h11 => ?_) (fun h11 => ?_)
  ·
   refine bR_dec (fun h12 => ?_) (fun h12 => ?_)
   ·
    refine req_i ?_ ?_
    · -- r0
     first | omega | assumption | grind
    refine all_i fun b5 => ?_
    refine imp_i fun h13 => ?_
    try simp only [sigTrue0, List.cons.injEq, DV.b.injEq, and_true, List.length_cons, List.length_nil] at h13
    refine req_i ?_ ?_
    · -- r1
     first | omega | ((try simp only [sigNG5, sigNG, List.cons.injEq, DV.b.injEq, and_true, List.length_cons, List.length_nil]); first | done | omega | assumption | grind [getD_set, getD_rep, toNat_succ, cntN_yes, cntN_no])
    rfl
   ·
    refine req_i ?_ ?_
    · -- r2
     first | omega | assumption | grind
    refine req_i ?_ ?_
    · -- r3
     first | omega | assumption | grind
    refine req_i ?_ ?_
    · -- r4
     first | omega | assumption | grind
    refine req_i ?_ ?_
    · -- r5
     first | omega | assumption | grind
    refine req_i ?_ ?_
    · -- r6
     first | omega | assumption | grind
    refine req_i ?_ ?_
    · -- r7
     first | omega | assumption | grind
    refine req_i ?_ ?_
    · -- r8
     first | omega | assumption | grind
    refine req_i ?_ ?_
    · -- r9
     first | omega | assumption | grind
    refine req_i ?_ ?_
    · -- r10
     first | omega | assumption | grind
    refine req_i ?_ ?_
    · -- r11
     first | omega | assumption | grind
    refine req_i ?_ ?_
    · -- r12
     first | trivial | assumption | (simp only [sigChips, cChL, chipsPre, chipsPost, List.cons.injEq, DV.b.injEq, and_true, List.length_cons, List.length_nil]; done) | ((try simp only [sigChips, cChL, chipsPre, chipsPost, List.cons.injEq, DV.b.injEq, and_true, List.length_cons, List.length_nil]); first | omega | assumption | grind)
    refine all_i fun l6 => ?_
    refine imp_i fun h14 => ?_
    refine imp_i fun h15 => ?_
    refine all_i fun n7 => ?_
    refine imp_i fun h16 => ?_
    refine imp_i fun h17 => ?_
    refine imp_i fun h18 => ?_
    try simp only [Int.toNat_natCast, List.length_set, List.length_replicate, List.length_take, List.length_drop, List.length_append, List.length_cons, List.length_nil, Nat.min_self, List.take_take, lenCols_i, lenCols_b, List.drop_zero, List.take_length, Nat.add_eq, Nat.mul_eq, Nat.sub_eq, Nat.zero_add, Nat.sub_zero, Nat.mul_one] at h18
    refine req_i ?_ ?_
    · -- r13
     first | omega | assumption | grind
    refine req_i ?_ ?_
    · -- r14
     first | omega | assumption | grind
    refine req_i ?_ ?_
    · -- r15
     first | omega | assumption | grind
    refine req_i ?_ ?_
    · -- r16
     first | omega | assumption | grind
    refine req_i ?_ ?_
    · -- r17
     first | omega | assumption | grind
    refine req_i ?_ ?_
    · -- r18
     first | omega | assumption | grind
    refine req_i ?_ ?_
    · -- r19
     first | omega | assumption | grind
    refine req_i ?_ ?_
    · -- r20
     first | omega | assumption | grind
    refine req_i ?_ ?_
    · -- r21
     first | omega | assumption | grind
    refine req_i ?_ ?_
    · -- r22
     first | omega | assumption | grind
    refine req_i ?_ ?_
    · -- r23
     first | trivial | assumption | (simp only [sigChips, cChL, chipsPre, chipsPost, List.cons.injEq, DV.b.injEq, and_true, List.length_cons, List.length_nil]; done) | ((try simp only [sigChips, cChL, chipsPre, chipsPost, List.cons.injEq, DV.b.injEq, and_true, List.length_cons, List.length_nil]); first | omega | assumption | grind)
    refine all_i fun l8 => ?_
    refine imp_i fun h19 => ?_
    refine imp_i fun h20 => ?_
    refine all_i fun n9 => ?_
    refine imp_i fun h21 => ?_
    refine imp_i fun h22 => ?_
    refine imp_i fun h23 => ?_
    try simp only [Int.toNat_natCast, List.length_set, List.length_replicate, List.length_take, List.length_drop, List.length_append, List.length_cons, List.length_nil, Nat.min_self, List.take_take, lenCols_i, lenCols_b, List.drop_zero, List.take_length, Nat.add_eq, Nat.mul_eq, Nat.sub_eq, Nat.zero_add, Nat.sub_zero, Nat.mul_one] at h23
    obtain ⟨q1, q2⟩ := chips_fun h18 h23
    refine req_i ?_ ?_
    · -- r24
     first | omega | ((try simp only [Nat.mul_eq]); first | done | omega | assumption | grind [getD_set, getD_rep, toNat_succ, cntN_yes, cntN_no])
    refine req_i ?_ ?_
    · -- r25
     first | omega | ((try simp only [Nat.zero_add]); first | done | omega | assumption | grind [getD_set, getD_rep, toNat_succ, cntN_yes, cntN_no])
    refine req_i ?_ ?_
    · -- r26
     first | omega | ((try simp only [List.length_take, List.take_length, List.take_take, Nat.min_self, List.length_drop, List.drop_zero, List.length_cons, List.length_nil]); first | done | omega | assumption | grind [getD_set, getD_rep, toNat_succ, cntN_yes, cntN_no])
    refine req_i ?_ ?_
    · -- r27
     first | assumption | exact rep_bd (by omega) (by omega) | exact set_bd (by assumption) (by omega) (by omega) | exact take_bd (by assumption) | ((try simp only [List.length_take, List.take_length, List.take_take, Nat.min_self, List.length_drop, List.drop_zero, List.length_cons, List.length_nil]); first | assumption | exact rep_bd (by omega) (by omega) | exact set_bd (by assumption) (by omega) (by omega) | exact take_bd (by assumption) | grind [getD_set, getD_rep, toNat_succ, cntN_yes, cntN_no])
    refine req_i ?_ ?_
    · -- r28
     first | omega | ((try simp only [Nat.mul_eq]); first | done | omega | assumption | grind [getD_set, getD_rep, toNat_succ, cntN_yes, cntN_no])
    refine req_i ?_ ?_
    · -- r29
     first | omega | ((try simp only [Nat.zero_add]); first | done | omega | assumption | grind [getD_set, getD_rep, toNat_succ, cntN_yes, cntN_no])
    refine req_i ?_ ?_
    · -- r30
     first | omega | ((try simp only [List.length_take, List.take_length, List.take_take, Nat.min_self, List.length_drop, List.drop_zero, List.length_cons, List.length_nil]); first | done | omega | assumption | grind [getD_set, getD_rep, toNat_succ, cntN_yes, cntN_no])
    refine req_i ?_ ?_
    · -- r31
     first | assumption | exact rep_bd (by omega) (by omega) | exact set_bd (by assumption) (by omega) (by omega) | exact take_bd (by assumption) | ((try simp only [List.length_take, List.take_length, List.take_take, Nat.min_self, List.length_drop, List.drop_zero, List.length_cons, List.length_nil]); first | assumption | exact rep_bd (by omega) (by omega) | exact set_bd (by assumption) (by omega) (by omega) | exact take_bd (by assumption) | grind [getD_set, getD_rep, toNat_succ, cntN_yes, cntN_no])
    refine req_i ?_ ?_
    · -- r32
     first | omega | ((try simp only [sigEquG, cW, equGP, List.cons.injEq, DV.b.injEq, and_true, List.length_take, List.take_length, List.take_take, Nat.min_self, List.length_drop, List.drop_zero, List.length_cons, List.length_nil]); first | done | omega | assumption | grind [getD_set, getD_rep, toNat_succ, cntN_yes, cntN_no])
    refine all_i fun b10 => ?_
    refine imp_i fun h24 => ?_
    try simp only [sigEquG, cW, equGP, List.cons.injEq, DV.b.injEq, and_true, List.length_take, List.take_length, List.take_take, Nat.min_self, List.length_drop, List.drop_zero, List.length_cons, List.length_nil] at h24
    refine bR_i (fun h25 => ?_) (fun h25 => ?_)
    ·
     refine bR_dec (fun h26 => ?_) (fun h26 => ?_)
     ·
      refine req_i ?_ ?_
      · -- r33
       first | omega | assumption | grind
      refine all_i fun b11 => ?_
      refine imp_i fun h27 => ?_
      try simp only [sigTrue0, List.cons.injEq, DV.b.injEq, and_true, List.length_cons, List.length_nil] at h27
      refine req_i ?_ ?_
      · -- r34
       first | omega | ((try simp only [sigNG5, sigNG, List.cons.injEq, DV.b.injEq, and_true, List.length_cons, List.length_nil]); first | done | omega | assumption | grind [getD_set, getD_rep, toNat_succ, cntN_yes, cntN_no])
      rfl
     ·
      refine req_i ?_ ?_
      · -- r35
       first | omega | ((try simp only [sigNG5, sigNG, List.cons.injEq, DV.b.injEq, and_true, List.length_cons, List.length_nil]); first | done | omega | assumption | grind [getD_set, getD_rep, toNat_succ, cntN_yes, cntN_no])
      rfl
    ·
     refine req_i ?_ ?_
     · -- r36
      rw [h24.2 q1] at h25; cases h25
     rfl
  ·
   refine req_i ?_ ?_
   · -- r37
    first | omega | assumption | grind
   refine req_i ?_ ?_
   · -- r38
    first | omega | assumption | grind
   refine req_i ?_ ?_
   · -- r39
    first | omega | assumption | grind
   refine req_i ?_ ?_
   · -- r40
    first | omega | assumption | grind
   refine req_i ?_ ?_
   · -- r41
    first | omega | assumption | grind
   refine req_i ?_ ?_
   · -- r42
    first | omega | assumption | grind
   refine req_i ?_ ?_
   · -- r43
    first | omega | assumption | grind
   refine req_i ?_ ?_
   · -- r44
    first | omega | assumption | grind
   refine req_i ?_ ?_
   · -- r45
    first | omega | assumption | grind
   refine req_i ?_ ?_
   · -- r46
    first | omega | assumption | grind
   refine req_i ?_ ?_
   · -- r47
    first | trivial | assumption | (simp only [sigChips, cChL, chipsPre, chipsPost, List.cons.injEq, DV.b.injEq, and_true, List.length_cons, List.length_nil]; done) | ((try simp only [sigChips, cChL, chipsPre, chipsPost, List.cons.injEq, DV.b.injEq, and_true, List.length_cons, List.length_nil]); first | omega | assumption | grind)
   refine all_i fun l12 => ?_
   refine imp_i fun h28 => ?_
   refine imp_i fun h29 => ?_
   refine all_i fun n13 => ?_
   refine imp_i fun h30 => ?_
   refine imp_i fun h31 => ?_
   refine imp_i fun h32 => ?_
   try simp only [Int.toNat_natCast, List.length_set, List.length_replicate, List.length_take, List.length_drop, List.length_append, List.length_cons, List.length_nil, Nat.min_self, List.take_take, lenCols_i, lenCols_b, List.drop_zero, List.take_length, Nat.add_eq, Nat.mul_eq, Nat.sub_eq, Nat.zero_add, Nat.sub_zero, Nat.mul_one] at h32
   refine req_i ?_ ?_
   · -- r48
    first | omega | assumption | grind
   refine req_i ?_ ?_
   · -- r49
    first | omega | assumption | grind
   refine req_i ?_ ?_
   · -- r50
    first | omega | assumption | grind
   refine req_i ?_ ?_
   · -- r51
    first | omega | assumption | grind
   refine req_i ?_ ?_
   · -- r52
    first | omega | assumption | grind
   refine req_i ?_ ?_
   · -- r53
    first | omega | assumption | grind
   refine req_i ?_ ?_
   · -- r54
    first | omega | assumption | grind
   refine req_i ?_ ?_
   · -- r55
    first | omega | assumption | grind
   refine req_i ?_ ?_
   · -- r56
    first | omega | assumption | grind
   refine req_i ?_ ?_
   · -- r57
    first | omega | assumption | grind
   refine req_i ?_ ?_
   · -- r58
    first | trivial | assumption | (simp only [sigChips, cChL, chipsPre, chipsPost, List.cons.injEq, DV.b.injEq, and_true, List.length_cons, List.length_nil]; done) | ((try simp only [sigChips, cChL, chipsPre, chipsPost, List.cons.injEq, DV.b.injEq, and_true, List.length_cons, List.length_nil]); first | omega | assumption | grind)
   refine all_i fun l14 => ?_
   refine imp_i fun h33 => ?_
   refine imp_i fun h34 => ?_
   refine all_i fun n15 => ?_
   refine imp_i fun h35 => ?_
   refine imp_i fun h36 => ?_
   refine imp_i fun h37 => ?_
   try simp only [Int.toNat_natCast, List.length_set, List.length_replicate, List.length_take, List.length_drop, List.length_append, List.length_cons, List.length_nil, Nat.min_self, List.take_take, lenCols_i, lenCols_b, List.drop_zero, List.take_length, Nat.add_eq, Nat.mul_eq, Nat.sub_eq, Nat.zero_add, Nat.sub_zero, Nat.mul_one] at h37
   obtain ⟨q3, q4⟩ := chips_fun h32 h37
   refine req_i ?_ ?_
   · -- r59
    first | omega | ((try simp only [Nat.mul_eq]); first | done | omega | assumption | grind [getD_set, getD_rep, toNat_succ, cntN_yes, cntN_no])
   refine req_i ?_ ?_
   · -- r60
    first | omega | ((try simp only [Nat.zero_add]); first | done | omega | assumption | grind [getD_set, getD_rep, toNat_succ, cntN_yes, cntN_no])
   refine req_i ?_ ?_
   · -- r61
    first | omega | ((try simp only [List.length_take, List.take_length, List.take_take, Nat.min_self, List.length_drop, List.drop_zero, List.length_cons, List.length_nil]); first | done | omega | assumption | grind [getD_set, getD_rep, toNat_succ, cntN_yes, cntN_no])
   refine req_i ?_ ?_
   · -- r62
    first | assumption | exact rep_bd (by omega) (by omega) | exact set_bd (by assumption) (by omega) (by omega) | exact take_bd (by assumption) | ((try simp only [List.length_take, List.take_length, List.take_take, Nat.min_self, List.length_drop, List.drop_zero, List.length_cons, List.length_nil]); first | assumption | exact rep_bd (by omega) (by omega) | exact set_bd (by assumption) (by omega) (by omega) | exact take_bd (by assumption) | grind [getD_set, getD_rep, toNat_succ, cntN_yes, cntN_no])
   refine req_i ?_ ?_
   · -- r63
    first | omega | ((try simp only [Nat.mul_eq]); first | done | omega | assumption | grind [getD_set, getD_rep, toNat_succ, cntN_yes, cntN_no])
   refine req_i ?_ ?_
   · -- r64
    first | omega | ((try simp only [Nat.zero_add]); first | done | omega | assumption | grind [getD_set, getD_rep, toNat_succ, cntN_yes, cntN_no])
   refine req_i ?_ ?_
   · -- r65
    first | omega | ((try simp only [List.length_take, List.take_length, List.take_take, Nat.min_self, List.length_drop, List.drop_zero, List.length_cons, List.length_nil]); first | done | omega | assumption | grind [getD_set, getD_rep, toNat_succ, cntN_yes, cntN_no])
   refine req_i ?_ ?_
   · -- r66
    first | assumption | exact rep_bd (by omega) (by omega) | exact set_bd (by assumption) (by omega) (by omega) | exact take_bd (by assumption) | ((try simp only [List.length_take, List.take_length, List.take_take, Nat.min_self, List.length_drop, List.drop_zero, List.length_cons, List.length_nil]); first | assumption | exact rep_bd (by omega) (by omega) | exact set_bd (by assumption) (by omega) (by omega) | exact take_bd (by assumption) | grind [getD_set, getD_rep, toNat_succ, cntN_yes, cntN_no])
   refine req_i ?_ ?_
   · -- r67
    first | omega | ((try simp only [sigEquG, cW, equGP, List.cons.injEq, DV.b.injEq, and_true, List.length_take, List.take_length, List.take_take, Nat.min_self, List.length_drop, List.drop_zero, List.length_cons, List.length_nil]); first | done | omega | assumption | grind [getD_set, getD_rep, toNat_succ, cntN_yes, cntN_no])
   refine all_i fun b16 => ?_
   refine imp_i fun h38 => ?_
   try simp only [sigEquG, cW, equGP, List.cons.injEq, DV.b.injEq, and_true, List.length_take, List.take_length, List.take_take, Nat.min_self, List.length_drop, List.drop_zero, List.length_cons, List.length_nil] at h38
   refine bR_i (fun h39 => ?_) (fun h39 => ?_)
   ·
    refine bR_dec (fun h40 => ?_) (fun h40 => ?_)
    ·
     refine req_i ?_ ?_
     · -- r68
      first | omega | assumption | grind
     refine all_i fun b17 => ?_
     refine imp_i fun h41 => ?_
     try simp only [sigTrue0, List.cons.injEq, DV.b.injEq, and_true, List.length_cons, List.length_nil] at h41
     refine req_i ?_ ?_
     · -- r69
      first | omega | ((try simp only [sigNG5, sigNG, List.cons.injEq, DV.b.injEq, and_true, List.length_cons, List.length_nil]); first | done | omega | assumption | grind [getD_set, getD_rep, toNat_succ, cntN_yes, cntN_no])
     rfl
    ·
     refine req_i ?_ ?_
     · -- r70
      first | omega | ((try simp only [sigNG5, sigNG, List.cons.injEq, DV.b.injEq, and_true, List.length_cons, List.length_nil]); first | done | omega | assumption | grind [getD_set, getD_rep, toNat_succ, cntN_yes, cntN_no])
     rfl
   ·
    refine req_i ?_ ?_
    · -- r71
     rw [h38.2 q3] at h39; cases h39
    rfl
theorem ext_NcoChips : ∀ p ∈ ([(17, Ext.ctr (ctOfG gl11 sigChips)), (27, Ext.ctr (ctOfG gl11 sigChips)), (19, Ext.ctr (ctOfG gl11 sigEquG)), (18, Ext.ctr (ctOfG gl11 sigTrue0))] : List (Nat × Ext)), ExtRow Tryd.prog p.1 p.2 := by
  intro p hp
  simp only [List.mem_cons, List.not_mem_nil, or_false] at hp
  rcases hp with rfl | rfl | rfl | rfl
  · trivial
  · trivial
  · trivial
  · trivial
theorem cts_NcoChips : CtsOk Tryd.prog [(17, Ext.ctr (ctOfG gl11 sigChips)), (27, Ext.ctr (ctOfG gl11 sigChips)), (19, Ext.ctr (ctOfG gl11 sigEquG)), (18, Ext.ctr (ctOfG gl11 sigTrue0))] := ctsOk_ofG (cs := [(17, sigChips), (27, sigChips), (19, sigEquG), (18, sigTrue0)])
  (fun p hp => by
    simp only [List.mem_cons, List.not_mem_nil, or_false] at hp
    rcases hp with rfl | rfl | rfl | rfl
    · exact fn_chips
    · exact fn_chipsR
    · exact fn_equ
    · exact fn_awake
)
  (fun f c h => by
    simp only [List.lookup_cons] at h
    repeat' split at h
    all_goals first | (cases h; done) | (rename_i e; have e := beq_iff_eq.1 e; subst e; cases h; refine ⟨_, ?_, rfl⟩; simp))
theorem fn_NcoChips : FnOk Tryd.prog 6 sigNG5 gl11 := fn_sound (by kernel_rfl) ext_NcoChips cts_NcoChips names vt_NcoChips
end Go.Proofs.YtblcahackjpnjaaDoor

