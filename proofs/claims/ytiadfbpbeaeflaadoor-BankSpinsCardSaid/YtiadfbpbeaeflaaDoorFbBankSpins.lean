import Derived.Test.YtiadfbpbeaeflaaDoorSpec14e
import Derived.Test.YtiadfbpbeaeflaaDoorRows
import Derived.Test.YtiadfbpbeaeflaaDoorFaBankSpins
namespace Go.Proofs.YtiadfbpbeaeflaaDoor
open Go.Ev Go.Sp
set_option maxRecDepth 100000
theorem vc_bestR : vcFn Tryd.prog [(48, Ext.ctr (ctOfG gl11 sigSm)), (50, Ext.ctr (ctOfG gl11 sigPw))] (fun f p _ => at2 f p 26 122 grRL (none)) gl11 100 26 sigBst = (allB fun l0 : List Int => 
impB (l0.length ≤ (30 : Nat)) (
impB (∀ (y : Int), y ∈ l0 → (-9223372036854775808 : Int) ≤ y ∧ y ≤ (9223372036854775807 : Int)) (
allB fun l1 : List Int => 
impB (l1.length = l0.length) (
impB (∀ (y : Int), y ∈ l1 → (-9223372036854775808 : Int) ≤ y ∧ y ≤ (9223372036854775807 : Int)) (
impB (sigBst.pre [DV.l l0, DV.l l1]) (
bR (dec ((↑l0.length : Int) = (0 : Int))) (
 reqB (sigBst.post [DV.l l0, DV.l l1] [DV.n (0 : Int), DV.n (0 : Int), DV.n (3 : Int)]) (
 true)) (
 reqB (((0 : Nat) + l0.length) * (2 : Nat) ≤ l0.length.mul (2 : Nat)) (
 reqB (l0.length ≤ (30 : Nat)) (
 reqB ((List.take l0.length (List.drop (0 : Nat) l0)).length = l0.length) (
 reqB (∀ (y : Int),
 y ∈ List.take l0.length (List.drop (0 : Nat) l0) → (-9223372036854775808 : Int) ≤ y ∧ y ≤ (9223372036854775807 : Int)) (
 reqB ((List.take l0.length (List.drop (0 : Nat) l1)).length = l0.length) (
 reqB (∀ (y : Int),
 y ∈ List.take l0.length (List.drop (0 : Nat) l1) → (-9223372036854775808 : Int) ≤ y ∧ y ≤ (9223372036854775807 : Int)) (
 reqB (sigSm.pre
 [DV.l (List.take l0.length (List.drop (0 : Nat) l0)), DV.l (List.take l0.length (List.drop (0 : Nat) l1)),
 DV.n (8192 : Int)]) (
 allB fun n2 : Int => 
 impB ((0 : Int) ≤ n2) (
 impB (n2 ≤ (18 : Int)) (
 impB (sigSm.post
 [DV.l (List.take l0.length (List.drop (0 : Nat) l0)), DV.l (List.take l0.length (List.drop (0 : Nat) l1)),
 DV.n (8192 : Int)]
 [DV.n n2]) (
 bR (dec (n2 ≠ (0 : Int))) (
 reqB ((0 : Int) ≤ n2) (
 reqB (n2 ≤ (18 : Int)) (
 reqB (sigBst.post [DV.l l0, DV.l l1] [DV.n (0 : Int), DV.n (0 : Int), DV.n n2]) (
 true)))) (
 reqB (((0 : Nat) + l0.length) * (2 : Nat) ≤ l0.length.mul (2 : Nat)) (
 reqB (l0.length ≤ (30 : Nat)) (
 reqB ((List.take l0.length (List.drop (0 : Nat) l0)).length = l0.length) (
 reqB (∀ (y : Int),
 y ∈ List.take l0.length (List.drop (0 : Nat) l0) → (-9223372036854775808 : Int) ≤ y ∧ y ≤ (9223372036854775807 : Int)) (
 reqB ((List.take l0.length (List.drop (0 : Nat) l1)).length = l0.length) (
 reqB (∀ (y : Int),
 y ∈ List.take l0.length (List.drop (0 : Nat) l1) → (-9223372036854775808 : Int) ≤ y ∧ y ≤ (9223372036854775807 : Int)) (
 reqB (grRL.inv
 [DV.l (List.take l0.length (List.drop (0 : Nat) l0)), DV.l (List.take l0.length (List.drop (0 : Nat) l1))]
 [DV.n (0 : Int), DV.n (0 : Int)]) (
 allB fun n3 : Int => 
 impB ((0 : Int) ≤ n3) (
 impB (n3 ≤ (30 : Int)) (
 allB fun n4 : Int => 
 impB ((0 : Int) ≤ n4) (
 impB (n4 ≤ (30 : Int)) (
 impB (grRL.inv
 [DV.l (List.take l0.length (List.drop (0 : Nat) l0)), DV.l (List.take l0.length (List.drop (0 : Nat) l1))]
 [DV.n n3, DV.n n4]) (
 bR (dec (n3 < (↑l0.length : Int))) (
 reqB (n3.toNat < l0.length) (
 reqB (Nat.add (0 : Nat) n3.toNat < l0.length) (
 reqB (Nat.add (0 : Nat) n3.toNat < l1.length) (
 reqB ((-9223372036854775808 : Int) ≤ l0.getD (Nat.add (0 : Nat) n3.toNat) (0 : Int)) (
 reqB (l0.getD (Nat.add (0 : Nat) n3.toNat) (0 : Int) ≤ (9223372036854775807 : Int)) (
 reqB ((-9223372036854775808 : Int) ≤ l1.getD (Nat.add (0 : Nat) n3.toNat) (0 : Int)) (
 reqB (l1.getD (Nat.add (0 : Nat) n3.toNat) (0 : Int) ≤ (9223372036854775807 : Int)) (
 reqB (sigPw.pre
 [DV.n (l0.getD (Nat.add (0 : Nat) n3.toNat) (0 : Int)),
 DV.n (l1.getD (Nat.add (0 : Nat) n3.toNat) (0 : Int))]) (
 allB fun n5 : Int => 
 impB ((-9223372036854775808 : Int) ≤ n5) (
 impB (n5 ≤ (9223372036854775807 : Int)) (
 impB (sigPw.post
 [DV.n (l0.getD (Nat.add (0 : Nat) n3.toNat) (0 : Int)),
 DV.n (l1.getD (Nat.add (0 : Nat) n3.toNat) (0 : Int))]
 [DV.n n5]) (
 reqB (n4.toNat < l0.length) (
 reqB (Nat.add (0 : Nat) n4.toNat < l0.length) (
 reqB (Nat.add (0 : Nat) n4.toNat < l1.length) (
 reqB ((-9223372036854775808 : Int) ≤ l0.getD (Nat.add (0 : Nat) n4.toNat) (0 : Int)) (
 reqB (l0.getD (Nat.add (0 : Nat) n4.toNat) (0 : Int) ≤ (9223372036854775807 : Int)) (
 reqB ((-9223372036854775808 : Int) ≤ l1.getD (Nat.add (0 : Nat) n4.toNat) (0 : Int)) (
 reqB (l1.getD (Nat.add (0 : Nat) n4.toNat) (0 : Int) ≤ (9223372036854775807 : Int)) (
 reqB (sigPw.pre
 [DV.n (l0.getD (Nat.add (0 : Nat) n4.toNat) (0 : Int)),
 DV.n (l1.getD (Nat.add (0 : Nat) n4.toNat) (0 : Int))]) (
 allB fun n6 : Int => 
 impB ((-9223372036854775808 : Int) ≤ n6) (
 impB (n6 ≤ (9223372036854775807 : Int)) (
 impB (sigPw.post
 [DV.n (l0.getD (Nat.add (0 : Nat) n4.toNat) (0 : Int)),
 DV.n (l1.getD (Nat.add (0 : Nat) n4.toNat) (0 : Int))]
 [DV.n n6]) (
 bR (dec (n6 < n5)) (
 bR (bR (bR (dec ((0 : Nat) = (0 : Nat))) (
 dec (l0.length = l0.length)) (
 false)) (
 bR (dec (n2 = n2)) (
 true) (
 false)) (
 false)) (
 reqB ((0 : Int) ≤ n3 + (1 : Int)) (
 reqB (n3 + (1 : Int) ≤ (30 : Int)) (
 reqB ((0 : Int) ≤ n3) (
 reqB (n3 ≤ (30 : Int)) (
 reqB (grRL.inv
 [DV.l (List.take l0.length (List.drop (0 : Nat) l0)), DV.l (List.take l0.length (List.drop (0 : Nat) l1))]
 [DV.n (n3 + (1 : Int)), DV.n n3]) (
 reqB (grRL.mea
 [DV.l (List.take l0.length (List.drop (0 : Nat) l0)),
 DV.l (List.take l0.length (List.drop (0 : Nat) l1))]
 [DV.n (n3 + (1 : Int)), DV.n n3] <
 grRL.mea
 [DV.l (List.take l0.length (List.drop (0 : Nat) l0)),
 DV.l (List.take l0.length (List.drop (0 : Nat) l1))]
 [DV.n n3, DV.n n4]) (
 true))))))) (
 false)) (
 bR (bR (bR (dec ((0 : Nat) = (0 : Nat))) (
 dec (l0.length = l0.length)) (
 false)) (
 bR (dec (n2 = n2)) (
 true) (
 false)) (
 false)) (
 reqB ((0 : Int) ≤ n3 + (1 : Int)) (
 reqB (n3 + (1 : Int) ≤ (30 : Int)) (
 reqB ((0 : Int) ≤ n4) (
 reqB (n4 ≤ (30 : Int)) (
 reqB (grRL.inv
 [DV.l (List.take l0.length (List.drop (0 : Nat) l0)), DV.l (List.take l0.length (List.drop (0 : Nat) l1))]
 [DV.n (n3 + (1 : Int)), DV.n n4]) (
 reqB (grRL.mea
 [DV.l (List.take l0.length (List.drop (0 : Nat) l0)),
 DV.l (List.take l0.length (List.drop (0 : Nat) l1))]
 [DV.n (n3 + (1 : Int)), DV.n n4] <
 grRL.mea
 [DV.l (List.take l0.length (List.drop (0 : Nat) l0)),
 DV.l (List.take l0.length (List.drop (0 : Nat) l1))]
 [DV.n n3, DV.n n4]) (
 true))))))) (
 false))))))))))))))))))))))))) (
 reqB (n4.toNat < l0.length) (
 reqB (Nat.add (0 : Nat) n4.toNat < l0.length) (
 reqB (Nat.add (0 : Nat) n4.toNat < l1.length) (
 reqB ((-9223372036854775808 : Int) ≤ l0.getD (Nat.add (0 : Nat) n4.toNat) (0 : Int)) (
 reqB (l0.getD (Nat.add (0 : Nat) n4.toNat) (0 : Int) ≤ (9223372036854775807 : Int)) (
 reqB ((-9223372036854775808 : Int) ≤ l1.getD (Nat.add (0 : Nat) n4.toNat) (0 : Int)) (
 reqB (l1.getD (Nat.add (0 : Nat) n4.toNat) (0 : Int) ≤ (9223372036854775807 : Int)) (
 reqB (sigPw.pre
 [DV.n (l0.getD (Nat.add (0 : Nat) n4.toNat) (0 : Int)),
 DV.n (l1.getD (Nat.add (0 : Nat) n4.toNat) (0 : Int))]) (
 allB fun n7 : Int => 
 impB ((-9223372036854775808 : Int) ≤ n7) (
 impB (n7 ≤ (9223372036854775807 : Int)) (
 impB (sigPw.post
 [DV.n (l0.getD (Nat.add (0 : Nat) n4.toNat) (0 : Int)),
 DV.n (l1.getD (Nat.add (0 : Nat) n4.toNat) (0 : Int))]
 [DV.n n7]) (
 reqB ((0 : Int) ≤ n4) (
 reqB (n4 ≤ (30 : Int)) (
 reqB ((-9223372036854775808 : Int) ≤ n7) (
 reqB (n7 ≤ (9223372036854775807 : Int)) (
 reqB (sigBst.post [DV.l l0, DV.l l1] [DV.n n4, DV.n n7, DV.n (0 : Int)]) (
 true))))))))))))))))))))))))))))))))))))))))))))))) := by kernel_rfl
set_option maxHeartbeats 8000000 in
theorem vt_bestR : vcFn Tryd.prog [(48, Ext.ctr (ctOfG gl11 sigSm)), (50, Ext.ctr (ctOfG gl11 sigPw))] (fun f p _ => at2 f p 26 122 grRL (none)) gl11 100 26 sigBst = true := by
  rw [vc_bestR]
  try simp only [Int.toNat_natCast, List.length_set, List.length_replicate, List.length_take, List.length_drop, List.length_append, List.length_cons, List.length_nil, Nat.min_self, List.take_take, lenCols_i, lenCols_b, List.drop_zero, List.take_length, List.take_nil, List.drop_nil, List.take_zero, List.nil_append, Nat.add_eq, Nat.mul_eq, Nat.sub_eq, Nat.zero_add, Nat.add_zero, Nat.sub_zero, Nat.mul_one]
  refine all_i fun l0 => ?_
  refine imp_i fun h0 => ?_
  refine imp_i fun h1 => ?_
  refine all_i fun l1 => ?_
  refine imp_i fun h2 => ?_
  have tkl1 := take_eq h2
  try simp only [tkl1]
  refine imp_i fun h3 => ?_
  refine imp_i fun h4 => ?_
  try simp only [sigBst, smpS, bstPost, List.cons.injEq, DV.b.injEq, and_true, List.length_cons, List.length_nil] at h4
  refine bR_dec (fun h5 => ?_) (fun h5 => ?_)
  ·
   refine req_i ?_ ?_
   · -- r0
    first | omega | ((try simp only [sigBst, smpS, bstPost, List.cons.injEq, DV.b.injEq, and_true, List.length_cons, List.length_nil]); first | done | omega | assumption | grind [getD_set, getD_rep, toNat_succ, cntN_yes, cntN_no])
   rfl
  ·
   refine req_i ?_ ?_
   · -- r1
    first | omega | ((try simp only [Nat.mul_eq]); first | done | omega | assumption | grind [getD_set, getD_rep, toNat_succ, cntN_yes, cntN_no])
   refine req_i ?_ ?_
   · -- r2
    first | omega | ((try simp only [Nat.zero_add]); first | done | omega | assumption | grind [getD_set, getD_rep, toNat_succ, cntN_yes, cntN_no])
   refine req_i ?_ ?_
   · -- r3
    first | omega | ((try simp only [List.take_nil, List.take_zero, List.length_take, List.take_length, List.take_take, Nat.min_self, List.drop_nil, List.length_drop, List.drop_zero, List.length_cons, List.length_nil]); first | done | omega | assumption | grind [getD_set, getD_rep, toNat_succ, cntN_yes, cntN_no])
   refine req_i ?_ ?_
   · -- r4
    first | assumption | exact rep_bd (by omega) (by omega) | exact set_bd (by assumption) (by omega) (by omega) | exact take_bd (by assumption) | ((try simp only [List.take_nil, List.take_zero, List.length_take, List.take_length, List.take_take, Nat.min_self, List.drop_nil, List.length_drop, List.drop_zero, List.length_cons, List.length_nil]); first | assumption | exact rep_bd (by omega) (by omega) | exact set_bd (by assumption) (by omega) (by omega) | exact take_bd (by assumption) | grind [getD_set, getD_rep, toNat_succ, cntN_yes, cntN_no])
   refine req_i ?_ ?_
   · -- r5
    first | omega | ((try simp only [List.take_nil, List.take_zero, List.length_take, List.take_length, List.take_take, Nat.min_self, List.drop_nil, List.length_drop, List.drop_zero, List.length_cons, List.length_nil]); first | done | omega | assumption | grind [getD_set, getD_rep, toNat_succ, cntN_yes, cntN_no])
   refine req_i ?_ ?_
   · -- r6
    first | assumption | exact rep_bd (by omega) (by omega) | exact set_bd (by assumption) (by omega) (by omega) | exact take_bd (by assumption) | ((try simp only [List.take_nil, List.take_zero, List.length_take, List.take_length, List.take_take, Nat.min_self, List.drop_nil, List.length_drop, List.drop_zero, List.length_cons, List.length_nil]); first | assumption | exact rep_bd (by omega) (by omega) | exact set_bd (by assumption) (by omega) (by omega) | exact take_bd (by assumption) | grind [getD_set, getD_rep, toNat_succ, cntN_yes, cntN_no])
   refine req_i ?_ ?_
   · -- r7
    first | omega | ((try simp only [sigSm, smpS, smPost, List.cons.injEq, DV.b.injEq, and_true, List.take_nil, List.take_zero, List.length_take, List.take_length, List.take_take, Nat.min_self, List.drop_nil, List.length_drop, List.drop_zero, List.length_cons, List.length_nil]); first | done | omega | assumption | grind [getD_set, getD_rep, toNat_succ, cntN_yes, cntN_no])
   refine all_i fun n2 => ?_
   refine imp_i fun h6 => ?_
   refine imp_i fun h7 => ?_
   refine imp_i fun h8 => ?_
   try simp only [Int.toNat_natCast, List.length_set, List.length_replicate, List.length_take, List.length_drop, List.length_append, List.length_cons, List.length_nil, Nat.min_self, List.take_take, lenCols_i, lenCols_b, List.drop_zero, List.take_length, List.take_nil, List.drop_nil, List.take_zero, List.nil_append, Nat.add_eq, Nat.mul_eq, Nat.sub_eq, Nat.zero_add, Nat.add_zero, Nat.sub_zero, Nat.mul_one] at h8
   refine bR_dec (fun h9 => ?_) (fun h9 => ?_)
   ·
    obtain ⟨no, e9⟩ : ¬okS l0 l1 ∧ n2 = 2 := by
      rcases h8 with ⟨a, b⟩ | ⟨a, b, c⟩ | ⟨_, h⟩
      · omega
      · omega
      · exact h
    refine req_i ?_ ?_
    · -- r8
     first | omega | assumption | grind
    refine req_i ?_ ?_
    · -- r9
     first | omega | assumption | grind
    refine req_i ?_ ?_
    · -- r10
     exact .inr (.inr ⟨by omega, no, rfl, rfl, e9⟩)
    rfl
   ·
    have ok : okS l0 l1 := by
      rcases h8 with ⟨a, b⟩ | ⟨_, a, b⟩ | ⟨_, a, b⟩
      · omega
      · exact a
      · omega
    refine req_i ?_ ?_
    · -- r11
     first | omega | ((try simp only [Nat.mul_eq]); first | done | omega | assumption | grind [getD_set, getD_rep, toNat_succ, cntN_yes, cntN_no])
    refine req_i ?_ ?_
    · -- r12
     first | omega | ((try simp only [Nat.zero_add]); first | done | omega | assumption | grind [getD_set, getD_rep, toNat_succ, cntN_yes, cntN_no])
    refine req_i ?_ ?_
    · -- r13
     first | omega | ((try simp only [List.take_nil, List.take_zero, List.length_take, List.take_length, List.take_take, Nat.min_self, List.drop_nil, List.length_drop, List.drop_zero, List.length_cons, List.length_nil]); first | done | omega | assumption | grind [getD_set, getD_rep, toNat_succ, cntN_yes, cntN_no])
    refine req_i ?_ ?_
    · -- r14
     first | assumption | exact rep_bd (by omega) (by omega) | exact set_bd (by assumption) (by omega) (by omega) | exact take_bd (by assumption) | ((try simp only [List.take_nil, List.take_zero, List.length_take, List.take_length, List.take_take, Nat.min_self, List.drop_nil, List.length_drop, List.drop_zero, List.length_cons, List.length_nil]); first | assumption | exact rep_bd (by omega) (by omega) | exact set_bd (by assumption) (by omega) (by omega) | exact take_bd (by assumption) | grind [getD_set, getD_rep, toNat_succ, cntN_yes, cntN_no])
    refine req_i ?_ ?_
    · -- r15
     first | omega | ((try simp only [List.take_nil, List.take_zero, List.length_take, List.take_length, List.take_take, Nat.min_self, List.drop_nil, List.length_drop, List.drop_zero, List.length_cons, List.length_nil]); first | done | omega | assumption | grind [getD_set, getD_rep, toNat_succ, cntN_yes, cntN_no])
    refine req_i ?_ ?_
    · -- r16
     first | assumption | exact rep_bd (by omega) (by omega) | exact set_bd (by assumption) (by omega) (by omega) | exact take_bd (by assumption) | ((try simp only [List.take_nil, List.take_zero, List.length_take, List.take_length, List.take_take, Nat.min_self, List.drop_nil, List.length_drop, List.drop_zero, List.length_cons, List.length_nil]); first | assumption | exact rep_bd (by omega) (by omega) | exact set_bd (by assumption) (by omega) (by omega) | exact take_bd (by assumption) | grind [getD_set, getD_rep, toNat_succ, cntN_yes, cntN_no])
    refine req_i ?_ ?_
    · -- r17
     (try simp only [grL, grInv, grRL, grRInv, List.drop_zero, List.take_length, tkl1, Nat.add_eq, Nat.zero_add]); exact ⟨by omega, by omega, by omega, .inl ⟨by trivial, by trivial⟩⟩
    refine all_i fun n3 => ?_
    refine imp_i fun h10 => ?_
    refine imp_i fun h11 => ?_
    refine all_i fun n4 => ?_
    refine imp_i fun h12 => ?_
    refine imp_i fun h13 => ?_
    refine imp_i fun h14 => ?_
    try simp only [Int.toNat_natCast, List.length_set, List.length_replicate, List.length_take, List.length_drop, List.length_append, List.length_cons, List.length_nil, Nat.min_self, List.take_take, lenCols_i, lenCols_b, List.drop_zero, List.take_length, List.take_nil, List.drop_nil, List.take_zero, List.nil_append, Nat.add_eq, Nat.mul_eq, Nat.sub_eq, Nat.zero_add, Nat.add_zero, Nat.sub_zero, Nat.mul_one] at h14
    obtain ⟨i1, i2, i3, i4⟩ : 0 ≤ n3 ∧ n3 ≤ (l0.length : Int) ∧ l0.length = l1.length ∧ ((n3 = 0 ∧ n4 = 0) ∨ (1 ≤ n3 ∧ isBest l0 l1 n3 n4)) := by
      (try simp only [List.drop_zero, List.take_length, tkl1] at h14); exact h14
    have i5 : n4 < (l0.length : Int) := by
      rcases i4 with ⟨a, b⟩ | ⟨a, b⟩
      · omega
      · have := b.2.1; omega
    refine bR_dec (fun h15 => ?_) (fun h15 => ?_)
    ·
     have z3 := ok n3.toNat (by omega)
     unfold inS at z3
     have z4 := ok n4.toNat (by omega)
     unfold inS at z4
     refine req_i ?_ ?_
     · -- r18
      first | omega | ((try simp only [Int.toNat_natCast, List.length_cons, List.length_nil]); first | done | omega | assumption | grind [getD_set, getD_rep, toNat_succ, cntN_yes, cntN_no])
     refine req_i ?_ ?_
     · -- r19
      first | omega | ((try simp only [Int.toNat_natCast, List.length_cons, List.length_nil, Nat.add_eq, Nat.zero_add, Nat.add_zero]); first | done | omega | assumption | grind [getD_set, getD_rep, toNat_succ, cntN_yes, cntN_no])
     refine req_i ?_ ?_
     · -- r20
      first | omega | ((try simp only [Int.toNat_natCast, List.length_cons, List.length_nil, Nat.add_eq, Nat.zero_add, Nat.add_zero]); first | done | omega | assumption | grind [getD_set, getD_rep, toNat_succ, cntN_yes, cntN_no])
     refine req_i ?_ ?_
     · -- r21
      first | omega | assumption | grind
     refine req_i ?_ ?_
     · -- r22
      first | omega | assumption | grind
     refine req_i ?_ ?_
     · -- r23
      first | omega | assumption | grind
     refine req_i ?_ ?_
     · -- r24
      first | omega | assumption | grind
     refine req_i ?_ ?_
     · -- r25
      first | omega | ((try simp only [sigPw, pwPost, List.cons.injEq, DV.b.injEq, and_true, Int.toNat_natCast, List.length_cons, List.length_nil, Nat.add_eq, Nat.zero_add, Nat.add_zero]); first | done | omega | assumption | grind [getD_set, getD_rep, toNat_succ, cntN_yes, cntN_no])
     refine all_i fun n5 => ?_
     refine imp_i fun h16 => ?_
     refine imp_i fun h17 => ?_
     refine imp_i fun h18 => ?_
     try simp only [sigPw, pwPost, List.cons.injEq, DV.b.injEq, and_true, Int.toNat_natCast, List.length_cons, List.length_nil, Nat.add_eq, Nat.zero_add, Nat.add_zero] at h18
     have eh18 : n5 = pw (l0.getD n3.toNat 0) (l1.getD n3.toNat 0) := by
       (try simp only [Nat.add_eq, Nat.zero_add] at h18); exact h18
     refine req_i ?_ ?_
     · -- r26
      first | omega | ((try simp only [Int.toNat_natCast, List.length_cons, List.length_nil]); first | done | omega | assumption | grind [getD_set, getD_rep, toNat_succ, cntN_yes, cntN_no])
     refine req_i ?_ ?_
     · -- r27
      first | omega | ((try simp only [Int.toNat_natCast, List.length_cons, List.length_nil, Nat.add_eq, Nat.zero_add, Nat.add_zero]); first | done | omega | assumption | grind [getD_set, getD_rep, toNat_succ, cntN_yes, cntN_no])
     refine req_i ?_ ?_
     · -- r28
      first | omega | ((try simp only [Int.toNat_natCast, List.length_cons, List.length_nil, Nat.add_eq, Nat.zero_add, Nat.add_zero]); first | done | omega | assumption | grind [getD_set, getD_rep, toNat_succ, cntN_yes, cntN_no])
     refine req_i ?_ ?_
     · -- r29
      first | omega | assumption | grind
     refine req_i ?_ ?_
     · -- r30
      first | omega | assumption | grind
     refine req_i ?_ ?_
     · -- r31
      first | omega | assumption | grind
     refine req_i ?_ ?_
     · -- r32
      first | omega | assumption | grind
     refine req_i ?_ ?_
     · -- r33
      first | omega | ((try simp only [sigPw, pwPost, List.cons.injEq, DV.b.injEq, and_true, Int.toNat_natCast, List.length_cons, List.length_nil, Nat.add_eq, Nat.zero_add, Nat.add_zero]); first | done | omega | assumption | grind [getD_set, getD_rep, toNat_succ, cntN_yes, cntN_no])
     refine all_i fun n6 => ?_
     refine imp_i fun h19 => ?_
     refine imp_i fun h20 => ?_
     refine imp_i fun h21 => ?_
     try simp only [sigPw, pwPost, List.cons.injEq, DV.b.injEq, and_true, Int.toNat_natCast, List.length_cons, List.length_nil, Nat.add_eq, Nat.zero_add, Nat.add_zero] at h21
     have eh21 : n6 = pw (l0.getD n4.toNat 0) (l1.getD n4.toNat 0) := by
       (try simp only [Nat.add_eq, Nat.zero_add] at h21); exact h21
     refine bR_dec (fun h22 => ?_) (fun h22 => ?_)
     ·
      have nb : isBest l0 l1 (n3 + 1) n3 := by
        rcases i4 with ⟨a, b⟩ | ⟨a, b⟩
        · exfalso; rw [eh18, eh21, a, b] at h22; exact absurd h22 (Int.lt_irrefl _)
        · exact best_new b (by omega) (by rw [← eh21, ← eh18]; exact h22)
      refine bR_t ?_ ?_
      · -- g0
       first | rfl | (simp only [bR_iff, bR_iff_f, dec_iff, dec_f, beqB_iff', andB_iff', reduceCtorEq, imp_self, false_implies, and_true, true_and, implies_true, and_self]; done) | (simp [bR_iff, dec_iff, beqB_iff', andB_iff']; done) | (simp [bR_iff, dec_iff, beqB_iff', andB_iff']; omega)
      refine req_i ?_ ?_
      · -- r34
       first | omega | assumption | grind
      refine req_i ?_ ?_
      · -- r35
       first | omega | assumption | grind
      refine req_i ?_ ?_
      · -- r36
       first | omega | assumption | grind
      refine req_i ?_ ?_
      · -- r37
       first | omega | assumption | grind
      refine req_i ?_ ?_
      · -- r38
       (try simp only [grL, grInv, grRL, grRInv, List.drop_zero, List.take_length, tkl1, Nat.add_eq, Nat.zero_add]); exact ⟨by omega, by omega, by omega, .inr ⟨by omega, nb⟩⟩
      refine req_i ?_ ?_
      · -- r39
       first | omega | ((try simp only [grRL, grRInv, mea14, List.cons.injEq, DV.b.injEq, and_true, List.take_nil, List.take_zero, List.length_take, List.take_length, List.take_take, Nat.min_self, List.drop_nil, List.length_drop, List.drop_zero, List.length_cons, List.length_nil]); first | done | omega | assumption | grind [getD_set, getD_rep, toNat_succ, cntN_yes, cntN_no])
      rfl
     ·
      have nb : isBest l0 l1 (n3 + 1) n4 := by
        rcases i4 with ⟨a, b⟩ | ⟨a, b⟩
        · rw [a, b]; exact best_one
        · exact best_old b (by omega) (by rw [← eh21, ← eh18]; exact h22)
      refine bR_t ?_ ?_
      · -- g1
       first | rfl | (simp only [bR_iff, bR_iff_f, dec_iff, dec_f, beqB_iff', andB_iff', reduceCtorEq, imp_self, false_implies, and_true, true_and, implies_true, and_self]; done) | (simp [bR_iff, dec_iff, beqB_iff', andB_iff']; done) | (simp [bR_iff, dec_iff, beqB_iff', andB_iff']; omega)
      refine req_i ?_ ?_
      · -- r40
       first | omega | assumption | grind
      refine req_i ?_ ?_
      · -- r41
       first | omega | assumption | grind
      refine req_i ?_ ?_
      · -- r42
       first | omega | assumption | grind
      refine req_i ?_ ?_
      · -- r43
       first | omega | assumption | grind
      refine req_i ?_ ?_
      · -- r44
       (try simp only [grL, grInv, grRL, grRInv, List.drop_zero, List.take_length, tkl1, Nat.add_eq, Nat.zero_add]); exact ⟨by omega, by omega, by omega, .inr ⟨by omega, nb⟩⟩
      refine req_i ?_ ?_
      · -- r45
       first | omega | ((try simp only [grRL, grRInv, mea14, List.cons.injEq, DV.b.injEq, and_true, List.take_nil, List.take_zero, List.length_take, List.take_length, List.take_take, Nat.min_self, List.drop_nil, List.length_drop, List.drop_zero, List.length_cons, List.length_nil]); first | done | omega | assumption | grind [getD_set, getD_rep, toNat_succ, cntN_yes, cntN_no])
      rfl
    ·
     have z4 := ok n4.toNat (by omega)
     unfold inS at z4
     refine req_i ?_ ?_
     · -- r46
      first | omega | ((try simp only [Int.toNat_natCast, List.length_cons, List.length_nil]); first | done | omega | assumption | grind [getD_set, getD_rep, toNat_succ, cntN_yes, cntN_no])
     refine req_i ?_ ?_
     · -- r47
      first | omega | ((try simp only [Int.toNat_natCast, List.length_cons, List.length_nil, Nat.add_eq, Nat.zero_add, Nat.add_zero]); first | done | omega | assumption | grind [getD_set, getD_rep, toNat_succ, cntN_yes, cntN_no])
     refine req_i ?_ ?_
     · -- r48
      first | omega | ((try simp only [Int.toNat_natCast, List.length_cons, List.length_nil, Nat.add_eq, Nat.zero_add, Nat.add_zero]); first | done | omega | assumption | grind [getD_set, getD_rep, toNat_succ, cntN_yes, cntN_no])
     refine req_i ?_ ?_
     · -- r49
      first | omega | assumption | grind
     refine req_i ?_ ?_
     · -- r50
      first | omega | assumption | grind
     refine req_i ?_ ?_
     · -- r51
      first | omega | assumption | grind
     refine req_i ?_ ?_
     · -- r52
      first | omega | assumption | grind
     refine req_i ?_ ?_
     · -- r53
      first | omega | ((try simp only [sigPw, pwPost, List.cons.injEq, DV.b.injEq, and_true, Int.toNat_natCast, List.length_cons, List.length_nil, Nat.add_eq, Nat.zero_add, Nat.add_zero]); first | done | omega | assumption | grind [getD_set, getD_rep, toNat_succ, cntN_yes, cntN_no])
     refine all_i fun n7 => ?_
     refine imp_i fun h23 => ?_
     refine imp_i fun h24 => ?_
     refine imp_i fun h25 => ?_
     try simp only [sigPw, pwPost, List.cons.injEq, DV.b.injEq, and_true, Int.toNat_natCast, List.length_cons, List.length_nil, Nat.add_eq, Nat.zero_add, Nat.add_zero] at h25
     have eh25 : n7 = pw (l0.getD n4.toNat 0) (l1.getD n4.toNat 0) := by
       (try simp only [Nat.add_eq, Nat.zero_add] at h25); exact h25
     refine req_i ?_ ?_
     · -- r54
      first | omega | assumption | grind
     refine req_i ?_ ?_
     · -- r55
      first | omega | assumption | grind
     refine req_i ?_ ?_
     · -- r56
      first | omega | assumption | grind
     refine req_i ?_ ?_
     · -- r57
      first | omega | assumption | grind
     refine req_i ?_ ?_
     · -- r58
      rcases i4 with ⟨a, _⟩ | ⟨a, b⟩
      · omega
      · exact .inr (.inl ⟨by omega, ok, by rw [show (l0.length : Int) = n3 by omega]; exact b, eh25, rfl⟩)
     rfl
theorem ext_bestR : ∀ p ∈ ([(48, Ext.ctr (ctOfG gl11 sigSm)), (50, Ext.ctr (ctOfG gl11 sigPw))] : List (Nat × Ext)), ExtRow Tryd.prog p.1 p.2 := by
  intro p hp
  simp only [List.mem_cons, List.not_mem_nil, or_false] at hp
  rcases hp with rfl | rfl
  · trivial
  · trivial
theorem cts_bestR : CtsOk Tryd.prog [(48, Ext.ctr (ctOfG gl11 sigSm)), (50, Ext.ctr (ctOfG gl11 sigPw))] := ctsOk_ofG (cs := [(48, sigSm), (50, sigPw)])
  (fun p hp => by
    simp only [List.mem_cons, List.not_mem_nil, or_false] at hp
    rcases hp with rfl | rfl
    · exact fn_sm
    · exact fn_pwR
)
  (fun f c h => by
    simp only [List.lookup_cons] at h
    repeat' split at h
    all_goals first | (cases h; done) | (rename_i e; have e := beq_iff_eq.1 e; subst e; cases h; refine ⟨_, ?_, rfl⟩; simp))
theorem fn_bestR : FnOk Tryd.prog 26 sigBst gl11 := fn_sound (by kernel_rfl) ext_bestR cts_bestR names vt_bestR
end Go.Proofs.YtiadfbpbeaeflaaDoor

namespace Go.Proofs.YtiadfbpbeaeflaaDoor
open Go.Ev Go.Sp
set_option maxRecDepth 100000
theorem vc_equ : vcFn Tryd.prog [] (fun f p _ => at2 f p 18 58 equL (none)) gl11 100 18 sigEqu = (allB fun l0 : List Int => 
impB (l0.length ≤ (64 : Nat)) (
impB (∀ (y : Int), y ∈ l0 → (-9223372036854775808 : Int) ≤ y ∧ y ≤ (9223372036854775807 : Int)) (
allB fun l1 : List Int => 
impB (l1.length ≤ (64 : Nat)) (
impB (∀ (y : Int), y ∈ l1 → (-9223372036854775808 : Int) ≤ y ∧ y ≤ (9223372036854775807 : Int)) (
impB (sigEqu.pre [DV.l l0, DV.l l1]) (
bR (dec ((↑l0.length : Int) ≠ (↑l1.length : Int))) (
 reqB (sigEqu.post [DV.l l0, DV.l l1] [DV.b Bool.false]) (
 true)) (
 reqB (((0 : Nat) + l0.length) * (1 : Nat) ≤ l0.length.mul (1 : Nat)) (
 reqB (l0.length ≤ (64 : Nat)) (
 reqB ((List.take l0.length (List.drop (0 : Nat) l0)).length = l0.length) (
 reqB (∀ (y : Int),
 y ∈ List.take l0.length (List.drop (0 : Nat) l0) → (-9223372036854775808 : Int) ≤ y ∧ y ≤ (9223372036854775807 : Int)) (
 reqB (((0 : Nat) + l1.length) * (1 : Nat) ≤ l1.length.mul (1 : Nat)) (
 reqB (l1.length ≤ (64 : Nat)) (
 reqB ((List.take l1.length (List.drop (0 : Nat) l1)).length = l1.length) (
 reqB (∀ (y : Int),
 y ∈ List.take l1.length (List.drop (0 : Nat) l1) → (-9223372036854775808 : Int) ≤ y ∧ y ≤ (9223372036854775807 : Int)) (
 reqB (equL.inv
 [DV.l (List.take l0.length (List.drop (0 : Nat) l0)), DV.l (List.take l1.length (List.drop (0 : Nat) l1))]
 [DV.n (0 : Int)]) (
 allB fun n2 : Int => 
 impB ((0 : Int) ≤ n2) (
 impB (n2 ≤ (64 : Int)) (
 impB (equL.inv
 [DV.l (List.take l0.length (List.drop (0 : Nat) l0)), DV.l (List.take l1.length (List.drop (0 : Nat) l1))]
 [DV.n n2]) (
 bR (dec (n2 < (↑l0.length : Int))) (
 reqB (n2.toNat < l0.length) (
 reqB (Nat.add (0 : Nat) n2.toNat < l0.length) (
 reqB (n2.toNat < l1.length) (
 reqB (Nat.add (0 : Nat) n2.toNat < l1.length) (
 bR (dec (l0.getD (Nat.add (0 : Nat) n2.toNat) (0 : Int) ≠ l1.getD (Nat.add (0 : Nat) n2.toNat) (0 : Int))) (
 reqB (sigEqu.post [DV.l l0, DV.l l1] [DV.b Bool.false]) (
 true)) (
 bR (bR (bR (dec ((0 : Nat) = (0 : Nat))) (
 dec (l0.length = l0.length)) (
 false)) (
 bR (bR (dec ((0 : Nat) = (0 : Nat))) (
 dec (l1.length = l1.length)) (
 false)) (
 true) (
 false)) (
 false)) (
 reqB ((0 : Int) ≤ n2 + (1 : Int)) (
 reqB (n2 + (1 : Int) ≤ (64 : Int)) (
 reqB (equL.inv
 [DV.l (List.take l0.length (List.drop (0 : Nat) l0)), DV.l (List.take l1.length (List.drop (0 : Nat) l1))]
 [DV.n (n2 + (1 : Int))]) (
 reqB (equL.mea
 [DV.l (List.take l0.length (List.drop (0 : Nat) l0)),
 DV.l (List.take l1.length (List.drop (0 : Nat) l1))]
 [DV.n (n2 + (1 : Int))] <
 equL.mea
 [DV.l (List.take l0.length (List.drop (0 : Nat) l0)),
 DV.l (List.take l1.length (List.drop (0 : Nat) l1))]
 [DV.n n2]) (
 true))))) (
 false))))))) (
 reqB (sigEqu.post [DV.l l0, DV.l l1] [DV.b Bool.true]) (
 true))))))))))))))))))))) := by kernel_rfl
set_option maxHeartbeats 8000000 in
theorem vt_equ : vcFn Tryd.prog [] (fun f p _ => at2 f p 18 58 equL (none)) gl11 100 18 sigEqu = true := by
  rw [vc_equ]
  try simp only [Int.toNat_natCast, List.length_set, List.length_replicate, List.length_take, List.length_drop, List.length_append, List.length_cons, List.length_nil, Nat.min_self, List.take_take, lenCols_i, lenCols_b, List.drop_zero, List.take_length, List.take_nil, List.drop_nil, List.take_zero, List.nil_append, Nat.add_eq, Nat.mul_eq, Nat.sub_eq, Nat.zero_add, Nat.add_zero, Nat.sub_zero, Nat.mul_one]
  refine all_i fun l0 => ?_
  refine imp_i fun h0 => ?_
  refine imp_i fun h1 => ?_
  refine all_i fun l1 => ?_
  refine imp_i fun h2 => ?_
  refine imp_i fun h3 => ?_
  refine imp_i fun h4 => ?_
  try simp only [sigEqu, cM, equP, List.cons.injEq, DV.b.injEq, and_true, List.length_cons, List.length_nil] at h4
  refine bR_dec (fun h5 => ?_) (fun h5 => ?_)
  ·
   refine req_i ?_ ?_
   · -- r0
    first | omega | ((try simp only [sigEqu, cM, equP, List.cons.injEq, DV.b.injEq, and_true, List.length_cons, List.length_nil]); first | done | omega | assumption | grind [getD_set, getD_rep, toNat_succ, cntN_yes, cntN_no])
   rfl
  ·
   refine req_i ?_ ?_
   · -- r1
    first | omega | ((try simp only [Nat.mul_eq]); first | done | omega | assumption | grind [getD_set, getD_rep, toNat_succ, cntN_yes, cntN_no])
   refine req_i ?_ ?_
   · -- r2
    first | omega | ((try simp only [Nat.zero_add]); first | done | omega | assumption | grind [getD_set, getD_rep, toNat_succ, cntN_yes, cntN_no])
   refine req_i ?_ ?_
   · -- r3
    first | omega | ((try simp only [List.take_nil, List.take_zero, List.length_take, List.take_length, List.take_take, Nat.min_self, List.drop_nil, List.length_drop, List.drop_zero, List.length_cons, List.length_nil]); first | done | omega | assumption | grind [getD_set, getD_rep, toNat_succ, cntN_yes, cntN_no])
   refine req_i ?_ ?_
   · -- r4
    first | assumption | exact rep_bd (by omega) (by omega) | exact set_bd (by assumption) (by omega) (by omega) | exact take_bd (by assumption) | ((try simp only [List.take_nil, List.take_zero, List.length_take, List.take_length, List.take_take, Nat.min_self, List.drop_nil, List.length_drop, List.drop_zero, List.length_cons, List.length_nil]); first | assumption | exact rep_bd (by omega) (by omega) | exact set_bd (by assumption) (by omega) (by omega) | exact take_bd (by assumption) | grind [getD_set, getD_rep, toNat_succ, cntN_yes, cntN_no])
   refine req_i ?_ ?_
   · -- r5
    first | omega | ((try simp only [Nat.mul_eq]); first | done | omega | assumption | grind [getD_set, getD_rep, toNat_succ, cntN_yes, cntN_no])
   refine req_i ?_ ?_
   · -- r6
    first | omega | ((try simp only [Nat.zero_add]); first | done | omega | assumption | grind [getD_set, getD_rep, toNat_succ, cntN_yes, cntN_no])
   refine req_i ?_ ?_
   · -- r7
    first | omega | ((try simp only [List.take_nil, List.take_zero, List.length_take, List.take_length, List.take_take, Nat.min_self, List.drop_nil, List.length_drop, List.drop_zero, List.length_cons, List.length_nil]); first | done | omega | assumption | grind [getD_set, getD_rep, toNat_succ, cntN_yes, cntN_no])
   refine req_i ?_ ?_
   · -- r8
    first | assumption | exact rep_bd (by omega) (by omega) | exact set_bd (by assumption) (by omega) (by omega) | exact take_bd (by assumption) | ((try simp only [List.take_nil, List.take_zero, List.length_take, List.take_length, List.take_take, Nat.min_self, List.drop_nil, List.length_drop, List.drop_zero, List.length_cons, List.length_nil]); first | assumption | exact rep_bd (by omega) (by omega) | exact set_bd (by assumption) (by omega) (by omega) | exact take_bd (by assumption) | grind [getD_set, getD_rep, toNat_succ, cntN_yes, cntN_no])
   refine req_i ?_ ?_
   · -- r9
    first | omega | ((try simp only [equL, cM, equInv, mea14, List.cons.injEq, DV.b.injEq, and_true, List.take_nil, List.take_zero, List.length_take, List.take_length, List.take_take, Nat.min_self, List.drop_nil, List.length_drop, List.drop_zero, List.length_cons, List.length_nil]); first | done | omega | assumption | grind [getD_set, getD_rep, toNat_succ, cntN_yes, cntN_no])
   refine all_i fun n2 => ?_
   refine imp_i fun h6 => ?_
   refine imp_i fun h7 => ?_
   refine imp_i fun h8 => ?_
   try simp only [equL, cM, equInv, mea14, List.cons.injEq, DV.b.injEq, and_true, List.take_nil, List.take_zero, List.length_take, List.take_length, List.take_take, Nat.min_self, List.drop_nil, List.length_drop, List.drop_zero, List.length_cons, List.length_nil] at h8
   refine bR_dec (fun h9 => ?_) (fun h9 => ?_)
   ·
    refine req_i ?_ ?_
    · -- r10
     first | omega | ((try simp only [Int.toNat_natCast, List.length_cons, List.length_nil]); first | done | omega | assumption | grind [getD_set, getD_rep, toNat_succ, cntN_yes, cntN_no])
    refine req_i ?_ ?_
    · -- r11
     first | omega | ((try simp only [Int.toNat_natCast, List.length_cons, List.length_nil, Nat.add_eq, Nat.zero_add, Nat.add_zero]); first | done | omega | assumption | grind [getD_set, getD_rep, toNat_succ, cntN_yes, cntN_no])
    refine req_i ?_ ?_
    · -- r12
     first | omega | ((try simp only [Int.toNat_natCast, List.length_cons, List.length_nil]); first | done | omega | assumption | grind [getD_set, getD_rep, toNat_succ, cntN_yes, cntN_no])
    refine req_i ?_ ?_
    · -- r13
     first | omega | ((try simp only [Int.toNat_natCast, List.length_cons, List.length_nil, Nat.add_eq, Nat.zero_add, Nat.add_zero]); first | done | omega | assumption | grind [getD_set, getD_rep, toNat_succ, cntN_yes, cntN_no])
    refine bR_dec (fun h10 => ?_) (fun h10 => ?_)
    ·
     refine req_i ?_ ?_
     · -- r14
      first | omega | ((try simp only [sigEqu, cM, equP, List.cons.injEq, DV.b.injEq, and_true, List.length_cons, List.length_nil]); first | done | omega | assumption | grind [getD_set, getD_rep, toNat_succ, cntN_yes, cntN_no])
     rfl
    ·
     refine bR_t ?_ ?_
     · -- g0
      first | rfl | (simp only [bR_iff, bR_iff_f, dec_iff, dec_f, beqB_iff', andB_iff', reduceCtorEq, imp_self, false_implies, and_true, true_and, implies_true, and_self]; done) | (simp [bR_iff, dec_iff, beqB_iff', andB_iff']; done) | (simp [bR_iff, dec_iff, beqB_iff', andB_iff']; omega)
     refine req_i ?_ ?_
     · -- r15
      first | omega | assumption | grind
     refine req_i ?_ ?_
     · -- r16
      first | omega | assumption | grind
     refine req_i ?_ ?_
     · -- r17
      first | omega | ((try simp only [equL, cM, equInv, mea14, List.cons.injEq, DV.b.injEq, and_true, List.take_nil, List.take_zero, List.length_take, List.take_length, List.take_take, Nat.min_self, List.drop_nil, List.length_drop, List.drop_zero, List.length_cons, List.length_nil]); first | done | omega | assumption | grind [getD_set, getD_rep, toNat_succ, cntN_yes, cntN_no])
     refine req_i ?_ ?_
     · -- r18
      first | omega | ((try simp only [equL, cM, equInv, mea14, List.cons.injEq, DV.b.injEq, and_true, List.take_nil, List.take_zero, List.length_take, List.take_length, List.take_take, Nat.min_self, List.drop_nil, List.length_drop, List.drop_zero, List.length_cons, List.length_nil]); first | done | omega | assumption | grind [getD_set, getD_rep, toNat_succ, cntN_yes, cntN_no])
     rfl
   ·
    have e1 : l0 = l1 := eq_of_getD (d := 0) h8.2.1 fun j hj => h8.2.2.2 j (by omega)
    refine req_i ?_ ?_
    · -- r19
     first | omega | ((try simp only [sigEqu, cM, equP, List.cons.injEq, DV.b.injEq, and_true, List.length_cons, List.length_nil]); first | done | omega | assumption | grind [getD_set, getD_rep, toNat_succ, cntN_yes, cntN_no])
    rfl
theorem ext_equ : ∀ p ∈ ([] : List (Nat × Ext)), ExtRow Tryd.prog p.1 p.2 := by
  intro p hp
  cases hp
theorem cts_equ : CtsOk Tryd.prog [] := fun f c h => by cases h
theorem fn_equ : FnOk Tryd.prog 18 sigEqu gl11 := fn_sound (by kernel_rfl) ext_equ cts_equ names vt_equ
end Go.Proofs.YtiadfbpbeaeflaaDoor

namespace Go.Proofs.YtiadfbpbeaeflaaDoor
open Go.Ev Go.Sp
set_option maxRecDepth 100000
theorem vc_awake : vcFn Tryd.prog [] noA gl11 300 17 sigTrue0 = (impB (sigTrue0.pre []) (
reqB (sigTrue0.post [] [DV.b (eqI (0 : Int) (0 : Int))]) (
true))) := by kernel_rfl
set_option maxHeartbeats 8000000 in
theorem vt_awake : vcFn Tryd.prog [] noA gl11 300 17 sigTrue0 = true := by
  rw [vc_awake]
  try simp only [Int.toNat_natCast, List.length_set, List.length_replicate, List.length_take, List.length_drop, List.length_append, List.length_cons, List.length_nil, Nat.min_self, List.take_take, lenCols_i, lenCols_b, List.drop_zero, List.take_length, List.take_nil, List.drop_nil, List.take_zero, List.nil_append, Nat.add_eq, Nat.mul_eq, Nat.sub_eq, Nat.zero_add, Nat.add_zero, Nat.sub_zero, Nat.mul_one]
  refine imp_i fun h0 => ?_
  try simp only [sigTrue0, List.cons.injEq, DV.b.injEq, and_true, List.length_cons, List.length_nil] at h0
  refine req_i ?_ ?_
  · -- r0
   exact rfl
  rfl
theorem ext_awake : ∀ p ∈ ([] : List (Nat × Ext)), ExtRow Tryd.prog p.1 p.2 := by
  intro p hp
  cases hp
theorem cts_awake : CtsOk Tryd.prog [] := fun f c h => by cases h
theorem fn_awake : FnOk Tryd.prog 17 sigTrue0 gl11 := fn_sound (by kernel_rfl) ext_awake cts_awake names vt_awake
end Go.Proofs.YtiadfbpbeaeflaaDoor

namespace Go.Proofs.YtiadfbpbeaeflaaDoor
open Go.Ev Go.Sp
set_option maxRecDepth 100000
theorem vc_BankSpins : vcFn Tryd.prog [(14, Ext.ctr (ctOfG gl11 sigSpn)), (24, Ext.ctr (ctOfG gl11 sigSpn)), (15, Ext.ctr (ctOfG gl11 sigSt)), (25, Ext.ctr (ctOfG gl11 sigSt)), (16, Ext.ctr (ctOfG gl11 sigBst)), (26, Ext.ctr (ctOfG gl11 sigBst)), (18, Ext.ctr (ctOfG gl11 sigEqu)), (17, Ext.ctr (ctOfG gl11 sigTrue0))] noA gl11 100 5 sigSpins = (allB fun l0 : List Int => 
impB (l0.length ≤ (9223372036854775807 : Nat)) (
impB (∀ (y : Int), y ∈ l0 → (-9223372036854775808 : Int) ≤ y ∧ y ≤ (9223372036854775807 : Int)) (
allB fun l1 : List Int => 
impB (l1.length = l0.length) (
impB (∀ (y : Int), y ∈ l1 → (-9223372036854775808 : Int) ≤ y ∧ y ≤ (9223372036854775807 : Int)) (
allB fun n2 : Int => 
impB ((0 : Int) ≤ n2) (
impB (n2 ≤ (4294967295 : Int)) (
allB fun n3 : Int => 
impB ((-9223372036854775808 : Int) ≤ n3) (
impB (n3 ≤ (9223372036854775807 : Int)) (
impB (sigSpins.pre [DV.l l0, DV.l l1, DV.n n2, DV.n n3]) (
bR (dec ((30 : Int) < (↑l0.length : Int))) (
 reqB (sigTrue0.pre []) (
 allB fun b4 : Bool => 
 impB (sigTrue0.post [] [DV.b b4]) (
 reqB (sigSpins.post [DV.l l0, DV.l l1, DV.n n2, DV.n n3] [DV.b b4]) (
 true)))) (
 reqB (((0 : Nat) + l0.length) * (2 : Nat) ≤ l0.length.mul (2 : Nat)) (
 reqB (l0.length ≤ (30 : Nat)) (
 reqB ((List.take l0.length (List.drop (0 : Nat) l0)).length = l0.length) (
 reqB (∀ (y : Int),
 y ∈ List.take l0.length (List.drop (0 : Nat) l0) → (-9223372036854775808 : Int) ≤ y ∧ y ≤ (9223372036854775807 : Int)) (
 reqB ((List.take l0.length (List.drop (0 : Nat) l1)).length = l0.length) (
 reqB (∀ (y : Int),
 y ∈ List.take l0.length (List.drop (0 : Nat) l1) → (-9223372036854775808 : Int) ≤ y ∧ y ≤ (9223372036854775807 : Int)) (
 reqB ((0 : Int) ≤ n2) (
 reqB (n2 ≤ (4294967295 : Int)) (
 reqB (sigSpn.pre
 [DV.l (List.take l0.length (List.drop (0 : Nat) l0)), DV.l (List.take l0.length (List.drop (0 : Nat) l1)),
 DV.n n2]) (
 allB fun n5 : Int => 
 impB ((-4261412864 : Int) ≤ n5) (
 impB (n5 ≤ (4261412864 : Int)) (
 allB fun n6 : Int => 
 impB ((-4261412864 : Int) ≤ n6) (
 impB (n6 ≤ (4261412864 : Int)) (
 allB fun n7 : Int => 
 impB ((0 : Int) ≤ n7) (
 impB (n7 ≤ (18 : Int)) (
 impB (sigSpn.post
 [DV.l (List.take l0.length (List.drop (0 : Nat) l0)), DV.l (List.take l0.length (List.drop (0 : Nat) l1)),
 DV.n n2]
 [DV.n n5, DV.n n6, DV.n n7]) (
 reqB (((0 : Nat) + l0.length) * (2 : Nat) ≤ l0.length.mul (2 : Nat)) (
 reqB (l0.length ≤ (30 : Nat)) (
 reqB ((List.take l0.length (List.drop (0 : Nat) l0)).length = l0.length) (
 reqB (∀ (y : Int),
 y ∈ List.take l0.length (List.drop (0 : Nat) l0) → (-9223372036854775808 : Int) ≤ y ∧ y ≤ (9223372036854775807 : Int)) (
 reqB ((List.take l0.length (List.drop (0 : Nat) l1)).length = l0.length) (
 reqB (∀ (y : Int),
 y ∈ List.take l0.length (List.drop (0 : Nat) l1) → (-9223372036854775808 : Int) ≤ y ∧ y ≤ (9223372036854775807 : Int)) (
 reqB ((0 : Int) ≤ n2) (
 reqB (n2 ≤ (4294967295 : Int)) (
 reqB (sigSpn.pre
 [DV.l (List.take l0.length (List.drop (0 : Nat) l0)), DV.l (List.take l0.length (List.drop (0 : Nat) l1)),
 DV.n n2]) (
 allB fun n8 : Int => 
 impB ((-4261412864 : Int) ≤ n8) (
 impB (n8 ≤ (4261412864 : Int)) (
 allB fun n9 : Int => 
 impB ((-4261412864 : Int) ≤ n9) (
 impB (n9 ≤ (4261412864 : Int)) (
 allB fun n10 : Int => 
 impB ((0 : Int) ≤ n10) (
 impB (n10 ≤ (18 : Int)) (
 impB (sigSpn.post
 [DV.l (List.take l0.length (List.drop (0 : Nat) l0)), DV.l (List.take l0.length (List.drop (0 : Nat) l1)),
 DV.n n2]
 [DV.n n8, DV.n n9, DV.n n10]) (
 reqB (((0 : Nat) + l0.length) * (2 : Nat) ≤ l0.length.mul (2 : Nat)) (
 reqB (l0.length ≤ (30 : Nat)) (
 reqB ((List.take l0.length (List.drop (0 : Nat) l0)).length = l0.length) (
 reqB (∀ (y : Int),
 y ∈ List.take l0.length (List.drop (0 : Nat) l0) → (-9223372036854775808 : Int) ≤ y ∧ y ≤ (9223372036854775807 : Int)) (
 reqB ((List.take l0.length (List.drop (0 : Nat) l1)).length = l0.length) (
 reqB (∀ (y : Int),
 y ∈ List.take l0.length (List.drop (0 : Nat) l1) → (-9223372036854775808 : Int) ≤ y ∧ y ≤ (9223372036854775807 : Int)) (
 reqB ((-9223372036854775808 : Int) ≤ n3) (
 reqB (n3 ≤ (9223372036854775807 : Int)) (
 reqB (sigSt.pre
 [DV.l (List.take l0.length (List.drop (0 : Nat) l0)), DV.l (List.take l0.length (List.drop (0 : Nat) l1)),
 DV.n n3]) (
 allB fun l11 : List Int => 
 impB (l11.length ≤ (64 : Nat)) (
 impB (∀ (y : Int), y ∈ l11 → (-9223372036854775808 : Int) ≤ y ∧ y ≤ (9223372036854775807 : Int)) (
 allB fun n12 : Int => 
 impB ((0 : Int) ≤ n12) (
 impB (n12 ≤ (18 : Int)) (
 impB (sigSt.post
 [DV.l (List.take l0.length (List.drop (0 : Nat) l0)), DV.l (List.take l0.length (List.drop (0 : Nat) l1)),
 DV.n n3]
 [DV.l l11, DV.n n12]) (
 reqB (((0 : Nat) + l0.length) * (2 : Nat) ≤ l0.length.mul (2 : Nat)) (
 reqB (l0.length ≤ (30 : Nat)) (
 reqB ((List.take l0.length (List.drop (0 : Nat) l0)).length = l0.length) (
 reqB (∀ (y : Int),
 y ∈ List.take l0.length (List.drop (0 : Nat) l0) → (-9223372036854775808 : Int) ≤ y ∧ y ≤ (9223372036854775807 : Int)) (
 reqB ((List.take l0.length (List.drop (0 : Nat) l1)).length = l0.length) (
 reqB (∀ (y : Int),
 y ∈ List.take l0.length (List.drop (0 : Nat) l1) → (-9223372036854775808 : Int) ≤ y ∧ y ≤ (9223372036854775807 : Int)) (
 reqB ((-9223372036854775808 : Int) ≤ n3) (
 reqB (n3 ≤ (9223372036854775807 : Int)) (
 reqB (sigSt.pre
 [DV.l (List.take l0.length (List.drop (0 : Nat) l0)), DV.l (List.take l0.length (List.drop (0 : Nat) l1)),
 DV.n n3]) (
 allB fun l13 : List Int => 
 impB (l13.length ≤ (64 : Nat)) (
 impB (∀ (y : Int), y ∈ l13 → (-9223372036854775808 : Int) ≤ y ∧ y ≤ (9223372036854775807 : Int)) (
 allB fun n14 : Int => 
 impB ((0 : Int) ≤ n14) (
 impB (n14 ≤ (18 : Int)) (
 impB (sigSt.post
 [DV.l (List.take l0.length (List.drop (0 : Nat) l0)), DV.l (List.take l0.length (List.drop (0 : Nat) l1)),
 DV.n n3]
 [DV.l l13, DV.n n14]) (
 reqB (((0 : Nat) + l0.length) * (2 : Nat) ≤ l0.length.mul (2 : Nat)) (
 reqB (l0.length ≤ (30 : Nat)) (
 reqB ((List.take l0.length (List.drop (0 : Nat) l0)).length = l0.length) (
 reqB (∀ (y : Int),
 y ∈ List.take l0.length (List.drop (0 : Nat) l0) → (-9223372036854775808 : Int) ≤ y ∧ y ≤ (9223372036854775807 : Int)) (
 reqB ((List.take l0.length (List.drop (0 : Nat) l1)).length = l0.length) (
 reqB (∀ (y : Int),
 y ∈ List.take l0.length (List.drop (0 : Nat) l1) → (-9223372036854775808 : Int) ≤ y ∧ y ≤ (9223372036854775807 : Int)) (
 reqB (sigBst.pre
 [DV.l (List.take l0.length (List.drop (0 : Nat) l0)), DV.l (List.take l0.length (List.drop (0 : Nat) l1))]) (
 allB fun n15 : Int => 
 impB ((0 : Int) ≤ n15) (
 impB (n15 ≤ (30 : Int)) (
 allB fun n16 : Int => 
 impB ((-9223372036854775808 : Int) ≤ n16) (
 impB (n16 ≤ (9223372036854775807 : Int)) (
 allB fun n17 : Int => 
 impB ((0 : Int) ≤ n17) (
 impB (n17 ≤ (18 : Int)) (
 impB (sigBst.post
 [DV.l (List.take l0.length (List.drop (0 : Nat) l0)), DV.l (List.take l0.length (List.drop (0 : Nat) l1))]
 [DV.n n15, DV.n n16, DV.n n17]) (
 reqB (((0 : Nat) + l0.length) * (2 : Nat) ≤ l0.length.mul (2 : Nat)) (
 reqB (l0.length ≤ (30 : Nat)) (
 reqB ((List.take l0.length (List.drop (0 : Nat) l0)).length = l0.length) (
 reqB (∀ (y : Int),
 y ∈ List.take l0.length (List.drop (0 : Nat) l0) → (-9223372036854775808 : Int) ≤ y ∧ y ≤ (9223372036854775807 : Int)) (
 reqB ((List.take l0.length (List.drop (0 : Nat) l1)).length = l0.length) (
 reqB (∀ (y : Int),
 y ∈ List.take l0.length (List.drop (0 : Nat) l1) → (-9223372036854775808 : Int) ≤ y ∧ y ≤ (9223372036854775807 : Int)) (
 reqB (sigBst.pre
 [DV.l (List.take l0.length (List.drop (0 : Nat) l0)), DV.l (List.take l0.length (List.drop (0 : Nat) l1))]) (
 allB fun n18 : Int => 
 impB ((0 : Int) ≤ n18) (
 impB (n18 ≤ (30 : Int)) (
 allB fun n19 : Int => 
 impB ((-9223372036854775808 : Int) ≤ n19) (
 impB (n19 ≤ (9223372036854775807 : Int)) (
 allB fun n20 : Int => 
 impB ((0 : Int) ≤ n20) (
 impB (n20 ≤ (18 : Int)) (
 impB (sigBst.post
 [DV.l (List.take l0.length (List.drop (0 : Nat) l0)), DV.l (List.take l0.length (List.drop (0 : Nat) l1))]
 [DV.n n18, DV.n n19, DV.n n20]) (
 bR (bR (dec (n5 = n8)) (
 bR (dec (n6 = n9)) (
 true) (
 false)) (
 false)) (
 bR (dec (n7 = n10)) (
 reqB (((0 : Nat) + l11.length) * (1 : Nat) ≤ l11.length.mul (1 : Nat)) (
 reqB (l11.length ≤ (64 : Nat)) (
 reqB ((List.take l11.length (List.drop (0 : Nat) l11)).length = l11.length) (
 reqB (∀ (y : Int),
 y ∈ List.take l11.length (List.drop (0 : Nat) l11) →
 (-9223372036854775808 : Int) ≤ y ∧ y ≤ (9223372036854775807 : Int)) (
 reqB (((0 : Nat) + l13.length) * (1 : Nat) ≤ l13.length.mul (1 : Nat)) (
 reqB (l13.length ≤ (64 : Nat)) (
 reqB ((List.take l13.length (List.drop (0 : Nat) l13)).length = l13.length) (
 reqB (∀ (y : Int),
 y ∈ List.take l13.length (List.drop (0 : Nat) l13) →
 (-9223372036854775808 : Int) ≤ y ∧ y ≤ (9223372036854775807 : Int)) (
 reqB (sigEqu.pre
 [DV.l (List.take l11.length (List.drop (0 : Nat) l11)),
 DV.l (List.take l13.length (List.drop (0 : Nat) l13))]) (
 allB fun b21 : Bool => 
 impB (sigEqu.post
 [DV.l (List.take l11.length (List.drop (0 : Nat) l11)),
 DV.l (List.take l13.length (List.drop (0 : Nat) l13))]
 [DV.b b21]) (
 bR (b21) (
 bR (dec (n12 = n14)) (
 bR (dec (n15 = n18)) (
 bR (dec (n16 = n19)) (
 bR (dec (n17 = n20)) (
 reqB (sigTrue0.pre []) (
 allB fun b22 : Bool => 
 impB (sigTrue0.post [] [DV.b b22]) (
 reqB (sigSpins.post [DV.l l0, DV.l l1, DV.n n2, DV.n n3] [DV.b b22]) (
 true)))) (
 reqB (sigSpins.post [DV.l l0, DV.l l1, DV.n n2, DV.n n3] [DV.b Bool.false]) (
 true))) (
 reqB (sigSpins.post [DV.l l0, DV.l l1, DV.n n2, DV.n n3] [DV.b Bool.false]) (
 true))) (
 reqB (sigSpins.post [DV.l l0, DV.l l1, DV.n n2, DV.n n3] [DV.b Bool.false]) (
 true))) (
 reqB (sigSpins.post [DV.l l0, DV.l l1, DV.n n2, DV.n n3] [DV.b Bool.false]) (
 true))) (
 reqB (sigSpins.post [DV.l l0, DV.l l1, DV.n n2, DV.n n3] [DV.b Bool.false]) (
 true))))))))))))) (
 reqB (sigSpins.post [DV.l l0, DV.l l1, DV.n n2, DV.n n3] [DV.b Bool.false]) (
 true))) (
 reqB (sigSpins.post [DV.l l0, DV.l l1, DV.n n2, DV.n n3] [DV.b Bool.false]) (
 true))))))))))))))))))))))))))))))))))))))))))))))))))))))))))))))))))))))))))))))))))))))))))))))))))))) := by kernel_rfl
set_option maxHeartbeats 8000000 in
theorem vt_BankSpins : vcFn Tryd.prog [(14, Ext.ctr (ctOfG gl11 sigSpn)), (24, Ext.ctr (ctOfG gl11 sigSpn)), (15, Ext.ctr (ctOfG gl11 sigSt)), (25, Ext.ctr (ctOfG gl11 sigSt)), (16, Ext.ctr (ctOfG gl11 sigBst)), (26, Ext.ctr (ctOfG gl11 sigBst)), (18, Ext.ctr (ctOfG gl11 sigEqu)), (17, Ext.ctr (ctOfG gl11 sigTrue0))] noA gl11 100 5 sigSpins = true := by
  rw [vc_BankSpins]
  try simp only [Int.toNat_natCast, List.length_set, List.length_replicate, List.length_take, List.length_drop, List.length_append, List.length_cons, List.length_nil, Nat.min_self, List.take_take, lenCols_i, lenCols_b, List.drop_zero, List.take_length, List.take_nil, List.drop_nil, List.take_zero, List.nil_append, Nat.add_eq, Nat.mul_eq, Nat.sub_eq, Nat.zero_add, Nat.add_zero, Nat.sub_zero, Nat.mul_one]
  refine all_i fun l0 => ?_
  refine imp_i fun h0 => ?_
  refine imp_i fun h1 => ?_
  refine all_i fun l1 => ?_
  refine imp_i fun h2 => ?_
  have tkl1 := take_eq h2
  try simp only [tkl1]
  refine imp_i fun h3 => ?_
  refine all_i fun n2 => ?_
  refine imp_i fun h4 => ?_
  refine imp_i fun h5 => ?_
  refine all_i fun n3 => ?_
  refine imp_i fun h6 => ?_
  refine imp_i fun h7 => ?_
  refine imp_i fun h8 => ?_
  try simp only [sigSpins, u32, List.cons.injEq, DV.b.injEq, and_true, List.length_cons, List.length_nil] at h8
  refine bR_dec (fun h9 => ?_) (fun h9 => ?_)
  ·
   refine req_i ?_ ?_
   · -- r0
    first | omega | assumption | grind
   refine all_i fun b4 => ?_
   refine imp_i fun h10 => ?_
   try simp only [sigTrue0, List.cons.injEq, DV.b.injEq, and_true, List.length_cons, List.length_nil] at h10
   refine req_i ?_ ?_
   · -- r1
    first | omega | ((try simp only [sigSpins, u32, List.cons.injEq, DV.b.injEq, and_true, List.length_cons, List.length_nil]); first | done | omega | assumption | grind [getD_set, getD_rep, toNat_succ, cntN_yes, cntN_no])
   rfl
  ·
   refine req_i ?_ ?_
   · -- r2
    first | omega | ((try simp only [Nat.mul_eq]); first | done | omega | assumption | grind [getD_set, getD_rep, toNat_succ, cntN_yes, cntN_no])
   refine req_i ?_ ?_
   · -- r3
    first | omega | ((try simp only [Nat.zero_add]); first | done | omega | assumption | grind [getD_set, getD_rep, toNat_succ, cntN_yes, cntN_no])
   refine req_i ?_ ?_
   · -- r4
    first | omega | ((try simp only [List.take_nil, List.take_zero, List.length_take, List.take_length, List.take_take, Nat.min_self, List.drop_nil, List.length_drop, List.drop_zero, List.length_cons, List.length_nil]); first | done | omega | assumption | grind [getD_set, getD_rep, toNat_succ, cntN_yes, cntN_no])
   refine req_i ?_ ?_
   · -- r5
    first | assumption | exact rep_bd (by omega) (by omega) | exact set_bd (by assumption) (by omega) (by omega) | exact take_bd (by assumption) | ((try simp only [List.take_nil, List.take_zero, List.length_take, List.take_length, List.take_take, Nat.min_self, List.drop_nil, List.length_drop, List.drop_zero, List.length_cons, List.length_nil]); first | assumption | exact rep_bd (by omega) (by omega) | exact set_bd (by assumption) (by omega) (by omega) | exact take_bd (by assumption) | grind [getD_set, getD_rep, toNat_succ, cntN_yes, cntN_no])
   refine req_i ?_ ?_
   · -- r6
    first | omega | ((try simp only [List.take_nil, List.take_zero, List.length_take, List.take_length, List.take_take, Nat.min_self, List.drop_nil, List.length_drop, List.drop_zero, List.length_cons, List.length_nil]); first | done | omega | assumption | grind [getD_set, getD_rep, toNat_succ, cntN_yes, cntN_no])
   refine req_i ?_ ?_
   · -- r7
    first | assumption | exact rep_bd (by omega) (by omega) | exact set_bd (by assumption) (by omega) (by omega) | exact take_bd (by assumption) | ((try simp only [List.take_nil, List.take_zero, List.length_take, List.take_length, List.take_take, Nat.min_self, List.drop_nil, List.length_drop, List.drop_zero, List.length_cons, List.length_nil]); first | assumption | exact rep_bd (by omega) (by omega) | exact set_bd (by assumption) (by omega) (by omega) | exact take_bd (by assumption) | grind [getD_set, getD_rep, toNat_succ, cntN_yes, cntN_no])
   refine req_i ?_ ?_
   · -- r8
    first | omega | assumption | grind
   refine req_i ?_ ?_
   · -- r9
    first | omega | assumption | grind
   refine req_i ?_ ?_
   · -- r10
    first | omega | ((try simp only [sigSpn, smpS, u32, bSp, spnPost, List.cons.injEq, DV.b.injEq, and_true, List.take_nil, List.take_zero, List.length_take, List.take_length, List.take_take, Nat.min_self, List.drop_nil, List.length_drop, List.drop_zero, List.length_cons, List.length_nil]); first | done | omega | assumption | grind [getD_set, getD_rep, toNat_succ, cntN_yes, cntN_no])
   refine all_i fun n5 => ?_
   refine imp_i fun h11 => ?_
   refine imp_i fun h12 => ?_
   refine all_i fun n6 => ?_
   refine imp_i fun h13 => ?_
   refine imp_i fun h14 => ?_
   refine all_i fun n7 => ?_
   refine imp_i fun h15 => ?_
   refine imp_i fun h16 => ?_
   refine imp_i fun h17 => ?_
   try simp only [Int.toNat_natCast, List.length_set, List.length_replicate, List.length_take, List.length_drop, List.length_append, List.length_cons, List.length_nil, Nat.min_self, List.take_take, lenCols_i, lenCols_b, List.drop_zero, List.take_length, List.take_nil, List.drop_nil, List.take_zero, List.nil_append, Nat.add_eq, Nat.mul_eq, Nat.sub_eq, Nat.zero_add, Nat.add_zero, Nat.sub_zero, Nat.mul_one] at h17
   refine req_i ?_ ?_
   · -- r11
    first | omega | ((try simp only [Nat.mul_eq]); first | done | omega | assumption | grind [getD_set, getD_rep, toNat_succ, cntN_yes, cntN_no])
   refine req_i ?_ ?_
   · -- r12
    first | omega | ((try simp only [Nat.zero_add]); first | done | omega | assumption | grind [getD_set, getD_rep, toNat_succ, cntN_yes, cntN_no])
   refine req_i ?_ ?_
   · -- r13
    first | omega | ((try simp only [List.take_nil, List.take_zero, List.length_take, List.take_length, List.take_take, Nat.min_self, List.drop_nil, List.length_drop, List.drop_zero, List.length_cons, List.length_nil]); first | done | omega | assumption | grind [getD_set, getD_rep, toNat_succ, cntN_yes, cntN_no])
   refine req_i ?_ ?_
   · -- r14
    first | assumption | exact rep_bd (by omega) (by omega) | exact set_bd (by assumption) (by omega) (by omega) | exact take_bd (by assumption) | ((try simp only [List.take_nil, List.take_zero, List.length_take, List.take_length, List.take_take, Nat.min_self, List.drop_nil, List.length_drop, List.drop_zero, List.length_cons, List.length_nil]); first | assumption | exact rep_bd (by omega) (by omega) | exact set_bd (by assumption) (by omega) (by omega) | exact take_bd (by assumption) | grind [getD_set, getD_rep, toNat_succ, cntN_yes, cntN_no])
   refine req_i ?_ ?_
   · -- r15
    first | omega | ((try simp only [List.take_nil, List.take_zero, List.length_take, List.take_length, List.take_take, Nat.min_self, List.drop_nil, List.length_drop, List.drop_zero, List.length_cons, List.length_nil]); first | done | omega | assumption | grind [getD_set, getD_rep, toNat_succ, cntN_yes, cntN_no])
   refine req_i ?_ ?_
   · -- r16
    first | assumption | exact rep_bd (by omega) (by omega) | exact set_bd (by assumption) (by omega) (by omega) | exact take_bd (by assumption) | ((try simp only [List.take_nil, List.take_zero, List.length_take, List.take_length, List.take_take, Nat.min_self, List.drop_nil, List.length_drop, List.drop_zero, List.length_cons, List.length_nil]); first | assumption | exact rep_bd (by omega) (by omega) | exact set_bd (by assumption) (by omega) (by omega) | exact take_bd (by assumption) | grind [getD_set, getD_rep, toNat_succ, cntN_yes, cntN_no])
   refine req_i ?_ ?_
   · -- r17
    first | omega | assumption | grind
   refine req_i ?_ ?_
   · -- r18
    first | omega | assumption | grind
   refine req_i ?_ ?_
   · -- r19
    first | omega | ((try simp only [sigSpn, smpS, u32, bSp, spnPost, List.cons.injEq, DV.b.injEq, and_true, List.take_nil, List.take_zero, List.length_take, List.take_length, List.take_take, Nat.min_self, List.drop_nil, List.length_drop, List.drop_zero, List.length_cons, List.length_nil]); first | done | omega | assumption | grind [getD_set, getD_rep, toNat_succ, cntN_yes, cntN_no])
   refine all_i fun n8 => ?_
   refine imp_i fun h18 => ?_
   refine imp_i fun h19 => ?_
   refine all_i fun n9 => ?_
   refine imp_i fun h20 => ?_
   refine imp_i fun h21 => ?_
   refine all_i fun n10 => ?_
   refine imp_i fun h22 => ?_
   refine imp_i fun h23 => ?_
   refine imp_i fun h24 => ?_
   try simp only [Int.toNat_natCast, List.length_set, List.length_replicate, List.length_take, List.length_drop, List.length_append, List.length_cons, List.length_nil, Nat.min_self, List.take_take, lenCols_i, lenCols_b, List.drop_zero, List.take_length, List.take_nil, List.drop_nil, List.take_zero, List.nil_append, Nat.add_eq, Nat.mul_eq, Nat.sub_eq, Nat.zero_add, Nat.add_zero, Nat.sub_zero, Nat.mul_one] at h24
   obtain ⟨q1, q2, q3⟩ := spn_fun h17 h24
   refine req_i ?_ ?_
   · -- r20
    first | omega | ((try simp only [Nat.mul_eq]); first | done | omega | assumption | grind [getD_set, getD_rep, toNat_succ, cntN_yes, cntN_no])
   refine req_i ?_ ?_
   · -- r21
    first | omega | ((try simp only [Nat.zero_add]); first | done | omega | assumption | grind [getD_set, getD_rep, toNat_succ, cntN_yes, cntN_no])
   refine req_i ?_ ?_
   · -- r22
    first | omega | ((try simp only [List.take_nil, List.take_zero, List.length_take, List.take_length, List.take_take, Nat.min_self, List.drop_nil, List.length_drop, List.drop_zero, List.length_cons, List.length_nil]); first | done | omega | assumption | grind [getD_set, getD_rep, toNat_succ, cntN_yes, cntN_no])
   refine req_i ?_ ?_
   · -- r23
    first | assumption | exact rep_bd (by omega) (by omega) | exact set_bd (by assumption) (by omega) (by omega) | exact take_bd (by assumption) | ((try simp only [List.take_nil, List.take_zero, List.length_take, List.take_length, List.take_take, Nat.min_self, List.drop_nil, List.length_drop, List.drop_zero, List.length_cons, List.length_nil]); first | assumption | exact rep_bd (by omega) (by omega) | exact set_bd (by assumption) (by omega) (by omega) | exact take_bd (by assumption) | grind [getD_set, getD_rep, toNat_succ, cntN_yes, cntN_no])
   refine req_i ?_ ?_
   · -- r24
    first | omega | ((try simp only [List.take_nil, List.take_zero, List.length_take, List.take_length, List.take_take, Nat.min_self, List.drop_nil, List.length_drop, List.drop_zero, List.length_cons, List.length_nil]); first | done | omega | assumption | grind [getD_set, getD_rep, toNat_succ, cntN_yes, cntN_no])
   refine req_i ?_ ?_
   · -- r25
    first | assumption | exact rep_bd (by omega) (by omega) | exact set_bd (by assumption) (by omega) (by omega) | exact take_bd (by assumption) | ((try simp only [List.take_nil, List.take_zero, List.length_take, List.take_length, List.take_take, Nat.min_self, List.drop_nil, List.length_drop, List.drop_zero, List.length_cons, List.length_nil]); first | assumption | exact rep_bd (by omega) (by omega) | exact set_bd (by assumption) (by omega) (by omega) | exact take_bd (by assumption) | grind [getD_set, getD_rep, toNat_succ, cntN_yes, cntN_no])
   refine req_i ?_ ?_
   · -- r26
    first | omega | assumption | grind
   refine req_i ?_ ?_
   · -- r27
    first | omega | assumption | grind
   refine req_i ?_ ?_
   · -- r28
    first | omega | ((try simp only [sigSt, smpS, cM, stPost, List.cons.injEq, DV.b.injEq, and_true, List.take_nil, List.take_zero, List.length_take, List.take_length, List.take_take, Nat.min_self, List.drop_nil, List.length_drop, List.drop_zero, List.length_cons, List.length_nil]); first | done | omega | assumption | grind [getD_set, getD_rep, toNat_succ, cntN_yes, cntN_no])
   refine all_i fun l11 => ?_
   refine imp_i fun h25 => ?_
   refine imp_i fun h26 => ?_
   refine all_i fun n12 => ?_
   refine imp_i fun h27 => ?_
   refine imp_i fun h28 => ?_
   refine imp_i fun h29 => ?_
   try simp only [Int.toNat_natCast, List.length_set, List.length_replicate, List.length_take, List.length_drop, List.length_append, List.length_cons, List.length_nil, Nat.min_self, List.take_take, lenCols_i, lenCols_b, List.drop_zero, List.take_length, List.take_nil, List.drop_nil, List.take_zero, List.nil_append, Nat.add_eq, Nat.mul_eq, Nat.sub_eq, Nat.zero_add, Nat.add_zero, Nat.sub_zero, Nat.mul_one] at h29
   refine req_i ?_ ?_
   · -- r29
    first | omega | ((try simp only [Nat.mul_eq]); first | done | omega | assumption | grind [getD_set, getD_rep, toNat_succ, cntN_yes, cntN_no])
   refine req_i ?_ ?_
   · -- r30
    first | omega | ((try simp only [Nat.zero_add]); first | done | omega | assumption | grind [getD_set, getD_rep, toNat_succ, cntN_yes, cntN_no])
   refine req_i ?_ ?_
   · -- r31
    first | omega | ((try simp only [List.take_nil, List.take_zero, List.length_take, List.take_length, List.take_take, Nat.min_self, List.drop_nil, List.length_drop, List.drop_zero, List.length_cons, List.length_nil]); first | done | omega | assumption | grind [getD_set, getD_rep, toNat_succ, cntN_yes, cntN_no])
   refine req_i ?_ ?_
   · -- r32
    first | assumption | exact rep_bd (by omega) (by omega) | exact set_bd (by assumption) (by omega) (by omega) | exact take_bd (by assumption) | ((try simp only [List.take_nil, List.take_zero, List.length_take, List.take_length, List.take_take, Nat.min_self, List.drop_nil, List.length_drop, List.drop_zero, List.length_cons, List.length_nil]); first | assumption | exact rep_bd (by omega) (by omega) | exact set_bd (by assumption) (by omega) (by omega) | exact take_bd (by assumption) | grind [getD_set, getD_rep, toNat_succ, cntN_yes, cntN_no])
   refine req_i ?_ ?_
   · -- r33
    first | omega | ((try simp only [List.take_nil, List.take_zero, List.length_take, List.take_length, List.take_take, Nat.min_self, List.drop_nil, List.length_drop, List.drop_zero, List.length_cons, List.length_nil]); first | done | omega | assumption | grind [getD_set, getD_rep, toNat_succ, cntN_yes, cntN_no])
   refine req_i ?_ ?_
   · -- r34
    first | assumption | exact rep_bd (by omega) (by omega) | exact set_bd (by assumption) (by omega) (by omega) | exact take_bd (by assumption) | ((try simp only [List.take_nil, List.take_zero, List.length_take, List.take_length, List.take_take, Nat.min_self, List.drop_nil, List.length_drop, List.drop_zero, List.length_cons, List.length_nil]); first | assumption | exact rep_bd (by omega) (by omega) | exact set_bd (by assumption) (by omega) (by omega) | exact take_bd (by assumption) | grind [getD_set, getD_rep, toNat_succ, cntN_yes, cntN_no])
   refine req_i ?_ ?_
   · -- r35
    first | omega | assumption | grind
   refine req_i ?_ ?_
   · -- r36
    first | omega | assumption | grind
   refine req_i ?_ ?_
   · -- r37
    first | omega | ((try simp only [sigSt, smpS, cM, stPost, List.cons.injEq, DV.b.injEq, and_true, List.take_nil, List.take_zero, List.length_take, List.take_length, List.take_take, Nat.min_self, List.drop_nil, List.length_drop, List.drop_zero, List.length_cons, List.length_nil]); first | done | omega | assumption | grind [getD_set, getD_rep, toNat_succ, cntN_yes, cntN_no])
   refine all_i fun l13 => ?_
   refine imp_i fun h30 => ?_
   refine imp_i fun h31 => ?_
   refine all_i fun n14 => ?_
   refine imp_i fun h32 => ?_
   refine imp_i fun h33 => ?_
   refine imp_i fun h34 => ?_
   try simp only [Int.toNat_natCast, List.length_set, List.length_replicate, List.length_take, List.length_drop, List.length_append, List.length_cons, List.length_nil, Nat.min_self, List.take_take, lenCols_i, lenCols_b, List.drop_zero, List.take_length, List.take_nil, List.drop_nil, List.take_zero, List.nil_append, Nat.add_eq, Nat.mul_eq, Nat.sub_eq, Nat.zero_add, Nat.add_zero, Nat.sub_zero, Nat.mul_one] at h34
   obtain ⟨q4, q5⟩ := st_fun h29 h34
   refine req_i ?_ ?_
   · -- r38
    first | omega | ((try simp only [Nat.mul_eq]); first | done | omega | assumption | grind [getD_set, getD_rep, toNat_succ, cntN_yes, cntN_no])
   refine req_i ?_ ?_
   · -- r39
    first | omega | ((try simp only [Nat.zero_add]); first | done | omega | assumption | grind [getD_set, getD_rep, toNat_succ, cntN_yes, cntN_no])
   refine req_i ?_ ?_
   · -- r40
    first | omega | ((try simp only [List.take_nil, List.take_zero, List.length_take, List.take_length, List.take_take, Nat.min_self, List.drop_nil, List.length_drop, List.drop_zero, List.length_cons, List.length_nil]); first | done | omega | assumption | grind [getD_set, getD_rep, toNat_succ, cntN_yes, cntN_no])
   refine req_i ?_ ?_
   · -- r41
    first | assumption | exact rep_bd (by omega) (by omega) | exact set_bd (by assumption) (by omega) (by omega) | exact take_bd (by assumption) | ((try simp only [List.take_nil, List.take_zero, List.length_take, List.take_length, List.take_take, Nat.min_self, List.drop_nil, List.length_drop, List.drop_zero, List.length_cons, List.length_nil]); first | assumption | exact rep_bd (by omega) (by omega) | exact set_bd (by assumption) (by omega) (by omega) | exact take_bd (by assumption) | grind [getD_set, getD_rep, toNat_succ, cntN_yes, cntN_no])
   refine req_i ?_ ?_
   · -- r42
    first | omega | ((try simp only [List.take_nil, List.take_zero, List.length_take, List.take_length, List.take_take, Nat.min_self, List.drop_nil, List.length_drop, List.drop_zero, List.length_cons, List.length_nil]); first | done | omega | assumption | grind [getD_set, getD_rep, toNat_succ, cntN_yes, cntN_no])
   refine req_i ?_ ?_
   · -- r43
    first | assumption | exact rep_bd (by omega) (by omega) | exact set_bd (by assumption) (by omega) (by omega) | exact take_bd (by assumption) | ((try simp only [List.take_nil, List.take_zero, List.length_take, List.take_length, List.take_take, Nat.min_self, List.drop_nil, List.length_drop, List.drop_zero, List.length_cons, List.length_nil]); first | assumption | exact rep_bd (by omega) (by omega) | exact set_bd (by assumption) (by omega) (by omega) | exact take_bd (by assumption) | grind [getD_set, getD_rep, toNat_succ, cntN_yes, cntN_no])
   refine req_i ?_ ?_
   · -- r44
    first | omega | ((try simp only [sigBst, smpS, bstPost, List.cons.injEq, DV.b.injEq, and_true, List.take_nil, List.take_zero, List.length_take, List.take_length, List.take_take, Nat.min_self, List.drop_nil, List.length_drop, List.drop_zero, List.length_cons, List.length_nil]); first | done | omega | assumption | grind [getD_set, getD_rep, toNat_succ, cntN_yes, cntN_no])
   refine all_i fun n15 => ?_
   refine imp_i fun h35 => ?_
   refine imp_i fun h36 => ?_
   refine all_i fun n16 => ?_
   refine imp_i fun h37 => ?_
   refine imp_i fun h38 => ?_
   refine all_i fun n17 => ?_
   refine imp_i fun h39 => ?_
   refine imp_i fun h40 => ?_
   refine imp_i fun h41 => ?_
   try simp only [Int.toNat_natCast, List.length_set, List.length_replicate, List.length_take, List.length_drop, List.length_append, List.length_cons, List.length_nil, Nat.min_self, List.take_take, lenCols_i, lenCols_b, List.drop_zero, List.take_length, List.take_nil, List.drop_nil, List.take_zero, List.nil_append, Nat.add_eq, Nat.mul_eq, Nat.sub_eq, Nat.zero_add, Nat.add_zero, Nat.sub_zero, Nat.mul_one] at h41
   refine req_i ?_ ?_
   · -- r45
    first | omega | ((try simp only [Nat.mul_eq]); first | done | omega | assumption | grind [getD_set, getD_rep, toNat_succ, cntN_yes, cntN_no])
   refine req_i ?_ ?_
   · -- r46
    first | omega | ((try simp only [Nat.zero_add]); first | done | omega | assumption | grind [getD_set, getD_rep, toNat_succ, cntN_yes, cntN_no])
   refine req_i ?_ ?_
   · -- r47
    first | omega | ((try simp only [List.take_nil, List.take_zero, List.length_take, List.take_length, List.take_take, Nat.min_self, List.drop_nil, List.length_drop, List.drop_zero, List.length_cons, List.length_nil]); first | done | omega | assumption | grind [getD_set, getD_rep, toNat_succ, cntN_yes, cntN_no])
   refine req_i ?_ ?_
   · -- r48
    first | assumption | exact rep_bd (by omega) (by omega) | exact set_bd (by assumption) (by omega) (by omega) | exact take_bd (by assumption) | ((try simp only [List.take_nil, List.take_zero, List.length_take, List.take_length, List.take_take, Nat.min_self, List.drop_nil, List.length_drop, List.drop_zero, List.length_cons, List.length_nil]); first | assumption | exact rep_bd (by omega) (by omega) | exact set_bd (by assumption) (by omega) (by omega) | exact take_bd (by assumption) | grind [getD_set, getD_rep, toNat_succ, cntN_yes, cntN_no])
   refine req_i ?_ ?_
   · -- r49
    first | omega | ((try simp only [List.take_nil, List.take_zero, List.length_take, List.take_length, List.take_take, Nat.min_self, List.drop_nil, List.length_drop, List.drop_zero, List.length_cons, List.length_nil]); first | done | omega | assumption | grind [getD_set, getD_rep, toNat_succ, cntN_yes, cntN_no])
   refine req_i ?_ ?_
   · -- r50
    first | assumption | exact rep_bd (by omega) (by omega) | exact set_bd (by assumption) (by omega) (by omega) | exact take_bd (by assumption) | ((try simp only [List.take_nil, List.take_zero, List.length_take, List.take_length, List.take_take, Nat.min_self, List.drop_nil, List.length_drop, List.drop_zero, List.length_cons, List.length_nil]); first | assumption | exact rep_bd (by omega) (by omega) | exact set_bd (by assumption) (by omega) (by omega) | exact take_bd (by assumption) | grind [getD_set, getD_rep, toNat_succ, cntN_yes, cntN_no])
   refine req_i ?_ ?_
   · -- r51
    first | omega | ((try simp only [sigBst, smpS, bstPost, List.cons.injEq, DV.b.injEq, and_true, List.take_nil, List.take_zero, List.length_take, List.take_length, List.take_take, Nat.min_self, List.drop_nil, List.length_drop, List.drop_zero, List.length_cons, List.length_nil]); first | done | omega | assumption | grind [getD_set, getD_rep, toNat_succ, cntN_yes, cntN_no])
   refine all_i fun n18 => ?_
   refine imp_i fun h42 => ?_
   refine imp_i fun h43 => ?_
   refine all_i fun n19 => ?_
   refine imp_i fun h44 => ?_
   refine imp_i fun h45 => ?_
   refine all_i fun n20 => ?_
   refine imp_i fun h46 => ?_
   refine imp_i fun h47 => ?_
   refine imp_i fun h48 => ?_
   try simp only [Int.toNat_natCast, List.length_set, List.length_replicate, List.length_take, List.length_drop, List.length_append, List.length_cons, List.length_nil, Nat.min_self, List.take_take, lenCols_i, lenCols_b, List.drop_zero, List.take_length, List.take_nil, List.drop_nil, List.take_zero, List.nil_append, Nat.add_eq, Nat.mul_eq, Nat.sub_eq, Nat.zero_add, Nat.add_zero, Nat.sub_zero, Nat.mul_one] at h48
   obtain ⟨q6, q7, q8⟩ := bst_fun h41 h48
   refine bR_i (fun h49 => ?_) (fun h49 => ?_)
   ·
    simp only [bR_iff, bR_iff_f, dec_iff, dec_f, Bool.false_eq_true, Bool.true_eq_false, false_implies, imp_false, and_true, true_and, implies_true, Classical.not_not] at h49
    refine bR_dec (fun h50 => ?_) (fun h50 => ?_)
    ·
     refine req_i ?_ ?_
     · -- r52
      first | omega | ((try simp only [Nat.mul_eq]); first | done | omega | assumption | grind [getD_set, getD_rep, toNat_succ, cntN_yes, cntN_no])
     refine req_i ?_ ?_
     · -- r53
      first | omega | ((try simp only [Nat.zero_add]); first | done | omega | assumption | grind [getD_set, getD_rep, toNat_succ, cntN_yes, cntN_no])
     refine req_i ?_ ?_
     · -- r54
      first | omega | ((try simp only [List.take_nil, List.take_zero, List.length_take, List.take_length, List.take_take, Nat.min_self, List.drop_nil, List.length_drop, List.drop_zero, List.length_cons, List.length_nil]); first | done | omega | assumption | grind [getD_set, getD_rep, toNat_succ, cntN_yes, cntN_no])
     refine req_i ?_ ?_
     · -- r55
      first | assumption | exact rep_bd (by omega) (by omega) | exact set_bd (by assumption) (by omega) (by omega) | exact take_bd (by assumption) | ((try simp only [List.take_nil, List.take_zero, List.length_take, List.take_length, List.take_take, Nat.min_self, List.drop_nil, List.length_drop, List.drop_zero, List.length_cons, List.length_nil]); first | assumption | exact rep_bd (by omega) (by omega) | exact set_bd (by assumption) (by omega) (by omega) | exact take_bd (by assumption) | grind [getD_set, getD_rep, toNat_succ, cntN_yes, cntN_no])
     refine req_i ?_ ?_
     · -- r56
      first | omega | ((try simp only [Nat.mul_eq]); first | done | omega | assumption | grind [getD_set, getD_rep, toNat_succ, cntN_yes, cntN_no])
     refine req_i ?_ ?_
     · -- r57
      first | omega | ((try simp only [Nat.zero_add]); first | done | omega | assumption | grind [getD_set, getD_rep, toNat_succ, cntN_yes, cntN_no])
     refine req_i ?_ ?_
     · -- r58
      first | omega | ((try simp only [List.take_nil, List.take_zero, List.length_take, List.take_length, List.take_take, Nat.min_self, List.drop_nil, List.length_drop, List.drop_zero, List.length_cons, List.length_nil]); first | done | omega | assumption | grind [getD_set, getD_rep, toNat_succ, cntN_yes, cntN_no])
     refine req_i ?_ ?_
     · -- r59
      first | assumption | exact rep_bd (by omega) (by omega) | exact set_bd (by assumption) (by omega) (by omega) | exact take_bd (by assumption) | ((try simp only [List.take_nil, List.take_zero, List.length_take, List.take_length, List.take_take, Nat.min_self, List.drop_nil, List.length_drop, List.drop_zero, List.length_cons, List.length_nil]); first | assumption | exact rep_bd (by omega) (by omega) | exact set_bd (by assumption) (by omega) (by omega) | exact take_bd (by assumption) | grind [getD_set, getD_rep, toNat_succ, cntN_yes, cntN_no])
     refine req_i ?_ ?_
     · -- r60
      first | omega | ((try simp only [sigEqu, cM, equP, List.cons.injEq, DV.b.injEq, and_true, List.take_nil, List.take_zero, List.length_take, List.take_length, List.take_take, Nat.min_self, List.drop_nil, List.length_drop, List.drop_zero, List.length_cons, List.length_nil]); first | done | omega | assumption | grind [getD_set, getD_rep, toNat_succ, cntN_yes, cntN_no])
     refine all_i fun b21 => ?_
     refine imp_i fun h51 => ?_
     try simp only [sigEqu, cM, equP, List.cons.injEq, DV.b.injEq, and_true, List.take_nil, List.take_zero, List.length_take, List.take_length, List.take_take, Nat.min_self, List.drop_nil, List.length_drop, List.drop_zero, List.length_cons, List.length_nil] at h51
     refine bR_i (fun h52 => ?_) (fun h52 => ?_)
     ·
      refine bR_dec (fun h53 => ?_) (fun h53 => ?_)
      ·
       refine bR_dec (fun h54 => ?_) (fun h54 => ?_)
       ·
        refine bR_dec (fun h55 => ?_) (fun h55 => ?_)
        ·
         refine bR_dec (fun h56 => ?_) (fun h56 => ?_)
         ·
          refine req_i ?_ ?_
          · -- r61
           first | omega | assumption | grind
          refine all_i fun b22 => ?_
          refine imp_i fun h57 => ?_
          try simp only [sigTrue0, List.cons.injEq, DV.b.injEq, and_true, List.length_cons, List.length_nil] at h57
          refine req_i ?_ ?_
          · -- r62
           first | omega | ((try simp only [sigSpins, u32, List.cons.injEq, DV.b.injEq, and_true, List.length_cons, List.length_nil]); first | done | omega | assumption | grind [getD_set, getD_rep, toNat_succ, cntN_yes, cntN_no])
          rfl
         ·
          refine req_i ?_ ?_
          · -- r63
           first | omega | ((try simp only [sigSpins, u32, List.cons.injEq, DV.b.injEq, and_true, List.length_cons, List.length_nil]); first | done | omega | assumption | grind [getD_set, getD_rep, toNat_succ, cntN_yes, cntN_no])
          rfl
        ·
         refine req_i ?_ ?_
         · -- r64
          first | omega | ((try simp only [sigSpins, u32, List.cons.injEq, DV.b.injEq, and_true, List.length_cons, List.length_nil]); first | done | omega | assumption | grind [getD_set, getD_rep, toNat_succ, cntN_yes, cntN_no])
         rfl
       ·
        refine req_i ?_ ?_
        · -- r65
         first | omega | ((try simp only [sigSpins, u32, List.cons.injEq, DV.b.injEq, and_true, List.length_cons, List.length_nil]); first | done | omega | assumption | grind [getD_set, getD_rep, toNat_succ, cntN_yes, cntN_no])
        rfl
      ·
       refine req_i ?_ ?_
       · -- r66
        first | omega | ((try simp only [sigSpins, u32, List.cons.injEq, DV.b.injEq, and_true, List.length_cons, List.length_nil]); first | done | omega | assumption | grind [getD_set, getD_rep, toNat_succ, cntN_yes, cntN_no])
       rfl
     ·
      refine req_i ?_ ?_
      · -- r67
       rw [h51.2 q4] at h52; cases h52
      rfl
    ·
     refine req_i ?_ ?_
     · -- r68
      first | omega | ((try simp only [sigSpins, u32, List.cons.injEq, DV.b.injEq, and_true, List.length_cons, List.length_nil]); first | done | omega | assumption | grind [getD_set, getD_rep, toNat_succ, cntN_yes, cntN_no])
     rfl
   ·
    simp only [bR_iff, bR_iff_f, dec_iff, dec_f, Bool.false_eq_true, Bool.true_eq_false, false_implies, imp_false, and_true, true_and, implies_true, Classical.not_not] at h49
    refine req_i ?_ ?_
    · -- r69
     first | omega | ((try simp only [sigSpins, u32, List.cons.injEq, DV.b.injEq, and_true, List.length_cons, List.length_nil]); first | done | omega | assumption | grind [getD_set, getD_rep, toNat_succ, cntN_yes, cntN_no])
    rfl
theorem ext_BankSpins : ∀ p ∈ ([(14, Ext.ctr (ctOfG gl11 sigSpn)), (24, Ext.ctr (ctOfG gl11 sigSpn)), (15, Ext.ctr (ctOfG gl11 sigSt)), (25, Ext.ctr (ctOfG gl11 sigSt)), (16, Ext.ctr (ctOfG gl11 sigBst)), (26, Ext.ctr (ctOfG gl11 sigBst)), (18, Ext.ctr (ctOfG gl11 sigEqu)), (17, Ext.ctr (ctOfG gl11 sigTrue0))] : List (Nat × Ext)), ExtRow Tryd.prog p.1 p.2 := by
  intro p hp
  simp only [List.mem_cons, List.not_mem_nil, or_false] at hp
  rcases hp with rfl | rfl | rfl | rfl | rfl | rfl | rfl | rfl
  · trivial
  · trivial
  · trivial
  · trivial
  · trivial
  · trivial
  · trivial
  · trivial
theorem cts_BankSpins : CtsOk Tryd.prog [(14, Ext.ctr (ctOfG gl11 sigSpn)), (24, Ext.ctr (ctOfG gl11 sigSpn)), (15, Ext.ctr (ctOfG gl11 sigSt)), (25, Ext.ctr (ctOfG gl11 sigSt)), (16, Ext.ctr (ctOfG gl11 sigBst)), (26, Ext.ctr (ctOfG gl11 sigBst)), (18, Ext.ctr (ctOfG gl11 sigEqu)), (17, Ext.ctr (ctOfG gl11 sigTrue0))] := ctsOk_ofG (cs := [(14, sigSpn), (24, sigSpn), (15, sigSt), (25, sigSt), (16, sigBst), (26, sigBst), (18, sigEqu), (17, sigTrue0)])
  (fun p hp => by
    simp only [List.mem_cons, List.not_mem_nil, or_false] at hp
    rcases hp with rfl | rfl | rfl | rfl | rfl | rfl | rfl | rfl
    · exact fn_Spin
    · exact fn_SpinR
    · exact fn_steps
    · exact fn_stepsR
    · exact fn_best
    · exact fn_bestR
    · exact fn_equ
    · exact fn_awake
)
  (fun f c h => by
    simp only [List.lookup_cons] at h
    repeat' split at h
    all_goals first | (cases h; done) | (rename_i e; have e := beq_iff_eq.1 e; subst e; cases h; refine ⟨_, ?_, rfl⟩; simp))
theorem fn_BankSpins : FnOk Tryd.prog 5 sigSpins gl11 := fn_sound (by kernel_rfl) ext_BankSpins cts_BankSpins names vt_BankSpins
end Go.Proofs.YtiadfbpbeaeflaaDoor

