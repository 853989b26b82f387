import Derived.Test.YtemcaojbhfgpgaaSpec13e
import Derived.Test.YtemcaojbhfgpgaaRows
import Derived.Test.YtemcaojbhfgpgaaFnames
namespace Go.Proofs.Ytemcaojbhfgpgaa
open Go.Ev Go.Sp
set_option maxRecDepth 100000
theorem vc_chkS : vcFn Try.prog [] tab [] 100 34 sigChkS = (allB fun l0 : List Int => 
impB (l0.length ≤ (9223372036854775807 : Nat)) (
impB (∀ (y : Int), y ∈ l0 → (-9223372036854775808 : Int) ≤ y ∧ y ≤ (9223372036854775807 : Int)) (
allB fun l1 : List Int => 
impB (l1.length = l0.length) (
impB (∀ (y : Int), y ∈ l1 → (-9223372036854775808 : Int) ≤ y ∧ y ≤ (9223372036854775807 : Int)) (
allB fun n2 : Int => 
impB ((0 : Int) ≤ n2) (
impB (n2 ≤ (70368744177664 : Int)) (
impB (sigChkS.pre [DV.l l0, DV.l l1, DV.n n2]) (
bR (dec ((1048576 : Int) < (↑l0.length : Int))) (
 reqB (sigChkS.post [DV.l l0, DV.l l1, DV.n n2] [DV.n (4 : Int)]) (
 true)) (
 reqB (((0 : Nat) + l0.length) * (2 : Nat) ≤ l0.length.mul (2 : Nat)) (
 reqB (l0.length ≤ (9223372036854775807 : Nat)) (
 reqB ((List.take l0.length (List.drop (0 : Nat) l0)).length = l0.length) (
 reqB (∀ (y : Int),
  y ∈ List.take l0.length (List.drop (0 : Nat) l0) → (-9223372036854775808 : Int) ≤ y ∧ y ≤ (9223372036854775807 : Int)) (
 reqB ((List.take l0.length (List.drop (0 : Nat) l1)).length = l0.length) (
 reqB (∀ (y : Int),
  y ∈ List.take l0.length (List.drop (0 : Nat) l1) → (-9223372036854775808 : Int) ≤ y ∧ y ≤ (9223372036854775807 : Int)) (
 reqB ((0 : Int) ≤ n2) (
 reqB (n2 ≤ (70368744177664 : Int)) (
 reqB (chkSL.inv
  [DV.l (List.take l0.length (List.drop (0 : Nat) l0)), DV.l (List.take l0.length (List.drop (0 : Nat) l1)),
    DV.n n2]
  [DV.n (0 : Int)]) (
 allB fun n3 : Int => 
 impB ((0 : Int) ≤ n3) (
 impB (n3 ≤ (9223372036854775807 : Int)) (
 impB (chkSL.inv
  [DV.l (List.take l0.length (List.drop (0 : Nat) l0)), DV.l (List.take l0.length (List.drop (0 : Nat) l1)),
    DV.n n2]
  [DV.n n3]) (
 bR (dec (n3 < (↑l0.length : Int))) (
  reqB (n3.toNat < l0.length) (
  reqB (Nat.add (0 : Nat) n3.toNat < l0.length) (
  reqB (Nat.add (0 : Nat) n3.toNat < l1.length) (
  bR (dec (Min.min (l0.getD (Nat.add (0 : Nat) n3.toNat) (0 : Int)) (l1.getD (Nat.add (0 : Nat) n3.toNat) (0 : Int)) <
  (0 : Int) - n2)) (
   reqB (sigChkS.post [DV.l l0, DV.l l1, DV.n n2] [DV.n (2 : Int)]) (
   true)) (
   bR (dec (n2 < Max.max (l0.getD (Nat.add (0 : Nat) n3.toNat) (0 : Int)) (l1.getD (Nat.add (0 : Nat) n3.toNat) (0 : Int)))) (
    reqB (sigChkS.post [DV.l l0, DV.l l1, DV.n n2] [DV.n (2 : Int)]) (
    true)) (
    allB fun n4 : Int => 
    impB (n4 = Go.IntKind.i64.wrap (n3 + (1 : Int))) (
    impB (Int.negSucc (9223372036854775807 : Nat) ≤ n4) (
    impB (n4 ≤ Int.ofNat (9223372036854775807 : Nat)) (
    bR (bR (bR (dec ((0 : Nat) = (0 : Nat))) (
     dec (l0.length = l0.length)) (
     false)) (
     bR (dec (n2 = n2)) (
      bR (bR (dec ((0 : Nat) = (0 : Nat))) (
       dec (l0.length = l0.length)) (
       false)) (
       bR (dec ((↑l0.length : Int) = (↑l0.length : Int))) (
        true) (
        false)) (
       false)) (
      false)) (
     false)) (
     reqB ((0 : Int) ≤ n4) (
     reqB (n4 ≤ (9223372036854775807 : Int)) (
     reqB (chkSL.inv
  [DV.l (List.take l0.length (List.drop (0 : Nat) l0)), DV.l (List.take l0.length (List.drop (0 : Nat) l1)),
    DV.n n2]
  [DV.n n4]) (
     reqB (chkSL.mea
    [DV.l (List.take l0.length (List.drop (0 : Nat) l0)),
      DV.l (List.take l0.length (List.drop (0 : Nat) l1)), DV.n n2]
    [DV.n n4] <
  chkSL.mea
    [DV.l (List.take l0.length (List.drop (0 : Nat) l0)),
      DV.l (List.take l0.length (List.drop (0 : Nat) l1)), DV.n n2]
    [DV.n n3]) (
     true))))) (
     false)))))))))) (
  reqB (sigChkS.post [DV.l l0, DV.l l1, DV.n n2] [DV.n (0 : Int)]) (
  true))))))))))))))))))))))) := by kernel_rfl
set_option maxHeartbeats 8000000 in
theorem vt_chkS : vcFn Try.prog [] tab [] 100 34 sigChkS = true := by
  rw [vc_chkS]
  try simp only [Int.toNat_natCast, List.length_set, List.length_replicate, List.length_take, List.length_drop, List.length_append, List.length_cons, List.length_nil, Nat.min_self, List.take_take, lenCols_i, lenCols_b, List.drop_zero, List.take_length, Nat.add_eq, Nat.mul_eq, Nat.sub_eq, Nat.zero_add, Nat.sub_zero, Nat.mul_one]
  refine all_i fun l0 => ?_
  refine imp_i fun h0 => ?_
  refine imp_i fun h1 => ?_
  refine all_i fun l1 => ?_
  refine imp_i fun h2 => ?_
  have tkl1 := take_eq h2
  try simp only [tkl1]
  refine imp_i fun h3 => ?_
  refine all_i fun n2 => ?_
  refine imp_i fun h4 => ?_
  refine imp_i fun h5 => ?_
  refine imp_i fun h6 => ?_
  try simp only [sigChkS, chkSPost, List.cons.injEq, DV.b.injEq, and_true, List.length_cons, List.length_nil] at h6
  refine bR_dec (fun h7 => ?_) (fun h7 => ?_)
  ·
    refine req_i ?_ ?_
    · -- r0
      simp only [sigChkS, chkSPost]; rw [errL_4 h7]
    rfl
  ·
    refine req_i ?_ ?_
    · -- r1
      first | omega | ((try simp only [Nat.mul_eq]); first | done | omega | assumption | grind [getD_set, getD_rep, toNat_succ, cntN_yes, cntN_no])
    refine req_i ?_ ?_
    · -- r2
      first | omega | ((try simp only [Nat.zero_add]); first | done | omega | assumption | grind [getD_set, getD_rep, toNat_succ, cntN_yes, cntN_no])
    refine req_i ?_ ?_
    · -- r3
      first | omega | ((try simp only [List.length_take, List.take_length, List.take_take, Nat.min_self, List.length_drop, List.drop_zero, List.length_cons, List.length_nil]); first | done | omega | assumption | grind [getD_set, getD_rep, toNat_succ, cntN_yes, cntN_no])
    refine req_i ?_ ?_
    · -- r4
      first | assumption | exact rep_bd (by omega) (by omega) | exact set_bd (by assumption) (by omega) (by omega) | exact take_bd (by assumption) | ((try simp only [List.length_take, List.take_length, List.take_take, Nat.min_self, List.length_drop, List.drop_zero, List.length_cons, List.length_nil]); first | assumption | exact rep_bd (by omega) (by omega) | exact set_bd (by assumption) (by omega) (by omega) | exact take_bd (by assumption) | grind [getD_set, getD_rep, toNat_succ, cntN_yes, cntN_no])
    refine req_i ?_ ?_
    · -- r5
      first | omega | ((try simp only [List.length_take, List.take_length, List.take_take, Nat.min_self, List.length_drop, List.drop_zero, List.length_cons, List.length_nil]); first | done | omega | assumption | grind [getD_set, getD_rep, toNat_succ, cntN_yes, cntN_no])
    refine req_i ?_ ?_
    · -- r6
      first | assumption | exact rep_bd (by omega) (by omega) | exact set_bd (by assumption) (by omega) (by omega) | exact take_bd (by assumption) | ((try simp only [List.length_take, List.take_length, List.take_take, Nat.min_self, List.length_drop, List.drop_zero, List.length_cons, List.length_nil]); first | assumption | exact rep_bd (by omega) (by omega) | exact set_bd (by assumption) (by omega) (by omega) | exact take_bd (by assumption) | grind [getD_set, getD_rep, toNat_succ, cntN_yes, cntN_no])
    refine req_i ?_ ?_
    · -- r7
      first | omega | assumption | grind
    refine req_i ?_ ?_
    · -- r8
      first | omega | assumption | grind
    refine req_i ?_ ?_
    · -- r9
      first | omega | ((try simp only [chkSL, chkSInv, mea0, List.cons.injEq, DV.b.injEq, and_true, List.length_take, List.take_length, List.take_take, Nat.min_self, List.length_drop, List.drop_zero, List.length_cons, List.length_nil]); first | done | omega | assumption | grind [getD_set, getD_rep, toNat_succ, cntN_yes, cntN_no])
    refine all_i fun n3 => ?_
    refine imp_i fun h8 => ?_
    refine imp_i fun h9 => ?_
    refine imp_i fun h10 => ?_
    try simp only [chkSL, chkSInv, mea0, List.cons.injEq, DV.b.injEq, and_true, List.length_take, List.take_length, List.take_take, Nat.min_self, List.length_drop, List.drop_zero, List.length_cons, List.length_nil] at h10
    refine bR_dec (fun h11 => ?_) (fun h11 => ?_)
    ·
      refine req_i ?_ ?_
      · -- r10
        first | omega | ((try simp only [Int.toNat_natCast, List.length_cons, List.length_nil]); first | done | omega | assumption | grind [getD_set, getD_rep, toNat_succ, cntN_yes, cntN_no])
      refine req_i ?_ ?_
      · -- r11
        first | omega | ((try simp only [Int.toNat_natCast, List.length_cons, List.length_nil, Nat.add_eq, Nat.zero_add]); first | done | omega | assumption | grind [getD_set, getD_rep, toNat_succ, cntN_yes, cntN_no])
      refine req_i ?_ ?_
      · -- r12
        first | omega | ((try simp only [Int.toNat_natCast, List.length_cons, List.length_nil, Nat.add_eq, Nat.zero_add]); first | done | omega | assumption | grind [getD_set, getD_rep, toNat_succ, cntN_yes, cntN_no])
      refine bR_dec (fun h12 => ?_) (fun h12 => ?_)
      ·
        refine req_i ?_ ?_
        · -- r13
          simp only [sigChkS, chkSPost]; rw [errL_2 (by omega) (fun g => by have := g n3.toNat (by omega); omega)]
        rfl
      ·
        refine bR_dec (fun h13 => ?_) (fun h13 => ?_)
        ·
          refine req_i ?_ ?_
          · -- r14
            simp only [sigChkS, chkSPost]; rw [errL_2 (by omega) (fun g => by have := g n3.toNat (by omega); omega)]
          rfl
        ·
          refine all_i fun n4 => ?_
          refine imp_i fun h14 => ?_
          simp only [wrap_i64] at h14
          refine imp_i fun h15 => ?_
          refine imp_i fun h16 => ?_
          refine bR_t ?_ ?_
          · -- g0
            first | rfl | (simp only [bR_iff, bR_iff_f, dec_iff, dec_f, beqB_iff', andB_iff', reduceCtorEq, imp_self, false_implies, and_true, true_and, implies_true, and_self]; done) | (simp [bR_iff, dec_iff, beqB_iff', andB_iff']; done) | (simp [bR_iff, dec_iff, beqB_iff', andB_iff']; omega)
          refine req_i ?_ ?_
          · -- r15
            first | omega | assumption | grind
          refine req_i ?_ ?_
          · -- r16
            first | omega | assumption | grind
          refine req_i ?_ ?_
          · -- r17
            first | omega | ((try simp only [chkSL, chkSInv, mea0, List.cons.injEq, DV.b.injEq, and_true, List.length_take, List.take_length, List.take_take, Nat.min_self, List.length_drop, List.drop_zero, List.length_cons, List.length_nil]); first | done | omega | assumption | grind [getD_set, getD_rep, toNat_succ, cntN_yes, cntN_no])
          refine req_i ?_ ?_
          · -- r18
            first | omega | ((try simp only [chkSL, chkSInv, mea0, List.cons.injEq, DV.b.injEq, and_true, List.length_take, List.take_length, List.take_take, Nat.min_self, List.length_drop, List.drop_zero, List.length_cons, List.length_nil]); first | done | omega | assumption | grind [getD_set, getD_rep, toNat_succ, cntN_yes, cntN_no])
          rfl
    ·
      refine req_i ?_ ?_
      · -- r19
        simp only [sigChkS, chkSPost]; rw [errL_0 (by omega) (fun j hj => h10.2.2 j (by omega))]
      rfl
theorem ext_chkS : ∀ p ∈ ([] : List (Nat × Ext)), ExtRow Try.prog p.1 p.2 := by
  intro p hp
  cases hp
theorem cts_chkS : CtsOk Try.prog [] := fun f c h => by cases h
theorem fn_chkS : FnOk Try.prog 34 sigChkS [] := fn_sound (by kernel_rfl) ext_chkS cts_chkS names vt_chkS
end Go.Proofs.Ytemcaojbhfgpgaa
