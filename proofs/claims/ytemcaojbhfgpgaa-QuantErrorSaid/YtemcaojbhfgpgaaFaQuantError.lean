import Derived.Test.YtemcaojbhfgpgaaSpec13e
import Derived.Test.YtemcaojbhfgpgaaRows
import Derived.Test.YtemcaojbhfgpgaaEvSS
import Derived.Test.YtemcaojbhfgpgaaFnames
namespace Go.Proofs.Ytemcaojbhfgpgaa
open Go.Ev Go.Sp
set_option maxRecDepth 100000
theorem vc_known : vcFn Try.prog [] noA [] 1000 3 sigTrue0 = (impB (sigTrue0.pre []) (
reqB (sigTrue0.post [] [DV.b Bool.true]) (
true))) := by kernel_rfl
set_option maxHeartbeats 8000000 in
theorem vt_known : vcFn Try.prog [] noA [] 1000 3 sigTrue0 = true := by
  rw [vc_known]
  try simp only [bR_same, dec_same, bR_true, bR_false]
  simp only [allB_iff, impB_iff, reqB_iff, bR_iff, bR_iff_f, dec_iff, dec_f, reduceCtorEq, imp_false, Classical.not_not, implies_true, true_and, and_true]
  intro _
  first | rfl | trivial | simp [sigTrue0]
theorem ext_known : ∀ p ∈ ([] : List (Nat × Ext)), ExtRow Try.prog p.1 p.2 := by
  intro p hp
  cases hp
theorem cts_known : CtsOk Try.prog [] := fun f c h => by cases h
theorem fn_known : FnOk Try.prog 3 sigTrue0 [] := fn_sound (by kernel_rfl) ext_known cts_known names vt_known
end Go.Proofs.Ytemcaojbhfgpgaa

namespace Go.Proofs.Ytemcaojbhfgpgaa
open Go.Ev Go.Sp
set_option maxRecDepth 100000
theorem vc_turn : vcFn Try.prog [] tab [] 100 29 (sigPickN 4398046511104) = (allB fun n0 : Int => 
impB ((-9223372036854775808 : Int) ≤ n0) (
impB (n0 ≤ (9223372036854775807 : Int)) (
allB fun n1 : Int => 
impB ((1 : Int) ≤ n1) (
impB (n1 ≤ (4398046511104 : Int)) (
impB ((sigPickN (4398046511104 : Int)).pre [DV.n n0, DV.n n1]) (
bR (dec (n0.tmod n1 < (0 : Int))) (
 reqB ((0 : Int) ≤ n0.tmod n1 + n1) (
 reqB (n0.tmod n1 + n1 ≤ (4398046511104 : Int)) (
 reqB ((sigPickN (4398046511104 : Int)).post [DV.n n0, DV.n n1] [DV.n (n0.tmod n1 + n1)]) (
 true)))) (
 reqB ((0 : Int) ≤ n0.tmod n1) (
 reqB (n0.tmod n1 ≤ (4398046511104 : Int)) (
 reqB ((sigPickN (4398046511104 : Int)).post [DV.n n0, DV.n n1] [DV.n (n0.tmod n1)]) (
 true)))))))))) := by kernel_rfl
set_option maxHeartbeats 8000000 in
theorem vt_turn : vcFn Try.prog [] tab [] 100 29 (sigPickN 4398046511104) = true := by
  rw [vc_turn]
  try simp only [Int.toNat_natCast, List.length_set, List.length_replicate, List.length_take, List.length_drop, List.length_append, List.length_cons, List.length_nil, Nat.min_self, List.take_take, lenCols_i, lenCols_b, List.drop_zero, List.take_length, Nat.add_eq, Nat.mul_eq, Nat.sub_eq, Nat.zero_add, Nat.sub_zero, Nat.mul_one]
  refine all_i fun n0 => ?_
  refine imp_i fun h0 => ?_
  refine imp_i fun h1 => ?_
  refine all_i fun n1 => ?_
  refine imp_i fun h2 => ?_
  refine imp_i fun h3 => ?_
  have T := tmod_of (x := n0) (n := n1) (by omega)
  have T2 := Int.emod_lt_of_pos n0 (b := n1) (by omega)
  refine imp_i fun h4 => ?_
  try simp only [sigPickN, pickPost, List.cons.injEq, DV.b.injEq, and_true, List.length_cons, List.length_nil] at h4
  refine bR_dec (fun h5 => ?_) (fun h5 => ?_)
  ·
    refine req_i ?_ ?_
    · -- r0
      first | omega | assumption | grind
    refine req_i ?_ ?_
    · -- r1
      first | omega | assumption | grind
    refine req_i ?_ ?_
    · -- r2
      first | omega | ((try simp only [sigPickN, pickPost, List.cons.injEq, DV.b.injEq, and_true, List.length_cons, List.length_nil]); first | done | omega | assumption | grind [getD_set, getD_rep, toNat_succ, cntN_yes, cntN_no])
    rfl
  ·
    refine req_i ?_ ?_
    · -- r3
      first | omega | assumption | grind
    refine req_i ?_ ?_
    · -- r4
      first | omega | assumption | grind
    refine req_i ?_ ?_
    · -- r5
      first | omega | ((try simp only [sigPickN, pickPost, List.cons.injEq, DV.b.injEq, and_true, List.length_cons, List.length_nil]); first | done | omega | assumption | grind [getD_set, getD_rep, toNat_succ, cntN_yes, cntN_no])
    rfl
theorem ext_turn : ∀ p ∈ ([] : List (Nat × Ext)), ExtRow Try.prog p.1 p.2 := by
  intro p hp
  cases hp
theorem cts_turn : CtsOk Try.prog [] := fun f c h => by cases h
theorem fn_turn : FnOk Try.prog 29 (sigPickN 4398046511104) [] := fn_sound (by kernel_rfl) ext_turn cts_turn names vt_turn
end Go.Proofs.Ytemcaojbhfgpgaa

namespace Go.Proofs.Ytemcaojbhfgpgaa
open Go.Ev Go.Sp
set_option maxRecDepth 100000
theorem vc_chkG : vcFn Try.prog [] tab [] 100 21 sigChkG = (allB fun n0 : Int => 
impB ((-9223372036854775808 : Int) ≤ n0) (
impB (n0 ≤ (9223372036854775807 : Int)) (
allB fun n1 : Int => 
impB ((-9223372036854775808 : Int) ≤ n1) (
impB (n1 ≤ (9223372036854775807 : Int)) (
impB (sigChkG.pre [DV.n n0, DV.n n1]) (
bR (dec (n0 < (2 : Int))) (
 reqB (sigChkG.post [DV.n n0, DV.n n1] [DV.n (2 : Int)]) (
 true)) (
 bR (dec ((8 : Int) < n0)) (
  reqB (sigChkG.post [DV.n n0, DV.n n1] [DV.n (2 : Int)]) (
  true)) (
  bR (dec (n1 < (0 : Int))) (
   reqB (sigChkG.post [DV.n n0, DV.n n1] [DV.n (2 : Int)]) (
   true)) (
   bR (dec ((30 : Int) < n1)) (
    reqB (sigChkG.post [DV.n n0, DV.n n1] [DV.n (2 : Int)]) (
    true)) (
    reqB (sigChkG.post [DV.n n0, DV.n n1] [DV.n (0 : Int)]) (
    true))))))))))) := by kernel_rfl
set_option maxHeartbeats 8000000 in
theorem vt_chkG : vcFn Try.prog [] tab [] 100 21 sigChkG = true := by
  rw [vc_chkG]
  try simp only [Int.toNat_natCast, List.length_set, List.length_replicate, List.length_take, List.length_drop, List.length_append, List.length_cons, List.length_nil, Nat.min_self, List.take_take, lenCols_i, lenCols_b, List.drop_zero, List.take_length, Nat.add_eq, Nat.mul_eq, Nat.sub_eq, Nat.zero_add, Nat.sub_zero, Nat.mul_one]
  refine all_i fun n0 => ?_
  refine imp_i fun h0 => ?_
  refine imp_i fun h1 => ?_
  refine all_i fun n1 => ?_
  refine imp_i fun h2 => ?_
  refine imp_i fun h3 => ?_
  refine imp_i fun h4 => ?_
  try simp only [sigChkG, chkGPost, List.cons.injEq, DV.b.injEq, and_true, List.length_cons, List.length_nil] at h4
  refine bR_dec (fun h5 => ?_) (fun h5 => ?_)
  ·
    refine req_i ?_ ?_
    · -- r0
      first | omega | (simp only [sigChkG, chkGPost, errG]; split <;> omega) | ((try simp only [sigChkG, chkGPost, List.cons.injEq, DV.b.injEq, and_true, List.length_cons, List.length_nil]); first | done | omega | assumption | grind [getD_set, getD_rep, toNat_succ, cntN_yes, cntN_no])
    rfl
  ·
    refine bR_dec (fun h6 => ?_) (fun h6 => ?_)
    ·
      refine req_i ?_ ?_
      · -- r1
        first | omega | (simp only [sigChkG, chkGPost, errG]; split <;> omega) | ((try simp only [sigChkG, chkGPost, List.cons.injEq, DV.b.injEq, and_true, List.length_cons, List.length_nil]); first | done | omega | assumption | grind [getD_set, getD_rep, toNat_succ, cntN_yes, cntN_no])
      rfl
    ·
      refine bR_dec (fun h7 => ?_) (fun h7 => ?_)
      ·
        refine req_i ?_ ?_
        · -- r2
          first | omega | (simp only [sigChkG, chkGPost, errG]; split <;> omega) | ((try simp only [sigChkG, chkGPost, List.cons.injEq, DV.b.injEq, and_true, List.length_cons, List.length_nil]); first | done | omega | assumption | grind [getD_set, getD_rep, toNat_succ, cntN_yes, cntN_no])
        rfl
      ·
        refine bR_dec (fun h8 => ?_) (fun h8 => ?_)
        ·
          refine req_i ?_ ?_
          · -- r3
            first | omega | (simp only [sigChkG, chkGPost, errG]; split <;> omega) | ((try simp only [sigChkG, chkGPost, List.cons.injEq, DV.b.injEq, and_true, List.length_cons, List.length_nil]); first | done | omega | assumption | grind [getD_set, getD_rep, toNat_succ, cntN_yes, cntN_no])
          rfl
        ·
          refine req_i ?_ ?_
          · -- r4
            first | omega | (simp only [sigChkG, chkGPost, errG]; split <;> omega) | ((try simp only [sigChkG, chkGPost, List.cons.injEq, DV.b.injEq, and_true, List.length_cons, List.length_nil]); first | done | omega | assumption | grind [getD_set, getD_rep, toNat_succ, cntN_yes, cntN_no])
          rfl
theorem ext_chkG : ∀ p ∈ ([] : List (Nat × Ext)), ExtRow Try.prog p.1 p.2 := by
  intro p hp
  cases hp
theorem cts_chkG : CtsOk Try.prog [] := fun f c h => by cases h
theorem fn_chkG : FnOk Try.prog 21 sigChkG [] := fn_sound (by kernel_rfl) ext_chkG cts_chkG names vt_chkG
end Go.Proofs.Ytemcaojbhfgpgaa

namespace Go.Proofs.Ytemcaojbhfgpgaa
open Go.Ev Go.Sp
set_option maxRecDepth 100000
theorem vc_chkS : vcFn Try.prog [] tab [] 100 34 sigChkS = (allB fun l0 : List Int => 
impB (l0.length ≤ (9223372036854775807 : Nat)) (
impB (∀ (y : Int), y ∈ l0 → (-9223372036854775808 : Int) ≤ y ∧ y ≤ (9223372036854775807 : Int)) (
allB fun l1 : List Int => 
impB (l1.length = l0.length) (
impB (∀ (y : Int), y ∈ l1 → (-9223372036854775808 : Int) ≤ y ∧ y ≤ (9223372036854775807 : Int)) (
allB fun n2 : Int => 
impB ((0 : Int) ≤ n2) (
impB (n2 ≤ (70368744177664 : Int)) (
impB (sigChkS.pre [DV.l l0, DV.l l1, DV.n n2]) (
bR (dec ((1048576 : Int) < (↑l0.length : Int))) (
 reqB (sigChkS.post [DV.l l0, DV.l l1, DV.n n2] [DV.n (4 : Int)]) (
 true)) (
 reqB (((0 : Nat) + l0.length) * (2 : Nat) ≤ l0.length.mul (2 : Nat)) (
 reqB (l0.length ≤ (9223372036854775807 : Nat)) (
 reqB ((List.take l0.length (List.drop (0 : Nat) l0)).length = l0.length) (
 reqB (∀ (y : Int),
  y ∈ List.take l0.length (List.drop (0 : Nat) l0) → (-9223372036854775808 : Int) ≤ y ∧ y ≤ (9223372036854775807 : Int)) (
 reqB ((List.take l0.length (List.drop (0 : Nat) l1)).length = l0.length) (
 reqB (∀ (y : Int),
  y ∈ List.take l0.length (List.drop (0 : Nat) l1) → (-9223372036854775808 : Int) ≤ y ∧ y ≤ (9223372036854775807 : Int)) (
 reqB ((0 : Int) ≤ n2) (
 reqB (n2 ≤ (70368744177664 : Int)) (
 reqB (chkSL.inv
  [DV.l (List.take l0.length (List.drop (0 : Nat) l0)), DV.l (List.take l0.length (List.drop (0 : Nat) l1)),
    DV.n n2]
  [DV.n (0 : Int)]) (
 allB fun n3 : Int => 
 impB ((0 : Int) ≤ n3) (
 impB (n3 ≤ (9223372036854775807 : Int)) (
 impB (chkSL.inv
  [DV.l (List.take l0.length (List.drop (0 : Nat) l0)), DV.l (List.take l0.length (List.drop (0 : Nat) l1)),
    DV.n n2]
  [DV.n n3]) (
 bR (dec (n3 < (↑l0.length : Int))) (
  reqB (n3.toNat < l0.length) (
  reqB (Nat.add (0 : Nat) n3.toNat < l0.length) (
  reqB (Nat.add (0 : Nat) n3.toNat < l1.length) (
  bR (dec (Min.min (l0.getD (Nat.add (0 : Nat) n3.toNat) (0 : Int)) (l1.getD (Nat.add (0 : Nat) n3.toNat) (0 : Int)) <
  (0 : Int) - n2)) (
   reqB (sigChkS.post [DV.l l0, DV.l l1, DV.n n2] [DV.n (2 : Int)]) (
   true)) (
   bR (dec (n2 < Max.max (l0.getD (Nat.add (0 : Nat) n3.toNat) (0 : Int)) (l1.getD (Nat.add (0 : Nat) n3.toNat) (0 : Int)))) (
    reqB (sigChkS.post [DV.l l0, DV.l l1, DV.n n2] [DV.n (2 : Int)]) (
    true)) (
    allB fun n4 : Int => 
    impB (n4 = Go.IntKind.i64.wrap (n3 + (1 : Int))) (
    impB (Int.negSucc (9223372036854775807 : Nat) ≤ n4) (
    impB (n4 ≤ Int.ofNat (9223372036854775807 : Nat)) (
    bR (bR (bR (dec ((0 : Nat) = (0 : Nat))) (
     dec (l0.length = l0.length)) (
     false)) (
     bR (dec (n2 = n2)) (
      bR (bR (dec ((0 : Nat) = (0 : Nat))) (
       dec (l0.length = l0.length)) (
       false)) (
       bR (dec ((↑l0.length : Int) = (↑l0.length : Int))) (
        true) (
        false)) (
       false)) (
      false)) (
     false)) (
     reqB ((0 : Int) ≤ n4) (
     reqB (n4 ≤ (9223372036854775807 : Int)) (
     reqB (chkSL.inv
  [DV.l (List.take l0.length (List.drop (0 : Nat) l0)), DV.l (List.take l0.length (List.drop (0 : Nat) l1)),
    DV.n n2]
  [DV.n n4]) (
     reqB (chkSL.mea
    [DV.l (List.take l0.length (List.drop (0 : Nat) l0)),
      DV.l (List.take l0.length (List.drop (0 : Nat) l1)), DV.n n2]
    [DV.n n4] <
  chkSL.mea
    [DV.l (List.take l0.length (List.drop (0 : Nat) l0)),
      DV.l (List.take l0.length (List.drop (0 : Nat) l1)), DV.n n2]
    [DV.n n3]) (
     true))))) (
     false)))))))))) (
  reqB (sigChkS.post [DV.l l0, DV.l l1, DV.n n2] [DV.n (0 : Int)]) (
  true))))))))))))))))))))))) := by kernel_rfl
set_option maxHeartbeats 8000000 in
theorem vt_chkS : vcFn Try.prog [] tab [] 100 34 sigChkS = true := by
  rw [vc_chkS]
  try simp only [Int.toNat_natCast, List.length_set, List.length_replicate, List.length_take, List.length_drop, List.length_append, List.length_cons, List.length_nil, Nat.min_self, List.take_take, lenCols_i, lenCols_b, List.drop_zero, List.take_length, Nat.add_eq, Nat.mul_eq, Nat.sub_eq, Nat.zero_add, Nat.sub_zero, Nat.mul_one]
  refine all_i fun l0 => ?_
  refine imp_i fun h0 => ?_
  refine imp_i fun h1 => ?_
  refine all_i fun l1 => ?_
  refine imp_i fun h2 => ?_
  have tkl1 := take_eq h2
  try simp only [tkl1]
  refine imp_i fun h3 => ?_
  refine all_i fun n2 => ?_
  refine imp_i fun h4 => ?_
  refine imp_i fun h5 => ?_
  refine imp_i fun h6 => ?_
  try simp only [sigChkS, chkSPost, List.cons.injEq, DV.b.injEq, and_true, List.length_cons, List.length_nil] at h6
  refine bR_dec (fun h7 => ?_) (fun h7 => ?_)
  ·
    refine req_i ?_ ?_
    · -- r0
      simp only [sigChkS, chkSPost]; rw [errL_4 h7]
    rfl
  ·
    refine req_i ?_ ?_
    · -- r1
      first | omega | ((try simp only [Nat.mul_eq]); first | done | omega | assumption | grind [getD_set, getD_rep, toNat_succ, cntN_yes, cntN_no])
    refine req_i ?_ ?_
    · -- r2
      first | omega | ((try simp only [Nat.zero_add]); first | done | omega | assumption | grind [getD_set, getD_rep, toNat_succ, cntN_yes, cntN_no])
    refine req_i ?_ ?_
    · -- r3
      first | omega | ((try simp only [List.length_take, List.take_length, List.take_take, Nat.min_self, List.length_drop, List.drop_zero, List.length_cons, List.length_nil]); first | done | omega | assumption | grind [getD_set, getD_rep, toNat_succ, cntN_yes, cntN_no])
    refine req_i ?_ ?_
    · -- r4
      first | assumption | exact rep_bd (by omega) (by omega) | exact set_bd (by assumption) (by omega) (by omega) | exact take_bd (by assumption) | ((try simp only [List.length_take, List.take_length, List.take_take, Nat.min_self, List.length_drop, List.drop_zero, List.length_cons, List.length_nil]); first | assumption | exact rep_bd (by omega) (by omega) | exact set_bd (by assumption) (by omega) (by omega) | exact take_bd (by assumption) | grind [getD_set, getD_rep, toNat_succ, cntN_yes, cntN_no])
    refine req_i ?_ ?_
    · -- r5
      first | omega | ((try simp only [List.length_take, List.take_length, List.take_take, Nat.min_self, List.length_drop, List.drop_zero, List.length_cons, List.length_nil]); first | done | omega | assumption | grind [getD_set, getD_rep, toNat_succ, cntN_yes, cntN_no])
    refine req_i ?_ ?_
    · -- r6
      first | assumption | exact rep_bd (by omega) (by omega) | exact set_bd (by assumption) (by omega) (by omega) | exact take_bd (by assumption) | ((try simp only [List.length_take, List.take_length, List.take_take, Nat.min_self, List.length_drop, List.drop_zero, List.length_cons, List.length_nil]); first | assumption | exact rep_bd (by omega) (by omega) | exact set_bd (by assumption) (by omega) (by omega) | exact take_bd (by assumption) | grind [getD_set, getD_rep, toNat_succ, cntN_yes, cntN_no])
    refine req_i ?_ ?_
    · -- r7
      first | omega | assumption | grind
    refine req_i ?_ ?_
    · -- r8
      first | omega | assumption | grind
    refine req_i ?_ ?_
    · -- r9
      first | omega | ((try simp only [chkSL, chkSInv, mea0, List.cons.injEq, DV.b.injEq, and_true, List.length_take, List.take_length, List.take_take, Nat.min_self, List.length_drop, List.drop_zero, List.length_cons, List.length_nil]); first | done | omega | assumption | grind [getD_set, getD_rep, toNat_succ, cntN_yes, cntN_no])
    refine all_i fun n3 => ?_
    refine imp_i fun h8 => ?_
    refine imp_i fun h9 => ?_
    refine imp_i fun h10 => ?_
    try simp only [chkSL, chkSInv, mea0, List.cons.injEq, DV.b.injEq, and_true, List.length_take, List.take_length, List.take_take, Nat.min_self, List.length_drop, List.drop_zero, List.length_cons, List.length_nil] at h10
    refine bR_dec (fun h11 => ?_) (fun h11 => ?_)
    ·
      refine req_i ?_ ?_
      · -- r10
        first | omega | ((try simp only [Int.toNat_natCast, List.length_cons, List.length_nil]); first | done | omega | assumption | grind [getD_set, getD_rep, toNat_succ, cntN_yes, cntN_no])
      refine req_i ?_ ?_
      · -- r11
        first | omega | ((try simp only [Int.toNat_natCast, List.length_cons, List.length_nil, Nat.add_eq, Nat.zero_add]); first | done | omega | assumption | grind [getD_set, getD_rep, toNat_succ, cntN_yes, cntN_no])
      refine req_i ?_ ?_
      · -- r12
        first | omega | ((try simp only [Int.toNat_natCast, List.length_cons, List.length_nil, Nat.add_eq, Nat.zero_add]); first | done | omega | assumption | grind [getD_set, getD_rep, toNat_succ, cntN_yes, cntN_no])
      refine bR_dec (fun h12 => ?_) (fun h12 => ?_)
      ·
        refine req_i ?_ ?_
        · -- r13
          simp only [sigChkS, chkSPost]; rw [errL_2 (by omega) (fun g => by have := g n3.toNat (by omega); omega)]
        rfl
      ·
        refine bR_dec (fun h13 => ?_) (fun h13 => ?_)
        ·
          refine req_i ?_ ?_
          · -- r14
            simp only [sigChkS, chkSPost]; rw [errL_2 (by omega) (fun g => by have := g n3.toNat (by omega); omega)]
          rfl
        ·
          refine all_i fun n4 => ?_
          refine imp_i fun h14 => ?_
          simp only [wrap_i64] at h14
          refine imp_i fun h15 => ?_
          refine imp_i fun h16 => ?_
          refine bR_t ?_ ?_
          · -- g0
            first | rfl | (simp only [bR_iff, bR_iff_f, dec_iff, dec_f, beqB_iff', andB_iff', reduceCtorEq, imp_self, false_implies, and_true, true_and, implies_true, and_self]; done) | (simp [bR_iff, dec_iff, beqB_iff', andB_iff']; done) | (simp [bR_iff, dec_iff, beqB_iff', andB_iff']; omega)
          refine req_i ?_ ?_
          · -- r15
            first | omega | assumption | grind
          refine req_i ?_ ?_
          · -- r16
            first | omega | assumption | grind
          refine req_i ?_ ?_
          · -- r17
            first | omega | ((try simp only [chkSL, chkSInv, mea0, List.cons.injEq, DV.b.injEq, and_true, List.length_take, List.take_length, List.take_take, Nat.min_self, List.length_drop, List.drop_zero, List.length_cons, List.length_nil]); first | done | omega | assumption | grind [getD_set, getD_rep, toNat_succ, cntN_yes, cntN_no])
          refine req_i ?_ ?_
          · -- r18
            first | omega | ((try simp only [chkSL, chkSInv, mea0, List.cons.injEq, DV.b.injEq, and_true, List.length_take, List.take_length, List.take_take, Nat.min_self, List.length_drop, List.drop_zero, List.length_cons, List.length_nil]); first | done | omega | assumption | grind [getD_set, getD_rep, toNat_succ, cntN_yes, cntN_no])
          rfl
    ·
      refine req_i ?_ ?_
      · -- r19
        simp only [sigChkS, chkSPost]; rw [errL_0 (by omega) (fun j hj => h10.2.2 j (by omega))]
      rfl
theorem ext_chkS : ∀ p ∈ ([] : List (Nat × Ext)), ExtRow Try.prog p.1 p.2 := by
  intro p hp
  cases hp
theorem cts_chkS : CtsOk Try.prog [] := fun f c h => by cases h
theorem fn_chkS : FnOk Try.prog 34 sigChkS [] := fn_sound (by kernel_rfl) ext_chkS cts_chkS names vt_chkS
end Go.Proofs.Ytemcaojbhfgpgaa

namespace Go.Proofs.Ytemcaojbhfgpgaa
open Go.Ev Go.Sp
set_option maxRecDepth 100000
theorem vc_chkA : vcFn Try.prog [(21, Ext.ctr (ctOf sigChkG)), (34, Ext.ctr (ctOf sigChkS))] tab [] 100 31 sigChkA = (allB fun l0 : List Int => 
impB (l0.length ≤ (9223372036854775807 : Nat)) (
impB (∀ (y : Int), y ∈ l0 → (-9223372036854775808 : Int) ≤ y ∧ y ≤ (9223372036854775807 : Int)) (
allB fun l1 : List Int => 
impB (l1.length = l0.length) (
impB (∀ (y : Int), y ∈ l1 → (-9223372036854775808 : Int) ≤ y ∧ y ≤ (9223372036854775807 : Int)) (
allB fun n2 : Int => 
impB ((-9223372036854775808 : Int) ≤ n2) (
impB (n2 ≤ (9223372036854775807 : Int)) (
allB fun n3 : Int => 
impB ((-9223372036854775808 : Int) ≤ n3) (
impB (n3 ≤ (9223372036854775807 : Int)) (
impB (sigChkA.pre [DV.l l0, DV.l l1, DV.n n2, DV.n n3]) (
reqB ((-9223372036854775808 : Int) ≤ n2) (
reqB (n2 ≤ (9223372036854775807 : Int)) (
reqB ((-9223372036854775808 : Int) ≤ n3) (
reqB (n3 ≤ (9223372036854775807 : Int)) (
reqB (sigChkG.pre [DV.n n2, DV.n n3]) (
allB fun n4 : Int => 
impB ((0 : Int) ≤ n4) (
impB (n4 ≤ (18 : Int)) (
impB (sigChkG.post [DV.n n2, DV.n n3] [DV.n n4]) (
bR (dec (n4 ≠ (0 : Int))) (
 reqB ((0 : Int) ≤ n4) (
 reqB (n4 ≤ (18 : Int)) (
 reqB (sigChkA.post [DV.l l0, DV.l l1, DV.n n2, DV.n n3] [DV.n n4]) (
 true)))) (
 reqB (((0 : Nat) + l0.length) * (2 : Nat) ≤ l0.length.mul (2 : Nat)) (
 reqB (l0.length ≤ (9223372036854775807 : Nat)) (
 reqB ((List.take l0.length (List.drop (0 : Nat) l0)).length = l0.length) (
 reqB (∀ (y : Int),
  y ∈ List.take l0.length (List.drop (0 : Nat) l0) → (-9223372036854775808 : Int) ≤ y ∧ y ≤ (9223372036854775807 : Int)) (
 reqB ((List.take l0.length (List.drop (0 : Nat) l1)).length = l0.length) (
 reqB (∀ (y : Int),
  y ∈ List.take l0.length (List.drop (0 : Nat) l1) → (-9223372036854775808 : Int) ≤ y ∧ y ≤ (9223372036854775807 : Int)) (
 reqB (sigChkS.pre
  [DV.l (List.take l0.length (List.drop (0 : Nat) l0)), DV.l (List.take l0.length (List.drop (0 : Nat) l1)),
    DV.n (70368744177664 : Int)]) (
 allB fun n5 : Int => 
 impB ((0 : Int) ≤ n5) (
 impB (n5 ≤ (18 : Int)) (
 impB (sigChkS.post
  [DV.l (List.take l0.length (List.drop (0 : Nat) l0)), DV.l (List.take l0.length (List.drop (0 : Nat) l1)),
    DV.n (70368744177664 : Int)]
  [DV.n n5]) (
 reqB ((0 : Int) ≤ n5) (
 reqB (n5 ≤ (18 : Int)) (
 reqB (sigChkA.post [DV.l l0, DV.l l1, DV.n n2, DV.n n3] [DV.n n5]) (
 true)))))))))))))))))))))))))))))))) := by kernel_rfl
set_option maxHeartbeats 8000000 in
theorem vt_chkA : vcFn Try.prog [(21, Ext.ctr (ctOf sigChkG)), (34, Ext.ctr (ctOf sigChkS))] tab [] 100 31 sigChkA = true := by
  rw [vc_chkA]
  try simp only [Int.toNat_natCast, List.length_set, List.length_replicate, List.length_take, List.length_drop, List.length_append, List.length_cons, List.length_nil, Nat.min_self, List.take_take, lenCols_i, lenCols_b, List.drop_zero, List.take_length, Nat.add_eq, Nat.mul_eq, Nat.sub_eq, Nat.zero_add, Nat.sub_zero, Nat.mul_one]
  refine all_i fun l0 => ?_
  refine imp_i fun h0 => ?_
  refine imp_i fun h1 => ?_
  refine all_i fun l1 => ?_
  refine imp_i fun h2 => ?_
  have tkl1 := take_eq h2
  try simp only [tkl1]
  refine imp_i fun h3 => ?_
  refine all_i fun n2 => ?_
  refine imp_i fun h4 => ?_
  refine imp_i fun h5 => ?_
  refine all_i fun n3 => ?_
  refine imp_i fun h6 => ?_
  refine imp_i fun h7 => ?_
  refine imp_i fun h8 => ?_
  try simp only [sigChkA, chkAPost, List.cons.injEq, DV.b.injEq, and_true, List.length_cons, List.length_nil] at h8
  refine req_i ?_ ?_
  · -- r0
    first | omega | assumption | grind
  refine req_i ?_ ?_
  · -- r1
    first | omega | assumption | grind
  refine req_i ?_ ?_
  · -- r2
    first | omega | assumption | grind
  refine req_i ?_ ?_
  · -- r3
    first | omega | assumption | grind
  refine req_i ?_ ?_
  · -- r4
    first | trivial | assumption | (simp only [sigChkG, chkGPost, List.cons.injEq, DV.b.injEq, and_true, List.length_cons, List.length_nil]; done) | ((try simp only [sigChkG, chkGPost, List.cons.injEq, DV.b.injEq, and_true, List.length_cons, List.length_nil]); first | omega | assumption | grind)
  refine all_i fun n4 => ?_
  refine imp_i fun h9 => ?_
  refine imp_i fun h10 => ?_
  refine imp_i fun h11 => ?_
  try simp only [sigChkG, chkGPost, List.cons.injEq, DV.b.injEq, and_true, List.length_cons, List.length_nil] at h11
  refine bR_dec (fun h12 => ?_) (fun h12 => ?_)
  ·
    refine req_i ?_ ?_
    · -- r5
      first | omega | assumption | grind
    refine req_i ?_ ?_
    · -- r6
      first | omega | assumption | grind
    refine req_i ?_ ?_
    · -- r7
      simp only [sigChkA, chkAPost, errS]; rw [if_neg (by omega)]; exact h11
    rfl
  ·
    refine req_i ?_ ?_
    · -- r8
      first | omega | ((try simp only [Nat.mul_eq]); first | done | omega | assumption | grind [getD_set, getD_rep, toNat_succ, cntN_yes, cntN_no])
    refine req_i ?_ ?_
    · -- r9
      first | omega | ((try simp only [Nat.zero_add]); first | done | omega | assumption | grind [getD_set, getD_rep, toNat_succ, cntN_yes, cntN_no])
    refine req_i ?_ ?_
    · -- r10
      first | omega | ((try simp only [List.length_take, List.take_length, List.take_take, Nat.min_self, List.length_drop, List.drop_zero, List.length_cons, List.length_nil]); first | done | omega | assumption | grind [getD_set, getD_rep, toNat_succ, cntN_yes, cntN_no])
    refine req_i ?_ ?_
    · -- r11
      first | assumption | exact rep_bd (by omega) (by omega) | exact set_bd (by assumption) (by omega) (by omega) | exact take_bd (by assumption) | ((try simp only [List.length_take, List.take_length, List.take_take, Nat.min_self, List.length_drop, List.drop_zero, List.length_cons, List.length_nil]); first | assumption | exact rep_bd (by omega) (by omega) | exact set_bd (by assumption) (by omega) (by omega) | exact take_bd (by assumption) | grind [getD_set, getD_rep, toNat_succ, cntN_yes, cntN_no])
    refine req_i ?_ ?_
    · -- r12
      first | omega | ((try simp only [List.length_take, List.take_length, List.take_take, Nat.min_self, List.length_drop, List.drop_zero, List.length_cons, List.length_nil]); first | done | omega | assumption | grind [getD_set, getD_rep, toNat_succ, cntN_yes, cntN_no])
    refine req_i ?_ ?_
    · -- r13
      first | assumption | exact rep_bd (by omega) (by omega) | exact set_bd (by assumption) (by omega) (by omega) | exact take_bd (by assumption) | ((try simp only [List.length_take, List.take_length, List.take_take, Nat.min_self, List.length_drop, List.drop_zero, List.length_cons, List.length_nil]); first | assumption | exact rep_bd (by omega) (by omega) | exact set_bd (by assumption) (by omega) (by omega) | exact take_bd (by assumption) | grind [getD_set, getD_rep, toNat_succ, cntN_yes, cntN_no])
    refine req_i ?_ ?_
    · -- r14
      first | omega | ((try simp only [sigChkS, chkSPost, List.cons.injEq, DV.b.injEq, and_true, List.length_take, List.take_length, List.take_take, Nat.min_self, List.length_drop, List.drop_zero, List.length_cons, List.length_nil]); first | done | omega | assumption | grind [getD_set, getD_rep, toNat_succ, cntN_yes, cntN_no])
    refine all_i fun n5 => ?_
    refine imp_i fun h13 => ?_
    refine imp_i fun h14 => ?_
    refine imp_i fun h15 => ?_
    try simp only [sigChkS, chkSPost, List.cons.injEq, DV.b.injEq, and_true, List.length_take, List.take_length, List.take_take, Nat.min_self, List.length_drop, List.drop_zero, List.length_cons, List.length_nil] at h15
    refine req_i ?_ ?_
    · -- r15
      first | omega | assumption | grind
    refine req_i ?_ ?_
    · -- r16
      first | omega | assumption | grind
    refine req_i ?_ ?_
    · -- r17
      simp only [sigChkA, chkAPost, errS]; rw [if_pos (by omega)]; exact h15
    rfl
theorem ext_chkA : ∀ p ∈ ([(21, Ext.ctr (ctOf sigChkG)), (34, Ext.ctr (ctOf sigChkS))] : List (Nat × Ext)), ExtRow Try.prog p.1 p.2 := by
  intro p hp
  simp only [List.mem_cons, List.not_mem_nil, or_false] at hp
  rcases hp with rfl | rfl <;> trivial
theorem cts_chkA : CtsOk Try.prog [(21, Ext.ctr (ctOf sigChkG)), (34, Ext.ctr (ctOf sigChkS))] := ctsOk_of (cs := [(21, sigChkG), (34, sigChkS)])
  (fun p hp => by
    simp only [List.mem_cons, List.not_mem_nil, or_false] at hp
    rcases hp with rfl | rfl
    · exact fn_chkG
    · exact fn_chkS
)
  (fun f c h => by
    simp only [List.lookup_cons] at h
    repeat' split at h
    all_goals first | (cases h; done) | (rename_i e; have e := beq_iff_eq.1 e; subst e; cases h; exact ⟨_, by simp, rfl⟩))
theorem fn_chkA : FnOk Try.prog 31 sigChkA [] := fn_sound (by kernel_rfl) ext_chkA cts_chkA names vt_chkA
end Go.Proofs.Ytemcaojbhfgpgaa

namespace Go.Proofs.Ytemcaojbhfgpgaa
open Go.Ev Go.Sp
set_option maxRecDepth 100000
theorem vc_gr : vcFn Try.prog [] tab [] 100 35 sigGr = (allB fun n0 : Int => 
impB ((2 : Int) ≤ n0) (
impB (n0 ≤ (8 : Int)) (
allB fun n1 : Int => 
impB ((0 : Int) ≤ n1) (
impB (n1 ≤ (30 : Int)) (
impB (sigGr.pre [DV.n n0, DV.n n1]) (
reqB ((1 : Int) ≤ opI (SO.shl Go.IntKind.i64) (1 : Int) (n0 - (1 : Int)) - (1 : Int)) (
reqB (opI (SO.shl Go.IntKind.i64) (1 : Int) (n0 - (1 : Int)) - (1 : Int) ≤ (127 : Int)) (
reqB (sigGr.post [DV.n n0, DV.n n1]
  [DV.n (opI (SO.shl Go.IntKind.i64) (1 : Int) (n0 - (1 : Int)) - (1 : Int))]) (
true))))))))) := by kernel_rfl
set_option maxHeartbeats 8000000 in
theorem vt_gr : vcFn Try.prog [] tab [] 100 35 sigGr = true := by
  rw [vc_gr]
  try simp only [Int.toNat_natCast, List.length_set, List.length_replicate, List.length_take, List.length_drop, List.length_append, List.length_cons, List.length_nil, Nat.min_self, List.take_take, lenCols_i, lenCols_b, List.drop_zero, List.take_length, Nat.add_eq, Nat.mul_eq, Nat.sub_eq, Nat.zero_add, Nat.sub_zero, Nat.mul_one]
  refine all_i fun n0 => ?_
  refine imp_i fun h0 => ?_
  refine imp_i fun h1 => ?_
  refine all_i fun n1 => ?_
  refine imp_i fun h2 => ?_
  refine imp_i fun h3 => ?_
  refine imp_i fun h4 => ?_
  try simp only [sigGr, grPost, List.cons.injEq, DV.b.injEq, and_true, List.length_cons, List.length_nil] at h4
  rw [shl_one (by omega) (by omega)]
  have b1 := qq_bd (b := n0) (by omega) (by omega)
  rw [show p2 (n0 - 1) - 1 = qq n0 from rfl]
  refine req_i ?_ ?_
  · -- r0
    first | omega | assumption | grind
  refine req_i ?_ ?_
  · -- r1
    first | omega | assumption | grind
  refine req_i ?_ ?_
  · -- r2
    first | omega | ((try simp only [sigGr, grPost, List.cons.injEq, DV.b.injEq, and_true, List.length_cons, List.length_nil]); first | done | omega | assumption | grind [getD_set, getD_rep, toNat_succ, cntN_yes, cntN_no])
  rfl
theorem ext_gr : ∀ p ∈ ([] : List (Nat × Ext)), ExtRow Try.prog p.1 p.2 := by
  intro p hp
  cases hp
theorem cts_gr : CtsOk Try.prog [] := fun f c h => by cases h
theorem fn_gr : FnOk Try.prog 35 sigGr [] := fn_sound (by kernel_rfl) ext_gr cts_gr names vt_gr
end Go.Proofs.Ytemcaojbhfgpgaa

namespace Go.Proofs.Ytemcaojbhfgpgaa
open Go.Ev Go.Sp
set_option maxRecDepth 100000
theorem vc_hv0 : vcFn Try.prog [] tab [] 100 47 (sigHv 0 70368744177664) = (allB fun n0 : Int => 
impB ((0 : Int) ≤ n0) (
impB (n0 ≤ (70368744177664 : Int)) (
allB fun n1 : Int => 
impB ((0 : Int) ≤ n1) (
impB (n1 ≤ (30 : Int)) (
impB ((sigHv (0 : Int) (70368744177664 : Int)).pre [DV.n n0, DV.n n1]) (
reqB ((-70368744177664 : Int) ≤
  opI (SO.shr Go.IntKind.i64)
    (n0 + opI (SO.shl Go.IntKind.i64) (1 : Int) n1 / Int.ofNat (2 : Nat)) n1) (
reqB (opI (SO.shr Go.IntKind.i64)
    (n0 + opI (SO.shl Go.IntKind.i64) (1 : Int) n1 / Int.ofNat (2 : Nat)) n1 ≤
  (70368744177664 : Int)) (
reqB ((sigHv (0 : Int) (70368744177664 : Int)).post [DV.n n0, DV.n n1]
  [DV.n
      (opI (SO.shr Go.IntKind.i64)
        (n0 + opI (SO.shl Go.IntKind.i64) (1 : Int) n1 / Int.ofNat (2 : Nat)) n1)]) (
true))))))))) := by kernel_rfl
set_option maxHeartbeats 8000000 in
theorem vt_hv0 : vcFn Try.prog [] tab [] 100 47 (sigHv 0 70368744177664) = true := by
  rw [vc_hv0]
  try simp only [Int.toNat_natCast, List.length_set, List.length_replicate, List.length_take, List.length_drop, List.length_append, List.length_cons, List.length_nil, Nat.min_self, List.take_take, lenCols_i, lenCols_b, List.drop_zero, List.take_length, Nat.add_eq, Nat.mul_eq, Nat.sub_eq, Nat.zero_add, Nat.sub_zero, Nat.mul_one]
  refine all_i fun n0 => ?_
  refine imp_i fun h0 => ?_
  refine imp_i fun h1 => ?_
  refine all_i fun n1 => ?_
  refine imp_i fun h2 => ?_
  refine imp_i fun h3 => ?_
  refine imp_i fun h4 => ?_
  try simp only [sigHv, hvPost, List.cons.injEq, DV.b.injEq, and_true, List.length_cons, List.length_nil] at h4
  rw [shr_eq (by omega) (by omega), shl_one (by omega) (by omega), show (Int.ofNat 2) = 2 from rfl]
  have b1 := hv_bd (x := n0) (n := n1) (M := 70368744177664) (by omega) (by omega)
  have e1 : (n0 + p2 n1 / 2) / p2 n1 = hv n0 n1 := by rw [hv, if_neg (by omega)]
  rw [e1]
  refine req_i ?_ ?_
  · -- r0
    first | omega | assumption | grind
  refine req_i ?_ ?_
  · -- r1
    first | omega | assumption | grind
  refine req_i ?_ ?_
  · -- r2
    first | omega | ((try simp only [sigHv, hvPost, List.cons.injEq, DV.b.injEq, and_true, List.length_cons, List.length_nil]); first | done | omega | assumption | grind [getD_set, getD_rep, toNat_succ, cntN_yes, cntN_no])
  rfl
theorem ext_hv0 : ∀ p ∈ ([] : List (Nat × Ext)), ExtRow Try.prog p.1 p.2 := by
  intro p hp
  cases hp
theorem cts_hv0 : CtsOk Try.prog [] := fun f c h => by cases h
theorem fn_hv0 : FnOk Try.prog 47 (sigHv 0 70368744177664) [] := fn_sound (by kernel_rfl) ext_hv0 cts_hv0 names vt_hv0
end Go.Proofs.Ytemcaojbhfgpgaa

namespace Go.Proofs.Ytemcaojbhfgpgaa
open Go.Ev Go.Sp
set_option maxRecDepth 100000
theorem vc_hv1 : vcFn Try.prog [] tab [] 100 47 (sigHv (-70368744177664) (-1)) = (allB fun n0 : Int => 
impB ((-70368744177664 : Int) ≤ n0) (
impB (n0 ≤ (-1 : Int)) (
allB fun n1 : Int => 
impB ((0 : Int) ≤ n1) (
impB (n1 ≤ (30 : Int)) (
impB ((sigHv (-70368744177664 : Int) (-1 : Int)).pre [DV.n n0, DV.n n1]) (
reqB ((-70368744177664 : Int) ≤
  (0 : Int) -
    opI (SO.shr Go.IntKind.i64)
      (opI (SO.shl Go.IntKind.i64) (1 : Int) n1 / Int.ofNat (2 : Nat) - n0) n1) (
reqB ((0 : Int) -
    opI (SO.shr Go.IntKind.i64)
      (opI (SO.shl Go.IntKind.i64) (1 : Int) n1 / Int.ofNat (2 : Nat) - n0) n1 ≤
  (70368744177664 : Int)) (
reqB ((sigHv (-70368744177664 : Int) (-1 : Int)).post [DV.n n0, DV.n n1]
  [DV.n
      ((0 : Int) -
        opI (SO.shr Go.IntKind.i64)
          (opI (SO.shl Go.IntKind.i64) (1 : Int) n1 / Int.ofNat (2 : Nat) - n0) n1)]) (
true))))))))) := by kernel_rfl
set_option maxHeartbeats 8000000 in
theorem vt_hv1 : vcFn Try.prog [] tab [] 100 47 (sigHv (-70368744177664) (-1)) = true := by
  rw [vc_hv1]
  try simp only [Int.toNat_natCast, List.length_set, List.length_replicate, List.length_take, List.length_drop, List.length_append, List.length_cons, List.length_nil, Nat.min_self, List.take_take, lenCols_i, lenCols_b, List.drop_zero, List.take_length, Nat.add_eq, Nat.mul_eq, Nat.sub_eq, Nat.zero_add, Nat.sub_zero, Nat.mul_one]
  refine all_i fun n0 => ?_
  refine imp_i fun h0 => ?_
  refine imp_i fun h1 => ?_
  refine all_i fun n1 => ?_
  refine imp_i fun h2 => ?_
  refine imp_i fun h3 => ?_
  refine imp_i fun h4 => ?_
  try simp only [sigHv, hvPost, List.cons.injEq, DV.b.injEq, and_true, List.length_cons, List.length_nil] at h4
  rw [shr_eq (by omega) (by omega), shl_one (by omega) (by omega), show (Int.ofNat 2) = 2 from rfl]
  have b1 := hv_bd (x := n0) (n := n1) (M := 70368744177664) (by omega) (by omega)
  have e1 : 0 - (p2 n1 / 2 - n0) / p2 n1 = hv n0 n1 := by rw [hv, if_pos (by omega)]; omega
  rw [e1]
  refine req_i ?_ ?_
  · -- r0
    first | omega | assumption | grind
  refine req_i ?_ ?_
  · -- r1
    first | omega | assumption | grind
  refine req_i ?_ ?_
  · -- r2
    first | omega | ((try simp only [sigHv, hvPost, List.cons.injEq, DV.b.injEq, and_true, List.length_cons, List.length_nil]); first | done | omega | assumption | grind [getD_set, getD_rep, toNat_succ, cntN_yes, cntN_no])
  rfl
theorem ext_hv1 : ∀ p ∈ ([] : List (Nat × Ext)), ExtRow Try.prog p.1 p.2 := by
  intro p hp
  cases hp
theorem cts_hv1 : CtsOk Try.prog [] := fun f c h => by cases h
theorem fn_hv1 : FnOk Try.prog 47 (sigHv (-70368744177664) (-1)) [] := fn_sound (by kernel_rfl) ext_hv1 cts_hv1 names vt_hv1
end Go.Proofs.Ytemcaojbhfgpgaa

namespace Go.Proofs.Ytemcaojbhfgpgaa
open Go.Ev Go.Sp
theorem fn_hv : FnOk Try.prog 47 (sigHv (-70368744177664) 70368744177664) [] := by
  exact fn_split1 (m := 0) (m' := -1) (by decide) fn_hv0 fn_hv1
end Go.Proofs.Ytemcaojbhfgpgaa

namespace Go.Proofs.Ytemcaojbhfgpgaa
open Go.Ev Go.Sp
set_option maxRecDepth 100000
theorem vc_lev : vcFn Try.prog [(35, Ext.ctr (ctOf sigGr)), (47, Ext.ctr (ctOf (sigHv (-70368744177664) 70368744177664)))] tab [] 100 32 sigLev = (allB fun n0 : Int => 
impB ((2 : Int) ≤ n0) (
impB (n0 ≤ (8 : Int)) (
allB fun n1 : Int => 
impB ((0 : Int) ≤ n1) (
impB (n1 ≤ (30 : Int)) (
allB fun n2 : Int => 
impB ((-70368744177664 : Int) ≤ n2) (
impB (n2 ≤ (70368744177664 : Int)) (
impB (sigLev.pre [DV.n n0, DV.n n1, DV.n n2]) (
reqB ((2 : Int) ≤ n0) (
reqB (n0 ≤ (8 : Int)) (
reqB ((0 : Int) ≤ n1) (
reqB (n1 ≤ (30 : Int)) (
reqB (sigGr.pre [DV.n n0, DV.n n1]) (
allB fun n3 : Int => 
impB ((1 : Int) ≤ n3) (
impB (n3 ≤ (127 : Int)) (
impB (sigGr.post [DV.n n0, DV.n n1] [DV.n n3]) (
reqB ((-70368744177664 : Int) ≤ n2) (
reqB (n2 ≤ (70368744177664 : Int)) (
reqB ((0 : Int) ≤ n1) (
reqB (n1 ≤ (30 : Int)) (
reqB ((sigHv (-70368744177664 : Int) (70368744177664 : Int)).pre [DV.n n2, DV.n n1]) (
allB fun n4 : Int => 
impB ((-70368744177664 : Int) ≤ n4) (
impB (n4 ≤ (70368744177664 : Int)) (
impB ((sigHv (-70368744177664 : Int) (70368744177664 : Int)).post [DV.n n2, DV.n n1] [DV.n n4]) (
reqB ((-127 : Int) ≤ Min.min (Max.max n4 ((0 : Int) - n3)) n3) (
reqB (Min.min (Max.max n4 ((0 : Int) - n3)) n3 ≤ (127 : Int)) (
reqB (sigLev.post [DV.n n0, DV.n n1, DV.n n2] [DV.n (Min.min (Max.max n4 ((0 : Int) - n3)) n3)]) (
true))))))))))))))))))))))))))) := by kernel_rfl
set_option maxHeartbeats 8000000 in
theorem vt_lev : vcFn Try.prog [(35, Ext.ctr (ctOf sigGr)), (47, Ext.ctr (ctOf (sigHv (-70368744177664) 70368744177664)))] tab [] 100 32 sigLev = true := by
  rw [vc_lev]
  try simp only [Int.toNat_natCast, List.length_set, List.length_replicate, List.length_take, List.length_drop, List.length_append, List.length_cons, List.length_nil, Nat.min_self, List.take_take, lenCols_i, lenCols_b, List.drop_zero, List.take_length, Nat.add_eq, Nat.mul_eq, Nat.sub_eq, Nat.zero_add, Nat.sub_zero, Nat.mul_one]
  refine all_i fun n0 => ?_
  refine imp_i fun h0 => ?_
  refine imp_i fun h1 => ?_
  refine all_i fun n1 => ?_
  refine imp_i fun h2 => ?_
  refine imp_i fun h3 => ?_
  refine all_i fun n2 => ?_
  refine imp_i fun h4 => ?_
  refine imp_i fun h5 => ?_
  refine imp_i fun h6 => ?_
  try simp only [sigLev, levPost, List.cons.injEq, DV.b.injEq, and_true, List.length_cons, List.length_nil] at h6
  refine req_i ?_ ?_
  · -- r0
    first | omega | assumption | grind
  refine req_i ?_ ?_
  · -- r1
    first | omega | assumption | grind
  refine req_i ?_ ?_
  · -- r2
    first | omega | assumption | grind
  refine req_i ?_ ?_
  · -- r3
    first | omega | assumption | grind
  refine req_i ?_ ?_
  · -- r4
    first | trivial | assumption | (simp only [sigGr, grPost, List.cons.injEq, DV.b.injEq, and_true, List.length_cons, List.length_nil]; done) | ((try simp only [sigGr, grPost, List.cons.injEq, DV.b.injEq, and_true, List.length_cons, List.length_nil]); first | omega | assumption | grind)
  refine all_i fun n3 => ?_
  refine imp_i fun h7 => ?_
  refine imp_i fun h8 => ?_
  refine imp_i fun h9 => ?_
  try simp only [sigGr, grPost, List.cons.injEq, DV.b.injEq, and_true, List.length_cons, List.length_nil] at h9
  refine req_i ?_ ?_
  · -- r5
    first | omega | assumption | grind
  refine req_i ?_ ?_
  · -- r6
    first | omega | assumption | grind
  refine req_i ?_ ?_
  · -- r7
    first | omega | assumption | grind
  refine req_i ?_ ?_
  · -- r8
    first | omega | assumption | grind
  refine req_i ?_ ?_
  · -- r9
    first | trivial | assumption | (simp only [sigHv, hvPost, List.cons.injEq, DV.b.injEq, and_true, List.length_cons, List.length_nil]; done) | ((try simp only [sigHv, hvPost, List.cons.injEq, DV.b.injEq, and_true, List.length_cons, List.length_nil]); first | omega | assumption | grind)
  refine all_i fun n4 => ?_
  refine imp_i fun h10 => ?_
  refine imp_i fun h11 => ?_
  refine imp_i fun h12 => ?_
  try simp only [sigHv, hvPost, List.cons.injEq, DV.b.injEq, and_true, List.length_cons, List.length_nil] at h12
  refine req_i ?_ ?_
  · -- r10
    first | omega | assumption | grind
  refine req_i ?_ ?_
  · -- r11
    first | omega | assumption | grind
  refine req_i ?_ ?_
  · -- r12
    simp only [sigLev, levPost, lev]; rw [← h9, ← h12]; omega
  rfl
theorem ext_lev : ∀ p ∈ ([(35, Ext.ctr (ctOf sigGr)), (47, Ext.ctr (ctOf (sigHv (-70368744177664) 70368744177664)))] : List (Nat × Ext)), ExtRow Try.prog p.1 p.2 := by
  intro p hp
  simp only [List.mem_cons, List.not_mem_nil, or_false] at hp
  rcases hp with rfl | rfl <;> trivial
theorem cts_lev : CtsOk Try.prog [(35, Ext.ctr (ctOf sigGr)), (47, Ext.ctr (ctOf (sigHv (-70368744177664) 70368744177664)))] := ctsOk_of (cs := [(35, sigGr), (47, (sigHv (-70368744177664) 70368744177664))])
  (fun p hp => by
    simp only [List.mem_cons, List.not_mem_nil, or_false] at hp
    rcases hp with rfl | rfl
    · exact fn_gr
    · exact fn_hv
)
  (fun f c h => by
    simp only [List.lookup_cons] at h
    repeat' split at h
    all_goals first | (cases h; done) | (rename_i e; have e := beq_iff_eq.1 e; subst e; cases h; exact ⟨_, by simp, rfl⟩))
theorem fn_lev : FnOk Try.prog 32 sigLev [] := fn_sound (by kernel_rfl) ext_lev cts_lev names vt_lev
end Go.Proofs.Ytemcaojbhfgpgaa

namespace Go.Proofs.Ytemcaojbhfgpgaa
open Go.Ev Go.Sp
set_option maxRecDepth 100000
theorem vc_lost : vcFn Try.prog [(32, Ext.ctr (ctOf sigLev)), (47, Ext.ctr (ctOf (sigHv (-70368744177664) 70368744177664)))] tab [] 100 33 sigLost = (allB fun n0 : Int => 
impB ((2 : Int) ≤ n0) (
impB (n0 ≤ (8 : Int)) (
allB fun n1 : Int => 
impB ((0 : Int) ≤ n1) (
impB (n1 ≤ (30 : Int)) (
allB fun n2 : Int => 
impB ((-70368744177664 : Int) ≤ n2) (
impB (n2 ≤ (70368744177664 : Int)) (
impB (sigLost.pre [DV.n n0, DV.n n1, DV.n n2]) (
reqB ((2 : Int) ≤ n0) (
reqB (n0 ≤ (8 : Int)) (
reqB ((0 : Int) ≤ n1) (
reqB (n1 ≤ (30 : Int)) (
reqB ((-70368744177664 : Int) ≤ n2) (
reqB (n2 ≤ (70368744177664 : Int)) (
reqB (sigLev.pre [DV.n n0, DV.n n1, DV.n n2]) (
allB fun n3 : Int => 
impB ((-127 : Int) ≤ n3) (
impB (n3 ≤ (127 : Int)) (
impB (sigLev.post [DV.n n0, DV.n n1, DV.n n2] [DV.n n3]) (
reqB ((-70368744177664 : Int) ≤ n2) (
reqB (n2 ≤ (70368744177664 : Int)) (
reqB ((0 : Int) ≤ n1) (
reqB (n1 ≤ (30 : Int)) (
reqB ((sigHv (-70368744177664 : Int) (70368744177664 : Int)).pre [DV.n n2, DV.n n1]) (
allB fun n4 : Int => 
impB ((-70368744177664 : Int) ≤ n4) (
impB (n4 ≤ (70368744177664 : Int)) (
impB ((sigHv (-70368744177664 : Int) (70368744177664 : Int)).post [DV.n n2, DV.n n1] [DV.n n4]) (
reqB (sigLost.post [DV.n n0, DV.n n1, DV.n n2] [DV.b (dec (n3 ≠ n4))]) (
true))))))))))))))))))))))))))) := by kernel_rfl
set_option maxHeartbeats 8000000 in
theorem vt_lost : vcFn Try.prog [(32, Ext.ctr (ctOf sigLev)), (47, Ext.ctr (ctOf (sigHv (-70368744177664) 70368744177664)))] tab [] 100 33 sigLost = true := by
  rw [vc_lost]
  try simp only [Int.toNat_natCast, List.length_set, List.length_replicate, List.length_take, List.length_drop, List.length_append, List.length_cons, List.length_nil, Nat.min_self, List.take_take, lenCols_i, lenCols_b, List.drop_zero, List.take_length, Nat.add_eq, Nat.mul_eq, Nat.sub_eq, Nat.zero_add, Nat.sub_zero, Nat.mul_one]
  refine all_i fun n0 => ?_
  refine imp_i fun h0 => ?_
  refine imp_i fun h1 => ?_
  refine all_i fun n1 => ?_
  refine imp_i fun h2 => ?_
  refine imp_i fun h3 => ?_
  refine all_i fun n2 => ?_
  refine imp_i fun h4 => ?_
  refine imp_i fun h5 => ?_
  refine imp_i fun h6 => ?_
  try simp only [sigLost, lostPost, List.cons.injEq, DV.b.injEq, and_true, List.length_cons, List.length_nil] at h6
  refine req_i ?_ ?_
  · -- r0
    first | omega | assumption | grind
  refine req_i ?_ ?_
  · -- r1
    first | omega | assumption | grind
  refine req_i ?_ ?_
  · -- r2
    first | omega | assumption | grind
  refine req_i ?_ ?_
  · -- r3
    first | omega | assumption | grind
  refine req_i ?_ ?_
  · -- r4
    first | omega | assumption | grind
  refine req_i ?_ ?_
  · -- r5
    first | omega | assumption | grind
  refine req_i ?_ ?_
  · -- r6
    first | trivial | assumption | (simp only [sigLev, levPost, List.cons.injEq, DV.b.injEq, and_true, List.length_cons, List.length_nil]; done) | ((try simp only [sigLev, levPost, List.cons.injEq, DV.b.injEq, and_true, List.length_cons, List.length_nil]); first | omega | assumption | grind)
  refine all_i fun n3 => ?_
  refine imp_i fun h7 => ?_
  refine imp_i fun h8 => ?_
  refine imp_i fun h9 => ?_
  try simp only [sigLev, levPost, List.cons.injEq, DV.b.injEq, and_true, List.length_cons, List.length_nil] at h9
  refine req_i ?_ ?_
  · -- r7
    first | omega | assumption | grind
  refine req_i ?_ ?_
  · -- r8
    first | omega | assumption | grind
  refine req_i ?_ ?_
  · -- r9
    first | omega | assumption | grind
  refine req_i ?_ ?_
  · -- r10
    first | omega | assumption | grind
  refine req_i ?_ ?_
  · -- r11
    first | trivial | assumption | (simp only [sigHv, hvPost, List.cons.injEq, DV.b.injEq, and_true, List.length_cons, List.length_nil]; done) | ((try simp only [sigHv, hvPost, List.cons.injEq, DV.b.injEq, and_true, List.length_cons, List.length_nil]); first | omega | assumption | grind)
  refine all_i fun n4 => ?_
  refine imp_i fun h10 => ?_
  refine imp_i fun h11 => ?_
  refine imp_i fun h12 => ?_
  try simp only [sigHv, hvPost, List.cons.injEq, DV.b.injEq, and_true, List.length_cons, List.length_nil] at h12
  refine req_i ?_ ?_
  · -- r12
    first | omega | ((try simp only [sigLost, lostPost, List.cons.injEq, DV.b.injEq, and_true, List.length_cons, List.length_nil, dec_iff]); first | done | omega | assumption | grind [getD_set, getD_rep, toNat_succ, cntN_yes, cntN_no])
  rfl
theorem ext_lost : ∀ p ∈ ([(32, Ext.ctr (ctOf sigLev)), (47, Ext.ctr (ctOf (sigHv (-70368744177664) 70368744177664)))] : List (Nat × Ext)), ExtRow Try.prog p.1 p.2 := by
  intro p hp
  simp only [List.mem_cons, List.not_mem_nil, or_false] at hp
  rcases hp with rfl | rfl <;> trivial
theorem cts_lost : CtsOk Try.prog [(32, Ext.ctr (ctOf sigLev)), (47, Ext.ctr (ctOf (sigHv (-70368744177664) 70368744177664)))] := ctsOk_of (cs := [(32, sigLev), (47, (sigHv (-70368744177664) 70368744177664))])
  (fun p hp => by
    simp only [List.mem_cons, List.not_mem_nil, or_false] at hp
    rcases hp with rfl | rfl
    · exact fn_lev
    · exact fn_hv
)
  (fun f c h => by
    simp only [List.lookup_cons] at h
    repeat' split at h
    all_goals first | (cases h; done) | (rename_i e; have e := beq_iff_eq.1 e; subst e; cases h; exact ⟨_, by simp, rfl⟩))
theorem fn_lost : FnOk Try.prog 33 sigLost [] := fn_sound (by kernel_rfl) ext_lost cts_lost names vt_lost
end Go.Proofs.Ytemcaojbhfgpgaa

namespace Go.Proofs.Ytemcaojbhfgpgaa
open Go.Ev Go.Sp
set_option maxRecDepth 100000
theorem vc_level : vcFn Try.prog [(31, Ext.ctr (ctOf sigChkA)), (32, Ext.ctr (ctOf sigLev)), (33, Ext.ctr (ctOf sigLost))] tab [] 100 10 sigLevel = (allB fun n0 : Int => 
impB ((2 : Int) ≤ n0) (
impB (n0 ≤ (8 : Int)) (
allB fun n1 : Int => 
impB ((0 : Int) ≤ n1) (
impB (n1 ≤ (30 : Int)) (
allB fun n2 : Int => 
impB ((-70368744177664 : Int) ≤ n2) (
impB (n2 ≤ (70368744177664 : Int)) (
impB (sigLevel.pre [DV.n n0, DV.n n1, DV.n n2]) (
reqB ((1 : Nat) ≤ (9223372036854775807 : Nat)) (
reqB ([n2].length = (1 : Nat)) (
reqB (∀ (y : Int), y ∈ [n2] → (-9223372036854775808 : Int) ≤ y ∧ y ≤ (9223372036854775807 : Int)) (
reqB ([(0 : Int)].length = (1 : Nat)) (
reqB (∀ (y : Int), y ∈ [(0 : Int)] → (-9223372036854775808 : Int) ≤ y ∧ y ≤ (9223372036854775807 : Int)) (
reqB ((-9223372036854775808 : Int) ≤ n0) (
reqB (n0 ≤ (9223372036854775807 : Int)) (
reqB ((-9223372036854775808 : Int) ≤ n1) (
reqB (n1 ≤ (9223372036854775807 : Int)) (
reqB (sigChkA.pre [DV.l [n2], DV.l [(0 : Int)], DV.n n0, DV.n n1]) (
allB fun n3 : Int => 
impB ((0 : Int) ≤ n3) (
impB (n3 ≤ (18 : Int)) (
impB (sigChkA.post [DV.l [n2], DV.l [(0 : Int)], DV.n n0, DV.n n1] [DV.n n3]) (
bR (dec (n3 ≠ (0 : Int))) (
 reqB ((0 : Int) ≤ n3) (
 reqB (n3 ≤ (18 : Int)) (
 reqB (sigLevel.post [DV.n n0, DV.n n1, DV.n n2]
  [DV.n (0 : Int), DV.b Bool.false, DV.n n3]) (
 true)))) (
 reqB ((2 : Int) ≤ n0) (
 reqB (n0 ≤ (8 : Int)) (
 reqB ((0 : Int) ≤ n1) (
 reqB (n1 ≤ (30 : Int)) (
 reqB ((-70368744177664 : Int) ≤ n2) (
 reqB (n2 ≤ (70368744177664 : Int)) (
 reqB (sigLev.pre [DV.n n0, DV.n n1, DV.n n2]) (
 allB fun n4 : Int => 
 impB ((-127 : Int) ≤ n4) (
 impB (n4 ≤ (127 : Int)) (
 impB (sigLev.post [DV.n n0, DV.n n1, DV.n n2] [DV.n n4]) (
 reqB ((2 : Int) ≤ n0) (
 reqB (n0 ≤ (8 : Int)) (
 reqB ((0 : Int) ≤ n1) (
 reqB (n1 ≤ (30 : Int)) (
 reqB ((-70368744177664 : Int) ≤ n2) (
 reqB (n2 ≤ (70368744177664 : Int)) (
 reqB (sigLost.pre [DV.n n0, DV.n n1, DV.n n2]) (
 allB fun b5 : Bool => 
 impB (sigLost.post [DV.n n0, DV.n n1, DV.n n2] [DV.b b5]) (
 reqB ((-127 : Int) ≤ n4) (
 reqB (n4 ≤ (127 : Int)) (
 reqB (sigLevel.post [DV.n n0, DV.n n1, DV.n n2] [DV.n n4, DV.b b5, DV.n (0 : Int)]) (
 true))))))))))))))))))))))))))))))))))))))))))) := by kernel_rfl
set_option maxHeartbeats 8000000 in
theorem vt_level : vcFn Try.prog [(31, Ext.ctr (ctOf sigChkA)), (32, Ext.ctr (ctOf sigLev)), (33, Ext.ctr (ctOf sigLost))] tab [] 100 10 sigLevel = true := by
  rw [vc_level]
  try simp only [Int.toNat_natCast, List.length_set, List.length_replicate, List.length_take, List.length_drop, List.length_append, List.length_cons, List.length_nil, Nat.min_self, List.take_take, lenCols_i, lenCols_b, List.drop_zero, List.take_length, Nat.add_eq, Nat.mul_eq, Nat.sub_eq, Nat.zero_add, Nat.sub_zero, Nat.mul_one]
  refine all_i fun n0 => ?_
  refine imp_i fun h0 => ?_
  refine imp_i fun h1 => ?_
  refine all_i fun n1 => ?_
  refine imp_i fun h2 => ?_
  refine imp_i fun h3 => ?_
  refine all_i fun n2 => ?_
  refine imp_i fun h4 => ?_
  refine imp_i fun h5 => ?_
  refine imp_i fun h6 => ?_
  try simp only [sigLevel, levelPost, List.cons.injEq, DV.b.injEq, and_true, List.length_cons, List.length_nil] at h6
  refine req_i ?_ ?_
  · -- r0
    first | omega | assumption | grind
  refine req_i ?_ ?_
  · -- r1
    first | omega | ((try simp only [List.length_cons, List.length_nil]); first | done | omega | assumption | grind [getD_set, getD_rep, toNat_succ, cntN_yes, cntN_no])
  refine req_i ?_ ?_
  · -- r2
    first | assumption | exact rep_bd (by omega) (by omega) | exact set_bd (by assumption) (by omega) (by omega) | exact take_bd (by assumption) | ((try simp only [List.length_cons, List.length_nil]); first | assumption | exact rep_bd (by omega) (by omega) | exact set_bd (by assumption) (by omega) (by omega) | exact take_bd (by assumption) | grind [getD_set, getD_rep, toNat_succ, cntN_yes, cntN_no])
  refine req_i ?_ ?_
  · -- r3
    first | omega | ((try simp only [List.length_cons, List.length_nil]); first | done | omega | assumption | grind [getD_set, getD_rep, toNat_succ, cntN_yes, cntN_no])
  refine req_i ?_ ?_
  · -- r4
    first | assumption | exact rep_bd (by omega) (by omega) | exact set_bd (by assumption) (by omega) (by omega) | exact take_bd (by assumption) | ((try simp only [List.length_cons, List.length_nil]); first | assumption | exact rep_bd (by omega) (by omega) | exact set_bd (by assumption) (by omega) (by omega) | exact take_bd (by assumption) | grind [getD_set, getD_rep, toNat_succ, cntN_yes, cntN_no])
  refine req_i ?_ ?_
  · -- r5
    first | omega | assumption | grind
  refine req_i ?_ ?_
  · -- r6
    first | omega | assumption | grind
  refine req_i ?_ ?_
  · -- r7
    first | omega | assumption | grind
  refine req_i ?_ ?_
  · -- r8
    first | omega | assumption | grind
  refine req_i ?_ ?_
  · -- r9
    first | trivial | assumption | (simp only [sigChkA, chkAPost, List.cons.injEq, DV.b.injEq, and_true, List.length_cons, List.length_nil]; done) | ((try simp only [sigChkA, chkAPost, List.cons.injEq, DV.b.injEq, and_true, List.length_cons, List.length_nil]); first | omega | assumption | grind)
  refine all_i fun n3 => ?_
  refine imp_i fun h7 => ?_
  refine imp_i fun h8 => ?_
  refine imp_i fun h9 => ?_
  try simp only [sigChkA, chkAPost, List.cons.injEq, DV.b.injEq, and_true, List.length_cons, List.length_nil] at h9
  rw [errS, if_pos (errG_0 (by omega)), errL_0 (by simp) (inS1 (by omega) (by omega) (by omega) (by omega))] at h9
  refine bR_dec (fun h10 => ?_) (fun h10 => ?_)
  ·
    refine req_i ?_ ?_
    · -- r10
      first | omega | assumption | grind
    refine req_i ?_ ?_
    · -- r11
      first | omega | assumption | grind
    refine req_i ?_ ?_
    · -- r12
      first | omega | ((try simp only [sigLevel, levelPost, List.cons.injEq, DV.b.injEq, and_true, List.length_cons, List.length_nil]); first | done | omega | assumption | grind [getD_set, getD_rep, toNat_succ, cntN_yes, cntN_no])
    rfl
  ·
    refine req_i ?_ ?_
    · -- r13
      first | omega | assumption | grind
    refine req_i ?_ ?_
    · -- r14
      first | omega | assumption | grind
    refine req_i ?_ ?_
    · -- r15
      first | omega | assumption | grind
    refine req_i ?_ ?_
    · -- r16
      first | omega | assumption | grind
    refine req_i ?_ ?_
    · -- r17
      first | omega | assumption | grind
    refine req_i ?_ ?_
    · -- r18
      first | omega | assumption | grind
    refine req_i ?_ ?_
    · -- r19
      first | trivial | assumption | (simp only [sigLev, levPost, List.cons.injEq, DV.b.injEq, and_true, List.length_cons, List.length_nil]; done) | ((try simp only [sigLev, levPost, List.cons.injEq, DV.b.injEq, and_true, List.length_cons, List.length_nil]); first | omega | assumption | grind)
    refine all_i fun n4 => ?_
    refine imp_i fun h11 => ?_
    refine imp_i fun h12 => ?_
    refine imp_i fun h13 => ?_
    try simp only [sigLev, levPost, List.cons.injEq, DV.b.injEq, and_true, List.length_cons, List.length_nil] at h13
    refine req_i ?_ ?_
    · -- r20
      first | omega | assumption | grind
    refine req_i ?_ ?_
    · -- r21
      first | omega | assumption | grind
    refine req_i ?_ ?_
    · -- r22
      first | omega | assumption | grind
    refine req_i ?_ ?_
    · -- r23
      first | omega | assumption | grind
    refine req_i ?_ ?_
    · -- r24
      first | omega | assumption | grind
    refine req_i ?_ ?_
    · -- r25
      first | omega | assumption | grind
    refine req_i ?_ ?_
    · -- r26
      first | trivial | assumption | (simp only [sigLost, lostPost, List.cons.injEq, DV.b.injEq, and_true, List.length_cons, List.length_nil]; done) | ((try simp only [sigLost, lostPost, List.cons.injEq, DV.b.injEq, and_true, List.length_cons, List.length_nil]); first | omega | assumption | grind)
    refine all_i fun b5 => ?_
    refine imp_i fun h14 => ?_
    try simp only [sigLost, lostPost, List.cons.injEq, DV.b.injEq, and_true, List.length_cons, List.length_nil] at h14
    refine req_i ?_ ?_
    · -- r27
      first | omega | assumption | grind
    refine req_i ?_ ?_
    · -- r28
      first | omega | assumption | grind
    refine req_i ?_ ?_
    · -- r29
      first | omega | ((try simp only [sigLevel, levelPost, List.cons.injEq, DV.b.injEq, and_true, List.length_cons, List.length_nil]); first | done | omega | assumption | grind [getD_set, getD_rep, toNat_succ, cntN_yes, cntN_no])
    rfl
theorem ext_level : ∀ p ∈ ([(31, Ext.ctr (ctOf sigChkA)), (32, Ext.ctr (ctOf sigLev)), (33, Ext.ctr (ctOf sigLost))] : List (Nat × Ext)), ExtRow Try.prog p.1 p.2 := by
  intro p hp
  simp only [List.mem_cons, List.not_mem_nil, or_false] at hp
  rcases hp with rfl | rfl | rfl <;> trivial
theorem cts_level : CtsOk Try.prog [(31, Ext.ctr (ctOf sigChkA)), (32, Ext.ctr (ctOf sigLev)), (33, Ext.ctr (ctOf sigLost))] := ctsOk_of (cs := [(31, sigChkA), (32, sigLev), (33, sigLost)])
  (fun p hp => by
    simp only [List.mem_cons, List.not_mem_nil, or_false] at hp
    rcases hp with rfl | rfl | rfl
    · exact fn_chkA
    · exact fn_lev
    · exact fn_lost
)
  (fun f c h => by
    simp only [List.lookup_cons] at h
    repeat' split at h
    all_goals first | (cases h; done) | (rename_i e; have e := beq_iff_eq.1 e; subst e; cases h; exact ⟨_, by simp, rfl⟩))
theorem fn_level : FnOk Try.prog 10 sigLevel [] := fn_sound (by kernel_rfl) ext_level cts_level names vt_level
end Go.Proofs.Ytemcaojbhfgpgaa

namespace Go.Proofs.Ytemcaojbhfgpgaa
open Go.Ev Go.Sp
set_option maxRecDepth 100000
theorem vc_coarse : vcFn Try.prog [] tab [] 100 12 sigCoarse = (allB fun n0 : Int => 
impB ((2 : Int) ≤ n0) (
impB (n0 ≤ (8 : Int)) (
allB fun n1 : Int => 
impB ((0 : Int) ≤ n1) (
impB (n1 ≤ (30 : Int)) (
impB (sigCoarse.pre [DV.n n0, DV.n n1]) (
reqB ((0 : Int) ≤ opI (SO.shl Go.IntKind.i64) (1 : Int) n1 / Int.ofNat (2 : Nat)) (
reqB (opI (SO.shl Go.IntKind.i64) (1 : Int) n1 / Int.ofNat (2 : Nat) ≤ (536870912 : Int)) (
reqB (sigCoarse.post [DV.n n0, DV.n n1]
  [DV.n (opI (SO.shl Go.IntKind.i64) (1 : Int) n1 / Int.ofNat (2 : Nat)), DV.n (0 : Int)]) (
true))))))))) := by kernel_rfl
set_option maxHeartbeats 8000000 in
theorem vt_coarse : vcFn Try.prog [] tab [] 100 12 sigCoarse = true := by
  rw [vc_coarse]
  try simp only [Int.toNat_natCast, List.length_set, List.length_replicate, List.length_take, List.length_drop, List.length_append, List.length_cons, List.length_nil, Nat.min_self, List.take_take, lenCols_i, lenCols_b, List.drop_zero, List.take_length, Nat.add_eq, Nat.mul_eq, Nat.sub_eq, Nat.zero_add, Nat.sub_zero, Nat.mul_one]
  refine all_i fun n0 => ?_
  refine imp_i fun h0 => ?_
  refine imp_i fun h1 => ?_
  refine all_i fun n1 => ?_
  refine imp_i fun h2 => ?_
  refine imp_i fun h3 => ?_
  refine imp_i fun h4 => ?_
  try simp only [sigCoarse, coarsePost, List.cons.injEq, DV.b.injEq, and_true, List.length_cons, List.length_nil] at h4
  rw [shl_one (by omega) (by omega), show (Int.ofNat 2) = 2 from rfl]
  have q1 : p2 n1 ≤ p2 30 := p2_mono (by omega)
  rw [show p2 30 = 1073741824 by decide] at q1
  have q2 := p2_pos n1
  refine req_i ?_ ?_
  · -- r0
    first | omega | assumption | grind
  refine req_i ?_ ?_
  · -- r1
    first | omega | assumption | grind
  refine req_i ?_ ?_
  · -- r2
    first | omega | ((try simp only [sigCoarse, coarsePost, List.cons.injEq, DV.b.injEq, and_true, List.length_cons, List.length_nil]); first | done | omega | assumption | grind [getD_set, getD_rep, toNat_succ, cntN_yes, cntN_no])
  rfl
theorem ext_coarse : ∀ p ∈ ([] : List (Nat × Ext)), ExtRow Try.prog p.1 p.2 := by
  intro p hp
  cases hp
theorem cts_coarse : CtsOk Try.prog [] := fun f c h => by cases h
theorem fn_coarse : FnOk Try.prog 12 sigCoarse [] := fn_sound (by kernel_rfl) ext_coarse cts_coarse names vt_coarse
end Go.Proofs.Ytemcaojbhfgpgaa

namespace Go.Proofs.Ytemcaojbhfgpgaa
open Go.Ev Go.Sp
set_option maxRecDepth 100000
theorem vc_quan : vcFn Try.prog [(31, Ext.ctr (ctOf sigChkA)), (32, Ext.ctr (ctOf sigLev)), (33, Ext.ctr (ctOf sigLost))] tabQ [] 100 23 sigQuan = (allB fun l0 : List Int => 
impB (l0.length ≤ (300 : Nat)) (
impB (∀ (y : Int), y ∈ l0 → (-9223372036854775808 : Int) ≤ y ∧ y ≤ (9223372036854775807 : Int)) (
allB fun l1 : List Int => 
impB (l1.length = l0.length) (
impB (∀ (y : Int), y ∈ l1 → (-9223372036854775808 : Int) ≤ y ∧ y ≤ (9223372036854775807 : Int)) (
allB fun n2 : Int => 
impB ((-9223372036854775808 : Int) ≤ n2) (
impB (n2 ≤ (9223372036854775807 : Int)) (
allB fun n3 : Int => 
impB ((-9223372036854775808 : Int) ≤ n3) (
impB (n3 ≤ (9223372036854775807 : Int)) (
impB (sigQuan.pre [DV.l l0, DV.l l1, DV.n n2, DV.n n3]) (
reqB (((0 : Nat) + l0.length) * (2 : Nat) ≤ l0.length.mul (2 : Nat)) (
reqB (l0.length ≤ (9223372036854775807 : Nat)) (
reqB ((List.take l0.length (List.drop (0 : Nat) l0)).length = l0.length) (
reqB (∀ (y : Int),
  y ∈ List.take l0.length (List.drop (0 : Nat) l0) → (-9223372036854775808 : Int) ≤ y ∧ y ≤ (9223372036854775807 : Int)) (
reqB ((List.take l0.length (List.drop (0 : Nat) l1)).length = l0.length) (
reqB (∀ (y : Int),
  y ∈ List.take l0.length (List.drop (0 : Nat) l1) → (-9223372036854775808 : Int) ≤ y ∧ y ≤ (9223372036854775807 : Int)) (
reqB ((-9223372036854775808 : Int) ≤ n2) (
reqB (n2 ≤ (9223372036854775807 : Int)) (
reqB ((-9223372036854775808 : Int) ≤ n3) (
reqB (n3 ≤ (9223372036854775807 : Int)) (
reqB (sigChkA.pre
  [DV.l (List.take l0.length (List.drop (0 : Nat) l0)), DV.l (List.take l0.length (List.drop (0 : Nat) l1)),
    DV.n n2, DV.n n3]) (
allB fun n4 : Int => 
impB ((0 : Int) ≤ n4) (
impB (n4 ≤ (18 : Int)) (
impB (sigChkA.post
  [DV.l (List.take l0.length (List.drop (0 : Nat) l0)), DV.l (List.take l0.length (List.drop (0 : Nat) l1)),
    DV.n n2, DV.n n3]
  [DV.n n4]) (
bR (dec (n4 ≠ (0 : Int))) (
 reqB ((0 : Int) ≤ n4) (
 reqB (n4 ≤ (18 : Int)) (
 reqB (sigQuan.post [DV.l l0, DV.l l1, DV.n n2, DV.n n3]
  [DV.l [], DV.l [], DV.n (0 : Int), DV.n n4]) (
 true)))) (
 reqB ((↑l0.length : Int).toNat ≤ (↑l0.length : Int).toNat) (
 reqB ((↑l0.length : Int).toNat ≤ (1000000 : Nat)) (
 reqB (((0 : Nat) + l0.length) * (2 : Nat) ≤ l0.length.mul (2 : Nat)) (
 reqB (l0.length ≤ (300 : Nat)) (
 reqB ((List.take l0.length (List.drop (0 : Nat) l0)).length = l0.length) (
 reqB (∀ (y : Int),
  y ∈ List.take l0.length (List.drop (0 : Nat) l0) → (-9223372036854775808 : Int) ≤ y ∧ y ≤ (9223372036854775807 : Int)) (
 reqB ((List.take l0.length (List.drop (0 : Nat) l1)).length = l0.length) (
 reqB (∀ (y : Int),
  y ∈ List.take l0.length (List.drop (0 : Nat) l1) → (-9223372036854775808 : Int) ≤ y ∧ y ≤ (9223372036854775807 : Int)) (
 reqB ((-9223372036854775808 : Int) ≤ n2) (
 reqB (n2 ≤ (9223372036854775807 : Int)) (
 reqB ((-9223372036854775808 : Int) ≤ n3) (
 reqB (n3 ≤ (9223372036854775807 : Int)) (
 reqB (lenCols
    [Col.i Go.IntKind.i64 (Int.negSucc (9223372036854775807 : Nat)) (Int.ofNat (9223372036854775807 : Nat))
        (List.replicate (↑l0.length : Int).toNat (0 : Int)),
      Col.i Go.IntKind.i64 (Int.negSucc (9223372036854775807 : Nat)) (Int.ofNat (9223372036854775807 : Nat))
        (List.replicate (↑l0.length : Int).toNat (0 : Int))] ≤
  (300 : Nat)) (
 reqB ((List.replicate (↑l0.length : Int).toNat (0 : Int)).length =
  lenCols
    [Col.i Go.IntKind.i64 (Int.negSucc (9223372036854775807 : Nat)) (Int.ofNat (9223372036854775807 : Nat))
        (List.replicate (↑l0.length : Int).toNat (0 : Int)),
      Col.i Go.IntKind.i64 (Int.negSucc (9223372036854775807 : Nat)) (Int.ofNat (9223372036854775807 : Nat))
        (List.replicate (↑l0.length : Int).toNat (0 : Int))]) (
 reqB (∀ (y : Int),
  y ∈ List.replicate (↑l0.length : Int).toNat (0 : Int) →
    (-9223372036854775808 : Int) ≤ y ∧ y ≤ (9223372036854775807 : Int)) (
 reqB ((List.replicate (↑l0.length : Int).toNat (0 : Int)).length =
  lenCols
    [Col.i Go.IntKind.i64 (Int.negSucc (9223372036854775807 : Nat)) (Int.ofNat (9223372036854775807 : Nat))
        (List.replicate (↑l0.length : Int).toNat (0 : Int)),
      Col.i Go.IntKind.i64 (Int.negSucc (9223372036854775807 : Nat)) (Int.ofNat (9223372036854775807 : Nat))
        (List.replicate (↑l0.length : Int).toNat (0 : Int))]) (
 reqB (∀ (y : Int),
  y ∈ List.replicate (↑l0.length : Int).toNat (0 : Int) →
    (-9223372036854775808 : Int) ≤ y ∧ y ≤ (9223372036854775807 : Int)) (
 reqB ((mapL (4 : Nat) (5 : Nat) mapInv).inv
  [DV.l (List.take l0.length (List.drop (0 : Nat) l0)), DV.l (List.take l0.length (List.drop (0 : Nat) l1)),
    DV.n n2, DV.n n3]
  [DV.n (0 : Int), DV.l (List.replicate (↑l0.length : Int).toNat (0 : Int)),
    DV.l (List.replicate (↑l0.length : Int).toNat (0 : Int))]) (
 allB fun n5 : Int => 
 impB ((0 : Int) ≤ n5) (
 impB (n5 ≤ (300 : Int)) (
 allB fun l6 : List Int => 
 impB (l6.length ≤ (300 : Nat)) (
 impB (∀ (y : Int), y ∈ l6 → (-9223372036854775808 : Int) ≤ y ∧ y ≤ (9223372036854775807 : Int)) (
 allB fun l7 : List Int => 
 impB (l7.length = l6.length) (
 impB (∀ (y : Int), y ∈ l7 → (-9223372036854775808 : Int) ≤ y ∧ y ≤ (9223372036854775807 : Int)) (
 impB ((mapL (4 : Nat) (5 : Nat) mapInv).inv
  [DV.l (List.take l0.length (List.drop (0 : Nat) l0)), DV.l (List.take l0.length (List.drop (0 : Nat) l1)),
    DV.n n2, DV.n n3]
  [DV.n n5, DV.l l6, DV.l l7]) (
 bR (dec (n5 < (↑l0.length : Int))) (
  reqB (n5.toNat < l0.length) (
  reqB (Nat.add (0 : Nat) n5.toNat < l0.length) (
  reqB (Nat.add (0 : Nat) n5.toNat < l1.length) (
  reqB ((2 : Int) ≤ n2) (
  reqB (n2 ≤ (8 : Int)) (
  reqB ((0 : Int) ≤ n3) (
  reqB (n3 ≤ (30 : Int)) (
  reqB ((-70368744177664 : Int) ≤ l0.getD (Nat.add (0 : Nat) n5.toNat) (0 : Int)) (
  reqB (l0.getD (Nat.add (0 : Nat) n5.toNat) (0 : Int) ≤ (70368744177664 : Int)) (
  reqB (sigLev.pre [DV.n n2, DV.n n3, DV.n (l0.getD (Nat.add (0 : Nat) n5.toNat) (0 : Int))]) (
  allB fun n8 : Int => 
  impB ((-127 : Int) ≤ n8) (
  impB (n8 ≤ (127 : Int)) (
  impB (sigLev.post [DV.n n2, DV.n n3, DV.n (l0.getD (Nat.add (0 : Nat) n5.toNat) (0 : Int))]
  [DV.n n8]) (
  reqB ((2 : Int) ≤ n2) (
  reqB (n2 ≤ (8 : Int)) (
  reqB ((0 : Int) ≤ n3) (
  reqB (n3 ≤ (30 : Int)) (
  reqB ((-70368744177664 : Int) ≤ l1.getD (Nat.add (0 : Nat) n5.toNat) (0 : Int)) (
  reqB (l1.getD (Nat.add (0 : Nat) n5.toNat) (0 : Int) ≤ (70368744177664 : Int)) (
  reqB (sigLev.pre [DV.n n2, DV.n n3, DV.n (l1.getD (Nat.add (0 : Nat) n5.toNat) (0 : Int))]) (
  allB fun n9 : Int => 
  impB ((-127 : Int) ≤ n9) (
  impB (n9 ≤ (127 : Int)) (
  impB (sigLev.post [DV.n n2, DV.n n3, DV.n (l1.getD (Nat.add (0 : Nat) n5.toNat) (0 : Int))]
  [DV.n n9]) (
  reqB (n5.toNat < (↑l0.length : Int).toNat) (
  reqB (Nat.add (0 : Nat) n5.toNat < l6.length) (
  reqB (Nat.add (0 : Nat) n5.toNat < l7.length) (
  bR (bR (bR (dec ((0 : Nat) = (0 : Nat))) (
   dec ((↑l0.length : Int).toNat = (↑l0.length : Int).toNat)) (
   false)) (
   bR (bR (dec ((0 : Nat) = (0 : Nat))) (
    dec (l0.length = l0.length)) (
    false)) (
    bR (dec ((↑l0.length : Int) = (↑l0.length : Int))) (
     true) (
     false)) (
    false)) (
   false)) (
   bR (bR (bR (dec (n2 = n2)) (
    bR (dec (n3 = n3)) (
     true) (
     false)) (
    false)) (
    true) (
    false)) (
    reqB ((0 : Int) ≤ n5 + (1 : Int)) (
    reqB (n5 + (1 : Int) ≤ (300 : Int)) (
    reqB (lenCols
    [Col.i Go.IntKind.i64 (-9223372036854775808 : Int) (9223372036854775807 : Int)
        (l6.set (Nat.add (0 : Nat) n5.toNat) n8),
      Col.i Go.IntKind.i64 (-9223372036854775808 : Int) (9223372036854775807 : Int)
        (l7.set (Nat.add (0 : Nat) n5.toNat) n9)] ≤
  (300 : Nat)) (
    reqB ((l6.set (Nat.add (0 : Nat) n5.toNat) n8).length =
  lenCols
    [Col.i Go.IntKind.i64 (-9223372036854775808 : Int) (9223372036854775807 : Int)
        (l6.set (Nat.add (0 : Nat) n5.toNat) n8),
      Col.i Go.IntKind.i64 (-9223372036854775808 : Int) (9223372036854775807 : Int)
        (l7.set (Nat.add (0 : Nat) n5.toNat) n9)]) (
    reqB (∀ (y : Int),
  y ∈ l6.set (Nat.add (0 : Nat) n5.toNat) n8 → (-9223372036854775808 : Int) ≤ y ∧ y ≤ (9223372036854775807 : Int)) (
    reqB ((l7.set (Nat.add (0 : Nat) n5.toNat) n9).length =
  lenCols
    [Col.i Go.IntKind.i64 (-9223372036854775808 : Int) (9223372036854775807 : Int)
        (l6.set (Nat.add (0 : Nat) n5.toNat) n8),
      Col.i Go.IntKind.i64 (-9223372036854775808 : Int) (9223372036854775807 : Int)
        (l7.set (Nat.add (0 : Nat) n5.toNat) n9)]) (
    reqB (∀ (y : Int),
  y ∈ l7.set (Nat.add (0 : Nat) n5.toNat) n9 → (-9223372036854775808 : Int) ≤ y ∧ y ≤ (9223372036854775807 : Int)) (
    reqB ((mapL (4 : Nat) (5 : Nat) mapInv).inv
  [DV.l (List.take l0.length (List.drop (0 : Nat) l0)), DV.l (List.take l0.length (List.drop (0 : Nat) l1)),
    DV.n n2, DV.n n3]
  [DV.n (n5 + (1 : Int)), DV.l (l6.set (Nat.add (0 : Nat) n5.toNat) n8),
    DV.l (l7.set (Nat.add (0 : Nat) n5.toNat) n9)]) (
    reqB ((mapL (4 : Nat) (5 : Nat) mapInv).mea
    [DV.l (List.take l0.length (List.drop (0 : Nat) l0)),
      DV.l (List.take l0.length (List.drop (0 : Nat) l1)), DV.n n2, DV.n n3]
    [DV.n (n5 + (1 : Int)), DV.l (l6.set (Nat.add (0 : Nat) n5.toNat) n8),
      DV.l (l7.set (Nat.add (0 : Nat) n5.toNat) n9)] <
  (mapL (4 : Nat) (5 : Nat) mapInv).mea
    [DV.l (List.take l0.length (List.drop (0 : Nat) l0)),
      DV.l (List.take l0.length (List.drop (0 : Nat) l1)), DV.n n2, DV.n n3]
    [DV.n n5, DV.l l6, DV.l l7]) (
    true)))))))))) (
    false)) (
   false)))))))))))))))))))))))))))) (
  reqB (((0 : Nat) + l0.length) * (2 : Nat) ≤ l0.length.mul (2 : Nat)) (
  reqB (l0.length ≤ (300 : Nat)) (
  reqB ((List.take l0.length (List.drop (0 : Nat) l0)).length = l0.length) (
  reqB (∀ (y : Int),
  y ∈ List.take l0.length (List.drop (0 : Nat) l0) → (-9223372036854775808 : Int) ≤ y ∧ y ≤ (9223372036854775807 : Int)) (
  reqB ((List.take l0.length (List.drop (0 : Nat) l1)).length = l0.length) (
  reqB (∀ (y : Int),
  y ∈ List.take l0.length (List.drop (0 : Nat) l1) → (-9223372036854775808 : Int) ≤ y ∧ y ≤ (9223372036854775807 : Int)) (
  reqB ((-9223372036854775808 : Int) ≤ n2) (
  reqB (n2 ≤ (9223372036854775807 : Int)) (
  reqB ((-9223372036854775808 : Int) ≤ n3) (
  reqB (n3 ≤ (9223372036854775807 : Int)) (
  reqB ((losL (26 : Nat)).inv
  [DV.l (List.take l0.length (List.drop (0 : Nat) l0)), DV.l (List.take l0.length (List.drop (0 : Nat) l1)),
    DV.n n2, DV.n n3]
  [DV.n (0 : Int), DV.n (0 : Int)]) (
  allB fun n10 : Int => 
  impB ((0 : Int) ≤ n10) (
  impB (n10 ≤ (300 : Int)) (
  allB fun n11 : Int => 
  impB ((0 : Int) ≤ n11) (
  impB (n11 ≤ (300 : Int)) (
  impB ((losL (26 : Nat)).inv
  [DV.l (List.take l0.length (List.drop (0 : Nat) l0)), DV.l (List.take l0.length (List.drop (0 : Nat) l1)),
    DV.n n2, DV.n n3]
  [DV.n n10, DV.n n11]) (
  bR (dec (n10 < (↑l0.length : Int))) (
   reqB (n10.toNat < l0.length) (
   reqB (Nat.add (0 : Nat) n10.toNat < l0.length) (
   reqB (Nat.add (0 : Nat) n10.toNat < l1.length) (
   reqB ((2 : Int) ≤ n2) (
   reqB (n2 ≤ (8 : Int)) (
   reqB ((0 : Int) ≤ n3) (
   reqB (n3 ≤ (30 : Int)) (
   reqB ((-70368744177664 : Int) ≤ l0.getD (Nat.add (0 : Nat) n10.toNat) (0 : Int)) (
   reqB (l0.getD (Nat.add (0 : Nat) n10.toNat) (0 : Int) ≤ (70368744177664 : Int)) (
   reqB (sigLost.pre [DV.n n2, DV.n n3, DV.n (l0.getD (Nat.add (0 : Nat) n10.toNat) (0 : Int))]) (
   allB fun b12 : Bool => 
   impB (sigLost.post [DV.n n2, DV.n n3, DV.n (l0.getD (Nat.add (0 : Nat) n10.toNat) (0 : Int))]
  [DV.b b12]) (
   bR (b12) (
    bR (bR (bR (bR (bR (false) (
     false) (
     true)) (
     true) (
     false)) (
     true) (
     false)) (
     bR (bR (dec ((0 : Nat) = (0 : Nat))) (
      dec (l0.length = l0.length)) (
      false)) (
      bR (dec ((↑l0.length : Int) = (↑l0.length : Int))) (
       true) (
       false)) (
      false)) (
     false)) (
     bR (bR (bR (dec (n2 = n2)) (
      bR (dec (n3 = n3)) (
       true) (
       false)) (
      false)) (
      bR (bR (dec (n2 = n2)) (
       bR (dec (n3 = n3)) (
        true) (
        false)) (
       false)) (
       bR (bR (dec (l6.length.mul (2 : Nat) = l6.length.mul (2 : Nat))) (
        dec ([Col.i Go.IntKind.i64 (-9223372036854775808 : Int) (9223372036854775807 : Int) l6,
    Col.i Go.IntKind.i64 (-9223372036854775808 : Int) (9223372036854775807 : Int) l7] =
  [Col.i Go.IntKind.i64 (-9223372036854775808 : Int) (9223372036854775807 : Int) l6,
    Col.i Go.IntKind.i64 (-9223372036854775808 : Int) (9223372036854775807 : Int) l7])) (
        false)) (
        bR (bR (dec (n2 = n2)) (
         bR (dec (n3 = n3)) (
          true) (
          false)) (
         false)) (
         true) (
         false)) (
        false)) (
       false)) (
      false)) (
      reqB ((0 : Int) ≤ n10 + (1 : Int)) (
      reqB (n10 + (1 : Int) ≤ (300 : Int)) (
      reqB ((0 : Int) ≤ n11 + (1 : Int)) (
      reqB (n11 + (1 : Int) ≤ (300 : Int)) (
      reqB ((losL (26 : Nat)).inv
  [DV.l (List.take l0.length (List.drop (0 : Nat) l0)), DV.l (List.take l0.length (List.drop (0 : Nat) l1)),
    DV.n n2, DV.n n3]
  [DV.n (n10 + (1 : Int)), DV.n (n11 + (1 : Int))]) (
      reqB ((losL (26 : Nat)).mea
    [DV.l (List.take l0.length (List.drop (0 : Nat) l0)),
      DV.l (List.take l0.length (List.drop (0 : Nat) l1)), DV.n n2, DV.n n3]
    [DV.n (n10 + (1 : Int)), DV.n (n11 + (1 : Int))] <
  (losL (26 : Nat)).mea
    [DV.l (List.take l0.length (List.drop (0 : Nat) l0)),
      DV.l (List.take l0.length (List.drop (0 : Nat) l1)), DV.n n2, DV.n n3]
    [DV.n n10, DV.n n11]) (
      true))))))) (
      false)) (
     false)) (
    reqB ((2 : Int) ≤ n2) (
    reqB (n2 ≤ (8 : Int)) (
    reqB ((0 : Int) ≤ n3) (
    reqB (n3 ≤ (30 : Int)) (
    reqB ((-70368744177664 : Int) ≤ l1.getD (Nat.add (0 : Nat) n10.toNat) (0 : Int)) (
    reqB (l1.getD (Nat.add (0 : Nat) n10.toNat) (0 : Int) ≤ (70368744177664 : Int)) (
    reqB (sigLost.pre [DV.n n2, DV.n n3, DV.n (l1.getD (Nat.add (0 : Nat) n10.toNat) (0 : Int))]) (
    allB fun b13 : Bool => 
    impB (sigLost.post [DV.n n2, DV.n n3, DV.n (l1.getD (Nat.add (0 : Nat) n10.toNat) (0 : Int))]
  [DV.b b13]) (
    bR (b13) (
     bR (bR (bR (bR (bR (false) (
      false) (
      true)) (
      true) (
      false)) (
      true) (
      false)) (
      bR (bR (dec ((0 : Nat) = (0 : Nat))) (
       dec (l0.length = l0.length)) (
       false)) (
       bR (dec ((↑l0.length : Int) = (↑l0.length : Int))) (
        true) (
        false)) (
       false)) (
      false)) (
      bR (bR (bR (dec (n2 = n2)) (
       bR (dec (n3 = n3)) (
        true) (
        false)) (
       false)) (
       bR (bR (dec (n2 = n2)) (
        bR (dec (n3 = n3)) (
         true) (
         false)) (
        false)) (
        bR (bR (dec (l6.length.mul (2 : Nat) = l6.length.mul (2 : Nat))) (
         dec ([Col.i Go.IntKind.i64 (-9223372036854775808 : Int) (9223372036854775807 : Int) l6,
    Col.i Go.IntKind.i64 (-9223372036854775808 : Int) (9223372036854775807 : Int) l7] =
  [Col.i Go.IntKind.i64 (-9223372036854775808 : Int) (9223372036854775807 : Int) l6,
    Col.i Go.IntKind.i64 (-9223372036854775808 : Int) (9223372036854775807 : Int) l7])) (
         false)) (
         bR (bR (dec (n2 = n2)) (
          bR (dec (n3 = n3)) (
           true) (
           false)) (
          false)) (
          true) (
          false)) (
         false)) (
        false)) (
       false)) (
       reqB ((0 : Int) ≤ n10 + (1 : Int)) (
       reqB (n10 + (1 : Int) ≤ (300 : Int)) (
       reqB ((0 : Int) ≤ n11 + (1 : Int)) (
       reqB (n11 + (1 : Int) ≤ (300 : Int)) (
       reqB ((losL (26 : Nat)).inv
  [DV.l (List.take l0.length (List.drop (0 : Nat) l0)), DV.l (List.take l0.length (List.drop (0 : Nat) l1)),
    DV.n n2, DV.n n3]
  [DV.n (n10 + (1 : Int)), DV.n (n11 + (1 : Int))]) (
       reqB ((losL (26 : Nat)).mea
    [DV.l (List.take l0.length (List.drop (0 : Nat) l0)),
      DV.l (List.take l0.length (List.drop (0 : Nat) l1)), DV.n n2, DV.n n3]
    [DV.n (n10 + (1 : Int)), DV.n (n11 + (1 : Int))] <
  (losL (26 : Nat)).mea
    [DV.l (List.take l0.length (List.drop (0 : Nat) l0)),
      DV.l (List.take l0.length (List.drop (0 : Nat) l1)), DV.n n2, DV.n n3]
    [DV.n n10, DV.n n11]) (
       true))))))) (
       false)) (
      false)) (
     bR (bR (bR (bR (bR (false) (
      false) (
      true)) (
      true) (
      false)) (
      true) (
      false)) (
      bR (bR (dec ((0 : Nat) = (0 : Nat))) (
       dec (l0.length = l0.length)) (
       false)) (
       bR (dec ((↑l0.length : Int) = (↑l0.length : Int))) (
        true) (
        false)) (
       false)) (
      false)) (
      bR (bR (bR (dec (n2 = n2)) (
       bR (dec (n3 = n3)) (
        true) (
        false)) (
       false)) (
       bR (bR (dec (n2 = n2)) (
        bR (dec (n3 = n3)) (
         true) (
         false)) (
        false)) (
        bR (bR (dec (l6.length.mul (2 : Nat) = l6.length.mul (2 : Nat))) (
         dec ([Col.i Go.IntKind.i64 (-9223372036854775808 : Int) (9223372036854775807 : Int) l6,
    Col.i Go.IntKind.i64 (-9223372036854775808 : Int) (9223372036854775807 : Int) l7] =
  [Col.i Go.IntKind.i64 (-9223372036854775808 : Int) (9223372036854775807 : Int) l6,
    Col.i Go.IntKind.i64 (-9223372036854775808 : Int) (9223372036854775807 : Int) l7])) (
         false)) (
         bR (bR (dec (n2 = n2)) (
          bR (dec (n3 = n3)) (
           true) (
           false)) (
          false)) (
          true) (
          false)) (
         false)) (
        false)) (
       false)) (
       reqB ((0 : Int) ≤ n10 + (1 : Int)) (
       reqB (n10 + (1 : Int) ≤ (300 : Int)) (
       reqB ((0 : Int) ≤ n11) (
       reqB (n11 ≤ (300 : Int)) (
       reqB ((losL (26 : Nat)).inv
  [DV.l (List.take l0.length (List.drop (0 : Nat) l0)), DV.l (List.take l0.length (List.drop (0 : Nat) l1)),
    DV.n n2, DV.n n3]
  [DV.n (n10 + (1 : Int)), DV.n n11]) (
       reqB ((losL (26 : Nat)).mea
    [DV.l (List.take l0.length (List.drop (0 : Nat) l0)),
      DV.l (List.take l0.length (List.drop (0 : Nat) l1)), DV.n n2, DV.n n3]
    [DV.n (n10 + (1 : Int)), DV.n n11] <
  (losL (26 : Nat)).mea
    [DV.l (List.take l0.length (List.drop (0 : Nat) l0)),
      DV.l (List.take l0.length (List.drop (0 : Nat) l1)), DV.n n2, DV.n n3]
    [DV.n n10, DV.n n11]) (
       true))))))) (
       false)) (
      false))))))))))))))))))))))) (
   reqB (((0 : Nat) + (↑l0.length : Int).toNat) * (2 : Nat) ≤ l6.length.mul (2 : Nat)) (
   reqB ((↑l0.length : Int).toNat ≤ (300 : Nat)) (
   reqB ((List.take (↑l0.length : Int).toNat (List.drop (0 : Nat) l6)).length = (↑l0.length : Int).toNat) (
   reqB (∀ (y : Int),
  y ∈ List.take (↑l0.length : Int).toNat (List.drop (0 : Nat) l6) →
    (-9223372036854775808 : Int) ≤ y ∧ y ≤ (9223372036854775807 : Int)) (
   reqB ((List.take (↑l0.length : Int).toNat (List.drop (0 : Nat) l7)).length = (↑l0.length : Int).toNat) (
   reqB (∀ (y : Int),
  y ∈ List.take (↑l0.length : Int).toNat (List.drop (0 : Nat) l7) →
    (-9223372036854775808 : Int) ≤ y ∧ y ≤ (9223372036854775807 : Int)) (
   reqB ((0 : Int) ≤ n11) (
   reqB (n11 ≤ (300 : Int)) (
   reqB (sigQuan.post [DV.l l0, DV.l l1, DV.n n2, DV.n n3]
  [DV.l (List.take (↑l0.length : Int).toNat (List.drop (0 : Nat) l6)),
    DV.l (List.take (↑l0.length : Int).toNat (List.drop (0 : Nat) l7)), DV.n n11, DV.n (0 : Int)]) (
   true))))))))))))))))))))))))))))))))))))))))))))))))))))))))))))))))))))))))))))) := by kernel_rfl
set_option maxHeartbeats 8000000 in
theorem vt_quan : vcFn Try.prog [(31, Ext.ctr (ctOf sigChkA)), (32, Ext.ctr (ctOf sigLev)), (33, Ext.ctr (ctOf sigLost))] tabQ [] 100 23 sigQuan = true := by
  rw [vc_quan]
  try simp only [Int.toNat_natCast, List.length_set, List.length_replicate, List.length_take, List.length_drop, List.length_append, List.length_cons, List.length_nil, Nat.min_self, List.take_take, lenCols_i, lenCols_b, List.drop_zero, List.take_length, Nat.add_eq, Nat.mul_eq, Nat.sub_eq, Nat.zero_add, Nat.sub_zero, Nat.mul_one]
  refine all_i fun l0 => ?_
  refine imp_i fun h0 => ?_
  refine imp_i fun h1 => ?_
  refine all_i fun l1 => ?_
  refine imp_i fun h2 => ?_
  have tkl1 := take_eq h2
  try simp only [tkl1]
  refine imp_i fun h3 => ?_
  refine all_i fun n2 => ?_
  refine imp_i fun h4 => ?_
  refine imp_i fun h5 => ?_
  refine all_i fun n3 => ?_
  refine imp_i fun h6 => ?_
  refine imp_i fun h7 => ?_
  refine imp_i fun h8 => ?_
  try simp only [sigQuan, quanPost, List.cons.injEq, DV.b.injEq, and_true, List.length_cons, List.length_nil] at h8
  refine req_i ?_ ?_
  · -- r0
    first | omega | ((try simp only [Nat.mul_eq]); first | done | omega | assumption | grind [getD_set, getD_rep, toNat_succ, cntN_yes, cntN_no])
  refine req_i ?_ ?_
  · -- r1
    first | omega | ((try simp only [Nat.zero_add]); first | done | omega | assumption | grind [getD_set, getD_rep, toNat_succ, cntN_yes, cntN_no])
  refine req_i ?_ ?_
  · -- r2
    first | omega | ((try simp only [List.length_take, List.take_length, List.take_take, Nat.min_self, List.length_drop, List.drop_zero, List.length_cons, List.length_nil]); first | done | omega | assumption | grind [getD_set, getD_rep, toNat_succ, cntN_yes, cntN_no])
  refine req_i ?_ ?_
  · -- r3
    first | assumption | exact rep_bd (by omega) (by omega) | exact set_bd (by assumption) (by omega) (by omega) | exact take_bd (by assumption) | ((try simp only [List.length_take, List.take_length, List.take_take, Nat.min_self, List.length_drop, List.drop_zero, List.length_cons, List.length_nil]); first | assumption | exact rep_bd (by omega) (by omega) | exact set_bd (by assumption) (by omega) (by omega) | exact take_bd (by assumption) | grind [getD_set, getD_rep, toNat_succ, cntN_yes, cntN_no])
  refine req_i ?_ ?_
  · -- r4
    first | omega | ((try simp only [List.length_take, List.take_length, List.take_take, Nat.min_self, List.length_drop, List.drop_zero, List.length_cons, List.length_nil]); first | done | omega | assumption | grind [getD_set, getD_rep, toNat_succ, cntN_yes, cntN_no])
  refine req_i ?_ ?_
  · -- r5
    first | assumption | exact rep_bd (by omega) (by omega) | exact set_bd (by assumption) (by omega) (by omega) | exact take_bd (by assumption) | ((try simp only [List.length_take, List.take_length, List.take_take, Nat.min_self, List.length_drop, List.drop_zero, List.length_cons, List.length_nil]); first | assumption | exact rep_bd (by omega) (by omega) | exact set_bd (by assumption) (by omega) (by omega) | exact take_bd (by assumption) | grind [getD_set, getD_rep, toNat_succ, cntN_yes, cntN_no])
  refine req_i ?_ ?_
  · -- r6
    first | omega | assumption | grind
  refine req_i ?_ ?_
  · -- r7
    first | omega | assumption | grind
  refine req_i ?_ ?_
  · -- r8
    first | omega | assumption | grind
  refine req_i ?_ ?_
  · -- r9
    first | omega | assumption | grind
  refine req_i ?_ ?_
  · -- r10
    first | omega | ((try simp only [sigChkA, chkAPost, List.cons.injEq, DV.b.injEq, and_true, List.length_take, List.take_length, List.take_take, Nat.min_self, List.length_drop, List.drop_zero, List.length_cons, List.length_nil]); first | done | omega | assumption | grind [getD_set, getD_rep, toNat_succ, cntN_yes, cntN_no])
  refine all_i fun n4 => ?_
  refine imp_i fun h9 => ?_
  refine imp_i fun h10 => ?_
  refine imp_i fun h11 => ?_
  try simp only [sigChkA, chkAPost, List.cons.injEq, DV.b.injEq, and_true, List.length_take, List.take_length, List.take_take, Nat.min_self, List.length_drop, List.drop_zero, List.length_cons, List.length_nil] at h11
  refine bR_dec (fun h12 => ?_) (fun h12 => ?_)
  ·
    refine req_i ?_ ?_
    · -- r11
      first | omega | assumption | grind
    refine req_i ?_ ?_
    · -- r12
      first | omega | assumption | grind
    refine req_i ?_ ?_
    · -- r13
      first | omega | ((try simp only [sigQuan, quanPost, List.cons.injEq, DV.b.injEq, and_true, List.length_cons, List.length_nil]); first | done | omega | assumption | grind [getD_set, getD_rep, toNat_succ, cntN_yes, cntN_no])
    rfl
  ·
    obtain ⟨G, L, I⟩ := errS_ok (b := n2) (n := n3) (m := 70368744177664) (s := l0) (t := l1) (by omega)
    have cz : cntN (lostAt n2 n3 l0 l1) 0 = 0 := rfl
    refine req_i ?_ ?_
    · -- r14
      first | omega | ((try simp only [Int.toNat_natCast, List.length_cons, List.length_nil]); first | done | omega | assumption | grind [getD_set, getD_rep, toNat_succ, cntN_yes, cntN_no])
    refine req_i ?_ ?_
    · -- r15
      first | omega | ((try simp only [Int.toNat_natCast, List.length_cons, List.length_nil]); first | done | omega | assumption | grind [getD_set, getD_rep, toNat_succ, cntN_yes, cntN_no])
    refine req_i ?_ ?_
    · -- r16
      first | omega | ((try simp only [Nat.mul_eq]); first | done | omega | assumption | grind [getD_set, getD_rep, toNat_succ, cntN_yes, cntN_no])
    refine req_i ?_ ?_
    · -- r17
      first | omega | ((try simp only [Nat.zero_add]); first | done | omega | assumption | grind [getD_set, getD_rep, toNat_succ, cntN_yes, cntN_no])
    refine req_i ?_ ?_
    · -- r18
      first | omega | ((try simp only [List.length_take, List.take_length, List.take_take, Nat.min_self, List.length_drop, List.drop_zero, List.length_cons, List.length_nil]); first | done | omega | assumption | grind [getD_set, getD_rep, toNat_succ, cntN_yes, cntN_no])
    refine req_i ?_ ?_
    · -- r19
      first | assumption | exact rep_bd (by omega) (by omega) | exact set_bd (by assumption) (by omega) (by omega) | exact take_bd (by assumption) | ((try simp only [List.length_take, List.take_length, List.take_take, Nat.min_self, List.length_drop, List.drop_zero, List.length_cons, List.length_nil]); first | assumption | exact rep_bd (by omega) (by omega) | exact set_bd (by assumption) (by omega) (by omega) | exact take_bd (by assumption) | grind [getD_set, getD_rep, toNat_succ, cntN_yes, cntN_no])
    refine req_i ?_ ?_
    · -- r20
      first | omega | ((try simp only [List.length_take, List.take_length, List.take_take, Nat.min_self, List.length_drop, List.drop_zero, List.length_cons, List.length_nil]); first | done | omega | assumption | grind [getD_set, getD_rep, toNat_succ, cntN_yes, cntN_no])
    refine req_i ?_ ?_
    · -- r21
      first | assumption | exact rep_bd (by omega) (by omega) | exact set_bd (by assumption) (by omega) (by omega) | exact take_bd (by assumption) | ((try simp only [List.length_take, List.take_length, List.take_take, Nat.min_self, List.length_drop, List.drop_zero, List.length_cons, List.length_nil]); first | assumption | exact rep_bd (by omega) (by omega) | exact set_bd (by assumption) (by omega) (by omega) | exact take_bd (by assumption) | grind [getD_set, getD_rep, toNat_succ, cntN_yes, cntN_no])
    refine req_i ?_ ?_
    · -- r22
      first | omega | assumption | grind
    refine req_i ?_ ?_
    · -- r23
      first | omega | assumption | grind
    refine req_i ?_ ?_
    · -- r24
      first | omega | assumption | grind
    refine req_i ?_ ?_
    · -- r25
      first | omega | assumption | grind
    refine req_i ?_ ?_
    · -- r26
      first | omega | ((try simp only [Int.toNat_natCast, List.length_replicate, List.length_cons, List.length_nil, lenCols_i, lenCols_b]); first | done | omega | assumption | grind [getD_set, getD_rep, toNat_succ, cntN_yes, cntN_no])
    refine req_i ?_ ?_
    · -- r27
      first | omega | ((try simp only [Int.toNat_natCast, List.length_replicate, List.length_cons, List.length_nil, lenCols_i, lenCols_b]); first | done | omega | assumption | grind [getD_set, getD_rep, toNat_succ, cntN_yes, cntN_no])
    refine req_i ?_ ?_
    · -- r28
      first | assumption | exact rep_bd (by omega) (by omega) | exact set_bd (by assumption) (by omega) (by omega) | exact take_bd (by assumption) | ((try simp only [Int.toNat_natCast, List.length_replicate, List.length_cons, List.length_nil]); first | assumption | exact rep_bd (by omega) (by omega) | exact set_bd (by assumption) (by omega) (by omega) | exact take_bd (by assumption) | grind [getD_set, getD_rep, toNat_succ, cntN_yes, cntN_no])
    refine req_i ?_ ?_
    · -- r29
      first | omega | ((try simp only [Int.toNat_natCast, List.length_replicate, List.length_cons, List.length_nil, lenCols_i, lenCols_b]); first | done | omega | assumption | grind [getD_set, getD_rep, toNat_succ, cntN_yes, cntN_no])
    refine req_i ?_ ?_
    · -- r30
      first | assumption | exact rep_bd (by omega) (by omega) | exact set_bd (by assumption) (by omega) (by omega) | exact take_bd (by assumption) | ((try simp only [Int.toNat_natCast, List.length_replicate, List.length_cons, List.length_nil]); first | assumption | exact rep_bd (by omega) (by omega) | exact set_bd (by assumption) (by omega) (by omega) | exact take_bd (by assumption) | grind [getD_set, getD_rep, toNat_succ, cntN_yes, cntN_no])
    refine req_i ?_ ?_
    · -- r31
      first | omega | ((try simp only [mapL, mapInv, mea0, List.cons.injEq, DV.b.injEq, and_true, Int.toNat_natCast, List.length_replicate, List.length_take, List.take_length, List.take_take, Nat.min_self, List.length_drop, List.drop_zero, List.length_cons, List.length_nil]); first | done | omega | assumption | grind [getD_set, getD_rep, toNat_succ, cntN_yes, cntN_no])
    refine all_i fun n5 => ?_
    refine imp_i fun h13 => ?_
    refine imp_i fun h14 => ?_
    refine all_i fun l6 => ?_
    refine imp_i fun h15 => ?_
    refine imp_i fun h16 => ?_
    refine all_i fun l7 => ?_
    refine imp_i fun h17 => ?_
    have tkl7 := take_eq h17
    try simp only [tkl7]
    refine imp_i fun h18 => ?_
    refine imp_i fun h19 => ?_
    try simp only [mapL, mapInv, mea0, List.cons.injEq, DV.b.injEq, and_true, List.length_take, List.take_length, List.take_take, Nat.min_self, List.length_drop, List.drop_zero, List.length_cons, List.length_nil] at h19
    refine bR_dec (fun h20 => ?_) (fun h20 => ?_)
    ·
      have ib := inS_bd I (i := n5) (by omega)
      refine req_i ?_ ?_
      · -- r32
        first | omega | ((try simp only [Int.toNat_natCast, List.length_cons, List.length_nil]); first | done | omega | assumption | grind [getD_set, getD_rep, toNat_succ, cntN_yes, cntN_no])
      refine req_i ?_ ?_
      · -- r33
        first | omega | ((try simp only [Int.toNat_natCast, List.length_cons, List.length_nil, Nat.add_eq, Nat.zero_add]); first | done | omega | assumption | grind [getD_set, getD_rep, toNat_succ, cntN_yes, cntN_no])
      refine req_i ?_ ?_
      · -- r34
        first | omega | ((try simp only [Int.toNat_natCast, List.length_cons, List.length_nil, Nat.add_eq, Nat.zero_add]); first | done | omega | assumption | grind [getD_set, getD_rep, toNat_succ, cntN_yes, cntN_no])
      refine req_i ?_ ?_
      · -- r35
        first | omega | assumption | grind
      refine req_i ?_ ?_
      · -- r36
        first | omega | assumption | grind
      refine req_i ?_ ?_
      · -- r37
        first | omega | assumption | grind
      refine req_i ?_ ?_
      · -- r38
        first | omega | assumption | grind
      refine req_i ?_ ?_
      · -- r39
        first | omega | assumption | grind
      refine req_i ?_ ?_
      · -- r40
        first | omega | assumption | grind
      refine req_i ?_ ?_
      · -- r41
        first | trivial | assumption | (simp only [sigLev, levPost, List.cons.injEq, DV.b.injEq, and_true, Int.toNat_natCast, List.length_cons, List.length_nil, Nat.add_eq, Nat.zero_add]; done) | ((try simp only [sigLev, levPost, List.cons.injEq, DV.b.injEq, and_true, Int.toNat_natCast, List.length_cons, List.length_nil, Nat.add_eq, Nat.zero_add]); first | omega | assumption | grind)
      refine all_i fun n8 => ?_
      refine imp_i fun h21 => ?_
      refine imp_i fun h22 => ?_
      refine imp_i fun h23 => ?_
      try simp only [sigLev, levPost, List.cons.injEq, DV.b.injEq, and_true, Int.toNat_natCast, List.length_cons, List.length_nil, Nat.add_eq, Nat.zero_add] at h23
      refine req_i ?_ ?_
      · -- r42
        first | omega | assumption | grind
      refine req_i ?_ ?_
      · -- r43
        first | omega | assumption | grind
      refine req_i ?_ ?_
      · -- r44
        first | omega | assumption | grind
      refine req_i ?_ ?_
      · -- r45
        first | omega | assumption | grind
      refine req_i ?_ ?_
      · -- r46
        first | omega | assumption | grind
      refine req_i ?_ ?_
      · -- r47
        first | omega | assumption | grind
      refine req_i ?_ ?_
      · -- r48
        first | trivial | assumption | (simp only [sigLev, levPost, List.cons.injEq, DV.b.injEq, and_true, Int.toNat_natCast, List.length_cons, List.length_nil, Nat.add_eq, Nat.zero_add]; done) | ((try simp only [sigLev, levPost, List.cons.injEq, DV.b.injEq, and_true, Int.toNat_natCast, List.length_cons, List.length_nil, Nat.add_eq, Nat.zero_add]); first | omega | assumption | grind)
      refine all_i fun n9 => ?_
      refine imp_i fun h24 => ?_
      refine imp_i fun h25 => ?_
      refine imp_i fun h26 => ?_
      try simp only [sigLev, levPost, List.cons.injEq, DV.b.injEq, and_true, Int.toNat_natCast, List.length_cons, List.length_nil, Nat.add_eq, Nat.zero_add] at h26
      refine req_i ?_ ?_
      · -- r49
        first | omega | ((try simp only [Int.toNat_natCast, List.length_cons, List.length_nil]); first | done | omega | assumption | grind [getD_set, getD_rep, toNat_succ, cntN_yes, cntN_no])
      refine req_i ?_ ?_
      · -- r50
        first | omega | ((try simp only [Int.toNat_natCast, List.length_cons, List.length_nil, Nat.add_eq, Nat.zero_add]); first | done | omega | assumption | grind [getD_set, getD_rep, toNat_succ, cntN_yes, cntN_no])
      refine req_i ?_ ?_
      · -- r51
        first | omega | ((try simp only [Int.toNat_natCast, List.length_cons, List.length_nil, Nat.add_eq, Nat.zero_add]); first | done | omega | assumption | grind [getD_set, getD_rep, toNat_succ, cntN_yes, cntN_no])
      refine bR_t ?_ ?_
      · -- g0
        first | rfl | (simp only [bR_iff, bR_iff_f, dec_iff, dec_f, beqB_iff', andB_iff', reduceCtorEq, imp_self, false_implies, and_true, true_and, implies_true, and_self]; done) | (simp [bR_iff, dec_iff, beqB_iff', andB_iff']; done) | (simp [bR_iff, dec_iff, beqB_iff', andB_iff']; omega)
      refine bR_t ?_ ?_
      · -- g1
        first | rfl | (simp only [bR_iff, bR_iff_f, dec_iff, dec_f, beqB_iff', andB_iff', reduceCtorEq, imp_self, false_implies, and_true, true_and, implies_true, and_self]; done) | (simp [bR_iff, dec_iff, beqB_iff', andB_iff']; done) | (simp [bR_iff, dec_iff, beqB_iff', andB_iff']; omega)
      refine req_i ?_ ?_
      · -- r52
        first | omega | assumption | grind
      refine req_i ?_ ?_
      · -- r53
        first | omega | assumption | grind
      refine req_i ?_ ?_
      · -- r54
        first | omega | ((try simp only [Int.toNat_natCast, List.length_set, List.length_cons, List.length_nil, lenCols_i, lenCols_b, Nat.add_eq, Nat.zero_add]); first | done | omega | assumption | grind [getD_set, getD_rep, toNat_succ, cntN_yes, cntN_no])
      refine req_i ?_ ?_
      · -- r55
        first | omega | ((try simp only [Int.toNat_natCast, List.length_set, List.length_cons, List.length_nil, lenCols_i, lenCols_b, Nat.add_eq, Nat.zero_add]); first | done | omega | assumption | grind [getD_set, getD_rep, toNat_succ, cntN_yes, cntN_no])
      refine req_i ?_ ?_
      · -- r56
        first | assumption | exact rep_bd (by omega) (by omega) | exact set_bd (by assumption) (by omega) (by omega) | exact take_bd (by assumption) | ((try simp only [Int.toNat_natCast, List.length_set, List.length_cons, List.length_nil, Nat.add_eq, Nat.zero_add]); first | assumption | exact rep_bd (by omega) (by omega) | exact set_bd (by assumption) (by omega) (by omega) | exact take_bd (by assumption) | grind [getD_set, getD_rep, toNat_succ, cntN_yes, cntN_no])
      refine req_i ?_ ?_
      · -- r57
        first | omega | ((try simp only [Int.toNat_natCast, List.length_set, List.length_cons, List.length_nil, lenCols_i, lenCols_b, Nat.add_eq, Nat.zero_add]); first | done | omega | assumption | grind [getD_set, getD_rep, toNat_succ, cntN_yes, cntN_no])
      refine req_i ?_ ?_
      · -- r58
        first | assumption | exact rep_bd (by omega) (by omega) | exact set_bd (by assumption) (by omega) (by omega) | exact take_bd (by assumption) | ((try simp only [Int.toNat_natCast, List.length_set, List.length_cons, List.length_nil, Nat.add_eq, Nat.zero_add]); first | assumption | exact rep_bd (by omega) (by omega) | exact set_bd (by assumption) (by omega) (by omega) | exact take_bd (by assumption) | grind [getD_set, getD_rep, toNat_succ, cntN_yes, cntN_no])
      refine req_i ?_ ?_
      · -- r59
        first | omega | ((try simp only [mapL, mapInv, mea0, List.cons.injEq, DV.b.injEq, and_true, Int.toNat_natCast, List.length_set, List.length_take, List.take_length, List.take_take, Nat.min_self, List.length_drop, List.drop_zero, List.length_cons, List.length_nil, Nat.add_eq, Nat.zero_add]); first | done | omega | assumption | grind [getD_set, getD_rep, toNat_succ, cntN_yes, cntN_no])
      refine req_i ?_ ?_
      · -- r60
        first | omega | ((try simp only [mapL, mapInv, mea0, List.cons.injEq, DV.b.injEq, and_true, Int.toNat_natCast, List.length_set, List.length_take, List.take_length, List.take_take, Nat.min_self, List.length_drop, List.drop_zero, List.length_cons, List.length_nil, Nat.add_eq, Nat.zero_add]); first | done | omega | assumption | grind [getD_set, getD_rep, toNat_succ, cntN_yes, cntN_no])
      rfl
    ·
      refine req_i ?_ ?_
      · -- r61
        first | omega | ((try simp only [Nat.mul_eq]); first | done | omega | assumption | grind [getD_set, getD_rep, toNat_succ, cntN_yes, cntN_no])
      refine req_i ?_ ?_
      · -- r62
        first | omega | ((try simp only [Nat.zero_add]); first | done | omega | assumption | grind [getD_set, getD_rep, toNat_succ, cntN_yes, cntN_no])
      refine req_i ?_ ?_
      · -- r63
        first | omega | ((try simp only [List.length_take, List.take_length, List.take_take, Nat.min_self, List.length_drop, List.drop_zero, List.length_cons, List.length_nil]); first | done | omega | assumption | grind [getD_set, getD_rep, toNat_succ, cntN_yes, cntN_no])
      refine req_i ?_ ?_
      · -- r64
        first | assumption | exact rep_bd (by omega) (by omega) | exact set_bd (by assumption) (by omega) (by omega) | exact take_bd (by assumption) | ((try simp only [List.length_take, List.take_length, List.take_take, Nat.min_self, List.length_drop, List.drop_zero, List.length_cons, List.length_nil]); first | assumption | exact rep_bd (by omega) (by omega) | exact set_bd (by assumption) (by omega) (by omega) | exact take_bd (by assumption) | grind [getD_set, getD_rep, toNat_succ, cntN_yes, cntN_no])
      refine req_i ?_ ?_
      · -- r65
        first | omega | ((try simp only [List.length_take, List.take_length, List.take_take, Nat.min_self, List.length_drop, List.drop_zero, List.length_cons, List.length_nil]); first | done | omega | assumption | grind [getD_set, getD_rep, toNat_succ, cntN_yes, cntN_no])
      refine req_i ?_ ?_
      · -- r66
        first | assumption | exact rep_bd (by omega) (by omega) | exact set_bd (by assumption) (by omega) (by omega) | exact take_bd (by assumption) | ((try simp only [List.length_take, List.take_length, List.take_take, Nat.min_self, List.length_drop, List.drop_zero, List.length_cons, List.length_nil]); first | assumption | exact rep_bd (by omega) (by omega) | exact set_bd (by assumption) (by omega) (by omega) | exact take_bd (by assumption) | grind [getD_set, getD_rep, toNat_succ, cntN_yes, cntN_no])
      refine req_i ?_ ?_
      · -- r67
        first | omega | assumption | grind
      refine req_i ?_ ?_
      · -- r68
        first | omega | assumption | grind
      refine req_i ?_ ?_
      · -- r69
        first | omega | assumption | grind
      refine req_i ?_ ?_
      · -- r70
        first | omega | assumption | grind
      refine req_i ?_ ?_
      · -- r71
        first | omega | ((try simp only [losL, losInv, mea0, List.cons.injEq, DV.b.injEq, and_true, List.length_take, List.take_length, List.take_take, Nat.min_self, List.length_drop, List.drop_zero, List.length_cons, List.length_nil]); first | done | omega | assumption | grind [getD_set, getD_rep, toNat_succ, cntN_yes, cntN_no])
      refine all_i fun n10 => ?_
      refine imp_i fun h27 => ?_
      refine imp_i fun h28 => ?_
      refine all_i fun n11 => ?_
      refine imp_i fun h29 => ?_
      refine imp_i fun h30 => ?_
      refine imp_i fun h31 => ?_
      try simp only [losL, losInv, mea0, List.cons.injEq, DV.b.injEq, and_true, List.length_take, List.take_length, List.take_take, Nat.min_self, List.length_drop, List.drop_zero, List.length_cons, List.length_nil] at h31
      refine bR_dec (fun h32 => ?_) (fun h32 => ?_)
      ·
        have ib := inS_bd I (i := n10) (by omega)
        have cb := cntN_bd (p := lostAt n2 n3 l0 l1) (n := n10.toNat)
        refine req_i ?_ ?_
        · -- r72
          first | omega | ((try simp only [Int.toNat_natCast, List.length_cons, List.length_nil]); first | done | omega | assumption | grind [getD_set, getD_rep, toNat_succ, cntN_yes, cntN_no])
        refine req_i ?_ ?_
        · -- r73
          first | omega | ((try simp only [Int.toNat_natCast, List.length_cons, List.length_nil, Nat.add_eq, Nat.zero_add]); first | done | omega | assumption | grind [getD_set, getD_rep, toNat_succ, cntN_yes, cntN_no])
        refine req_i ?_ ?_
        · -- r74
          first | omega | ((try simp only [Int.toNat_natCast, List.length_cons, List.length_nil, Nat.add_eq, Nat.zero_add]); first | done | omega | assumption | grind [getD_set, getD_rep, toNat_succ, cntN_yes, cntN_no])
        refine req_i ?_ ?_
        · -- r75
          first | omega | assumption | grind
        refine req_i ?_ ?_
        · -- r76
          first | omega | assumption | grind
        refine req_i ?_ ?_
        · -- r77
          first | omega | assumption | grind
        refine req_i ?_ ?_
        · -- r78
          first | omega | assumption | grind
        refine req_i ?_ ?_
        · -- r79
          first | omega | assumption | grind
        refine req_i ?_ ?_
        · -- r80
          first | omega | assumption | grind
        refine req_i ?_ ?_
        · -- r81
          first | trivial | assumption | (simp only [sigLost, lostPost, List.cons.injEq, DV.b.injEq, and_true, Int.toNat_natCast, List.length_cons, List.length_nil, Nat.add_eq, Nat.zero_add]; done) | ((try simp only [sigLost, lostPost, List.cons.injEq, DV.b.injEq, and_true, Int.toNat_natCast, List.length_cons, List.length_nil, Nat.add_eq, Nat.zero_add]); first | omega | assumption | grind)
        refine all_i fun b12 => ?_
        refine imp_i fun h33 => ?_
        try simp only [sigLost, lostPost, List.cons.injEq, DV.b.injEq, and_true, Int.toNat_natCast, List.length_cons, List.length_nil, Nat.add_eq, Nat.zero_add] at h33
        refine bR_i (fun h34 => ?_) (fun h34 => ?_)
        ·
          have cs := cntN_yes (p := lostAt n2 n3 l0 l1) (n := n10.toNat) (.inl (h33.1 h34))
          refine bR_t ?_ ?_
          · -- g2
            first | rfl | (simp only [bR_iff, bR_iff_f, dec_iff, dec_f, beqB_iff', andB_iff', reduceCtorEq, imp_self, false_implies, and_true, true_and, implies_true, and_self]; done) | (simp [bR_iff, dec_iff, beqB_iff', andB_iff']; done) | (simp [bR_iff, dec_iff, beqB_iff', andB_iff']; omega)
          refine bR_t ?_ ?_
          · -- g3
            first | rfl | (simp only [bR_iff, bR_iff_f, dec_iff, dec_f, beqB_iff', andB_iff', reduceCtorEq, imp_self, false_implies, and_true, true_and, implies_true, and_self]; done) | (simp [bR_iff, dec_iff, beqB_iff', andB_iff']; done) | (simp [bR_iff, dec_iff, beqB_iff', andB_iff']; omega)
          refine req_i ?_ ?_
          · -- r82
            first | omega | assumption | grind
          refine req_i ?_ ?_
          · -- r83
            first | omega | assumption | grind
          refine req_i ?_ ?_
          · -- r84
            first | omega | assumption | grind
          refine req_i ?_ ?_
          · -- r85
            first | omega | assumption | grind
          refine req_i ?_ ?_
          · -- r86
            first | omega | ((try simp only [losL, losInv, mea0, List.cons.injEq, DV.b.injEq, and_true, List.length_take, List.take_length, List.take_take, Nat.min_self, List.length_drop, List.drop_zero, List.length_cons, List.length_nil]); first | done | omega | assumption | grind [getD_set, getD_rep, toNat_succ, cntN_yes, cntN_no])
          refine req_i ?_ ?_
          · -- r87
            first | omega | ((try simp only [losL, losInv, mea0, List.cons.injEq, DV.b.injEq, and_true, List.length_take, List.take_length, List.take_take, Nat.min_self, List.length_drop, List.drop_zero, List.length_cons, List.length_nil]); first | done | omega | assumption | grind [getD_set, getD_rep, toNat_succ, cntN_yes, cntN_no])
          rfl
        ·
          refine req_i ?_ ?_
          · -- r88
            first | omega | assumption | grind
          refine req_i ?_ ?_
          · -- r89
            first | omega | assumption | grind
          refine req_i ?_ ?_
          · -- r90
            first | omega | assumption | grind
          refine req_i ?_ ?_
          · -- r91
            first | omega | assumption | grind
          refine req_i ?_ ?_
          · -- r92
            first | omega | assumption | grind
          refine req_i ?_ ?_
          · -- r93
            first | omega | assumption | grind
          refine req_i ?_ ?_
          · -- r94
            first | trivial | assumption | (simp only [sigLost, lostPost, List.cons.injEq, DV.b.injEq, and_true, Int.toNat_natCast, List.length_cons, List.length_nil, Nat.add_eq, Nat.zero_add]; done) | ((try simp only [sigLost, lostPost, List.cons.injEq, DV.b.injEq, and_true, Int.toNat_natCast, List.length_cons, List.length_nil, Nat.add_eq, Nat.zero_add]); first | omega | assumption | grind)
          refine all_i fun b13 => ?_
          refine imp_i fun h35 => ?_
          try simp only [sigLost, lostPost, List.cons.injEq, DV.b.injEq, and_true, Int.toNat_natCast, List.length_cons, List.length_nil, Nat.add_eq, Nat.zero_add] at h35
          refine bR_i (fun h36 => ?_) (fun h36 => ?_)
          ·
            have cs := cntN_yes (p := lostAt n2 n3 l0 l1) (n := n10.toNat) (.inr (h35.1 h36))
            refine bR_t ?_ ?_
            · -- g4
              first | rfl | (simp only [bR_iff, bR_iff_f, dec_iff, dec_f, beqB_iff', andB_iff', reduceCtorEq, imp_self, false_implies, and_true, true_and, implies_true, and_self]; done) | (simp [bR_iff, dec_iff, beqB_iff', andB_iff']; done) | (simp [bR_iff, dec_iff, beqB_iff', andB_iff']; omega)
            refine bR_t ?_ ?_
            · -- g5
              first | rfl | (simp only [bR_iff, bR_iff_f, dec_iff, dec_f, beqB_iff', andB_iff', reduceCtorEq, imp_self, false_implies, and_true, true_and, implies_true, and_self]; done) | (simp [bR_iff, dec_iff, beqB_iff', andB_iff']; done) | (simp [bR_iff, dec_iff, beqB_iff', andB_iff']; omega)
            refine req_i ?_ ?_
            · -- r95
              first | omega | assumption | grind
            refine req_i ?_ ?_
            · -- r96
              first | omega | assumption | grind
            refine req_i ?_ ?_
            · -- r97
              first | omega | assumption | grind
            refine req_i ?_ ?_
            · -- r98
              first | omega | assumption | grind
            refine req_i ?_ ?_
            · -- r99
              first | omega | ((try simp only [losL, losInv, mea0, List.cons.injEq, DV.b.injEq, and_true, List.length_take, List.take_length, List.take_take, Nat.min_self, List.length_drop, List.drop_zero, List.length_cons, List.length_nil]); first | done | omega | assumption | grind [getD_set, getD_rep, toNat_succ, cntN_yes, cntN_no])
            refine req_i ?_ ?_
            · -- r100
              first | omega | ((try simp only [losL, losInv, mea0, List.cons.injEq, DV.b.injEq, and_true, List.length_take, List.take_length, List.take_take, Nat.min_self, List.length_drop, List.drop_zero, List.length_cons, List.length_nil]); first | done | omega | assumption | grind [getD_set, getD_rep, toNat_succ, cntN_yes, cntN_no])
            rfl
          ·
            have cs := cntN_no (p := lostAt n2 n3 l0 l1) (n := n10.toNat) (fun g => by rcases g with g | g; exact absurd (h33.2 g) (by rw [h34]; decide); exact absurd (h35.2 g) (by rw [h36]; decide))
            refine bR_t ?_ ?_
            · -- g6
              first | rfl | (simp only [bR_iff, bR_iff_f, dec_iff, dec_f, beqB_iff', andB_iff', reduceCtorEq, imp_self, false_implies, and_true, true_and, implies_true, and_self]; done) | (simp [bR_iff, dec_iff, beqB_iff', andB_iff']; done) | (simp [bR_iff, dec_iff, beqB_iff', andB_iff']; omega)
            refine bR_t ?_ ?_
            · -- g7
              first | rfl | (simp only [bR_iff, bR_iff_f, dec_iff, dec_f, beqB_iff', andB_iff', reduceCtorEq, imp_self, false_implies, and_true, true_and, implies_true, and_self]; done) | (simp [bR_iff, dec_iff, beqB_iff', andB_iff']; done) | (simp [bR_iff, dec_iff, beqB_iff', andB_iff']; omega)
            refine req_i ?_ ?_
            · -- r101
              first | omega | assumption | grind
            refine req_i ?_ ?_
            · -- r102
              first | omega | assumption | grind
            refine req_i ?_ ?_
            · -- r103
              first | omega | assumption | grind
            refine req_i ?_ ?_
            · -- r104
              first | omega | assumption | grind
            refine req_i ?_ ?_
            · -- r105
              first | omega | ((try simp only [losL, losInv, mea0, List.cons.injEq, DV.b.injEq, and_true, List.length_take, List.take_length, List.take_take, Nat.min_self, List.length_drop, List.drop_zero, List.length_cons, List.length_nil]); first | done | omega | assumption | grind [getD_set, getD_rep, toNat_succ, cntN_yes, cntN_no])
            refine req_i ?_ ?_
            · -- r106
              first | omega | ((try simp only [losL, losInv, mea0, List.cons.injEq, DV.b.injEq, and_true, List.length_take, List.take_length, List.take_take, Nat.min_self, List.length_drop, List.drop_zero, List.length_cons, List.length_nil]); first | done | omega | assumption | grind [getD_set, getD_rep, toNat_succ, cntN_yes, cntN_no])
            rfl
      ·
        refine req_i ?_ ?_
        · -- r107
          first | omega | ((try simp only [Int.toNat_natCast, List.length_cons, List.length_nil, Nat.mul_eq]); first | done | omega | assumption | grind [getD_set, getD_rep, toNat_succ, cntN_yes, cntN_no])
        refine req_i ?_ ?_
        · -- r108
          first | omega | ((try simp only [Int.toNat_natCast, List.length_cons, List.length_nil]); first | done | omega | assumption | grind [getD_set, getD_rep, toNat_succ, cntN_yes, cntN_no])
        refine req_i ?_ ?_
        · -- r109
          first | omega | ((try simp only [Int.toNat_natCast, List.length_take, List.take_length, List.take_take, Nat.min_self, List.length_drop, List.drop_zero, List.length_cons, List.length_nil]); first | done | omega | assumption | grind [getD_set, getD_rep, toNat_succ, cntN_yes, cntN_no])
        refine req_i ?_ ?_
        · -- r110
          first | assumption | exact rep_bd (by omega) (by omega) | exact set_bd (by assumption) (by omega) (by omega) | exact take_bd (by assumption) | ((try simp only [Int.toNat_natCast, List.length_take, List.take_length, List.take_take, Nat.min_self, List.length_drop, List.drop_zero, List.length_cons, List.length_nil]); first | assumption | exact rep_bd (by omega) (by omega) | exact set_bd (by assumption) (by omega) (by omega) | exact take_bd (by assumption) | grind [getD_set, getD_rep, toNat_succ, cntN_yes, cntN_no])
        refine req_i ?_ ?_
        · -- r111
          first | omega | ((try simp only [Int.toNat_natCast, List.length_take, List.take_length, List.take_take, Nat.min_self, List.length_drop, List.drop_zero, List.length_cons, List.length_nil]); first | done | omega | assumption | grind [getD_set, getD_rep, toNat_succ, cntN_yes, cntN_no])
        refine req_i ?_ ?_
        · -- r112
          first | assumption | exact rep_bd (by omega) (by omega) | exact set_bd (by assumption) (by omega) (by omega) | exact take_bd (by assumption) | ((try simp only [Int.toNat_natCast, List.length_take, List.take_length, List.take_take, Nat.min_self, List.length_drop, List.drop_zero, List.length_cons, List.length_nil]); first | assumption | exact rep_bd (by omega) (by omega) | exact set_bd (by assumption) (by omega) (by omega) | exact take_bd (by assumption) | grind [getD_set, getD_rep, toNat_succ, cntN_yes, cntN_no])
        refine req_i ?_ ?_
        · -- r113
          first | omega | assumption | grind
        refine req_i ?_ ?_
        · -- r114
          first | omega | assumption | grind
        refine req_i ?_ ?_
        · -- r115
          first | omega | ((try simp only [sigQuan, quanPost, List.cons.injEq, DV.b.injEq, and_true, Int.toNat_natCast, List.length_take, List.take_length, List.take_take, Nat.min_self, List.length_drop, List.drop_zero, List.length_cons, List.length_nil]); first | done | omega | assumption | grind [getD_set, getD_rep, toNat_succ, cntN_yes, cntN_no])
        rfl
theorem ext_quan : ∀ p ∈ ([(31, Ext.ctr (ctOf sigChkA)), (32, Ext.ctr (ctOf sigLev)), (33, Ext.ctr (ctOf sigLost))] : List (Nat × Ext)), ExtRow Try.prog p.1 p.2 := by
  intro p hp
  simp only [List.mem_cons, List.not_mem_nil, or_false] at hp
  rcases hp with rfl | rfl | rfl <;> trivial
theorem cts_quan : CtsOk Try.prog [(31, Ext.ctr (ctOf sigChkA)), (32, Ext.ctr (ctOf sigLev)), (33, Ext.ctr (ctOf sigLost))] := ctsOk_of (cs := [(31, sigChkA), (32, sigLev), (33, sigLost)])
  (fun p hp => by
    simp only [List.mem_cons, List.not_mem_nil, or_false] at hp
    rcases hp with rfl | rfl | rfl
    · exact fn_chkA
    · exact fn_lev
    · exact fn_lost
)
  (fun f c h => by
    simp only [List.lookup_cons] at h
    repeat' split at h
    all_goals first | (cases h; done) | (rename_i e; have e := beq_iff_eq.1 e; subst e; cases h; exact ⟨_, by simp, rfl⟩))
theorem fn_quan : FnOk Try.prog 23 sigQuan [] := fn_sound (by kernel_rfl) ext_quan cts_quan names vt_quan
end Go.Proofs.Ytemcaojbhfgpgaa

namespace Go.Proofs.Ytemcaojbhfgpgaa
open Go.Ev Go.Sp
set_option maxRecDepth 100000
theorem vc_rest : vcFn Try.prog [(21, Ext.ctr (ctOf sigChkG)), (34, Ext.ctr (ctOf sigChkS)), (35, Ext.ctr (ctOf sigGr))] tabR [] 100 11 sigRest = (allB fun l0 : List Int => 
impB (l0.length ≤ (300 : Nat)) (
impB (∀ (y : Int), y ∈ l0 → (-9223372036854775808 : Int) ≤ y ∧ y ≤ (9223372036854775807 : Int)) (
allB fun l1 : List Int => 
impB (l1.length = l0.length) (
impB (∀ (y : Int), y ∈ l1 → (-9223372036854775808 : Int) ≤ y ∧ y ≤ (9223372036854775807 : Int)) (
allB fun n2 : Int => 
impB ((-9223372036854775808 : Int) ≤ n2) (
impB (n2 ≤ (9223372036854775807 : Int)) (
allB fun n3 : Int => 
impB ((-9223372036854775808 : Int) ≤ n3) (
impB (n3 ≤ (9223372036854775807 : Int)) (
impB (sigRest.pre [DV.l l0, DV.l l1, DV.n n2, DV.n n3]) (
reqB ((-9223372036854775808 : Int) ≤ n2) (
reqB (n2 ≤ (9223372036854775807 : Int)) (
reqB ((-9223372036854775808 : Int) ≤ n3) (
reqB (n3 ≤ (9223372036854775807 : Int)) (
reqB (sigChkG.pre [DV.n n2, DV.n n3]) (
allB fun n4 : Int => 
impB ((0 : Int) ≤ n4) (
impB (n4 ≤ (18 : Int)) (
impB (sigChkG.post [DV.n n2, DV.n n3] [DV.n n4]) (
bR (dec (n4 ≠ (0 : Int))) (
 reqB ((0 : Int) ≤ n4) (
 reqB (n4 ≤ (18 : Int)) (
 reqB (sigRest.post [DV.l l0, DV.l l1, DV.n n2, DV.n n3]
  [DV.l [], DV.l [], DV.n n4]) (
 true)))) (
 reqB ((2 : Int) ≤ n2) (
 reqB (n2 ≤ (8 : Int)) (
 reqB ((0 : Int) ≤ n3) (
 reqB (n3 ≤ (30 : Int)) (
 reqB (sigGr.pre [DV.n n2, DV.n n3]) (
 allB fun n5 : Int => 
 impB ((1 : Int) ≤ n5) (
 impB (n5 ≤ (127 : Int)) (
 impB (sigGr.post [DV.n n2, DV.n n3] [DV.n n5]) (
 reqB (((0 : Nat) + l0.length) * (2 : Nat) ≤ l0.length.mul (2 : Nat)) (
 reqB (l0.length ≤ (9223372036854775807 : Nat)) (
 reqB ((List.take l0.length (List.drop (0 : Nat) l0)).length = l0.length) (
 reqB (∀ (y : Int),
  y ∈ List.take l0.length (List.drop (0 : Nat) l0) → (-9223372036854775808 : Int) ≤ y ∧ y ≤ (9223372036854775807 : Int)) (
 reqB ((List.take l0.length (List.drop (0 : Nat) l1)).length = l0.length) (
 reqB (∀ (y : Int),
  y ∈ List.take l0.length (List.drop (0 : Nat) l1) → (-9223372036854775808 : Int) ≤ y ∧ y ≤ (9223372036854775807 : Int)) (
 reqB ((0 : Int) ≤ n5) (
 reqB (n5 ≤ (70368744177664 : Int)) (
 reqB (sigChkS.pre
  [DV.l (List.take l0.length (List.drop (0 : Nat) l0)), DV.l (List.take l0.length (List.drop (0 : Nat) l1)),
    DV.n n5]) (
 allB fun n6 : Int => 
 impB ((0 : Int) ≤ n6) (
 impB (n6 ≤ (18 : Int)) (
 impB (sigChkS.post
  [DV.l (List.take l0.length (List.drop (0 : Nat) l0)), DV.l (List.take l0.length (List.drop (0 : Nat) l1)),
    DV.n n5]
  [DV.n n6]) (
 bR (dec (n6 ≠ (0 : Int))) (
  reqB ((0 : Int) ≤ n6) (
  reqB (n6 ≤ (18 : Int)) (
  reqB (sigRest.post [DV.l l0, DV.l l1, DV.n n2, DV.n n3]
  [DV.l [], DV.l [], DV.n n6]) (
  true)))) (
  reqB ((↑l0.length : Int).toNat ≤ (↑l0.length : Int).toNat) (
  reqB ((↑l0.length : Int).toNat ≤ (1000000 : Nat)) (
  reqB (((0 : Nat) + l0.length) * (2 : Nat) ≤ l0.length.mul (2 : Nat)) (
  reqB (l0.length ≤ (300 : Nat)) (
  reqB ((List.take l0.length (List.drop (0 : Nat) l0)).length = l0.length) (
  reqB (∀ (y : Int),
  y ∈ List.take l0.length (List.drop (0 : Nat) l0) → (-9223372036854775808 : Int) ≤ y ∧ y ≤ (9223372036854775807 : Int)) (
  reqB ((List.take l0.length (List.drop (0 : Nat) l1)).length = l0.length) (
  reqB (∀ (y : Int),
  y ∈ List.take l0.length (List.drop (0 : Nat) l1) → (-9223372036854775808 : Int) ≤ y ∧ y ≤ (9223372036854775807 : Int)) (
  reqB ((-9223372036854775808 : Int) ≤ n2) (
  reqB (n2 ≤ (9223372036854775807 : Int)) (
  reqB ((-9223372036854775808 : Int) ≤ n3) (
  reqB (n3 ≤ (9223372036854775807 : Int)) (
  reqB (lenCols
    [Col.i Go.IntKind.i64 (Int.negSucc (9223372036854775807 : Nat)) (Int.ofNat (9223372036854775807 : Nat))
        (List.replicate (↑l0.length : Int).toNat (0 : Int)),
      Col.i Go.IntKind.i64 (Int.negSucc (9223372036854775807 : Nat)) (Int.ofNat (9223372036854775807 : Nat))
        (List.replicate (↑l0.length : Int).toNat (0 : Int))] ≤
  (300 : Nat)) (
  reqB ((List.replicate (↑l0.length : Int).toNat (0 : Int)).length =
  lenCols
    [Col.i Go.IntKind.i64 (Int.negSucc (9223372036854775807 : Nat)) (Int.ofNat (9223372036854775807 : Nat))
        (List.replicate (↑l0.length : Int).toNat (0 : Int)),
      Col.i Go.IntKind.i64 (Int.negSucc (9223372036854775807 : Nat)) (Int.ofNat (9223372036854775807 : Nat))
        (List.replicate (↑l0.length : Int).toNat (0 : Int))]) (
  reqB (∀ (y : Int),
  y ∈ List.replicate (↑l0.length : Int).toNat (0 : Int) →
    (-9223372036854775808 : Int) ≤ y ∧ y ≤ (9223372036854775807 : Int)) (
  reqB ((List.replicate (↑l0.length : Int).toNat (0 : Int)).length =
  lenCols
    [Col.i Go.IntKind.i64 (Int.negSucc (9223372036854775807 : Nat)) (Int.ofNat (9223372036854775807 : Nat))
        (List.replicate (↑l0.length : Int).toNat (0 : Int)),
      Col.i Go.IntKind.i64 (Int.negSucc (9223372036854775807 : Nat)) (Int.ofNat (9223372036854775807 : Nat))
        (List.replicate (↑l0.length : Int).toNat (0 : Int))]) (
  reqB (∀ (y : Int),
  y ∈ List.replicate (↑l0.length : Int).toNat (0 : Int) →
    (-9223372036854775808 : Int) ≤ y ∧ y ≤ (9223372036854775807 : Int)) (
  reqB ((mapL (3 : Nat) (4 : Nat) rmapInv).inv
  [DV.l (List.take l0.length (List.drop (0 : Nat) l0)), DV.l (List.take l0.length (List.drop (0 : Nat) l1)),
    DV.n n2, DV.n n3]
  [DV.n (0 : Int), DV.l (List.replicate (↑l0.length : Int).toNat (0 : Int)),
    DV.l (List.replicate (↑l0.length : Int).toNat (0 : Int))]) (
  allB fun n7 : Int => 
  impB ((0 : Int) ≤ n7) (
  impB (n7 ≤ (300 : Int)) (
  allB fun l8 : List Int => 
  impB (l8.length ≤ (300 : Nat)) (
  impB (∀ (y : Int), y ∈ l8 → (-9223372036854775808 : Int) ≤ y ∧ y ≤ (9223372036854775807 : Int)) (
  allB fun l9 : List Int => 
  impB (l9.length = l8.length) (
  impB (∀ (y : Int), y ∈ l9 → (-9223372036854775808 : Int) ≤ y ∧ y ≤ (9223372036854775807 : Int)) (
  impB ((mapL (3 : Nat) (4 : Nat) rmapInv).inv
  [DV.l (List.take l0.length (List.drop (0 : Nat) l0)), DV.l (List.take l0.length (List.drop (0 : Nat) l1)),
    DV.n n2, DV.n n3]
  [DV.n n7, DV.l l8, DV.l l9]) (
  bR (dec (n7 < (↑l0.length : Int))) (
   reqB (n7.toNat < l0.length) (
   reqB (Nat.add (0 : Nat) n7.toNat < l0.length) (
   reqB (Nat.add (0 : Nat) n7.toNat < l1.length) (
   reqB ((0 : Int) ≤ n3) (
   reqB ((0 : Int) ≤ n3) (
   reqB (n7.toNat < (↑l0.length : Int).toNat) (
   reqB (Nat.add (0 : Nat) n7.toNat < l8.length) (
   reqB (Nat.add (0 : Nat) n7.toNat < l9.length) (
   bR (bR (bR (dec ((0 : Nat) = (0 : Nat))) (
    dec ((↑l0.length : Int).toNat = (↑l0.length : Int).toNat)) (
    false)) (
    bR (bR (dec ((0 : Nat) = (0 : Nat))) (
     dec (l0.length = l0.length)) (
     false)) (
     bR (dec ((↑l0.length : Int) = (↑l0.length : Int))) (
      true) (
      false)) (
     false)) (
    false)) (
    bR (bR (bR (dec (n2 = n2)) (
     bR (dec (n3 = n3)) (
      true) (
      false)) (
     false)) (
     bR (bR (dec (n2 = n2)) (
      bR (dec (n3 = n3)) (
       true) (
       false)) (
      false)) (
      true) (
      false)) (
     false)) (
     reqB ((0 : Int) ≤ n7 + (1 : Int)) (
     reqB (n7 + (1 : Int) ≤ (300 : Int)) (
     reqB (lenCols
    [Col.i Go.IntKind.i64 (-9223372036854775808 : Int) (9223372036854775807 : Int)
        (l8.set (Nat.add (0 : Nat) n7.toNat)
          (opI (SO.shl Go.IntKind.i64) (l0.getD (Nat.add (0 : Nat) n7.toNat) (0 : Int)) n3)),
      Col.i Go.IntKind.i64 (-9223372036854775808 : Int) (9223372036854775807 : Int)
        (l9.set (Nat.add (0 : Nat) n7.toNat)
          (opI (SO.shl Go.IntKind.i64) (l1.getD (Nat.add (0 : Nat) n7.toNat) (0 : Int)) n3))] ≤
  (300 : Nat)) (
     reqB ((l8.set (Nat.add (0 : Nat) n7.toNat)
      (opI (SO.shl Go.IntKind.i64) (l0.getD (Nat.add (0 : Nat) n7.toNat) (0 : Int)) n3)).length =
  lenCols
    [Col.i Go.IntKind.i64 (-9223372036854775808 : Int) (9223372036854775807 : Int)
        (l8.set (Nat.add (0 : Nat) n7.toNat)
          (opI (SO.shl Go.IntKind.i64) (l0.getD (Nat.add (0 : Nat) n7.toNat) (0 : Int)) n3)),
      Col.i Go.IntKind.i64 (-9223372036854775808 : Int) (9223372036854775807 : Int)
        (l9.set (Nat.add (0 : Nat) n7.toNat)
          (opI (SO.shl Go.IntKind.i64) (l1.getD (Nat.add (0 : Nat) n7.toNat) (0 : Int)) n3))]) (
     reqB (∀ (y : Int),
  y ∈
      l8.set (Nat.add (0 : Nat) n7.toNat)
        (opI (SO.shl Go.IntKind.i64) (l0.getD (Nat.add (0 : Nat) n7.toNat) (0 : Int)) n3) →
    (-9223372036854775808 : Int) ≤ y ∧ y ≤ (9223372036854775807 : Int)) (
     reqB ((l9.set (Nat.add (0 : Nat) n7.toNat)
      (opI (SO.shl Go.IntKind.i64) (l1.getD (Nat.add (0 : Nat) n7.toNat) (0 : Int)) n3)).length =
  lenCols
    [Col.i Go.IntKind.i64 (-9223372036854775808 : Int) (9223372036854775807 : Int)
        (l8.set (Nat.add (0 : Nat) n7.toNat)
          (opI (SO.shl Go.IntKind.i64) (l0.getD (Nat.add (0 : Nat) n7.toNat) (0 : Int)) n3)),
      Col.i Go.IntKind.i64 (-9223372036854775808 : Int) (9223372036854775807 : Int)
        (l9.set (Nat.add (0 : Nat) n7.toNat)
          (opI (SO.shl Go.IntKind.i64) (l1.getD (Nat.add (0 : Nat) n7.toNat) (0 : Int)) n3))]) (
     reqB (∀ (y : Int),
  y ∈
      l9.set (Nat.add (0 : Nat) n7.toNat)
        (opI (SO.shl Go.IntKind.i64) (l1.getD (Nat.add (0 : Nat) n7.toNat) (0 : Int)) n3) →
    (-9223372036854775808 : Int) ≤ y ∧ y ≤ (9223372036854775807 : Int)) (
     reqB ((mapL (3 : Nat) (4 : Nat) rmapInv).inv
  [DV.l (List.take l0.length (List.drop (0 : Nat) l0)), DV.l (List.take l0.length (List.drop (0 : Nat) l1)),
    DV.n n2, DV.n n3]
  [DV.n (n7 + (1 : Int)),
    DV.l
      (l8.set (Nat.add (0 : Nat) n7.toNat)
        (opI (SO.shl Go.IntKind.i64) (l0.getD (Nat.add (0 : Nat) n7.toNat) (0 : Int)) n3)),
    DV.l
      (l9.set (Nat.add (0 : Nat) n7.toNat)
        (opI (SO.shl Go.IntKind.i64) (l1.getD (Nat.add (0 : Nat) n7.toNat) (0 : Int)) n3))]) (
     reqB ((mapL (3 : Nat) (4 : Nat) rmapInv).mea
    [DV.l (List.take l0.length (List.drop (0 : Nat) l0)),
      DV.l (List.take l0.length (List.drop (0 : Nat) l1)), DV.n n2, DV.n n3]
    [DV.n (n7 + (1 : Int)),
      DV.l
        (l8.set (Nat.add (0 : Nat) n7.toNat)
          (opI (SO.shl Go.IntKind.i64) (l0.getD (Nat.add (0 : Nat) n7.toNat) (0 : Int)) n3)),
      DV.l
        (l9.set (Nat.add (0 : Nat) n7.toNat)
          (opI (SO.shl Go.IntKind.i64) (l1.getD (Nat.add (0 : Nat) n7.toNat) (0 : Int)) n3))] <
  (mapL (3 : Nat) (4 : Nat) rmapInv).mea
    [DV.l (List.take l0.length (List.drop (0 : Nat) l0)),
      DV.l (List.take l0.length (List.drop (0 : Nat) l1)), DV.n n2, DV.n n3]
    [DV.n n7, DV.l l8, DV.l l9]) (
     true)))))))))) (
     false)) (
    false)))))))))) (
   reqB (((0 : Nat) + (↑l0.length : Int).toNat) * (2 : Nat) ≤ l8.length.mul (2 : Nat)) (
   reqB ((↑l0.length : Int).toNat ≤ (300 : Nat)) (
   reqB ((List.take (↑l0.length : Int).toNat (List.drop (0 : Nat) l8)).length = (↑l0.length : Int).toNat) (
   reqB (∀ (y : Int),
  y ∈ List.take (↑l0.length : Int).toNat (List.drop (0 : Nat) l8) →
    (-9223372036854775808 : Int) ≤ y ∧ y ≤ (9223372036854775807 : Int)) (
   reqB ((List.take (↑l0.length : Int).toNat (List.drop (0 : Nat) l9)).length = (↑l0.length : Int).toNat) (
   reqB (∀ (y : Int),
  y ∈ List.take (↑l0.length : Int).toNat (List.drop (0 : Nat) l9) →
    (-9223372036854775808 : Int) ≤ y ∧ y ≤ (9223372036854775807 : Int)) (
   reqB (sigRest.post [DV.l l0, DV.l l1, DV.n n2, DV.n n3]
  [DV.l (List.take (↑l0.length : Int).toNat (List.drop (0 : Nat) l8)),
    DV.l (List.take (↑l0.length : Int).toNat (List.drop (0 : Nat) l9)), DV.n (0 : Int)]) (
   true))))))))))))))))))))))))))))))))))))))))))))))))))))))))))))))))))))))))) := by kernel_rfl
set_option maxHeartbeats 8000000 in
theorem vt_rest : vcFn Try.prog [(21, Ext.ctr (ctOf sigChkG)), (34, Ext.ctr (ctOf sigChkS)), (35, Ext.ctr (ctOf sigGr))] tabR [] 100 11 sigRest = true := by
  rw [vc_rest]
  try simp only [Int.toNat_natCast, List.length_set, List.length_replicate, List.length_take, List.length_drop, List.length_append, List.length_cons, List.length_nil, Nat.min_self, List.take_take, lenCols_i, lenCols_b, List.drop_zero, List.take_length, Nat.add_eq, Nat.mul_eq, Nat.sub_eq, Nat.zero_add, Nat.sub_zero, Nat.mul_one]
  refine all_i fun l0 => ?_
  refine imp_i fun h0 => ?_
  refine imp_i fun h1 => ?_
  refine all_i fun l1 => ?_
  refine imp_i fun h2 => ?_
  have tkl1 := take_eq h2
  try simp only [tkl1]
  refine imp_i fun h3 => ?_
  refine all_i fun n2 => ?_
  refine imp_i fun h4 => ?_
  refine imp_i fun h5 => ?_
  refine all_i fun n3 => ?_
  refine imp_i fun h6 => ?_
  refine imp_i fun h7 => ?_
  refine imp_i fun h8 => ?_
  try simp only [sigRest, restPost, List.cons.injEq, DV.b.injEq, and_true, List.length_cons, List.length_nil] at h8
  refine req_i ?_ ?_
  · -- r0
    first | omega | assumption | grind
  refine req_i ?_ ?_
  · -- r1
    first | omega | assumption | grind
  refine req_i ?_ ?_
  · -- r2
    first | omega | assumption | grind
  refine req_i ?_ ?_
  · -- r3
    first | omega | assumption | grind
  refine req_i ?_ ?_
  · -- r4
    first | trivial | assumption | (simp only [sigChkG, chkGPost, List.cons.injEq, DV.b.injEq, and_true, List.length_cons, List.length_nil]; done) | ((try simp only [sigChkG, chkGPost, List.cons.injEq, DV.b.injEq, and_true, List.length_cons, List.length_nil]); first | omega | assumption | grind)
  refine all_i fun n4 => ?_
  refine imp_i fun h9 => ?_
  refine imp_i fun h10 => ?_
  refine imp_i fun h11 => ?_
  try simp only [sigChkG, chkGPost, List.cons.injEq, DV.b.injEq, and_true, List.length_cons, List.length_nil] at h11
  refine bR_dec (fun h12 => ?_) (fun h12 => ?_)
  ·
    have er : errR n2 n3 l0 l1 = n4 := by rw [errR, if_neg (by omega)]; exact h11.symm
    refine req_i ?_ ?_
    · -- r5
      first | omega | assumption | grind
    refine req_i ?_ ?_
    · -- r6
      first | omega | assumption | grind
    refine req_i ?_ ?_
    · -- r7
      first | omega | ((try simp only [sigRest, restPost, List.cons.injEq, DV.b.injEq, and_true, List.length_cons, List.length_nil]); first | done | omega | assumption | grind [getD_set, getD_rep, toNat_succ, cntN_yes, cntN_no])
    rfl
  ·
    have G := errG_ok (b := n2) (n := n3) (by omega)
    refine req_i ?_ ?_
    · -- r8
      first | omega | assumption | grind
    refine req_i ?_ ?_
    · -- r9
      first | omega | assumption | grind
    refine req_i ?_ ?_
    · -- r10
      first | omega | assumption | grind
    refine req_i ?_ ?_
    · -- r11
      first | omega | assumption | grind
    refine req_i ?_ ?_
    · -- r12
      first | trivial | assumption | (simp only [sigGr, grPost, List.cons.injEq, DV.b.injEq, and_true, List.length_cons, List.length_nil]; done) | ((try simp only [sigGr, grPost, List.cons.injEq, DV.b.injEq, and_true, List.length_cons, List.length_nil]); first | omega | assumption | grind)
    refine all_i fun n5 => ?_
    refine imp_i fun h13 => ?_
    refine imp_i fun h14 => ?_
    refine imp_i fun h15 => ?_
    try simp only [sigGr, grPost, List.cons.injEq, DV.b.injEq, and_true, List.length_cons, List.length_nil] at h15
    have ql := qq_bd (b := n2) (by omega) (by omega)
    refine req_i ?_ ?_
    · -- r13
      first | omega | ((try simp only [Nat.mul_eq]); first | done | omega | assumption | grind [getD_set, getD_rep, toNat_succ, cntN_yes, cntN_no])
    refine req_i ?_ ?_
    · -- r14
      first | omega | ((try simp only [Nat.zero_add]); first | done | omega | assumption | grind [getD_set, getD_rep, toNat_succ, cntN_yes, cntN_no])
    refine req_i ?_ ?_
    · -- r15
      first | omega | ((try simp only [List.length_take, List.take_length, List.take_take, Nat.min_self, List.length_drop, List.drop_zero, List.length_cons, List.length_nil]); first | done | omega | assumption | grind [getD_set, getD_rep, toNat_succ, cntN_yes, cntN_no])
    refine req_i ?_ ?_
    · -- r16
      first | assumption | exact rep_bd (by omega) (by omega) | exact set_bd (by assumption) (by omega) (by omega) | exact take_bd (by assumption) | ((try simp only [List.length_take, List.take_length, List.take_take, Nat.min_self, List.length_drop, List.drop_zero, List.length_cons, List.length_nil]); first | assumption | exact rep_bd (by omega) (by omega) | exact set_bd (by assumption) (by omega) (by omega) | exact take_bd (by assumption) | grind [getD_set, getD_rep, toNat_succ, cntN_yes, cntN_no])
    refine req_i ?_ ?_
    · -- r17
      first | omega | ((try simp only [List.length_take, List.take_length, List.take_take, Nat.min_self, List.length_drop, List.drop_zero, List.length_cons, List.length_nil]); first | done | omega | assumption | grind [getD_set, getD_rep, toNat_succ, cntN_yes, cntN_no])
    refine req_i ?_ ?_
    · -- r18
      first | assumption | exact rep_bd (by omega) (by omega) | exact set_bd (by assumption) (by omega) (by omega) | exact take_bd (by assumption) | ((try simp only [List.length_take, List.take_length, List.take_take, Nat.min_self, List.length_drop, List.drop_zero, List.length_cons, List.length_nil]); first | assumption | exact rep_bd (by omega) (by omega) | exact set_bd (by assumption) (by omega) (by omega) | exact take_bd (by assumption) | grind [getD_set, getD_rep, toNat_succ, cntN_yes, cntN_no])
    refine req_i ?_ ?_
    · -- r19
      first | omega | assumption | grind
    refine req_i ?_ ?_
    · -- r20
      first | omega | assumption | grind
    refine req_i ?_ ?_
    · -- r21
      first | omega | ((try simp only [sigChkS, chkSPost, List.cons.injEq, DV.b.injEq, and_true, List.length_take, List.take_length, List.take_take, Nat.min_self, List.length_drop, List.drop_zero, List.length_cons, List.length_nil]); first | done | omega | assumption | grind [getD_set, getD_rep, toNat_succ, cntN_yes, cntN_no])
    refine all_i fun n6 => ?_
    refine imp_i fun h16 => ?_
    refine imp_i fun h17 => ?_
    refine imp_i fun h18 => ?_
    try simp only [sigChkS, chkSPost, List.cons.injEq, DV.b.injEq, and_true, List.length_take, List.take_length, List.take_take, Nat.min_self, List.length_drop, List.drop_zero, List.length_cons, List.length_nil] at h18
    have er : errR n2 n3 l0 l1 = n6 := by rw [errR, if_pos (by omega), ← h15]; exact h18.symm
    refine bR_dec (fun h19 => ?_) (fun h19 => ?_)
    ·
      refine req_i ?_ ?_
      · -- r22
        first | omega | assumption | grind
      refine req_i ?_ ?_
      · -- r23
        first | omega | assumption | grind
      refine req_i ?_ ?_
      · -- r24
        first | omega | ((try simp only [sigRest, restPost, List.cons.injEq, DV.b.injEq, and_true, List.length_cons, List.length_nil]); first | done | omega | assumption | grind [getD_set, getD_rep, toNat_succ, cntN_yes, cntN_no])
      rfl
    ·
      have L := errL_ok (m := n5) (a := l0) (b := l1) (by omega)
      refine req_i ?_ ?_
      · -- r25
        first | omega | ((try simp only [Int.toNat_natCast, List.length_cons, List.length_nil]); first | done | omega | assumption | grind [getD_set, getD_rep, toNat_succ, cntN_yes, cntN_no])
      refine req_i ?_ ?_
      · -- r26
        first | omega | ((try simp only [Int.toNat_natCast, List.length_cons, List.length_nil]); first | done | omega | assumption | grind [getD_set, getD_rep, toNat_succ, cntN_yes, cntN_no])
      refine req_i ?_ ?_
      · -- r27
        first | omega | ((try simp only [Nat.mul_eq]); first | done | omega | assumption | grind [getD_set, getD_rep, toNat_succ, cntN_yes, cntN_no])
      refine req_i ?_ ?_
      · -- r28
        first | omega | ((try simp only [Nat.zero_add]); first | done | omega | assumption | grind [getD_set, getD_rep, toNat_succ, cntN_yes, cntN_no])
      refine req_i ?_ ?_
      · -- r29
        first | omega | ((try simp only [List.length_take, List.take_length, List.take_take, Nat.min_self, List.length_drop, List.drop_zero, List.length_cons, List.length_nil]); first | done | omega | assumption | grind [getD_set, getD_rep, toNat_succ, cntN_yes, cntN_no])
      refine req_i ?_ ?_
      · -- r30
        first | assumption | exact rep_bd (by omega) (by omega) | exact set_bd (by assumption) (by omega) (by omega) | exact take_bd (by assumption) | ((try simp only [List.length_take, List.take_length, List.take_take, Nat.min_self, List.length_drop, List.drop_zero, List.length_cons, List.length_nil]); first | assumption | exact rep_bd (by omega) (by omega) | exact set_bd (by assumption) (by omega) (by omega) | exact take_bd (by assumption) | grind [getD_set, getD_rep, toNat_succ, cntN_yes, cntN_no])
      refine req_i ?_ ?_
      · -- r31
        first | omega | ((try simp only [List.length_take, List.take_length, List.take_take, Nat.min_self, List.length_drop, List.drop_zero, List.length_cons, List.length_nil]); first | done | omega | assumption | grind [getD_set, getD_rep, toNat_succ, cntN_yes, cntN_no])
      refine req_i ?_ ?_
      · -- r32
        first | assumption | exact rep_bd (by omega) (by omega) | exact set_bd (by assumption) (by omega) (by omega) | exact take_bd (by assumption) | ((try simp only [List.length_take, List.take_length, List.take_take, Nat.min_self, List.length_drop, List.drop_zero, List.length_cons, List.length_nil]); first | assumption | exact rep_bd (by omega) (by omega) | exact set_bd (by assumption) (by omega) (by omega) | exact take_bd (by assumption) | grind [getD_set, getD_rep, toNat_succ, cntN_yes, cntN_no])
      refine req_i ?_ ?_
      · -- r33
        first | omega | assumption | grind
      refine req_i ?_ ?_
      · -- r34
        first | omega | assumption | grind
      refine req_i ?_ ?_
      · -- r35
        first | omega | assumption | grind
      refine req_i ?_ ?_
      · -- r36
        first | omega | assumption | grind
      refine req_i ?_ ?_
      · -- r37
        first | omega | ((try simp only [Int.toNat_natCast, List.length_replicate, List.length_cons, List.length_nil, lenCols_i, lenCols_b]); first | done | omega | assumption | grind [getD_set, getD_rep, toNat_succ, cntN_yes, cntN_no])
      refine req_i ?_ ?_
      · -- r38
        first | omega | ((try simp only [Int.toNat_natCast, List.length_replicate, List.length_cons, List.length_nil, lenCols_i, lenCols_b]); first | done | omega | assumption | grind [getD_set, getD_rep, toNat_succ, cntN_yes, cntN_no])
      refine req_i ?_ ?_
      · -- r39
        first | assumption | exact rep_bd (by omega) (by omega) | exact set_bd (by assumption) (by omega) (by omega) | exact take_bd (by assumption) | ((try simp only [Int.toNat_natCast, List.length_replicate, List.length_cons, List.length_nil]); first | assumption | exact rep_bd (by omega) (by omega) | exact set_bd (by assumption) (by omega) (by omega) | exact take_bd (by assumption) | grind [getD_set, getD_rep, toNat_succ, cntN_yes, cntN_no])
      refine req_i ?_ ?_
      · -- r40
        first | omega | ((try simp only [Int.toNat_natCast, List.length_replicate, List.length_cons, List.length_nil, lenCols_i, lenCols_b]); first | done | omega | assumption | grind [getD_set, getD_rep, toNat_succ, cntN_yes, cntN_no])
      refine req_i ?_ ?_
      · -- r41
        first | assumption | exact rep_bd (by omega) (by omega) | exact set_bd (by assumption) (by omega) (by omega) | exact take_bd (by assumption) | ((try simp only [Int.toNat_natCast, List.length_replicate, List.length_cons, List.length_nil]); first | assumption | exact rep_bd (by omega) (by omega) | exact set_bd (by assumption) (by omega) (by omega) | exact take_bd (by assumption) | grind [getD_set, getD_rep, toNat_succ, cntN_yes, cntN_no])
      refine req_i ?_ ?_
      · -- r42
        first | omega | ((try simp only [mapL, rmapInv, mea0, List.cons.injEq, DV.b.injEq, and_true, Int.toNat_natCast, List.length_replicate, List.length_take, List.take_length, List.take_take, Nat.min_self, List.length_drop, List.drop_zero, List.length_cons, List.length_nil]); first | done | omega | assumption | grind [getD_set, getD_rep, toNat_succ, cntN_yes, cntN_no])
      refine all_i fun n7 => ?_
      refine imp_i fun h20 => ?_
      refine imp_i fun h21 => ?_
      refine all_i fun l8 => ?_
      refine imp_i fun h22 => ?_
      refine imp_i fun h23 => ?_
      refine all_i fun l9 => ?_
      refine imp_i fun h24 => ?_
      have tkl9 := take_eq h24
      try simp only [tkl9]
      refine imp_i fun h25 => ?_
      refine imp_i fun h26 => ?_
      try simp only [mapL, rmapInv, mea0, List.cons.injEq, DV.b.injEq, and_true, List.length_take, List.take_length, List.take_take, Nat.min_self, List.length_drop, List.drop_zero, List.length_cons, List.length_nil] at h26
      refine bR_dec (fun h27 => ?_) (fun h27 => ?_)
      ·
        have ib := inS_bd L.2 (i := n7) (by omega)
        have k1 := rest_bd (x := l0.getD n7.toNat 0) (n := n3) (by omega) (by omega) (by omega) (by omega)
        have k2 := rest_bd (x := l1.getD n7.toNat 0) (n := n3) (by omega) (by omega) (by omega) (by omega)
        simp only [k1.1, k2.1]
        refine req_i ?_ ?_
        · -- r43
          first | omega | ((try simp only [Int.toNat_natCast, List.length_cons, List.length_nil]); first | done | omega | assumption | grind [getD_set, getD_rep, toNat_succ, cntN_yes, cntN_no])
        refine req_i ?_ ?_
        · -- r44
          first | omega | ((try simp only [Int.toNat_natCast, List.length_cons, List.length_nil, Nat.add_eq, Nat.zero_add]); first | done | omega | assumption | grind [getD_set, getD_rep, toNat_succ, cntN_yes, cntN_no])
        refine req_i ?_ ?_
        · -- r45
          first | omega | ((try simp only [Int.toNat_natCast, List.length_cons, List.length_nil, Nat.add_eq, Nat.zero_add]); first | done | omega | assumption | grind [getD_set, getD_rep, toNat_succ, cntN_yes, cntN_no])
        refine req_i ?_ ?_
        · -- r46
          first | omega | assumption | grind
        refine req_i ?_ ?_
        · -- r47
          first | omega | assumption | grind
        refine req_i ?_ ?_
        · -- r48
          first | omega | ((try simp only [Int.toNat_natCast, List.length_cons, List.length_nil]); first | done | omega | assumption | grind [getD_set, getD_rep, toNat_succ, cntN_yes, cntN_no])
        refine req_i ?_ ?_
        · -- r49
          first | omega | ((try simp only [Int.toNat_natCast, List.length_cons, List.length_nil, Nat.add_eq, Nat.zero_add]); first | done | omega | assumption | grind [getD_set, getD_rep, toNat_succ, cntN_yes, cntN_no])
        refine req_i ?_ ?_
        · -- r50
          first | omega | ((try simp only [Int.toNat_natCast, List.length_cons, List.length_nil, Nat.add_eq, Nat.zero_add]); first | done | omega | assumption | grind [getD_set, getD_rep, toNat_succ, cntN_yes, cntN_no])
        refine bR_t ?_ ?_
        · -- g0
          first | rfl | (simp only [bR_iff, bR_iff_f, dec_iff, dec_f, beqB_iff', andB_iff', reduceCtorEq, imp_self, false_implies, and_true, true_and, implies_true, and_self]; done) | (simp [bR_iff, dec_iff, beqB_iff', andB_iff']; done) | (simp [bR_iff, dec_iff, beqB_iff', andB_iff']; omega)
        refine bR_t ?_ ?_
        · -- g1
          first | rfl | (simp only [bR_iff, bR_iff_f, dec_iff, dec_f, beqB_iff', andB_iff', reduceCtorEq, imp_self, false_implies, and_true, true_and, implies_true, and_self]; done) | (simp [bR_iff, dec_iff, beqB_iff', andB_iff']; done) | (simp [bR_iff, dec_iff, beqB_iff', andB_iff']; omega)
        refine req_i ?_ ?_
        · -- r51
          first | omega | assumption | grind
        refine req_i ?_ ?_
        · -- r52
          first | omega | assumption | grind
        refine req_i ?_ ?_
        · -- r53
          first | omega | ((try simp only [Int.toNat_natCast, List.length_set, List.length_cons, List.length_nil, lenCols_i, lenCols_b, Nat.add_eq, Nat.zero_add]); first | done | omega | assumption | grind [getD_set, getD_rep, toNat_succ, cntN_yes, cntN_no])
        refine req_i ?_ ?_
        · -- r54
          first | omega | ((try simp only [Int.toNat_natCast, List.length_set, List.length_cons, List.length_nil, lenCols_i, lenCols_b, Nat.add_eq, Nat.zero_add]); first | done | omega | assumption | grind [getD_set, getD_rep, toNat_succ, cntN_yes, cntN_no])
        refine req_i ?_ ?_
        · -- r55
          first | assumption | exact rep_bd (by omega) (by omega) | exact set_bd (by assumption) (by omega) (by omega) | exact take_bd (by assumption) | ((try simp only [Int.toNat_natCast, List.length_set, List.length_cons, List.length_nil, Nat.add_eq, Nat.zero_add]); first | assumption | exact rep_bd (by omega) (by omega) | exact set_bd (by assumption) (by omega) (by omega) | exact take_bd (by assumption) | grind [getD_set, getD_rep, toNat_succ, cntN_yes, cntN_no])
        refine req_i ?_ ?_
        · -- r56
          first | omega | ((try simp only [Int.toNat_natCast, List.length_set, List.length_cons, List.length_nil, lenCols_i, lenCols_b, Nat.add_eq, Nat.zero_add]); first | done | omega | assumption | grind [getD_set, getD_rep, toNat_succ, cntN_yes, cntN_no])
        refine req_i ?_ ?_
        · -- r57
          first | assumption | exact rep_bd (by omega) (by omega) | exact set_bd (by assumption) (by omega) (by omega) | exact take_bd (by assumption) | ((try simp only [Int.toNat_natCast, List.length_set, List.length_cons, List.length_nil, Nat.add_eq, Nat.zero_add]); first | assumption | exact rep_bd (by omega) (by omega) | exact set_bd (by assumption) (by omega) (by omega) | exact take_bd (by assumption) | grind [getD_set, getD_rep, toNat_succ, cntN_yes, cntN_no])
        refine req_i ?_ ?_
        · -- r58
          first | omega | ((try simp only [mapL, rmapInv, mea0, List.cons.injEq, DV.b.injEq, and_true, Int.toNat_natCast, List.length_set, List.length_take, List.take_length, List.take_take, Nat.min_self, List.length_drop, List.drop_zero, List.length_cons, List.length_nil, Nat.add_eq, Nat.zero_add]); first | done | omega | assumption | grind [getD_set, getD_rep, toNat_succ, cntN_yes, cntN_no])
        refine req_i ?_ ?_
        · -- r59
          first | omega | ((try simp only [mapL, rmapInv, mea0, List.cons.injEq, DV.b.injEq, and_true, Int.toNat_natCast, List.length_set, List.length_take, List.take_length, List.take_take, Nat.min_self, List.length_drop, List.drop_zero, List.length_cons, List.length_nil, Nat.add_eq, Nat.zero_add]); first | done | omega | assumption | grind [getD_set, getD_rep, toNat_succ, cntN_yes, cntN_no])
        rfl
      ·
        refine req_i ?_ ?_
        · -- r60
          first | omega | ((try simp only [Int.toNat_natCast, List.length_cons, List.length_nil, Nat.mul_eq]); first | done | omega | assumption | grind [getD_set, getD_rep, toNat_succ, cntN_yes, cntN_no])
        refine req_i ?_ ?_
        · -- r61
          first | omega | ((try simp only [Int.toNat_natCast, List.length_cons, List.length_nil]); first | done | omega | assumption | grind [getD_set, getD_rep, toNat_succ, cntN_yes, cntN_no])
        refine req_i ?_ ?_
        · -- r62
          first | omega | ((try simp only [Int.toNat_natCast, List.length_take, List.take_length, List.take_take, Nat.min_self, List.length_drop, List.drop_zero, List.length_cons, List.length_nil]); first | done | omega | assumption | grind [getD_set, getD_rep, toNat_succ, cntN_yes, cntN_no])
        refine req_i ?_ ?_
        · -- r63
          first | assumption | exact rep_bd (by omega) (by omega) | exact set_bd (by assumption) (by omega) (by omega) | exact take_bd (by assumption) | ((try simp only [Int.toNat_natCast, List.length_take, List.take_length, List.take_take, Nat.min_self, List.length_drop, List.drop_zero, List.length_cons, List.length_nil]); first | assumption | exact rep_bd (by omega) (by omega) | exact set_bd (by assumption) (by omega) (by omega) | exact take_bd (by assumption) | grind [getD_set, getD_rep, toNat_succ, cntN_yes, cntN_no])
        refine req_i ?_ ?_
        · -- r64
          first | omega | ((try simp only [Int.toNat_natCast, List.length_take, List.take_length, List.take_take, Nat.min_self, List.length_drop, List.drop_zero, List.length_cons, List.length_nil]); first | done | omega | assumption | grind [getD_set, getD_rep, toNat_succ, cntN_yes, cntN_no])
        refine req_i ?_ ?_
        · -- r65
          first | assumption | exact rep_bd (by omega) (by omega) | exact set_bd (by assumption) (by omega) (by omega) | exact take_bd (by assumption) | ((try simp only [Int.toNat_natCast, List.length_take, List.take_length, List.take_take, Nat.min_self, List.length_drop, List.drop_zero, List.length_cons, List.length_nil]); first | assumption | exact rep_bd (by omega) (by omega) | exact set_bd (by assumption) (by omega) (by omega) | exact take_bd (by assumption) | grind [getD_set, getD_rep, toNat_succ, cntN_yes, cntN_no])
        refine req_i ?_ ?_
        · -- r66
          first | omega | ((try simp only [sigRest, restPost, List.cons.injEq, DV.b.injEq, and_true, Int.toNat_natCast, List.length_take, List.take_length, List.take_take, Nat.min_self, List.length_drop, List.drop_zero, List.length_cons, List.length_nil]); first | done | omega | assumption | grind [getD_set, getD_rep, toNat_succ, cntN_yes, cntN_no])
        rfl
theorem ext_rest : ∀ p ∈ ([(21, Ext.ctr (ctOf sigChkG)), (34, Ext.ctr (ctOf sigChkS)), (35, Ext.ctr (ctOf sigGr))] : List (Nat × Ext)), ExtRow Try.prog p.1 p.2 := by
  intro p hp
  simp only [List.mem_cons, List.not_mem_nil, or_false] at hp
  rcases hp with rfl | rfl | rfl <;> trivial
theorem cts_rest : CtsOk Try.prog [(21, Ext.ctr (ctOf sigChkG)), (34, Ext.ctr (ctOf sigChkS)), (35, Ext.ctr (ctOf sigGr))] := ctsOk_of (cs := [(21, sigChkG), (34, sigChkS), (35, sigGr)])
  (fun p hp => by
    simp only [List.mem_cons, List.not_mem_nil, or_false] at hp
    rcases hp with rfl | rfl | rfl
    · exact fn_chkG
    · exact fn_chkS
    · exact fn_gr
)
  (fun f c h => by
    simp only [List.lookup_cons] at h
    repeat' split at h
    all_goals first | (cases h; done) | (rename_i e; have e := beq_iff_eq.1 e; subst e; cases h; exact ⟨_, by simp, rfl⟩))
theorem fn_rest : FnOk Try.prog 11 sigRest [] := fn_sound (by kernel_rfl) ext_rest cts_rest names vt_rest
end Go.Proofs.Ytemcaojbhfgpgaa

