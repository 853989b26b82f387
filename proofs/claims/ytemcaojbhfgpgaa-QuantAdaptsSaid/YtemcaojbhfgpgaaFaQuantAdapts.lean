import Derived.Test.YtemcaojbhfgpgaaSpec13e
import Derived.Test.YtemcaojbhfgpgaaRows
import Derived.Test.YtemcaojbhfgpgaaEvSS
import Derived.Test.YtemcaojbhfgpgaaFnames
namespace Go.Proofs.Ytemcaojbhfgpgaa
open Go.Ev Go.Sp
set_option maxRecDepth 100000
theorem vc_known : vcFn Try.prog [] noA [] 1000 3 sigTrue0 = (impB (sigTrue0.pre []) (
reqB (sigTrue0.post [] [DV.b Bool.true]) (
true))) := by kernel_rfl
set_option maxHeartbeats 8000000 in
theorem vt_known : vcFn Try.prog [] noA [] 1000 3 sigTrue0 = true := by
  rw [vc_known]
  try simp only [bR_same, dec_same, bR_true, bR_false]
  simp only [allB_iff, impB_iff, reqB_iff, bR_iff, bR_iff_f, dec_iff, dec_f, reduceCtorEq, imp_false, Classical.not_not, implies_true, true_and, and_true]
  intro _
  first | rfl | trivial | simp [sigTrue0]
theorem ext_known : ∀ p ∈ ([] : List (Nat × Ext)), ExtRow Try.prog p.1 p.2 := by
  intro p hp
  cases hp
theorem cts_known : CtsOk Try.prog [] := fun f c h => by cases h
theorem fn_known : FnOk Try.prog 3 sigTrue0 [] := fn_sound (by kernel_rfl) ext_known cts_known names vt_known
end Go.Proofs.Ytemcaojbhfgpgaa

namespace Go.Proofs.Ytemcaojbhfgpgaa
open Go.Ev Go.Sp
set_option maxRecDepth 100000
theorem vc_turn : vcFn Try.prog [] tab [] 100 29 (sigPickN 4398046511104) = (allB fun n0 : Int => 
impB ((-9223372036854775808 : Int) ≤ n0) (
impB (n0 ≤ (9223372036854775807 : Int)) (
allB fun n1 : Int => 
impB ((1 : Int) ≤ n1) (
impB (n1 ≤ (4398046511104 : Int)) (
impB ((sigPickN (4398046511104 : Int)).pre [DV.n n0, DV.n n1]) (
bR (dec (n0.tmod n1 < (0 : Int))) (
 reqB ((0 : Int) ≤ n0.tmod n1 + n1) (
 reqB (n0.tmod n1 + n1 ≤ (4398046511104 : Int)) (
 reqB ((sigPickN (4398046511104 : Int)).post [DV.n n0, DV.n n1] [DV.n (n0.tmod n1 + n1)]) (
 true)))) (
 reqB ((0 : Int) ≤ n0.tmod n1) (
 reqB (n0.tmod n1 ≤ (4398046511104 : Int)) (
 reqB ((sigPickN (4398046511104 : Int)).post [DV.n n0, DV.n n1] [DV.n (n0.tmod n1)]) (
 true)))))))))) := by kernel_rfl
set_option maxHeartbeats 8000000 in
theorem vt_turn : vcFn Try.prog [] tab [] 100 29 (sigPickN 4398046511104) = true := by
  rw [vc_turn]
  try simp only [Int.toNat_natCast, List.length_set, List.length_replicate, List.length_take, List.length_drop, List.length_append, List.length_cons, List.length_nil, Nat.min_self, List.take_take, lenCols_i, lenCols_b, List.drop_zero, List.take_length, Nat.add_eq, Nat.mul_eq, Nat.sub_eq, Nat.zero_add, Nat.sub_zero, Nat.mul_one]
  refine all_i fun n0 => ?_
  refine imp_i fun h0 => ?_
  refine imp_i fun h1 => ?_
  refine all_i fun n1 => ?_
  refine imp_i fun h2 => ?_
  refine imp_i fun h3 => ?_
  have T := tmod_of (x := n0) (n := n1) (by omega)
  have T2 := Int.emod_lt_of_pos n0 (b := n1) (by omega)
  refine imp_i fun h4 => ?_
  try simp only [sigPickN, pickPost, List.cons.injEq, DV.b.injEq, and_true, List.length_cons, List.length_nil] at h4
  refine bR_dec (fun h5 => ?_) (fun h5 => ?_)
  ·
    refine req_i ?_ ?_
    · -- r0
      first | omega | assumption | grind
    refine req_i ?_ ?_
    · -- r1
      first | omega | assumption | grind
    refine req_i ?_ ?_
    · -- r2
      first | omega | ((try simp only [sigPickN, pickPost, List.cons.injEq, DV.b.injEq, and_true, List.length_cons, List.length_nil]); first | done | omega | assumption | grind [getD_set, getD_rep, toNat_succ, cntN_yes, cntN_no])
    rfl
  ·
    refine req_i ?_ ?_
    · -- r3
      first | omega | assumption | grind
    refine req_i ?_ ?_
    · -- r4
      first | omega | assumption | grind
    refine req_i ?_ ?_
    · -- r5
      first | omega | ((try simp only [sigPickN, pickPost, List.cons.injEq, DV.b.injEq, and_true, List.length_cons, List.length_nil]); first | done | omega | assumption | grind [getD_set, getD_rep, toNat_succ, cntN_yes, cntN_no])
    rfl
theorem ext_turn : ∀ p ∈ ([] : List (Nat × Ext)), ExtRow Try.prog p.1 p.2 := by
  intro p hp
  cases hp
theorem cts_turn : CtsOk Try.prog [] := fun f c h => by cases h
theorem fn_turn : FnOk Try.prog 29 (sigPickN 4398046511104) [] := fn_sound (by kernel_rfl) ext_turn cts_turn names vt_turn
end Go.Proofs.Ytemcaojbhfgpgaa

namespace Go.Proofs.Ytemcaojbhfgpgaa
open Go.Ev Go.Sp
set_option maxRecDepth 100000
theorem vc_sms : vcFn Try.prog [(29, Ext.ctr (ctOf (sigPickN 4398046511104)))] tab [] 100 30 sigSms = (allB fun l0 : List Int => 
impB (l0.length ≤ (40 : Nat)) (
impB (∀ (y : Int), y ∈ l0 → (-9223372036854775808 : Int) ≤ y ∧ y ≤ (9223372036854775807 : Int)) (
impB (sigSms.pre [DV.l l0]) (
reqB (((0 : Nat) + l0.length) * (1 : Nat) ≤ l0.length.mul (1 : Nat)) (
reqB (l0.length ≤ (40 : Nat)) (
reqB ((List.take l0.length (List.drop (0 : Nat) l0)).length = l0.length) (
reqB (∀ (y : Int),
  y ∈ List.take l0.length (List.drop (0 : Nat) l0) → (-9223372036854775808 : Int) ≤ y ∧ y ≤ (9223372036854775807 : Int)) (
reqB (smsL.inv [DV.l (List.take l0.length (List.drop (0 : Nat) l0))]
  [DV.n (0 : Int), DV.l [], DV.l []]) (
allB fun n1 : Int => 
impB ((0 : Int) ≤ n1) (
impB (n1 ≤ (42 : Int)) (
allB fun l2 : List Int => 
impB (l2.length ≤ (40 : Nat)) (
impB (∀ (y : Int), y ∈ l2 → (-9223372036854775808 : Int) ≤ y ∧ y ≤ (9223372036854775807 : Int)) (
allB fun l3 : List Int => 
impB (l3.length = l2.length) (
impB (∀ (y : Int), y ∈ l3 → (-9223372036854775808 : Int) ≤ y ∧ y ≤ (9223372036854775807 : Int)) (
impB (smsL.inv [DV.l (List.take l0.length (List.drop (0 : Nat) l0))] [DV.n n1, DV.l l2, DV.l l3]) (
bR (dec (n1 + (1 : Int) < (↑l0.length : Int))) (
 reqB (n1.toNat < l0.length) (
 reqB (Nat.add (0 : Nat) n1.toNat < l0.length) (
 reqB ((-9223372036854775808 : Int) ≤ l0.getD (Nat.add (0 : Nat) n1.toNat) (0 : Int)) (
 reqB (l0.getD (Nat.add (0 : Nat) n1.toNat) (0 : Int) ≤ (9223372036854775807 : Int)) (
 reqB ((sigPickN (4398046511104 : Int)).pre
  [DV.n (l0.getD (Nat.add (0 : Nat) n1.toNat) (0 : Int)), DV.n (2147483647 : Int)]) (
 allB fun n4 : Int => 
 impB ((0 : Int) ≤ n4) (
 impB (n4 ≤ (4398046511104 : Int)) (
 impB ((sigPickN (4398046511104 : Int)).post
  [DV.n (l0.getD (Nat.add (0 : Nat) n1.toNat) (0 : Int)), DV.n (2147483647 : Int)] [DV.n n4]) (
 reqB ((n1 + (1 : Int)).toNat < l0.length) (
 reqB (Nat.add (0 : Nat) (n1 + (1 : Int)).toNat < l0.length) (
 reqB ((-9223372036854775808 : Int) ≤ l0.getD (Nat.add (0 : Nat) (n1 + (1 : Int)).toNat) (0 : Int)) (
 reqB (l0.getD (Nat.add (0 : Nat) (n1 + (1 : Int)).toNat) (0 : Int) ≤ (9223372036854775807 : Int)) (
 reqB ((sigPickN (4398046511104 : Int)).pre
  [DV.n (l0.getD (Nat.add (0 : Nat) (n1 + (1 : Int)).toNat) (0 : Int)), DV.n (2147483647 : Int)]) (
 allB fun n5 : Int => 
 impB ((0 : Int) ≤ n5) (
 impB (n5 ≤ (4398046511104 : Int)) (
 impB ((sigPickN (4398046511104 : Int)).post
  [DV.n (l0.getD (Nat.add (0 : Nat) (n1 + (1 : Int)).toNat) (0 : Int)), DV.n (2147483647 : Int)]
  [DV.n n5]) (
 reqB (l2.length + (1 : Nat) ≤ (1000000 : Nat)) (
 reqB (((0 : Nat) + l2.length) * (1 + (1 : Nat)) ≤ l2.length.mul (2 : Nat)) (
 bR (bR (bR (dec ((0 : Nat) = (0 : Nat))) (
  dec (l0.length = l0.length)) (
  false)) (
  true) (
  false)) (
  reqB ((0 : Int) ≤ n1 + (2 : Int)) (
  reqB (n1 + (2 : Int) ≤ (42 : Int)) (
  reqB (((0 : Nat) + l2.length.add (1 : Nat)) * (2 : Nat) ≤ (l2.length.add (1 : Nat)).mul (1 + (1 : Nat))) (
  reqB (l2.length.add (1 : Nat) ≤ (40 : Nat)) (
  reqB ((List.take (l2.length.add (1 : Nat))
      (List.drop (0 : Nat)
        (List.take l2.length (List.drop (0 : Nat) l2) ++ [n4 - (1073741824 : Int) + (1 : Int)]))).length =
  l2.length.add (1 : Nat)) (
  reqB (∀ (y : Int),
  y ∈
      List.take (l2.length.add (1 : Nat))
        (List.drop (0 : Nat) (List.take l2.length (List.drop (0 : Nat) l2) ++ [n4 - (1073741824 : Int) + (1 : Int)])) →
    (-9223372036854775808 : Int) ≤ y ∧ y ≤ (9223372036854775807 : Int)) (
  reqB ((List.take (l2.length.add (1 : Nat))
      (List.drop (0 : Nat)
        (List.take l2.length (List.drop (0 : Nat) l3) ++ [n5 - (1073741824 : Int) + (1 : Int)]))).length =
  l2.length.add (1 : Nat)) (
  reqB (∀ (y : Int),
  y ∈
      List.take (l2.length.add (1 : Nat))
        (List.drop (0 : Nat) (List.take l2.length (List.drop (0 : Nat) l3) ++ [n5 - (1073741824 : Int) + (1 : Int)])) →
    (-9223372036854775808 : Int) ≤ y ∧ y ≤ (9223372036854775807 : Int)) (
  reqB (smsL.inv [DV.l (List.take l0.length (List.drop (0 : Nat) l0))]
  [DV.n (n1 + (2 : Int)),
    DV.l
      (List.take (l2.length.add (1 : Nat))
        (List.drop (0 : Nat) (List.take l2.length (List.drop (0 : Nat) l2) ++ [n4 - (1073741824 : Int) + (1 : Int)]))),
    DV.l
      (List.take (l2.length.add (1 : Nat))
        (List.drop (0 : Nat) (List.take l2.length (List.drop (0 : Nat) l3) ++ [n5 - (1073741824 : Int) + (1 : Int)])))]) (
  reqB (smsL.mea [DV.l (List.take l0.length (List.drop (0 : Nat) l0))]
    [DV.n (n1 + (2 : Int)),
      DV.l
        (List.take (l2.length.add (1 : Nat))
          (List.drop (0 : Nat)
            (List.take l2.length (List.drop (0 : Nat) l2) ++ [n4 - (1073741824 : Int) + (1 : Int)]))),
      DV.l
        (List.take (l2.length.add (1 : Nat))
          (List.drop (0 : Nat)
            (List.take l2.length (List.drop (0 : Nat) l3) ++ [n5 - (1073741824 : Int) + (1 : Int)])))] <
  smsL.mea [DV.l (List.take l0.length (List.drop (0 : Nat) l0))]
    [DV.n n1, DV.l l2, DV.l l3]) (
  true))))))))))) (
  false)))))))))))))))))))) (
 reqB (((0 : Nat) + l2.length) * (2 : Nat) ≤ l2.length.mul (2 : Nat)) (
 reqB (l2.length ≤ (40 : Nat)) (
 reqB ((List.take l2.length (List.drop (0 : Nat) l2)).length = l2.length) (
 reqB (∀ (y : Int),
  y ∈ List.take l2.length (List.drop (0 : Nat) l2) → (-9223372036854775808 : Int) ≤ y ∧ y ≤ (9223372036854775807 : Int)) (
 reqB ((List.take l2.length (List.drop (0 : Nat) l3)).length = l2.length) (
 reqB (∀ (y : Int),
  y ∈ List.take l2.length (List.drop (0 : Nat) l3) → (-9223372036854775808 : Int) ≤ y ∧ y ≤ (9223372036854775807 : Int)) (
 reqB (sigSms.post [DV.l l0]
  [DV.l (List.take l2.length (List.drop (0 : Nat) l2)), DV.l (List.take l2.length (List.drop (0 : Nat) l3))]) (
 true)))))))))))))))))))))))) := by kernel_rfl
set_option maxHeartbeats 8000000 in
theorem vt_sms : vcFn Try.prog [(29, Ext.ctr (ctOf (sigPickN 4398046511104)))] tab [] 100 30 sigSms = true := by
  rw [vc_sms]
  try simp only [Int.toNat_natCast, List.length_set, List.length_replicate, List.length_take, List.length_drop, List.length_append, List.length_cons, List.length_nil, Nat.min_self, List.take_take, lenCols_i, lenCols_b, List.drop_zero, List.take_length, Nat.add_eq, Nat.mul_eq, Nat.sub_eq, Nat.zero_add, Nat.sub_zero, Nat.mul_one]
  refine all_i fun l0 => ?_
  refine imp_i fun h0 => ?_
  refine imp_i fun h1 => ?_
  refine imp_i fun h2 => ?_
  try simp only [sigSms, smsPost, inS, List.cons.injEq, DV.b.injEq, and_true, List.length_cons, List.length_nil] at h2
  refine req_i ?_ ?_
  · -- r0
    first | omega | exact app_bd (by assumption) (one_bd (by omega) (by omega)) | ((try simp only [Nat.mul_eq]); first | done | omega | assumption | grind [getD_set, getD_rep, toNat_succ, cntN_yes, cntN_no])
  refine req_i ?_ ?_
  · -- r1
    first | omega | exact app_bd (by assumption) (one_bd (by omega) (by omega)) | ((try simp only [Nat.zero_add]); first | done | omega | assumption | grind [getD_set, getD_rep, toNat_succ, cntN_yes, cntN_no])
  refine req_i ?_ ?_
  · -- r2
    first | omega | exact app_bd (by assumption) (one_bd (by omega) (by omega)) | ((try simp only [List.length_take, List.take_length, List.take_take, Nat.min_self, List.length_drop, List.drop_zero, List.length_cons, List.length_nil]); first | done | omega | assumption | grind [getD_set, getD_rep, toNat_succ, cntN_yes, cntN_no])
  refine req_i ?_ ?_
  · -- r3
    first | assumption | exact rep_bd (by omega) (by omega) | exact set_bd (by assumption) (by omega) (by omega) | exact take_bd (by assumption) | exact app_bd (by assumption) (one_bd (by omega) (by omega)) | ((try simp only [List.length_take, List.take_length, List.take_take, Nat.min_self, List.length_drop, List.drop_zero, List.length_cons, List.length_nil]); first | assumption | exact rep_bd (by omega) (by omega) | exact set_bd (by assumption) (by omega) (by omega) | exact take_bd (by assumption) | grind [getD_set, getD_rep, toNat_succ, cntN_yes, cntN_no])
  refine req_i ?_ ?_
  · -- r4
    simp only [smsL, smsInv]; exact ⟨by omega, by omega, fun j hj => absurd hj (Nat.not_lt_zero j), by simp, by simp⟩
  refine all_i fun n1 => ?_
  refine imp_i fun h3 => ?_
  refine imp_i fun h4 => ?_
  refine all_i fun l2 => ?_
  refine imp_i fun h5 => ?_
  refine imp_i fun h6 => ?_
  refine all_i fun l3 => ?_
  refine imp_i fun h7 => ?_
  have tkl3 := take_eq h7
  try simp only [tkl3]
  refine imp_i fun h8 => ?_
  refine imp_i fun h9 => ?_
  try simp only [Int.toNat_natCast, List.length_set, List.length_replicate, List.length_take, List.length_drop, List.length_append, List.length_cons, List.length_nil, Nat.min_self, List.take_take, lenCols_i, lenCols_b, List.drop_zero, List.take_length, Nat.add_eq, Nat.mul_eq, Nat.sub_eq, Nat.zero_add, Nat.sub_zero, Nat.mul_one] at h9
  simp only [smsL, smsInv] at h9
  refine bR_dec (fun h10 => ?_) (fun h10 => ?_)
  ·
    have gd1 := getD_in h1 (i := n1.toNat) (by omega)
    have gd2 := getD_in h1 (i := (n1 + 1).toNat) (by omega)
    refine req_i ?_ ?_
    · -- r5
      first | omega | exact app_bd (by assumption) (one_bd (by omega) (by omega)) | ((try simp only [Int.toNat_natCast, List.length_cons, List.length_nil]); first | done | omega | assumption | grind [getD_set, getD_rep, toNat_succ, cntN_yes, cntN_no])
    refine req_i ?_ ?_
    · -- r6
      first | omega | exact app_bd (by assumption) (one_bd (by omega) (by omega)) | ((try simp only [Int.toNat_natCast, List.length_cons, List.length_nil, Nat.add_eq, Nat.zero_add]); first | done | omega | assumption | grind [getD_set, getD_rep, toNat_succ, cntN_yes, cntN_no])
    refine req_i ?_ ?_
    · -- r7
      first | omega | assumption | exact app_bd (by assumption) (one_bd (by omega) (by omega)) | grind
    refine req_i ?_ ?_
    · -- r8
      first | omega | assumption | exact app_bd (by assumption) (one_bd (by omega) (by omega)) | grind
    refine req_i ?_ ?_
    · -- r9
      first | omega | exact app_bd (by assumption) (one_bd (by omega) (by omega)) | ((try simp only [sigPickN, pickPost, List.cons.injEq, DV.b.injEq, and_true, Int.toNat_natCast, List.length_cons, List.length_nil, Nat.add_eq, Nat.zero_add]); first | done | omega | assumption | grind [getD_set, getD_rep, toNat_succ, cntN_yes, cntN_no])
    refine all_i fun n4 => ?_
    refine imp_i fun h11 => ?_
    refine imp_i fun h12 => ?_
    refine imp_i fun h13 => ?_
    try simp only [sigPickN, pickPost, List.cons.injEq, DV.b.injEq, and_true, Int.toNat_natCast, List.length_cons, List.length_nil, Nat.add_eq, Nat.zero_add] at h13
    refine req_i ?_ ?_
    · -- r10
      first | omega | exact app_bd (by assumption) (one_bd (by omega) (by omega)) | ((try simp only [Int.toNat_natCast, List.length_cons, List.length_nil]); first | done | omega | assumption | grind [getD_set, getD_rep, toNat_succ, cntN_yes, cntN_no])
    refine req_i ?_ ?_
    · -- r11
      first | omega | exact app_bd (by assumption) (one_bd (by omega) (by omega)) | ((try simp only [Int.toNat_natCast, List.length_cons, List.length_nil, Nat.add_eq, Nat.zero_add]); first | done | omega | assumption | grind [getD_set, getD_rep, toNat_succ, cntN_yes, cntN_no])
    refine req_i ?_ ?_
    · -- r12
      first | omega | assumption | exact app_bd (by assumption) (one_bd (by omega) (by omega)) | grind
    refine req_i ?_ ?_
    · -- r13
      first | omega | assumption | exact app_bd (by assumption) (one_bd (by omega) (by omega)) | grind
    refine req_i ?_ ?_
    · -- r14
      first | omega | exact app_bd (by assumption) (one_bd (by omega) (by omega)) | ((try simp only [sigPickN, pickPost, List.cons.injEq, DV.b.injEq, and_true, Int.toNat_natCast, List.length_cons, List.length_nil, Nat.add_eq, Nat.zero_add]); first | done | omega | assumption | grind [getD_set, getD_rep, toNat_succ, cntN_yes, cntN_no])
    refine all_i fun n5 => ?_
    refine imp_i fun h14 => ?_
    refine imp_i fun h15 => ?_
    refine imp_i fun h16 => ?_
    try simp only [sigPickN, pickPost, List.cons.injEq, DV.b.injEq, and_true, Int.toNat_natCast, List.length_cons, List.length_nil, Nat.add_eq, Nat.zero_add] at h16
    simp only [take_snoc h7, take_snoc (m := l2) (l := l2) rfl]
    refine req_i ?_ ?_
    · -- r15
      first | omega | exact app_bd (by assumption) (one_bd (by omega) (by omega)) | ((try simp only [Nat.zero_add]); first | done | omega | assumption | grind [getD_set, getD_rep, toNat_succ, cntN_yes, cntN_no])
    refine req_i ?_ ?_
    · -- r16
      first | omega | exact app_bd (by assumption) (one_bd (by omega) (by omega)) | ((try simp only [Nat.mul_eq]); first | done | omega | assumption | grind [getD_set, getD_rep, toNat_succ, cntN_yes, cntN_no])
    refine bR_t ?_ ?_
    · -- g0
      first | rfl | (simp only [bR_iff, bR_iff_f, dec_iff, dec_f, beqB_iff', andB_iff', reduceCtorEq, imp_self, false_implies, and_true, true_and, implies_true, and_self]; done) | (simp [bR_iff, dec_iff, beqB_iff', andB_iff']; done) | (simp [bR_iff, dec_iff, beqB_iff', andB_iff']; omega)
    refine req_i ?_ ?_
    · -- r17
      first | omega | assumption | exact app_bd (by assumption) (one_bd (by omega) (by omega)) | grind
    refine req_i ?_ ?_
    · -- r18
      first | omega | assumption | exact app_bd (by assumption) (one_bd (by omega) (by omega)) | grind
    refine req_i ?_ ?_
    · -- r19
      first | omega | exact app_bd (by assumption) (one_bd (by omega) (by omega)) | ((try simp only [Nat.add_eq, Nat.zero_add, Nat.mul_eq]); first | done | omega | assumption | grind [getD_set, getD_rep, toNat_succ, cntN_yes, cntN_no])
    refine req_i ?_ ?_
    · -- r20
      first | omega | exact app_bd (by assumption) (one_bd (by omega) (by omega)) | ((try simp only [Nat.add_eq, Nat.zero_add]); first | done | omega | assumption | grind [getD_set, getD_rep, toNat_succ, cntN_yes, cntN_no])
    refine req_i ?_ ?_
    · -- r21
      first | omega | exact app_bd (by assumption) (one_bd (by omega) (by omega)) | ((try simp only [List.length_take, List.take_length, List.take_take, Nat.min_self, List.length_drop, List.drop_zero, List.length_append, List.length_cons, List.length_nil, Nat.add_eq, Nat.zero_add]); first | done | omega | assumption | grind [getD_set, getD_rep, toNat_succ, cntN_yes, cntN_no])
    refine req_i ?_ ?_
    · -- r22
      first | assumption | exact rep_bd (by omega) (by omega) | exact set_bd (by assumption) (by omega) (by omega) | exact take_bd (by assumption) | exact app_bd (by assumption) (one_bd (by omega) (by omega)) | ((try simp only [List.length_take, List.take_length, List.take_take, Nat.min_self, List.length_drop, List.drop_zero, List.length_append, List.length_cons, List.length_nil, Nat.add_eq, Nat.zero_add]); first | assumption | exact rep_bd (by omega) (by omega) | exact set_bd (by assumption) (by omega) (by omega) | exact take_bd (by assumption) | grind [getD_set, getD_rep, toNat_succ, cntN_yes, cntN_no])
    refine req_i ?_ ?_
    · -- r23
      first | omega | exact app_bd (by assumption) (one_bd (by omega) (by omega)) | ((try simp only [List.length_take, List.take_length, List.take_take, Nat.min_self, List.length_drop, List.drop_zero, List.length_append, List.length_cons, List.length_nil, Nat.add_eq, Nat.zero_add]); first | done | omega | assumption | grind [getD_set, getD_rep, toNat_succ, cntN_yes, cntN_no])
    refine req_i ?_ ?_
    · -- r24
      first | assumption | exact rep_bd (by omega) (by omega) | exact set_bd (by assumption) (by omega) (by omega) | exact take_bd (by assumption) | exact app_bd (by assumption) (one_bd (by omega) (by omega)) | ((try simp only [List.length_take, List.take_length, List.take_take, Nat.min_self, List.length_drop, List.drop_zero, List.length_append, List.length_cons, List.length_nil, Nat.add_eq, Nat.zero_add]); first | assumption | exact rep_bd (by omega) (by omega) | exact set_bd (by assumption) (by omega) (by omega) | exact take_bd (by assumption) | grind [getD_set, getD_rep, toNat_succ, cntN_yes, cntN_no])
    refine req_i ?_ ?_
    · -- r25
      simp only [smsL, smsInv, List.length_append, List.length_cons, List.length_nil]; exact ⟨by omega, by omega, inS_snoc h7 h9.2.2.1 (by omega) (by omega) (by omega) (by omega), by omega, by omega⟩
    refine req_i ?_ ?_
    · -- r26
      first | omega | exact app_bd (by assumption) (one_bd (by omega) (by omega)) | ((try simp only [smsL, smsInv, smsMea, inS, List.cons.injEq, DV.b.injEq, and_true, List.length_take, List.take_length, List.take_take, Nat.min_self, List.length_drop, List.drop_zero, List.length_append, List.length_cons, List.length_nil, Nat.add_eq, Nat.zero_add]); first | done | omega | assumption | grind [getD_set, getD_rep, toNat_succ, cntN_yes, cntN_no])
    rfl
  ·
    refine req_i ?_ ?_
    · -- r27
      first | omega | exact app_bd (by assumption) (one_bd (by omega) (by omega)) | ((try simp only [Nat.mul_eq]); first | done | omega | assumption | grind [getD_set, getD_rep, toNat_succ, cntN_yes, cntN_no])
    refine req_i ?_ ?_
    · -- r28
      first | omega | exact app_bd (by assumption) (one_bd (by omega) (by omega)) | ((try simp only [Nat.zero_add]); first | done | omega | assumption | grind [getD_set, getD_rep, toNat_succ, cntN_yes, cntN_no])
    refine req_i ?_ ?_
    · -- r29
      first | omega | exact app_bd (by assumption) (one_bd (by omega) (by omega)) | ((try simp only [List.length_take, List.take_length, List.take_take, Nat.min_self, List.length_drop, List.drop_zero, List.length_cons, List.length_nil]); first | done | omega | assumption | grind [getD_set, getD_rep, toNat_succ, cntN_yes, cntN_no])
    refine req_i ?_ ?_
    · -- r30
      first | assumption | exact rep_bd (by omega) (by omega) | exact set_bd (by assumption) (by omega) (by omega) | exact take_bd (by assumption) | exact app_bd (by assumption) (one_bd (by omega) (by omega)) | ((try simp only [List.length_take, List.take_length, List.take_take, Nat.min_self, List.length_drop, List.drop_zero, List.length_cons, List.length_nil]); first | assumption | exact rep_bd (by omega) (by omega) | exact set_bd (by assumption) (by omega) (by omega) | exact take_bd (by assumption) | grind [getD_set, getD_rep, toNat_succ, cntN_yes, cntN_no])
    refine req_i ?_ ?_
    · -- r31
      first | omega | exact app_bd (by assumption) (one_bd (by omega) (by omega)) | ((try simp only [List.length_take, List.take_length, List.take_take, Nat.min_self, List.length_drop, List.drop_zero, List.length_cons, List.length_nil]); first | done | omega | assumption | grind [getD_set, getD_rep, toNat_succ, cntN_yes, cntN_no])
    refine req_i ?_ ?_
    · -- r32
      first | assumption | exact rep_bd (by omega) (by omega) | exact set_bd (by assumption) (by omega) (by omega) | exact take_bd (by assumption) | exact app_bd (by assumption) (one_bd (by omega) (by omega)) | ((try simp only [List.length_take, List.take_length, List.take_take, Nat.min_self, List.length_drop, List.drop_zero, List.length_cons, List.length_nil]); first | assumption | exact rep_bd (by omega) (by omega) | exact set_bd (by assumption) (by omega) (by omega) | exact take_bd (by assumption) | grind [getD_set, getD_rep, toNat_succ, cntN_yes, cntN_no])
    refine req_i ?_ ?_
    · -- r33
      simp only [sigSms, smsPost]; exact ⟨h9.2.2.1, by omega⟩
    rfl
theorem ext_sms : ∀ p ∈ ([(29, Ext.ctr (ctOf (sigPickN 4398046511104)))] : List (Nat × Ext)), ExtRow Try.prog p.1 p.2 := by
  intro p hp
  simp only [List.mem_cons, List.not_mem_nil, or_false] at hp
  rcases hp with rfl
  · trivial
theorem cts_sms : CtsOk Try.prog [(29, Ext.ctr (ctOf (sigPickN 4398046511104)))] := ctsOk_of (cs := [(29, (sigPickN 4398046511104))])
  (fun p hp => by
    simp only [List.mem_cons, List.not_mem_nil, or_false] at hp
    rcases hp with rfl
    · exact fn_turn
)
  (fun f c h => by
    simp only [List.lookup_cons] at h
    repeat' split at h
    all_goals first | (cases h; done) | (rename_i e; have e := beq_iff_eq.1 e; subst e; cases h; exact ⟨_, by simp, rfl⟩))
theorem fn_sms : FnOk Try.prog 30 sigSms [] := fn_sound (by kernel_rfl) ext_sms cts_sms names vt_sms
end Go.Proofs.Ytemcaojbhfgpgaa

namespace Go.Proofs.Ytemcaojbhfgpgaa
open Go.Ev Go.Sp
set_option maxRecDepth 100000
theorem vc_chkG : vcFn Try.prog [] tab [] 100 21 sigChkG = (allB fun n0 : Int => 
impB ((-9223372036854775808 : Int) ≤ n0) (
impB (n0 ≤ (9223372036854775807 : Int)) (
allB fun n1 : Int => 
impB ((-9223372036854775808 : Int) ≤ n1) (
impB (n1 ≤ (9223372036854775807 : Int)) (
impB (sigChkG.pre [DV.n n0, DV.n n1]) (
bR (dec (n0 < (2 : Int))) (
 reqB (sigChkG.post [DV.n n0, DV.n n1] [DV.n (2 : Int)]) (
 true)) (
 bR (dec ((8 : Int) < n0)) (
  reqB (sigChkG.post [DV.n n0, DV.n n1] [DV.n (2 : Int)]) (
  true)) (
  bR (dec (n1 < (0 : Int))) (
   reqB (sigChkG.post [DV.n n0, DV.n n1] [DV.n (2 : Int)]) (
   true)) (
   bR (dec ((30 : Int) < n1)) (
    reqB (sigChkG.post [DV.n n0, DV.n n1] [DV.n (2 : Int)]) (
    true)) (
    reqB (sigChkG.post [DV.n n0, DV.n n1] [DV.n (0 : Int)]) (
    true))))))))))) := by kernel_rfl
set_option maxHeartbeats 8000000 in
theorem vt_chkG : vcFn Try.prog [] tab [] 100 21 sigChkG = true := by
  rw [vc_chkG]
  try simp only [Int.toNat_natCast, List.length_set, List.length_replicate, List.length_take, List.length_drop, List.length_append, List.length_cons, List.length_nil, Nat.min_self, List.take_take, lenCols_i, lenCols_b, List.drop_zero, List.take_length, Nat.add_eq, Nat.mul_eq, Nat.sub_eq, Nat.zero_add, Nat.sub_zero, Nat.mul_one]
  refine all_i fun n0 => ?_
  refine imp_i fun h0 => ?_
  refine imp_i fun h1 => ?_
  refine all_i fun n1 => ?_
  refine imp_i fun h2 => ?_
  refine imp_i fun h3 => ?_
  refine imp_i fun h4 => ?_
  try simp only [sigChkG, chkGPost, List.cons.injEq, DV.b.injEq, and_true, List.length_cons, List.length_nil] at h4
  refine bR_dec (fun h5 => ?_) (fun h5 => ?_)
  ·
    refine req_i ?_ ?_
    · -- r0
      first | omega | (simp only [sigChkG, chkGPost, errG]; split <;> omega) | ((try simp only [sigChkG, chkGPost, List.cons.injEq, DV.b.injEq, and_true, List.length_cons, List.length_nil]); first | done | omega | assumption | grind [getD_set, getD_rep, toNat_succ, cntN_yes, cntN_no])
    rfl
  ·
    refine bR_dec (fun h6 => ?_) (fun h6 => ?_)
    ·
      refine req_i ?_ ?_
      · -- r1
        first | omega | (simp only [sigChkG, chkGPost, errG]; split <;> omega) | ((try simp only [sigChkG, chkGPost, List.cons.injEq, DV.b.injEq, and_true, List.length_cons, List.length_nil]); first | done | omega | assumption | grind [getD_set, getD_rep, toNat_succ, cntN_yes, cntN_no])
      rfl
    ·
      refine bR_dec (fun h7 => ?_) (fun h7 => ?_)
      ·
        refine req_i ?_ ?_
        · -- r2
          first | omega | (simp only [sigChkG, chkGPost, errG]; split <;> omega) | ((try simp only [sigChkG, chkGPost, List.cons.injEq, DV.b.injEq, and_true, List.length_cons, List.length_nil]); first | done | omega | assumption | grind [getD_set, getD_rep, toNat_succ, cntN_yes, cntN_no])
        rfl
      ·
        refine bR_dec (fun h8 => ?_) (fun h8 => ?_)
        ·
          refine req_i ?_ ?_
          · -- r3
            first | omega | (simp only [sigChkG, chkGPost, errG]; split <;> omega) | ((try simp only [sigChkG, chkGPost, List.cons.injEq, DV.b.injEq, and_true, List.length_cons, List.length_nil]); first | done | omega | assumption | grind [getD_set, getD_rep, toNat_succ, cntN_yes, cntN_no])
          rfl
        ·
          refine req_i ?_ ?_
          · -- r4
            first | omega | (simp only [sigChkG, chkGPost, errG]; split <;> omega) | ((try simp only [sigChkG, chkGPost, List.cons.injEq, DV.b.injEq, and_true, List.length_cons, List.length_nil]); first | done | omega | assumption | grind [getD_set, getD_rep, toNat_succ, cntN_yes, cntN_no])
          rfl
theorem ext_chkG : ∀ p ∈ ([] : List (Nat × Ext)), ExtRow Try.prog p.1 p.2 := by
  intro p hp
  cases hp
theorem cts_chkG : CtsOk Try.prog [] := fun f c h => by cases h
theorem fn_chkG : FnOk Try.prog 21 sigChkG [] := fn_sound (by kernel_rfl) ext_chkG cts_chkG names vt_chkG
end Go.Proofs.Ytemcaojbhfgpgaa

namespace Go.Proofs.Ytemcaojbhfgpgaa
open Go.Ev Go.Sp
set_option maxRecDepth 100000
theorem vc_chkS : vcFn Try.prog [] tab [] 100 34 sigChkS = (allB fun l0 : List Int => 
impB (l0.length ≤ (9223372036854775807 : Nat)) (
impB (∀ (y : Int), y ∈ l0 → (-9223372036854775808 : Int) ≤ y ∧ y ≤ (9223372036854775807 : Int)) (
allB fun l1 : List Int => 
impB (l1.length = l0.length) (
impB (∀ (y : Int), y ∈ l1 → (-9223372036854775808 : Int) ≤ y ∧ y ≤ (9223372036854775807 : Int)) (
allB fun n2 : Int => 
impB ((0 : Int) ≤ n2) (
impB (n2 ≤ (70368744177664 : Int)) (
impB (sigChkS.pre [DV.l l0, DV.l l1, DV.n n2]) (
bR (dec ((1048576 : Int) < (↑l0.length : Int))) (
 reqB (sigChkS.post [DV.l l0, DV.l l1, DV.n n2] [DV.n (4 : Int)]) (
 true)) (
 reqB (((0 : Nat) + l0.length) * (2 : Nat) ≤ l0.length.mul (2 : Nat)) (
 reqB (l0.length ≤ (9223372036854775807 : Nat)) (
 reqB ((List.take l0.length (List.drop (0 : Nat) l0)).length = l0.length) (
 reqB (∀ (y : Int),
  y ∈ List.take l0.length (List.drop (0 : Nat) l0) → (-9223372036854775808 : Int) ≤ y ∧ y ≤ (9223372036854775807 : Int)) (
 reqB ((List.take l0.length (List.drop (0 : Nat) l1)).length = l0.length) (
 reqB (∀ (y : Int),
  y ∈ List.take l0.length (List.drop (0 : Nat) l1) → (-9223372036854775808 : Int) ≤ y ∧ y ≤ (9223372036854775807 : Int)) (
 reqB ((0 : Int) ≤ n2) (
 reqB (n2 ≤ (70368744177664 : Int)) (
 reqB (chkSL.inv
  [DV.l (List.take l0.length (List.drop (0 : Nat) l0)), DV.l (List.take l0.length (List.drop (0 : Nat) l1)),
    DV.n n2]
  [DV.n (0 : Int)]) (
 allB fun n3 : Int => 
 impB ((0 : Int) ≤ n3) (
 impB (n3 ≤ (9223372036854775807 : Int)) (
 impB (chkSL.inv
  [DV.l (List.take l0.length (List.drop (0 : Nat) l0)), DV.l (List.take l0.length (List.drop (0 : Nat) l1)),
    DV.n n2]
  [DV.n n3]) (
 bR (dec (n3 < (↑l0.length : Int))) (
  reqB (n3.toNat < l0.length) (
  reqB (Nat.add (0 : Nat) n3.toNat < l0.length) (
  reqB (Nat.add (0 : Nat) n3.toNat < l1.length) (
  bR (dec (Min.min (l0.getD (Nat.add (0 : Nat) n3.toNat) (0 : Int)) (l1.getD (Nat.add (0 : Nat) n3.toNat) (0 : Int)) <
  (0 : Int) - n2)) (
   reqB (sigChkS.post [DV.l l0, DV.l l1, DV.n n2] [DV.n (2 : Int)]) (
   true)) (
   bR (dec (n2 < Max.max (l0.getD (Nat.add (0 : Nat) n3.toNat) (0 : Int)) (l1.getD (Nat.add (0 : Nat) n3.toNat) (0 : Int)))) (
    reqB (sigChkS.post [DV.l l0, DV.l l1, DV.n n2] [DV.n (2 : Int)]) (
    true)) (
    allB fun n4 : Int => 
    impB (n4 = Go.IntKind.i64.wrap (n3 + (1 : Int))) (
    impB (Int.negSucc (9223372036854775807 : Nat) ≤ n4) (
    impB (n4 ≤ Int.ofNat (9223372036854775807 : Nat)) (
    bR (bR (bR (dec ((0 : Nat) = (0 : Nat))) (
     dec (l0.length = l0.length)) (
     false)) (
     bR (dec (n2 = n2)) (
      bR (bR (dec ((0 : Nat) = (0 : Nat))) (
       dec (l0.length = l0.length)) (
       false)) (
       bR (dec ((↑l0.length : Int) = (↑l0.length : Int))) (
        true) (
        false)) (
       false)) (
      false)) (
     false)) (
     reqB ((0 : Int) ≤ n4) (
     reqB (n4 ≤ (9223372036854775807 : Int)) (
     reqB (chkSL.inv
  [DV.l (List.take l0.length (List.drop (0 : Nat) l0)), DV.l (List.take l0.length (List.drop (0 : Nat) l1)),
    DV.n n2]
  [DV.n n4]) (
     reqB (chkSL.mea
    [DV.l (List.take l0.length (List.drop (0 : Nat) l0)),
      DV.l (List.take l0.length (List.drop (0 : Nat) l1)), DV.n n2]
    [DV.n n4] <
  chkSL.mea
    [DV.l (List.take l0.length (List.drop (0 : Nat) l0)),
      DV.l (List.take l0.length (List.drop (0 : Nat) l1)), DV.n n2]
    [DV.n n3]) (
     true))))) (
     false)))))))))) (
  reqB (sigChkS.post [DV.l l0, DV.l l1, DV.n n2] [DV.n (0 : Int)]) (
  true))))))))))))))))))))))) := by kernel_rfl
set_option maxHeartbeats 8000000 in
theorem vt_chkS : vcFn Try.prog [] tab [] 100 34 sigChkS = true := by
  rw [vc_chkS]
  try simp only [Int.toNat_natCast, List.length_set, List.length_replicate, List.length_take, List.length_drop, List.length_append, List.length_cons, List.length_nil, Nat.min_self, List.take_take, lenCols_i, lenCols_b, List.drop_zero, List.take_length, Nat.add_eq, Nat.mul_eq, Nat.sub_eq, Nat.zero_add, Nat.sub_zero, Nat.mul_one]
  refine all_i fun l0 => ?_
  refine imp_i fun h0 => ?_
  refine imp_i fun h1 => ?_
  refine all_i fun l1 => ?_
  refine imp_i fun h2 => ?_
  have tkl1 := take_eq h2
  try simp only [tkl1]
  refine imp_i fun h3 => ?_
  refine all_i fun n2 => ?_
  refine imp_i fun h4 => ?_
  refine imp_i fun h5 => ?_
  refine imp_i fun h6 => ?_
  try simp only [sigChkS, chkSPost, List.cons.injEq, DV.b.injEq, and_true, List.length_cons, List.length_nil] at h6
  refine bR_dec (fun h7 => ?_) (fun h7 => ?_)
  ·
    refine req_i ?_ ?_
    · -- r0
      simp only [sigChkS, chkSPost]; rw [errL_4 h7]
    rfl
  ·
    refine req_i ?_ ?_
    · -- r1
      first | omega | ((try simp only [Nat.mul_eq]); first | done | omega | assumption | grind [getD_set, getD_rep, toNat_succ, cntN_yes, cntN_no])
    refine req_i ?_ ?_
    · -- r2
      first | omega | ((try simp only [Nat.zero_add]); first | done | omega | assumption | grind [getD_set, getD_rep, toNat_succ, cntN_yes, cntN_no])
    refine req_i ?_ ?_
    · -- r3
      first | omega | ((try simp only [List.length_take, List.take_length, List.take_take, Nat.min_self, List.length_drop, List.drop_zero, List.length_cons, List.length_nil]); first | done | omega | assumption | grind [getD_set, getD_rep, toNat_succ, cntN_yes, cntN_no])
    refine req_i ?_ ?_
    · -- r4
      first | assumption | exact rep_bd (by omega) (by omega) | exact set_bd (by assumption) (by omega) (by omega) | exact take_bd (by assumption) | ((try simp only [List.length_take, List.take_length, List.take_take, Nat.min_self, List.length_drop, List.drop_zero, List.length_cons, List.length_nil]); first | assumption | exact rep_bd (by omega) (by omega) | exact set_bd (by assumption) (by omega) (by omega) | exact take_bd (by assumption) | grind [getD_set, getD_rep, toNat_succ, cntN_yes, cntN_no])
    refine req_i ?_ ?_
    · -- r5
      first | omega | ((try simp only [List.length_take, List.take_length, List.take_take, Nat.min_self, List.length_drop, List.drop_zero, List.length_cons, List.length_nil]); first | done | omega | assumption | grind [getD_set, getD_rep, toNat_succ, cntN_yes, cntN_no])
    refine req_i ?_ ?_
    · -- r6
      first | assumption | exact rep_bd (by omega) (by omega) | exact set_bd (by assumption) (by omega) (by omega) | exact take_bd (by assumption) | ((try simp only [List.length_take, List.take_length, List.take_take, Nat.min_self, List.length_drop, List.drop_zero, List.length_cons, List.length_nil]); first | assumption | exact rep_bd (by omega) (by omega) | exact set_bd (by assumption) (by omega) (by omega) | exact take_bd (by assumption) | grind [getD_set, getD_rep, toNat_succ, cntN_yes, cntN_no])
    refine req_i ?_ ?_
    · -- r7
      first | omega | assumption | grind
    refine req_i ?_ ?_
    · -- r8
      first | omega | assumption | grind
    refine req_i ?_ ?_
    · -- r9
      first | omega | ((try simp only [chkSL, chkSInv, mea0, List.cons.injEq, DV.b.injEq, and_true, List.length_take, List.take_length, List.take_take, Nat.min_self, List.length_drop, List.drop_zero, List.length_cons, List.length_nil]); first | done | omega | assumption | grind [getD_set, getD_rep, toNat_succ, cntN_yes, cntN_no])
    refine all_i fun n3 => ?_
    refine imp_i fun h8 => ?_
    refine imp_i fun h9 => ?_
    refine imp_i fun h10 => ?_
    try simp only [chkSL, chkSInv, mea0, List.cons.injEq, DV.b.injEq, and_true, List.length_take, List.take_length, List.take_take, Nat.min_self, List.length_drop, List.drop_zero, List.length_cons, List.length_nil] at h10
    refine bR_dec (fun h11 => ?_) (fun h11 => ?_)
    ·
      refine req_i ?_ ?_
      · -- r10
        first | omega | ((try simp only [Int.toNat_natCast, List.length_cons, List.length_nil]); first | done | omega | assumption | grind [getD_set, getD_rep, toNat_succ, cntN_yes, cntN_no])
      refine req_i ?_ ?_
      · -- r11
        first | omega | ((try simp only [Int.toNat_natCast, List.length_cons, List.length_nil, Nat.add_eq, Nat.zero_add]); first | done | omega | assumption | grind [getD_set, getD_rep, toNat_succ, cntN_yes, cntN_no])
      refine req_i ?_ ?_
      · -- r12
        first | omega | ((try simp only [Int.toNat_natCast, List.length_cons, List.length_nil, Nat.add_eq, Nat.zero_add]); first | done | omega | assumption | grind [getD_set, getD_rep, toNat_succ, cntN_yes, cntN_no])
      refine bR_dec (fun h12 => ?_) (fun h12 => ?_)
      ·
        refine req_i ?_ ?_
        · -- r13
          simp only [sigChkS, chkSPost]; rw [errL_2 (by omega) (fun g => by have := g n3.toNat (by omega); omega)]
        rfl
      ·
        refine bR_dec (fun h13 => ?_) (fun h13 => ?_)
        ·
          refine req_i ?_ ?_
          · -- r14
            simp only [sigChkS, chkSPost]; rw [errL_2 (by omega) (fun g => by have := g n3.toNat (by omega); omega)]
          rfl
        ·
          refine all_i fun n4 => ?_
          refine imp_i fun h14 => ?_
          simp only [wrap_i64] at h14
          refine imp_i fun h15 => ?_
          refine imp_i fun h16 => ?_
          refine bR_t ?_ ?_
          · -- g0
            first | rfl | (simp only [bR_iff, bR_iff_f, dec_iff, dec_f, beqB_iff', andB_iff', reduceCtorEq, imp_self, false_implies, and_true, true_and, implies_true, and_self]; done) | (simp [bR_iff, dec_iff, beqB_iff', andB_iff']; done) | (simp [bR_iff, dec_iff, beqB_iff', andB_iff']; omega)
          refine req_i ?_ ?_
          · -- r15
            first | omega | assumption | grind
          refine req_i ?_ ?_
          · -- r16
            first | omega | assumption | grind
          refine req_i ?_ ?_
          · -- r17
            first | omega | ((try simp only [chkSL, chkSInv, mea0, List.cons.injEq, DV.b.injEq, and_true, List.length_take, List.take_length, List.take_take, Nat.min_self, List.length_drop, List.drop_zero, List.length_cons, List.length_nil]); first | done | omega | assumption | grind [getD_set, getD_rep, toNat_succ, cntN_yes, cntN_no])
          refine req_i ?_ ?_
          · -- r18
            first | omega | ((try simp only [chkSL, chkSInv, mea0, List.cons.injEq, DV.b.injEq, and_true, List.length_take, List.take_length, List.take_take, Nat.min_self, List.length_drop, List.drop_zero, List.length_cons, List.length_nil]); first | done | omega | assumption | grind [getD_set, getD_rep, toNat_succ, cntN_yes, cntN_no])
          rfl
    ·
      refine req_i ?_ ?_
      · -- r19
        simp only [sigChkS, chkSPost]; rw [errL_0 (by omega) (fun j hj => h10.2.2 j (by omega))]
      rfl
theorem ext_chkS : ∀ p ∈ ([] : List (Nat × Ext)), ExtRow Try.prog p.1 p.2 := by
  intro p hp
  cases hp
theorem cts_chkS : CtsOk Try.prog [] := fun f c h => by cases h
theorem fn_chkS : FnOk Try.prog 34 sigChkS [] := fn_sound (by kernel_rfl) ext_chkS cts_chkS names vt_chkS
end Go.Proofs.Ytemcaojbhfgpgaa

namespace Go.Proofs.Ytemcaojbhfgpgaa
open Go.Ev Go.Sp
set_option maxRecDepth 100000
theorem vc_chkA : vcFn Try.prog [(21, Ext.ctr (ctOf sigChkG)), (34, Ext.ctr (ctOf sigChkS))] tab [] 100 31 sigChkA = (allB fun l0 : List Int => 
impB (l0.length ≤ (9223372036854775807 : Nat)) (
impB (∀ (y : Int), y ∈ l0 → (-9223372036854775808 : Int) ≤ y ∧ y ≤ (9223372036854775807 : Int)) (
allB fun l1 : List Int => 
impB (l1.length = l0.length) (
impB (∀ (y : Int), y ∈ l1 → (-9223372036854775808 : Int) ≤ y ∧ y ≤ (9223372036854775807 : Int)) (
allB fun n2 : Int => 
impB ((-9223372036854775808 : Int) ≤ n2) (
impB (n2 ≤ (9223372036854775807 : Int)) (
allB fun n3 : Int => 
impB ((-9223372036854775808 : Int) ≤ n3) (
impB (n3 ≤ (9223372036854775807 : Int)) (
impB (sigChkA.pre [DV.l l0, DV.l l1, DV.n n2, DV.n n3]) (
reqB ((-9223372036854775808 : Int) ≤ n2) (
reqB (n2 ≤ (9223372036854775807 : Int)) (
reqB ((-9223372036854775808 : Int) ≤ n3) (
reqB (n3 ≤ (9223372036854775807 : Int)) (
reqB (sigChkG.pre [DV.n n2, DV.n n3]) (
allB fun n4 : Int => 
impB ((0 : Int) ≤ n4) (
impB (n4 ≤ (18 : Int)) (
impB (sigChkG.post [DV.n n2, DV.n n3] [DV.n n4]) (
bR (dec (n4 ≠ (0 : Int))) (
 reqB ((0 : Int) ≤ n4) (
 reqB (n4 ≤ (18 : Int)) (
 reqB (sigChkA.post [DV.l l0, DV.l l1, DV.n n2, DV.n n3] [DV.n n4]) (
 true)))) (
 reqB (((0 : Nat) + l0.length) * (2 : Nat) ≤ l0.length.mul (2 : Nat)) (
 reqB (l0.length ≤ (9223372036854775807 : Nat)) (
 reqB ((List.take l0.length (List.drop (0 : Nat) l0)).length = l0.length) (
 reqB (∀ (y : Int),
  y ∈ List.take l0.length (List.drop (0 : Nat) l0) → (-9223372036854775808 : Int) ≤ y ∧ y ≤ (9223372036854775807 : Int)) (
 reqB ((List.take l0.length (List.drop (0 : Nat) l1)).length = l0.length) (
 reqB (∀ (y : Int),
  y ∈ List.take l0.length (List.drop (0 : Nat) l1) → (-9223372036854775808 : Int) ≤ y ∧ y ≤ (9223372036854775807 : Int)) (
 reqB (sigChkS.pre
  [DV.l (List.take l0.length (List.drop (0 : Nat) l0)), DV.l (List.take l0.length (List.drop (0 : Nat) l1)),
    DV.n (70368744177664 : Int)]) (
 allB fun n5 : Int => 
 impB ((0 : Int) ≤ n5) (
 impB (n5 ≤ (18 : Int)) (
 impB (sigChkS.post
  [DV.l (List.take l0.length (List.drop (0 : Nat) l0)), DV.l (List.take l0.length (List.drop (0 : Nat) l1)),
    DV.n (70368744177664 : Int)]
  [DV.n n5]) (
 reqB ((0 : Int) ≤ n5) (
 reqB (n5 ≤ (18 : Int)) (
 reqB (sigChkA.post [DV.l l0, DV.l l1, DV.n n2, DV.n n3] [DV.n n5]) (
 true)))))))))))))))))))))))))))))))) := by kernel_rfl
set_option maxHeartbeats 8000000 in
theorem vt_chkA : vcFn Try.prog [(21, Ext.ctr (ctOf sigChkG)), (34, Ext.ctr (ctOf sigChkS))] tab [] 100 31 sigChkA = true := by
  rw [vc_chkA]
  try simp only [Int.toNat_natCast, List.length_set, List.length_replicate, List.length_take, List.length_drop, List.length_append, List.length_cons, List.length_nil, Nat.min_self, List.take_take, lenCols_i, lenCols_b, List.drop_zero, List.take_length, Nat.add_eq, Nat.mul_eq, Nat.sub_eq, Nat.zero_add, Nat.sub_zero, Nat.mul_one]
  refine all_i fun l0 => ?_
  refine imp_i fun h0 => ?_
  refine imp_i fun h1 => ?_
  refine all_i fun l1 => ?_
  refine imp_i fun h2 => ?_
  have tkl1 := take_eq h2
  try simp only [tkl1]
  refine imp_i fun h3 => ?_
  refine all_i fun n2 => ?_
  refine imp_i fun h4 => ?_
  refine imp_i fun h5 => ?_
  refine all_i fun n3 => ?_
  refine imp_i fun h6 => ?_
  refine imp_i fun h7 => ?_
  refine imp_i fun h8 => ?_
  try simp only [sigChkA, chkAPost, List.cons.injEq, DV.b.injEq, and_true, List.length_cons, List.length_nil] at h8
  refine req_i ?_ ?_
  · -- r0
    first | omega | assumption | grind
  refine req_i ?_ ?_
  · -- r1
    first | omega | assumption | grind
  refine req_i ?_ ?_
  · -- r2
    first | omega | assumption | grind
  refine req_i ?_ ?_
  · -- r3
    first | omega | assumption | grind
  refine req_i ?_ ?_
  · -- r4
    first | trivial | assumption | (simp only [sigChkG, chkGPost, List.cons.injEq, DV.b.injEq, and_true, List.length_cons, List.length_nil]; done) | ((try simp only [sigChkG, chkGPost, List.cons.injEq, DV.b.injEq, and_true, List.length_cons, List.length_nil]); first | omega | assumption | grind)
  refine all_i fun n4 => ?_
  refine imp_i fun h9 => ?_
  refine imp_i fun h10 => ?_
  refine imp_i fun h11 => ?_
  try simp only [sigChkG, chkGPost, List.cons.injEq, DV.b.injEq, and_true, List.length_cons, List.length_nil] at h11
  refine bR_dec (fun h12 => ?_) (fun h12 => ?_)
  ·
    refine req_i ?_ ?_
    · -- r5
      first | omega | assumption | grind
    refine req_i ?_ ?_
    · -- r6
      first | omega | assumption | grind
    refine req_i ?_ ?_
    · -- r7
      simp only [sigChkA, chkAPost, errS]; rw [if_neg (by omega)]; exact h11
    rfl
  ·
    refine req_i ?_ ?_
    · -- r8
      first | omega | ((try simp only [Nat.mul_eq]); first | done | omega | assumption | grind [getD_set, getD_rep, toNat_succ, cntN_yes, cntN_no])
    refine req_i ?_ ?_
    · -- r9
      first | omega | ((try simp only [Nat.zero_add]); first | done | omega | assumption | grind [getD_set, getD_rep, toNat_succ, cntN_yes, cntN_no])
    refine req_i ?_ ?_
    · -- r10
      first | omega | ((try simp only [List.length_take, List.take_length, List.take_take, Nat.min_self, List.length_drop, List.drop_zero, List.length_cons, List.length_nil]); first | done | omega | assumption | grind [getD_set, getD_rep, toNat_succ, cntN_yes, cntN_no])
    refine req_i ?_ ?_
    · -- r11
      first | assumption | exact rep_bd (by omega) (by omega) | exact set_bd (by assumption) (by omega) (by omega) | exact take_bd (by assumption) | ((try simp only [List.length_take, List.take_length, List.take_take, Nat.min_self, List.length_drop, List.drop_zero, List.length_cons, List.length_nil]); first | assumption | exact rep_bd (by omega) (by omega) | exact set_bd (by assumption) (by omega) (by omega) | exact take_bd (by assumption) | grind [getD_set, getD_rep, toNat_succ, cntN_yes, cntN_no])
    refine req_i ?_ ?_
    · -- r12
      first | omega | ((try simp only [List.length_take, List.take_length, List.take_take, Nat.min_self, List.length_drop, List.drop_zero, List.length_cons, List.length_nil]); first | done | omega | assumption | grind [getD_set, getD_rep, toNat_succ, cntN_yes, cntN_no])
    refine req_i ?_ ?_
    · -- r13
      first | assumption | exact rep_bd (by omega) (by omega) | exact set_bd (by assumption) (by omega) (by omega) | exact take_bd (by assumption) | ((try simp only [List.length_take, List.take_length, List.take_take, Nat.min_self, List.length_drop, List.drop_zero, List.length_cons, List.length_nil]); first | assumption | exact rep_bd (by omega) (by omega) | exact set_bd (by assumption) (by omega) (by omega) | exact take_bd (by assumption) | grind [getD_set, getD_rep, toNat_succ, cntN_yes, cntN_no])
    refine req_i ?_ ?_
    · -- r14
      first | omega | ((try simp only [sigChkS, chkSPost, List.cons.injEq, DV.b.injEq, and_true, List.length_take, List.take_length, List.take_take, Nat.min_self, List.length_drop, List.drop_zero, List.length_cons, List.length_nil]); first | done | omega | assumption | grind [getD_set, getD_rep, toNat_succ, cntN_yes, cntN_no])
    refine all_i fun n5 => ?_
    refine imp_i fun h13 => ?_
    refine imp_i fun h14 => ?_
    refine imp_i fun h15 => ?_
    try simp only [sigChkS, chkSPost, List.cons.injEq, DV.b.injEq, and_true, List.length_take, List.take_length, List.take_take, Nat.min_self, List.length_drop, List.drop_zero, List.length_cons, List.length_nil] at h15
    refine req_i ?_ ?_
    · -- r15
      first | omega | assumption | grind
    refine req_i ?_ ?_
    · -- r16
      first | omega | assumption | grind
    refine req_i ?_ ?_
    · -- r17
      simp only [sigChkA, chkAPost, errS]; rw [if_pos (by omega)]; exact h15
    rfl
theorem ext_chkA : ∀ p ∈ ([(21, Ext.ctr (ctOf sigChkG)), (34, Ext.ctr (ctOf sigChkS))] : List (Nat × Ext)), ExtRow Try.prog p.1 p.2 := by
  intro p hp
  simp only [List.mem_cons, List.not_mem_nil, or_false] at hp
  rcases hp with rfl | rfl
  · trivial
  · trivial
theorem cts_chkA : CtsOk Try.prog [(21, Ext.ctr (ctOf sigChkG)), (34, Ext.ctr (ctOf sigChkS))] := ctsOk_of (cs := [(21, sigChkG), (34, sigChkS)])
  (fun p hp => by
    simp only [List.mem_cons, List.not_mem_nil, or_false] at hp
    rcases hp with rfl | rfl
    · exact fn_chkG
    · exact fn_chkS
)
  (fun f c h => by
    simp only [List.lookup_cons] at h
    repeat' split at h
    all_goals first | (cases h; done) | (rename_i e; have e := beq_iff_eq.1 e; subst e; cases h; exact ⟨_, by simp, rfl⟩))
theorem fn_chkA : FnOk Try.prog 31 sigChkA [] := fn_sound (by kernel_rfl) ext_chkA cts_chkA names vt_chkA
end Go.Proofs.Ytemcaojbhfgpgaa

namespace Go.Proofs.Ytemcaojbhfgpgaa
open Go.Ev Go.Sp
set_option maxRecDepth 100000
theorem vc_grt : vcFn Try.prog [] tab [] 100 38 sigGrt = (allB fun l0 : List Int => 
impB (l0.length ≤ (300 : Nat)) (
impB (∀ (y : Int), y ∈ l0 → (-9223372036854775808 : Int) ≤ y ∧ y ≤ (9223372036854775807 : Int)) (
allB fun l1 : List Int => 
impB (l1.length = l0.length) (
impB (∀ (y : Int), y ∈ l1 → (-9223372036854775808 : Int) ≤ y ∧ y ≤ (9223372036854775807 : Int)) (
impB (sigGrt.pre [DV.l l0, DV.l l1]) (
reqB (((0 : Nat) + l0.length) * (2 : Nat) ≤ l0.length.mul (2 : Nat)) (
reqB (l0.length ≤ (300 : Nat)) (
reqB ((List.take l0.length (List.drop (0 : Nat) l0)).length = l0.length) (
reqB (∀ (y : Int),
  y ∈ List.take l0.length (List.drop (0 : Nat) l0) → (-9223372036854775808 : Int) ≤ y ∧ y ≤ (9223372036854775807 : Int)) (
reqB ((List.take l0.length (List.drop (0 : Nat) l1)).length = l0.length) (
reqB (∀ (y : Int),
  y ∈ List.take l0.length (List.drop (0 : Nat) l1) → (-9223372036854775808 : Int) ≤ y ∧ y ≤ (9223372036854775807 : Int)) (
reqB (grtL.inv
  [DV.l (List.take l0.length (List.drop (0 : Nat) l0)), DV.l (List.take l0.length (List.drop (0 : Nat) l1))]
  [DV.n (0 : Int), DV.n (0 : Int)]) (
allB fun n2 : Int => 
impB ((0 : Int) ≤ n2) (
impB (n2 ≤ (300 : Int)) (
allB fun n3 : Int => 
impB ((0 : Int) ≤ n3) (
impB (n3 ≤ (70368744177664 : Int)) (
impB (grtL.inv
  [DV.l (List.take l0.length (List.drop (0 : Nat) l0)), DV.l (List.take l0.length (List.drop (0 : Nat) l1))]
  [DV.n n2, DV.n n3]) (
bR (dec (n2 < (↑l0.length : Int))) (
 reqB (n2.toNat < l0.length) (
 reqB (Nat.add (0 : Nat) n2.toNat < l0.length) (
 reqB (Nat.add (0 : Nat) n2.toNat < l1.length) (
 allB fun n4 : Int => 
 impB (n4 = Go.IntKind.i64.wrap ((0 : Int) - l0.getD (Nat.add (0 : Nat) n2.toNat) (0 : Int))) (
 impB (Int.negSucc (9223372036854775807 : Nat) ≤ n4) (
 impB (n4 ≤ Int.ofNat (9223372036854775807 : Nat)) (
 allB fun n5 : Int => 
 impB (n5 = Go.IntKind.i64.wrap ((0 : Int) - l1.getD (Nat.add (0 : Nat) n2.toNat) (0 : Int))) (
 impB (Int.negSucc (9223372036854775807 : Nat) ≤ n5) (
 impB (n5 ≤ Int.ofNat (9223372036854775807 : Nat)) (
 bR (bR (bR (dec ((0 : Nat) = (0 : Nat))) (
  dec (l0.length = l0.length)) (
  false)) (
  bR (dec ((↑l0.length : Int) = (↑l0.length : Int))) (
   true) (
   false)) (
  false)) (
  reqB ((0 : Int) ≤ n2 + (1 : Int)) (
  reqB (n2 + (1 : Int) ≤ (300 : Int)) (
  reqB ((0 : Int) ≤
  Max.max
    (Max.max (Max.max (Max.max n3 (l0.getD (Nat.add (0 : Nat) n2.toNat) (0 : Int))) n4)
      (l1.getD (Nat.add (0 : Nat) n2.toNat) (0 : Int)))
    n5) (
  reqB (Max.max
    (Max.max (Max.max (Max.max n3 (l0.getD (Nat.add (0 : Nat) n2.toNat) (0 : Int))) n4)
      (l1.getD (Nat.add (0 : Nat) n2.toNat) (0 : Int)))
    n5 ≤
  (70368744177664 : Int)) (
  reqB (grtL.inv
  [DV.l (List.take l0.length (List.drop (0 : Nat) l0)), DV.l (List.take l0.length (List.drop (0 : Nat) l1))]
  [DV.n (n2 + (1 : Int)),
    DV.n
      (Max.max
        (Max.max (Max.max (Max.max n3 (l0.getD (Nat.add (0 : Nat) n2.toNat) (0 : Int))) n4)
          (l1.getD (Nat.add (0 : Nat) n2.toNat) (0 : Int)))
        n5)]) (
  reqB (grtL.mea
    [DV.l (List.take l0.length (List.drop (0 : Nat) l0)),
      DV.l (List.take l0.length (List.drop (0 : Nat) l1))]
    [DV.n (n2 + (1 : Int)),
      DV.n
        (Max.max
          (Max.max (Max.max (Max.max n3 (l0.getD (Nat.add (0 : Nat) n2.toNat) (0 : Int))) n4)
            (l1.getD (Nat.add (0 : Nat) n2.toNat) (0 : Int)))
          n5)] <
  grtL.mea
    [DV.l (List.take l0.length (List.drop (0 : Nat) l0)),
      DV.l (List.take l0.length (List.drop (0 : Nat) l1))]
    [DV.n n2, DV.n n3]) (
  true))))))) (
  false))))))))))) (
 reqB ((0 : Int) ≤ n3) (
 reqB (n3 ≤ (70368744177664 : Int)) (
 reqB (sigGrt.post [DV.l l0, DV.l l1] [DV.n n3]) (
 true)))))))))))))))))))))) := by kernel_rfl
set_option maxHeartbeats 8000000 in
theorem vt_grt : vcFn Try.prog [] tab [] 100 38 sigGrt = true := by
  rw [vc_grt]
  try simp only [Int.toNat_natCast, List.length_set, List.length_replicate, List.length_take, List.length_drop, List.length_append, List.length_cons, List.length_nil, Nat.min_self, List.take_take, lenCols_i, lenCols_b, List.drop_zero, List.take_length, Nat.add_eq, Nat.mul_eq, Nat.sub_eq, Nat.zero_add, Nat.sub_zero, Nat.mul_one]
  refine all_i fun l0 => ?_
  refine imp_i fun h0 => ?_
  refine imp_i fun h1 => ?_
  refine all_i fun l1 => ?_
  refine imp_i fun h2 => ?_
  have tkl1 := take_eq h2
  try simp only [tkl1]
  refine imp_i fun h3 => ?_
  refine imp_i fun h4 => ?_
  try simp only [sigGrt, grtPre, grtPost, inS, List.cons.injEq, DV.b.injEq, and_true, List.length_cons, List.length_nil] at h4
  have gz := grtN_0 l0 l1
  refine req_i ?_ ?_
  · -- r0
    first | omega | ((try simp only [Nat.mul_eq]); first | done | omega | assumption | grind [getD_set, getD_rep, toNat_succ, cntN_yes, cntN_no])
  refine req_i ?_ ?_
  · -- r1
    first | omega | ((try simp only [Nat.zero_add]); first | done | omega | assumption | grind [getD_set, getD_rep, toNat_succ, cntN_yes, cntN_no])
  refine req_i ?_ ?_
  · -- r2
    first | omega | ((try simp only [List.length_take, List.take_length, List.take_take, Nat.min_self, List.length_drop, List.drop_zero, List.length_cons, List.length_nil]); first | done | omega | assumption | grind [getD_set, getD_rep, toNat_succ, cntN_yes, cntN_no])
  refine req_i ?_ ?_
  · -- r3
    first | assumption | exact rep_bd (by omega) (by omega) | exact set_bd (by assumption) (by omega) (by omega) | exact take_bd (by assumption) | ((try simp only [List.length_take, List.take_length, List.take_take, Nat.min_self, List.length_drop, List.drop_zero, List.length_cons, List.length_nil]); first | assumption | exact rep_bd (by omega) (by omega) | exact set_bd (by assumption) (by omega) (by omega) | exact take_bd (by assumption) | grind [getD_set, getD_rep, toNat_succ, cntN_yes, cntN_no])
  refine req_i ?_ ?_
  · -- r4
    first | omega | ((try simp only [List.length_take, List.take_length, List.take_take, Nat.min_self, List.length_drop, List.drop_zero, List.length_cons, List.length_nil]); first | done | omega | assumption | grind [getD_set, getD_rep, toNat_succ, cntN_yes, cntN_no])
  refine req_i ?_ ?_
  · -- r5
    first | assumption | exact rep_bd (by omega) (by omega) | exact set_bd (by assumption) (by omega) (by omega) | exact take_bd (by assumption) | ((try simp only [List.length_take, List.take_length, List.take_take, Nat.min_self, List.length_drop, List.drop_zero, List.length_cons, List.length_nil]); first | assumption | exact rep_bd (by omega) (by omega) | exact set_bd (by assumption) (by omega) (by omega) | exact take_bd (by assumption) | grind [getD_set, getD_rep, toNat_succ, cntN_yes, cntN_no])
  refine req_i ?_ ?_
  · -- r6
    first | omega | ((try simp only [grtL, grtInv, mea0, List.cons.injEq, DV.b.injEq, and_true, List.length_take, List.take_length, List.take_take, Nat.min_self, List.length_drop, List.drop_zero, List.length_cons, List.length_nil]); first | done | omega | assumption | grind [getD_set, getD_rep, toNat_succ, cntN_yes, cntN_no])
  refine all_i fun n2 => ?_
  refine imp_i fun h5 => ?_
  refine imp_i fun h6 => ?_
  refine all_i fun n3 => ?_
  refine imp_i fun h7 => ?_
  refine imp_i fun h8 => ?_
  refine imp_i fun h9 => ?_
  try simp only [grtL, grtInv, mea0, List.cons.injEq, DV.b.injEq, and_true, List.length_take, List.take_length, List.take_take, Nat.min_self, List.length_drop, List.drop_zero, List.length_cons, List.length_nil] at h9
  refine bR_dec (fun h10 => ?_) (fun h10 => ?_)
  ·
    have ib := inS_bd h4 (i := n2) (by omega)
    have gb := grtN_bd (m := 70368744177664) (by omega) h4 n2.toNat (by omega)
    have gb1 := grtN_bd (m := 70368744177664) (by omega) h4 (n2.toNat + 1) (by omega)
    have gs := grtN_s l0 l1 n2.toNat
    have ts := toNat_succ h9.1
    refine req_i ?_ ?_
    · -- r7
      first | omega | ((try simp only [Int.toNat_natCast, List.length_cons, List.length_nil]); first | done | omega | assumption | grind [getD_set, getD_rep, toNat_succ, cntN_yes, cntN_no])
    refine req_i ?_ ?_
    · -- r8
      first | omega | ((try simp only [Int.toNat_natCast, List.length_cons, List.length_nil, Nat.add_eq, Nat.zero_add]); first | done | omega | assumption | grind [getD_set, getD_rep, toNat_succ, cntN_yes, cntN_no])
    refine req_i ?_ ?_
    · -- r9
      first | omega | ((try simp only [Int.toNat_natCast, List.length_cons, List.length_nil, Nat.add_eq, Nat.zero_add]); first | done | omega | assumption | grind [getD_set, getD_rep, toNat_succ, cntN_yes, cntN_no])
    refine all_i fun n4 => ?_
    refine imp_i fun h11 => ?_
    simp only [wrap_i64] at h11
    refine imp_i fun h12 => ?_
    refine imp_i fun h13 => ?_
    refine all_i fun n5 => ?_
    refine imp_i fun h14 => ?_
    simp only [wrap_i64] at h14
    refine imp_i fun h15 => ?_
    refine imp_i fun h16 => ?_
    refine bR_t ?_ ?_
    · -- g0
      first | rfl | (simp only [bR_iff, bR_iff_f, dec_iff, dec_f, beqB_iff', andB_iff', reduceCtorEq, imp_self, false_implies, and_true, true_and, implies_true, and_self]; done) | (simp [bR_iff, dec_iff, beqB_iff', andB_iff']; done) | (simp [bR_iff, dec_iff, beqB_iff', andB_iff']; omega)
    refine req_i ?_ ?_
    · -- r10
      first | omega | assumption | grind
    refine req_i ?_ ?_
    · -- r11
      first | omega | assumption | grind
    refine req_i ?_ ?_
    · -- r12
      first | omega | assumption | grind
    refine req_i ?_ ?_
    · -- r13
      first | omega | assumption | grind
    refine req_i ?_ ?_
    · -- r14
      first | omega | ((try simp only [grtL, grtInv, mea0, List.cons.injEq, DV.b.injEq, and_true, Int.toNat_natCast, List.length_take, List.take_length, List.take_take, Nat.min_self, List.length_drop, List.drop_zero, List.length_cons, List.length_nil, Nat.add_eq, Nat.zero_add]); first | done | omega | assumption | grind [getD_set, getD_rep, toNat_succ, cntN_yes, cntN_no])
    refine req_i ?_ ?_
    · -- r15
      first | omega | ((try simp only [grtL, grtInv, mea0, List.cons.injEq, DV.b.injEq, and_true, Int.toNat_natCast, List.length_take, List.take_length, List.take_take, Nat.min_self, List.length_drop, List.drop_zero, List.length_cons, List.length_nil, Nat.add_eq, Nat.zero_add]); first | done | omega | assumption | grind [getD_set, getD_rep, toNat_succ, cntN_yes, cntN_no])
    rfl
  ·
    have et : n2.toNat = l0.length := by omega
    rw [et] at h9
    refine req_i ?_ ?_
    · -- r16
      first | omega | assumption | grind
    refine req_i ?_ ?_
    · -- r17
      first | omega | assumption | grind
    refine req_i ?_ ?_
    · -- r18
      first | omega | ((try simp only [sigGrt, grtPre, grtPost, inS, List.cons.injEq, DV.b.injEq, and_true, List.length_cons, List.length_nil]); first | done | omega | assumption | grind [getD_set, getD_rep, toNat_succ, cntN_yes, cntN_no])
    rfl
theorem ext_grt : ∀ p ∈ ([] : List (Nat × Ext)), ExtRow Try.prog p.1 p.2 := by
  intro p hp
  cases hp
theorem cts_grt : CtsOk Try.prog [] := fun f c h => by cases h
theorem fn_grt : FnOk Try.prog 38 sigGrt [] := fn_sound (by kernel_rfl) ext_grt cts_grt names vt_grt
end Go.Proofs.Ytemcaojbhfgpgaa

namespace Go.Proofs.Ytemcaojbhfgpgaa
open Go.Ev Go.Sp
set_option maxRecDepth 100000
theorem vc_gr : vcFn Try.prog [] tab [] 100 35 sigGr = (allB fun n0 : Int => 
impB ((2 : Int) ≤ n0) (
impB (n0 ≤ (8 : Int)) (
allB fun n1 : Int => 
impB ((0 : Int) ≤ n1) (
impB (n1 ≤ (30 : Int)) (
impB (sigGr.pre [DV.n n0, DV.n n1]) (
reqB ((1 : Int) ≤ opI (SO.shl Go.IntKind.i64) (1 : Int) (n0 - (1 : Int)) - (1 : Int)) (
reqB (opI (SO.shl Go.IntKind.i64) (1 : Int) (n0 - (1 : Int)) - (1 : Int) ≤ (127 : Int)) (
reqB (sigGr.post [DV.n n0, DV.n n1]
  [DV.n (opI (SO.shl Go.IntKind.i64) (1 : Int) (n0 - (1 : Int)) - (1 : Int))]) (
true))))))))) := by kernel_rfl
set_option maxHeartbeats 8000000 in
theorem vt_gr : vcFn Try.prog [] tab [] 100 35 sigGr = true := by
  rw [vc_gr]
  try simp only [Int.toNat_natCast, List.length_set, List.length_replicate, List.length_take, List.length_drop, List.length_append, List.length_cons, List.length_nil, Nat.min_self, List.take_take, lenCols_i, lenCols_b, List.drop_zero, List.take_length, Nat.add_eq, Nat.mul_eq, Nat.sub_eq, Nat.zero_add, Nat.sub_zero, Nat.mul_one]
  refine all_i fun n0 => ?_
  refine imp_i fun h0 => ?_
  refine imp_i fun h1 => ?_
  refine all_i fun n1 => ?_
  refine imp_i fun h2 => ?_
  refine imp_i fun h3 => ?_
  refine imp_i fun h4 => ?_
  try simp only [sigGr, grPost, List.cons.injEq, DV.b.injEq, and_true, List.length_cons, List.length_nil] at h4
  rw [shl_one (by omega) (by omega)]
  have b1 := qq_bd (b := n0) (by omega) (by omega)
  rw [show p2 (n0 - 1) - 1 = qq n0 from rfl]
  refine req_i ?_ ?_
  · -- r0
    first | omega | assumption | grind
  refine req_i ?_ ?_
  · -- r1
    first | omega | assumption | grind
  refine req_i ?_ ?_
  · -- r2
    first | omega | ((try simp only [sigGr, grPost, List.cons.injEq, DV.b.injEq, and_true, List.length_cons, List.length_nil]); first | done | omega | assumption | grind [getD_set, getD_rep, toNat_succ, cntN_yes, cntN_no])
  rfl
theorem ext_gr : ∀ p ∈ ([] : List (Nat × Ext)), ExtRow Try.prog p.1 p.2 := by
  intro p hp
  cases hp
theorem cts_gr : CtsOk Try.prog [] := fun f c h => by cases h
theorem fn_gr : FnOk Try.prog 35 sigGr [] := fn_sound (by kernel_rfl) ext_gr cts_gr names vt_gr
end Go.Proofs.Ytemcaojbhfgpgaa

namespace Go.Proofs.Ytemcaojbhfgpgaa
open Go.Ev Go.Sp
set_option maxRecDepth 100000
theorem vc_hv0 : vcFn Try.prog [] tab [] 100 47 (sigHv 0 70368744177664) = (allB fun n0 : Int => 
impB ((0 : Int) ≤ n0) (
impB (n0 ≤ (70368744177664 : Int)) (
allB fun n1 : Int => 
impB ((0 : Int) ≤ n1) (
impB (n1 ≤ (30 : Int)) (
impB ((sigHv (0 : Int) (70368744177664 : Int)).pre [DV.n n0, DV.n n1]) (
reqB ((-70368744177664 : Int) ≤
  opI (SO.shr Go.IntKind.i64)
    (n0 + opI (SO.shl Go.IntKind.i64) (1 : Int) n1 / Int.ofNat (2 : Nat)) n1) (
reqB (opI (SO.shr Go.IntKind.i64)
    (n0 + opI (SO.shl Go.IntKind.i64) (1 : Int) n1 / Int.ofNat (2 : Nat)) n1 ≤
  (70368744177664 : Int)) (
reqB ((sigHv (0 : Int) (70368744177664 : Int)).post [DV.n n0, DV.n n1]
  [DV.n
      (opI (SO.shr Go.IntKind.i64)
        (n0 + opI (SO.shl Go.IntKind.i64) (1 : Int) n1 / Int.ofNat (2 : Nat)) n1)]) (
true))))))))) := by kernel_rfl
set_option maxHeartbeats 8000000 in
theorem vt_hv0 : vcFn Try.prog [] tab [] 100 47 (sigHv 0 70368744177664) = true := by
  rw [vc_hv0]
  try simp only [Int.toNat_natCast, List.length_set, List.length_replicate, List.length_take, List.length_drop, List.length_append, List.length_cons, List.length_nil, Nat.min_self, List.take_take, lenCols_i, lenCols_b, List.drop_zero, List.take_length, Nat.add_eq, Nat.mul_eq, Nat.sub_eq, Nat.zero_add, Nat.sub_zero, Nat.mul_one]
  refine all_i fun n0 => ?_
  refine imp_i fun h0 => ?_
  refine imp_i fun h1 => ?_
  refine all_i fun n1 => ?_
  refine imp_i fun h2 => ?_
  refine imp_i fun h3 => ?_
  refine imp_i fun h4 => ?_
  try simp only [sigHv, hvPost, List.cons.injEq, DV.b.injEq, and_true, List.length_cons, List.length_nil] at h4
  rw [shr_eq (by omega) (by omega), shl_one (by omega) (by omega), show (Int.ofNat 2) = 2 from rfl]
  have b1 := hv_bd (x := n0) (n := n1) (M := 70368744177664) (by omega) (by omega)
  have e1 : (n0 + p2 n1 / 2) / p2 n1 = hv n0 n1 := by rw [hv, if_neg (by omega)]
  rw [e1]
  refine req_i ?_ ?_
  · -- r0
    first | omega | assumption | grind
  refine req_i ?_ ?_
  · -- r1
    first | omega | assumption | grind
  refine req_i ?_ ?_
  · -- r2
    first | omega | ((try simp only [sigHv, hvPost, List.cons.injEq, DV.b.injEq, and_true, List.length_cons, List.length_nil]); first | done | omega | assumption | grind [getD_set, getD_rep, toNat_succ, cntN_yes, cntN_no])
  rfl
theorem ext_hv0 : ∀ p ∈ ([] : List (Nat × Ext)), ExtRow Try.prog p.1 p.2 := by
  intro p hp
  cases hp
theorem cts_hv0 : CtsOk Try.prog [] := fun f c h => by cases h
theorem fn_hv0 : FnOk Try.prog 47 (sigHv 0 70368744177664) [] := fn_sound (by kernel_rfl) ext_hv0 cts_hv0 names vt_hv0
end Go.Proofs.Ytemcaojbhfgpgaa

namespace Go.Proofs.Ytemcaojbhfgpgaa
open Go.Ev Go.Sp
set_option maxRecDepth 100000
theorem vc_hv1 : vcFn Try.prog [] tab [] 100 47 (sigHv (-70368744177664) (-1)) = (allB fun n0 : Int => 
impB ((-70368744177664 : Int) ≤ n0) (
impB (n0 ≤ (-1 : Int)) (
allB fun n1 : Int => 
impB ((0 : Int) ≤ n1) (
impB (n1 ≤ (30 : Int)) (
impB ((sigHv (-70368744177664 : Int) (-1 : Int)).pre [DV.n n0, DV.n n1]) (
reqB ((-70368744177664 : Int) ≤
  (0 : Int) -
    opI (SO.shr Go.IntKind.i64)
      (opI (SO.shl Go.IntKind.i64) (1 : Int) n1 / Int.ofNat (2 : Nat) - n0) n1) (
reqB ((0 : Int) -
    opI (SO.shr Go.IntKind.i64)
      (opI (SO.shl Go.IntKind.i64) (1 : Int) n1 / Int.ofNat (2 : Nat) - n0) n1 ≤
  (70368744177664 : Int)) (
reqB ((sigHv (-70368744177664 : Int) (-1 : Int)).post [DV.n n0, DV.n n1]
  [DV.n
      ((0 : Int) -
        opI (SO.shr Go.IntKind.i64)
          (opI (SO.shl Go.IntKind.i64) (1 : Int) n1 / Int.ofNat (2 : Nat) - n0) n1)]) (
true))))))))) := by kernel_rfl
set_option maxHeartbeats 8000000 in
theorem vt_hv1 : vcFn Try.prog [] tab [] 100 47 (sigHv (-70368744177664) (-1)) = true := by
  rw [vc_hv1]
  try simp only [Int.toNat_natCast, List.length_set, List.length_replicate, List.length_take, List.length_drop, List.length_append, List.length_cons, List.length_nil, Nat.min_self, List.take_take, lenCols_i, lenCols_b, List.drop_zero, List.take_length, Nat.add_eq, Nat.mul_eq, Nat.sub_eq, Nat.zero_add, Nat.sub_zero, Nat.mul_one]
  refine all_i fun n0 => ?_
  refine imp_i fun h0 => ?_
  refine imp_i fun h1 => ?_
  refine all_i fun n1 => ?_
  refine imp_i fun h2 => ?_
  refine imp_i fun h3 => ?_
  refine imp_i fun h4 => ?_
  try simp only [sigHv, hvPost, List.cons.injEq, DV.b.injEq, and_true, List.length_cons, List.length_nil] at h4
  rw [shr_eq (by omega) (by omega), shl_one (by omega) (by omega), show (Int.ofNat 2) = 2 from rfl]
  have b1 := hv_bd (x := n0) (n := n1) (M := 70368744177664) (by omega) (by omega)
  have e1 : 0 - (p2 n1 / 2 - n0) / p2 n1 = hv n0 n1 := by rw [hv, if_pos (by omega)]; omega
  rw [e1]
  refine req_i ?_ ?_
  · -- r0
    first | omega | assumption | grind
  refine req_i ?_ ?_
  · -- r1
    first | omega | assumption | grind
  refine req_i ?_ ?_
  · -- r2
    first | omega | ((try simp only [sigHv, hvPost, List.cons.injEq, DV.b.injEq, and_true, List.length_cons, List.length_nil]); first | done | omega | assumption | grind [getD_set, getD_rep, toNat_succ, cntN_yes, cntN_no])
  rfl
theorem ext_hv1 : ∀ p ∈ ([] : List (Nat × Ext)), ExtRow Try.prog p.1 p.2 := by
  intro p hp
  cases hp
theorem cts_hv1 : CtsOk Try.prog [] := fun f c h => by cases h
theorem fn_hv1 : FnOk Try.prog 47 (sigHv (-70368744177664) (-1)) [] := fn_sound (by kernel_rfl) ext_hv1 cts_hv1 names vt_hv1
end Go.Proofs.Ytemcaojbhfgpgaa

namespace Go.Proofs.Ytemcaojbhfgpgaa
open Go.Ev Go.Sp
theorem fn_hv : FnOk Try.prog 47 (sigHv (-70368744177664) 70368744177664) [] := by
  exact fn_split1 (m := 0) (m' := -1) (by decide) fn_hv0 fn_hv1
end Go.Proofs.Ytemcaojbhfgpgaa

namespace Go.Proofs.Ytemcaojbhfgpgaa
open Go.Ev Go.Sp
set_option maxRecDepth 100000
theorem vc_lev : vcFn Try.prog [(35, Ext.ctr (ctOf sigGr)), (47, Ext.ctr (ctOf (sigHv (-70368744177664) 70368744177664)))] tab [] 100 32 sigLev = (allB fun n0 : Int => 
impB ((2 : Int) ≤ n0) (
impB (n0 ≤ (8 : Int)) (
allB fun n1 : Int => 
impB ((0 : Int) ≤ n1) (
impB (n1 ≤ (30 : Int)) (
allB fun n2 : Int => 
impB ((-70368744177664 : Int) ≤ n2) (
impB (n2 ≤ (70368744177664 : Int)) (
impB (sigLev.pre [DV.n n0, DV.n n1, DV.n n2]) (
reqB ((2 : Int) ≤ n0) (
reqB (n0 ≤ (8 : Int)) (
reqB ((0 : Int) ≤ n1) (
reqB (n1 ≤ (30 : Int)) (
reqB (sigGr.pre [DV.n n0, DV.n n1]) (
allB fun n3 : Int => 
impB ((1 : Int) ≤ n3) (
impB (n3 ≤ (127 : Int)) (
impB (sigGr.post [DV.n n0, DV.n n1] [DV.n n3]) (
reqB ((-70368744177664 : Int) ≤ n2) (
reqB (n2 ≤ (70368744177664 : Int)) (
reqB ((0 : Int) ≤ n1) (
reqB (n1 ≤ (30 : Int)) (
reqB ((sigHv (-70368744177664 : Int) (70368744177664 : Int)).pre [DV.n n2, DV.n n1]) (
allB fun n4 : Int => 
impB ((-70368744177664 : Int) ≤ n4) (
impB (n4 ≤ (70368744177664 : Int)) (
impB ((sigHv (-70368744177664 : Int) (70368744177664 : Int)).post [DV.n n2, DV.n n1] [DV.n n4]) (
reqB ((-127 : Int) ≤ Min.min (Max.max n4 ((0 : Int) - n3)) n3) (
reqB (Min.min (Max.max n4 ((0 : Int) - n3)) n3 ≤ (127 : Int)) (
reqB (sigLev.post [DV.n n0, DV.n n1, DV.n n2] [DV.n (Min.min (Max.max n4 ((0 : Int) - n3)) n3)]) (
true))))))))))))))))))))))))))) := by kernel_rfl
set_option maxHeartbeats 8000000 in
theorem vt_lev : vcFn Try.prog [(35, Ext.ctr (ctOf sigGr)), (47, Ext.ctr (ctOf (sigHv (-70368744177664) 70368744177664)))] tab [] 100 32 sigLev = true := by
  rw [vc_lev]
  try simp only [Int.toNat_natCast, List.length_set, List.length_replicate, List.length_take, List.length_drop, List.length_append, List.length_cons, List.length_nil, Nat.min_self, List.take_take, lenCols_i, lenCols_b, List.drop_zero, List.take_length, Nat.add_eq, Nat.mul_eq, Nat.sub_eq, Nat.zero_add, Nat.sub_zero, Nat.mul_one]
  refine all_i fun n0 => ?_
  refine imp_i fun h0 => ?_
  refine imp_i fun h1 => ?_
  refine all_i fun n1 => ?_
  refine imp_i fun h2 => ?_
  refine imp_i fun h3 => ?_
  refine all_i fun n2 => ?_
  refine imp_i fun h4 => ?_
  refine imp_i fun h5 => ?_
  refine imp_i fun h6 => ?_
  try simp only [sigLev, levPost, List.cons.injEq, DV.b.injEq, and_true, List.length_cons, List.length_nil] at h6
  refine req_i ?_ ?_
  · -- r0
    first | omega | assumption | grind
  refine req_i ?_ ?_
  · -- r1
    first | omega | assumption | grind
  refine req_i ?_ ?_
  · -- r2
    first | omega | assumption | grind
  refine req_i ?_ ?_
  · -- r3
    first | omega | assumption | grind
  refine req_i ?_ ?_
  · -- r4
    first | trivial | assumption | (simp only [sigGr, grPost, List.cons.injEq, DV.b.injEq, and_true, List.length_cons, List.length_nil]; done) | ((try simp only [sigGr, grPost, List.cons.injEq, DV.b.injEq, and_true, List.length_cons, List.length_nil]); first | omega | assumption | grind)
  refine all_i fun n3 => ?_
  refine imp_i fun h7 => ?_
  refine imp_i fun h8 => ?_
  refine imp_i fun h9 => ?_
  try simp only [sigGr, grPost, List.cons.injEq, DV.b.injEq, and_true, List.length_cons, List.length_nil] at h9
  refine req_i ?_ ?_
  · -- r5
    first | omega | assumption | grind
  refine req_i ?_ ?_
  · -- r6
    first | omega | assumption | grind
  refine req_i ?_ ?_
  · -- r7
    first | omega | assumption | grind
  refine req_i ?_ ?_
  · -- r8
    first | omega | assumption | grind
  refine req_i ?_ ?_
  · -- r9
    first | trivial | assumption | (simp only [sigHv, hvPost, List.cons.injEq, DV.b.injEq, and_true, List.length_cons, List.length_nil]; done) | ((try simp only [sigHv, hvPost, List.cons.injEq, DV.b.injEq, and_true, List.length_cons, List.length_nil]); first | omega | assumption | grind)
  refine all_i fun n4 => ?_
  refine imp_i fun h10 => ?_
  refine imp_i fun h11 => ?_
  refine imp_i fun h12 => ?_
  try simp only [sigHv, hvPost, List.cons.injEq, DV.b.injEq, and_true, List.length_cons, List.length_nil] at h12
  refine req_i ?_ ?_
  · -- r10
    first | omega | assumption | grind
  refine req_i ?_ ?_
  · -- r11
    first | omega | assumption | grind
  refine req_i ?_ ?_
  · -- r12
    simp only [sigLev, levPost, lev]; rw [← h9, ← h12]; omega
  rfl
theorem ext_lev : ∀ p ∈ ([(35, Ext.ctr (ctOf sigGr)), (47, Ext.ctr (ctOf (sigHv (-70368744177664) 70368744177664)))] : List (Nat × Ext)), ExtRow Try.prog p.1 p.2 := by
  intro p hp
  simp only [List.mem_cons, List.not_mem_nil, or_false] at hp
  rcases hp with rfl | rfl
  · trivial
  · trivial
theorem cts_lev : CtsOk Try.prog [(35, Ext.ctr (ctOf sigGr)), (47, Ext.ctr (ctOf (sigHv (-70368744177664) 70368744177664)))] := ctsOk_of (cs := [(35, sigGr), (47, (sigHv (-70368744177664) 70368744177664))])
  (fun p hp => by
    simp only [List.mem_cons, List.not_mem_nil, or_false] at hp
    rcases hp with rfl | rfl
    · exact fn_gr
    · exact fn_hv
)
  (fun f c h => by
    simp only [List.lookup_cons] at h
    repeat' split at h
    all_goals first | (cases h; done) | (rename_i e; have e := beq_iff_eq.1 e; subst e; cases h; exact ⟨_, by simp, rfl⟩))
theorem fn_lev : FnOk Try.prog 32 sigLev [] := fn_sound (by kernel_rfl) ext_lev cts_lev names vt_lev
end Go.Proofs.Ytemcaojbhfgpgaa

namespace Go.Proofs.Ytemcaojbhfgpgaa
open Go.Ev Go.Sp
set_option maxRecDepth 100000
theorem vc_lost : vcFn Try.prog [(32, Ext.ctr (ctOf sigLev)), (47, Ext.ctr (ctOf (sigHv (-70368744177664) 70368744177664)))] tab [] 100 33 sigLost = (allB fun n0 : Int => 
impB ((2 : Int) ≤ n0) (
impB (n0 ≤ (8 : Int)) (
allB fun n1 : Int => 
impB ((0 : Int) ≤ n1) (
impB (n1 ≤ (30 : Int)) (
allB fun n2 : Int => 
impB ((-70368744177664 : Int) ≤ n2) (
impB (n2 ≤ (70368744177664 : Int)) (
impB (sigLost.pre [DV.n n0, DV.n n1, DV.n n2]) (
reqB ((2 : Int) ≤ n0) (
reqB (n0 ≤ (8 : Int)) (
reqB ((0 : Int) ≤ n1) (
reqB (n1 ≤ (30 : Int)) (
reqB ((-70368744177664 : Int) ≤ n2) (
reqB (n2 ≤ (70368744177664 : Int)) (
reqB (sigLev.pre [DV.n n0, DV.n n1, DV.n n2]) (
allB fun n3 : Int => 
impB ((-127 : Int) ≤ n3) (
impB (n3 ≤ (127 : Int)) (
impB (sigLev.post [DV.n n0, DV.n n1, DV.n n2] [DV.n n3]) (
reqB ((-70368744177664 : Int) ≤ n2) (
reqB (n2 ≤ (70368744177664 : Int)) (
reqB ((0 : Int) ≤ n1) (
reqB (n1 ≤ (30 : Int)) (
reqB ((sigHv (-70368744177664 : Int) (70368744177664 : Int)).pre [DV.n n2, DV.n n1]) (
allB fun n4 : Int => 
impB ((-70368744177664 : Int) ≤ n4) (
impB (n4 ≤ (70368744177664 : Int)) (
impB ((sigHv (-70368744177664 : Int) (70368744177664 : Int)).post [DV.n n2, DV.n n1] [DV.n n4]) (
reqB (sigLost.post [DV.n n0, DV.n n1, DV.n n2] [DV.b (dec (n3 ≠ n4))]) (
true))))))))))))))))))))))))))) := by kernel_rfl
set_option maxHeartbeats 8000000 in
theorem vt_lost : vcFn Try.prog [(32, Ext.ctr (ctOf sigLev)), (47, Ext.ctr (ctOf (sigHv (-70368744177664) 70368744177664)))] tab [] 100 33 sigLost = true := by
  rw [vc_lost]
  try simp only [Int.toNat_natCast, List.length_set, List.length_replicate, List.length_take, List.length_drop, List.length_append, List.length_cons, List.length_nil, Nat.min_self, List.take_take, lenCols_i, lenCols_b, List.drop_zero, List.take_length, Nat.add_eq, Nat.mul_eq, Nat.sub_eq, Nat.zero_add, Nat.sub_zero, Nat.mul_one]
  refine all_i fun n0 => ?_
  refine imp_i fun h0 => ?_
  refine imp_i fun h1 => ?_
  refine all_i fun n1 => ?_
  refine imp_i fun h2 => ?_
  refine imp_i fun h3 => ?_
  refine all_i fun n2 => ?_
  refine imp_i fun h4 => ?_
  refine imp_i fun h5 => ?_
  refine imp_i fun h6 => ?_
  try simp only [sigLost, lostPost, List.cons.injEq, DV.b.injEq, and_true, List.length_cons, List.length_nil] at h6
  refine req_i ?_ ?_
  · -- r0
    first | omega | assumption | grind
  refine req_i ?_ ?_
  · -- r1
    first | omega | assumption | grind
  refine req_i ?_ ?_
  · -- r2
    first | omega | assumption | grind
  refine req_i ?_ ?_
  · -- r3
    first | omega | assumption | grind
  refine req_i ?_ ?_
  · -- r4
    first | omega | assumption | grind
  refine req_i ?_ ?_
  · -- r5
    first | omega | assumption | grind
  refine req_i ?_ ?_
  · -- r6
    first | trivial | assumption | (simp only [sigLev, levPost, List.cons.injEq, DV.b.injEq, and_true, List.length_cons, List.length_nil]; done) | ((try simp only [sigLev, levPost, List.cons.injEq, DV.b.injEq, and_true, List.length_cons, List.length_nil]); first | omega | assumption | grind)
  refine all_i fun n3 => ?_
  refine imp_i fun h7 => ?_
  refine imp_i fun h8 => ?_
  refine imp_i fun h9 => ?_
  try simp only [sigLev, levPost, List.cons.injEq, DV.b.injEq, and_true, List.length_cons, List.length_nil] at h9
  refine req_i ?_ ?_
  · -- r7
    first | omega | assumption | grind
  refine req_i ?_ ?_
  · -- r8
    first | omega | assumption | grind
  refine req_i ?_ ?_
  · -- r9
    first | omega | assumption | grind
  refine req_i ?_ ?_
  · -- r10
    first | omega | assumption | grind
  refine req_i ?_ ?_
  · -- r11
    first | trivial | assumption | (simp only [sigHv, hvPost, List.cons.injEq, DV.b.injEq, and_true, List.length_cons, List.length_nil]; done) | ((try simp only [sigHv, hvPost, List.cons.injEq, DV.b.injEq, and_true, List.length_cons, List.length_nil]); first | omega | assumption | grind)
  refine all_i fun n4 => ?_
  refine imp_i fun h10 => ?_
  refine imp_i fun h11 => ?_
  refine imp_i fun h12 => ?_
  try simp only [sigHv, hvPost, List.cons.injEq, DV.b.injEq, and_true, List.length_cons, List.length_nil] at h12
  refine req_i ?_ ?_
  · -- r12
    first | omega | ((try simp only [sigLost, lostPost, List.cons.injEq, DV.b.injEq, and_true, List.length_cons, List.length_nil, dec_iff]); first | done | omega | assumption | grind [getD_set, getD_rep, toNat_succ, cntN_yes, cntN_no])
  rfl
theorem ext_lost : ∀ p ∈ ([(32, Ext.ctr (ctOf sigLev)), (47, Ext.ctr (ctOf (sigHv (-70368744177664) 70368744177664)))] : List (Nat × Ext)), ExtRow Try.prog p.1 p.2 := by
  intro p hp
  simp only [List.mem_cons, List.not_mem_nil, or_false] at hp
  rcases hp with rfl | rfl
  · trivial
  · trivial
theorem cts_lost : CtsOk Try.prog [(32, Ext.ctr (ctOf sigLev)), (47, Ext.ctr (ctOf (sigHv (-70368744177664) 70368744177664)))] := ctsOk_of (cs := [(32, sigLev), (47, (sigHv (-70368744177664) 70368744177664))])
  (fun p hp => by
    simp only [List.mem_cons, List.not_mem_nil, or_false] at hp
    rcases hp with rfl | rfl
    · exact fn_lev
    · exact fn_hv
)
  (fun f c h => by
    simp only [List.lookup_cons] at h
    repeat' split at h
    all_goals first | (cases h; done) | (rename_i e; have e := beq_iff_eq.1 e; subst e; cases h; exact ⟨_, by simp, rfl⟩))
theorem fn_lost : FnOk Try.prog 33 sigLost [] := fn_sound (by kernel_rfl) ext_lost cts_lost names vt_lost
end Go.Proofs.Ytemcaojbhfgpgaa

namespace Go.Proofs.Ytemcaojbhfgpgaa
open Go.Ev Go.Sp
set_option maxRecDepth 100000
theorem vc_los : vcFn Try.prog [(33, Ext.ctr (ctOf sigLost))] tab [] 100 40 sigLos = (allB fun n0 : Int => 
impB ((2 : Int) ≤ n0) (
impB (n0 ≤ (8 : Int)) (
allB fun n1 : Int => 
impB ((0 : Int) ≤ n1) (
impB (n1 ≤ (30 : Int)) (
allB fun l2 : List Int => 
impB (l2.length ≤ (300 : Nat)) (
impB (∀ (y : Int), y ∈ l2 → (-9223372036854775808 : Int) ≤ y ∧ y ≤ (9223372036854775807 : Int)) (
allB fun l3 : List Int => 
impB (l3.length = l2.length) (
impB (∀ (y : Int), y ∈ l3 → (-9223372036854775808 : Int) ≤ y ∧ y ≤ (9223372036854775807 : Int)) (
impB (sigLos.pre [DV.n n0, DV.n n1, DV.l l2, DV.l l3]) (
reqB (((0 : Nat) + l2.length) * (2 : Nat) ≤ l2.length.mul (2 : Nat)) (
reqB (l2.length ≤ (300 : Nat)) (
reqB ((List.take l2.length (List.drop (0 : Nat) l2)).length = l2.length) (
reqB (∀ (y : Int),
  y ∈ List.take l2.length (List.drop (0 : Nat) l2) → (-9223372036854775808 : Int) ≤ y ∧ y ≤ (9223372036854775807 : Int)) (
reqB ((List.take l2.length (List.drop (0 : Nat) l3)).length = l2.length) (
reqB (∀ (y : Int),
  y ∈ List.take l2.length (List.drop (0 : Nat) l3) → (-9223372036854775808 : Int) ≤ y ∧ y ≤ (9223372036854775807 : Int)) (
reqB ((-9223372036854775808 : Int) ≤ n0) (
reqB (n0 ≤ (9223372036854775807 : Int)) (
reqB ((-9223372036854775808 : Int) ≤ n1) (
reqB (n1 ≤ (9223372036854775807 : Int)) (
reqB (losL2.inv
  [DV.l (List.take l2.length (List.drop (0 : Nat) l2)), DV.l (List.take l2.length (List.drop (0 : Nat) l3)),
    DV.n n0, DV.n n1]
  [DV.n (0 : Int), DV.n (0 : Int)]) (
allB fun n4 : Int => 
impB ((0 : Int) ≤ n4) (
impB (n4 ≤ (300 : Int)) (
allB fun n5 : Int => 
impB ((0 : Int) ≤ n5) (
impB (n5 ≤ (300 : Int)) (
impB (losL2.inv
  [DV.l (List.take l2.length (List.drop (0 : Nat) l2)), DV.l (List.take l2.length (List.drop (0 : Nat) l3)),
    DV.n n0, DV.n n1]
  [DV.n n4, DV.n n5]) (
bR (dec (n4 < (↑l2.length : Int))) (
 reqB (n4.toNat < l2.length) (
 reqB (Nat.add (0 : Nat) n4.toNat < l2.length) (
 reqB (Nat.add (0 : Nat) n4.toNat < l3.length) (
 reqB ((2 : Int) ≤ n0) (
 reqB (n0 ≤ (8 : Int)) (
 reqB ((0 : Int) ≤ n1) (
 reqB (n1 ≤ (30 : Int)) (
 reqB ((-70368744177664 : Int) ≤ l2.getD (Nat.add (0 : Nat) n4.toNat) (0 : Int)) (
 reqB (l2.getD (Nat.add (0 : Nat) n4.toNat) (0 : Int) ≤ (70368744177664 : Int)) (
 reqB (sigLost.pre [DV.n n0, DV.n n1, DV.n (l2.getD (Nat.add (0 : Nat) n4.toNat) (0 : Int))]) (
 allB fun b6 : Bool => 
 impB (sigLost.post [DV.n n0, DV.n n1, DV.n (l2.getD (Nat.add (0 : Nat) n4.toNat) (0 : Int))]
  [DV.b b6]) (
 bR (b6) (
  bR (bR (bR (dec ((0 : Nat) = (0 : Nat))) (
   dec (l2.length = l2.length)) (
   false)) (
   bR (dec ((↑l2.length : Int) = (↑l2.length : Int))) (
    true) (
    false)) (
   false)) (
   bR (bR (bR (dec (n0 = n0)) (
    bR (dec (n1 = n1)) (
     true) (
     false)) (
    false)) (
    true) (
    false)) (
    reqB ((0 : Int) ≤ n4 + (1 : Int)) (
    reqB (n4 + (1 : Int) ≤ (300 : Int)) (
    reqB ((0 : Int) ≤ n5 + (1 : Int)) (
    reqB (n5 + (1 : Int) ≤ (300 : Int)) (
    reqB (losL2.inv
  [DV.l (List.take l2.length (List.drop (0 : Nat) l2)), DV.l (List.take l2.length (List.drop (0 : Nat) l3)),
    DV.n n0, DV.n n1]
  [DV.n (n4 + (1 : Int)), DV.n (n5 + (1 : Int))]) (
    reqB (losL2.mea
    [DV.l (List.take l2.length (List.drop (0 : Nat) l2)),
      DV.l (List.take l2.length (List.drop (0 : Nat) l3)), DV.n n0, DV.n n1]
    [DV.n (n4 + (1 : Int)), DV.n (n5 + (1 : Int))] <
  losL2.mea
    [DV.l (List.take l2.length (List.drop (0 : Nat) l2)),
      DV.l (List.take l2.length (List.drop (0 : Nat) l3)), DV.n n0, DV.n n1]
    [DV.n n4, DV.n n5]) (
    true))))))) (
    false)) (
   false)) (
  reqB ((2 : Int) ≤ n0) (
  reqB (n0 ≤ (8 : Int)) (
  reqB ((0 : Int) ≤ n1) (
  reqB (n1 ≤ (30 : Int)) (
  reqB ((-70368744177664 : Int) ≤ l3.getD (Nat.add (0 : Nat) n4.toNat) (0 : Int)) (
  reqB (l3.getD (Nat.add (0 : Nat) n4.toNat) (0 : Int) ≤ (70368744177664 : Int)) (
  reqB (sigLost.pre [DV.n n0, DV.n n1, DV.n (l3.getD (Nat.add (0 : Nat) n4.toNat) (0 : Int))]) (
  allB fun b7 : Bool => 
  impB (sigLost.post [DV.n n0, DV.n n1, DV.n (l3.getD (Nat.add (0 : Nat) n4.toNat) (0 : Int))]
  [DV.b b7]) (
  bR (b7) (
   bR (bR (bR (dec ((0 : Nat) = (0 : Nat))) (
    dec (l2.length = l2.length)) (
    false)) (
    bR (dec ((↑l2.length : Int) = (↑l2.length : Int))) (
     true) (
     false)) (
    false)) (
    bR (bR (bR (dec (n0 = n0)) (
     bR (dec (n1 = n1)) (
      true) (
      false)) (
     false)) (
     true) (
     false)) (
     reqB ((0 : Int) ≤ n4 + (1 : Int)) (
     reqB (n4 + (1 : Int) ≤ (300 : Int)) (
     reqB ((0 : Int) ≤ n5 + (1 : Int)) (
     reqB (n5 + (1 : Int) ≤ (300 : Int)) (
     reqB (losL2.inv
  [DV.l (List.take l2.length (List.drop (0 : Nat) l2)), DV.l (List.take l2.length (List.drop (0 : Nat) l3)),
    DV.n n0, DV.n n1]
  [DV.n (n4 + (1 : Int)), DV.n (n5 + (1 : Int))]) (
     reqB (losL2.mea
    [DV.l (List.take l2.length (List.drop (0 : Nat) l2)),
      DV.l (List.take l2.length (List.drop (0 : Nat) l3)), DV.n n0, DV.n n1]
    [DV.n (n4 + (1 : Int)), DV.n (n5 + (1 : Int))] <
  losL2.mea
    [DV.l (List.take l2.length (List.drop (0 : Nat) l2)),
      DV.l (List.take l2.length (List.drop (0 : Nat) l3)), DV.n n0, DV.n n1]
    [DV.n n4, DV.n n5]) (
     true))))))) (
     false)) (
    false)) (
   bR (bR (bR (dec ((0 : Nat) = (0 : Nat))) (
    dec (l2.length = l2.length)) (
    false)) (
    bR (dec ((↑l2.length : Int) = (↑l2.length : Int))) (
     true) (
     false)) (
    false)) (
    bR (bR (bR (dec (n0 = n0)) (
     bR (dec (n1 = n1)) (
      true) (
      false)) (
     false)) (
     true) (
     false)) (
     reqB ((0 : Int) ≤ n4 + (1 : Int)) (
     reqB (n4 + (1 : Int) ≤ (300 : Int)) (
     reqB ((0 : Int) ≤ n5) (
     reqB (n5 ≤ (300 : Int)) (
     reqB (losL2.inv
  [DV.l (List.take l2.length (List.drop (0 : Nat) l2)), DV.l (List.take l2.length (List.drop (0 : Nat) l3)),
    DV.n n0, DV.n n1]
  [DV.n (n4 + (1 : Int)), DV.n n5]) (
     reqB (losL2.mea
    [DV.l (List.take l2.length (List.drop (0 : Nat) l2)),
      DV.l (List.take l2.length (List.drop (0 : Nat) l3)), DV.n n0, DV.n n1]
    [DV.n (n4 + (1 : Int)), DV.n n5] <
  losL2.mea
    [DV.l (List.take l2.length (List.drop (0 : Nat) l2)),
      DV.l (List.take l2.length (List.drop (0 : Nat) l3)), DV.n n0, DV.n n1]
    [DV.n n4, DV.n n5]) (
     true))))))) (
     false)) (
    false))))))))))))))))))))))) (
 reqB ((0 : Int) ≤ n5) (
 reqB (n5 ≤ (300 : Int)) (
 reqB (sigLos.post [DV.n n0, DV.n n1, DV.l l2, DV.l l3] [DV.n n5]) (
 true)))))))))))))))))))))))))))))) := by kernel_rfl
set_option maxHeartbeats 8000000 in
theorem vt_los : vcFn Try.prog [(33, Ext.ctr (ctOf sigLost))] tab [] 100 40 sigLos = true := by
  rw [vc_los]
  try simp only [Int.toNat_natCast, List.length_set, List.length_replicate, List.length_take, List.length_drop, List.length_append, List.length_cons, List.length_nil, Nat.min_self, List.take_take, lenCols_i, lenCols_b, List.drop_zero, List.take_length, Nat.add_eq, Nat.mul_eq, Nat.sub_eq, Nat.zero_add, Nat.sub_zero, Nat.mul_one]
  refine all_i fun n0 => ?_
  refine imp_i fun h0 => ?_
  refine imp_i fun h1 => ?_
  refine all_i fun n1 => ?_
  refine imp_i fun h2 => ?_
  refine imp_i fun h3 => ?_
  refine all_i fun l2 => ?_
  refine imp_i fun h4 => ?_
  refine imp_i fun h5 => ?_
  refine all_i fun l3 => ?_
  refine imp_i fun h6 => ?_
  have tkl3 := take_eq h6
  try simp only [tkl3]
  refine imp_i fun h7 => ?_
  refine imp_i fun h8 => ?_
  try simp only [sigLos, losPre, losPost, inS, List.cons.injEq, DV.b.injEq, and_true, List.length_cons, List.length_nil] at h8
  have cz : cntN (lostAt n0 n1 l2 l3) 0 = 0 := rfl
  refine req_i ?_ ?_
  · -- r0
    first | omega | ((try simp only [Nat.mul_eq]); first | done | omega | assumption | grind [getD_set, getD_rep, toNat_succ, cntN_yes, cntN_no])
  refine req_i ?_ ?_
  · -- r1
    first | omega | ((try simp only [Nat.zero_add]); first | done | omega | assumption | grind [getD_set, getD_rep, toNat_succ, cntN_yes, cntN_no])
  refine req_i ?_ ?_
  · -- r2
    first | omega | ((try simp only [List.length_take, List.take_length, List.take_take, Nat.min_self, List.length_drop, List.drop_zero, List.length_cons, List.length_nil]); first | done | omega | assumption | grind [getD_set, getD_rep, toNat_succ, cntN_yes, cntN_no])
  refine req_i ?_ ?_
  · -- r3
    first | assumption | exact rep_bd (by omega) (by omega) | exact set_bd (by assumption) (by omega) (by omega) | exact take_bd (by assumption) | ((try simp only [List.length_take, List.take_length, List.take_take, Nat.min_self, List.length_drop, List.drop_zero, List.length_cons, List.length_nil]); first | assumption | exact rep_bd (by omega) (by omega) | exact set_bd (by assumption) (by omega) (by omega) | exact take_bd (by assumption) | grind [getD_set, getD_rep, toNat_succ, cntN_yes, cntN_no])
  refine req_i ?_ ?_
  · -- r4
    first | omega | ((try simp only [List.length_take, List.take_length, List.take_take, Nat.min_self, List.length_drop, List.drop_zero, List.length_cons, List.length_nil]); first | done | omega | assumption | grind [getD_set, getD_rep, toNat_succ, cntN_yes, cntN_no])
  refine req_i ?_ ?_
  · -- r5
    first | assumption | exact rep_bd (by omega) (by omega) | exact set_bd (by assumption) (by omega) (by omega) | exact take_bd (by assumption) | ((try simp only [List.length_take, List.take_length, List.take_take, Nat.min_self, List.length_drop, List.drop_zero, List.length_cons, List.length_nil]); first | assumption | exact rep_bd (by omega) (by omega) | exact set_bd (by assumption) (by omega) (by omega) | exact take_bd (by assumption) | grind [getD_set, getD_rep, toNat_succ, cntN_yes, cntN_no])
  refine req_i ?_ ?_
  · -- r6
    first | omega | assumption | grind
  refine req_i ?_ ?_
  · -- r7
    first | omega | assumption | grind
  refine req_i ?_ ?_
  · -- r8
    first | omega | assumption | grind
  refine req_i ?_ ?_
  · -- r9
    first | omega | assumption | grind
  refine req_i ?_ ?_
  · -- r10
    first | omega | ((try simp only [losL2, losInv, mea0, List.cons.injEq, DV.b.injEq, and_true, List.length_take, List.take_length, List.take_take, Nat.min_self, List.length_drop, List.drop_zero, List.length_cons, List.length_nil]); first | done | omega | assumption | grind [getD_set, getD_rep, toNat_succ, cntN_yes, cntN_no])
  refine all_i fun n4 => ?_
  refine imp_i fun h9 => ?_
  refine imp_i fun h10 => ?_
  refine all_i fun n5 => ?_
  refine imp_i fun h11 => ?_
  refine imp_i fun h12 => ?_
  refine imp_i fun h13 => ?_
  try simp only [losL2, losInv, mea0, List.cons.injEq, DV.b.injEq, and_true, List.length_take, List.take_length, List.take_take, Nat.min_self, List.length_drop, List.drop_zero, List.length_cons, List.length_nil] at h13
  refine bR_dec (fun h14 => ?_) (fun h14 => ?_)
  ·
    have ib := inS_bd h8 (i := n4) (by omega)
    have cb := cntN_bd (p := lostAt n0 n1 l2 l3) (n := n4.toNat)
    refine req_i ?_ ?_
    · -- r11
      first | omega | ((try simp only [Int.toNat_natCast, List.length_cons, List.length_nil]); first | done | omega | assumption | grind [getD_set, getD_rep, toNat_succ, cntN_yes, cntN_no])
    refine req_i ?_ ?_
    · -- r12
      first | omega | ((try simp only [Int.toNat_natCast, List.length_cons, List.length_nil, Nat.add_eq, Nat.zero_add]); first | done | omega | assumption | grind [getD_set, getD_rep, toNat_succ, cntN_yes, cntN_no])
    refine req_i ?_ ?_
    · -- r13
      first | omega | ((try simp only [Int.toNat_natCast, List.length_cons, List.length_nil, Nat.add_eq, Nat.zero_add]); first | done | omega | assumption | grind [getD_set, getD_rep, toNat_succ, cntN_yes, cntN_no])
    refine req_i ?_ ?_
    · -- r14
      first | omega | assumption | grind
    refine req_i ?_ ?_
    · -- r15
      first | omega | assumption | grind
    refine req_i ?_ ?_
    · -- r16
      first | omega | assumption | grind
    refine req_i ?_ ?_
    · -- r17
      first | omega | assumption | grind
    refine req_i ?_ ?_
    · -- r18
      first | omega | assumption | grind
    refine req_i ?_ ?_
    · -- r19
      first | omega | assumption | grind
    refine req_i ?_ ?_
    · -- r20
      first | trivial | assumption | (simp only [sigLost, lostPost, List.cons.injEq, DV.b.injEq, and_true, Int.toNat_natCast, List.length_cons, List.length_nil, Nat.add_eq, Nat.zero_add]; done) | ((try simp only [sigLost, lostPost, List.cons.injEq, DV.b.injEq, and_true, Int.toNat_natCast, List.length_cons, List.length_nil, Nat.add_eq, Nat.zero_add]); first | omega | assumption | grind)
    refine all_i fun b6 => ?_
    refine imp_i fun h15 => ?_
    try simp only [sigLost, lostPost, List.cons.injEq, DV.b.injEq, and_true, Int.toNat_natCast, List.length_cons, List.length_nil, Nat.add_eq, Nat.zero_add] at h15
    refine bR_i (fun h16 => ?_) (fun h16 => ?_)
    ·
      have cs := cntN_yes (p := lostAt n0 n1 l2 l3) (n := n4.toNat) (.inl (h15.1 h16))
      refine bR_t ?_ ?_
      · -- g0
        first | rfl | (simp only [bR_iff, bR_iff_f, dec_iff, dec_f, beqB_iff', andB_iff', reduceCtorEq, imp_self, false_implies, and_true, true_and, implies_true, and_self]; done) | (simp [bR_iff, dec_iff, beqB_iff', andB_iff']; done) | (simp [bR_iff, dec_iff, beqB_iff', andB_iff']; omega)
      refine bR_t ?_ ?_
      · -- g1
        first | rfl | (simp only [bR_iff, bR_iff_f, dec_iff, dec_f, beqB_iff', andB_iff', reduceCtorEq, imp_self, false_implies, and_true, true_and, implies_true, and_self]; done) | (simp [bR_iff, dec_iff, beqB_iff', andB_iff']; done) | (simp [bR_iff, dec_iff, beqB_iff', andB_iff']; omega)
      refine req_i ?_ ?_
      · -- r21
        first | omega | assumption | grind
      refine req_i ?_ ?_
      · -- r22
        first | omega | assumption | grind
      refine req_i ?_ ?_
      · -- r23
        first | omega | assumption | grind
      refine req_i ?_ ?_
      · -- r24
        first | omega | assumption | grind
      refine req_i ?_ ?_
      · -- r25
        first | omega | ((try simp only [losL2, losInv, mea0, List.cons.injEq, DV.b.injEq, and_true, List.length_take, List.take_length, List.take_take, Nat.min_self, List.length_drop, List.drop_zero, List.length_cons, List.length_nil]); first | done | omega | assumption | grind [getD_set, getD_rep, toNat_succ, cntN_yes, cntN_no])
      refine req_i ?_ ?_
      · -- r26
        first | omega | ((try simp only [losL2, losInv, mea0, List.cons.injEq, DV.b.injEq, and_true, List.length_take, List.take_length, List.take_take, Nat.min_self, List.length_drop, List.drop_zero, List.length_cons, List.length_nil]); first | done | omega | assumption | grind [getD_set, getD_rep, toNat_succ, cntN_yes, cntN_no])
      rfl
    ·
      refine req_i ?_ ?_
      · -- r27
        first | omega | assumption | grind
      refine req_i ?_ ?_
      · -- r28
        first | omega | assumption | grind
      refine req_i ?_ ?_
      · -- r29
        first | omega | assumption | grind
      refine req_i ?_ ?_
      · -- r30
        first | omega | assumption | grind
      refine req_i ?_ ?_
      · -- r31
        first | omega | assumption | grind
      refine req_i ?_ ?_
      · -- r32
        first | omega | assumption | grind
      refine req_i ?_ ?_
      · -- r33
        first | trivial | assumption | (simp only [sigLost, lostPost, List.cons.injEq, DV.b.injEq, and_true, Int.toNat_natCast, List.length_cons, List.length_nil, Nat.add_eq, Nat.zero_add]; done) | ((try simp only [sigLost, lostPost, List.cons.injEq, DV.b.injEq, and_true, Int.toNat_natCast, List.length_cons, List.length_nil, Nat.add_eq, Nat.zero_add]); first | omega | assumption | grind)
      refine all_i fun b7 => ?_
      refine imp_i fun h17 => ?_
      try simp only [sigLost, lostPost, List.cons.injEq, DV.b.injEq, and_true, Int.toNat_natCast, List.length_cons, List.length_nil, Nat.add_eq, Nat.zero_add] at h17
      refine bR_i (fun h18 => ?_) (fun h18 => ?_)
      ·
        have cs := cntN_yes (p := lostAt n0 n1 l2 l3) (n := n4.toNat) (.inr (h17.1 h18))
        refine bR_t ?_ ?_
        · -- g2
          first | rfl | (simp only [bR_iff, bR_iff_f, dec_iff, dec_f, beqB_iff', andB_iff', reduceCtorEq, imp_self, false_implies, and_true, true_and, implies_true, and_self]; done) | (simp [bR_iff, dec_iff, beqB_iff', andB_iff']; done) | (simp [bR_iff, dec_iff, beqB_iff', andB_iff']; omega)
        refine bR_t ?_ ?_
        · -- g3
          first | rfl | (simp only [bR_iff, bR_iff_f, dec_iff, dec_f, beqB_iff', andB_iff', reduceCtorEq, imp_self, false_implies, and_true, true_and, implies_true, and_self]; done) | (simp [bR_iff, dec_iff, beqB_iff', andB_iff']; done) | (simp [bR_iff, dec_iff, beqB_iff', andB_iff']; omega)
        refine req_i ?_ ?_
        · -- r34
          first | omega | assumption | grind
        refine req_i ?_ ?_
        · -- r35
          first | omega | assumption | grind
        refine req_i ?_ ?_
        · -- r36
          first | omega | assumption | grind
        refine req_i ?_ ?_
        · -- r37
          first | omega | assumption | grind
        refine req_i ?_ ?_
        · -- r38
          first | omega | ((try simp only [losL2, losInv, mea0, List.cons.injEq, DV.b.injEq, and_true, List.length_take, List.take_length, List.take_take, Nat.min_self, List.length_drop, List.drop_zero, List.length_cons, List.length_nil]); first | done | omega | assumption | grind [getD_set, getD_rep, toNat_succ, cntN_yes, cntN_no])
        refine req_i ?_ ?_
        · -- r39
          first | omega | ((try simp only [losL2, losInv, mea0, List.cons.injEq, DV.b.injEq, and_true, List.length_take, List.take_length, List.take_take, Nat.min_self, List.length_drop, List.drop_zero, List.length_cons, List.length_nil]); first | done | omega | assumption | grind [getD_set, getD_rep, toNat_succ, cntN_yes, cntN_no])
        rfl
      ·
        have cs := cntN_no (p := lostAt n0 n1 l2 l3) (n := n4.toNat) (fun g => by rcases g with g | g; exact absurd (h15.2 g) (by rw [h16]; decide); exact absurd (h17.2 g) (by rw [h18]; decide))
        refine bR_t ?_ ?_
        · -- g4
          first | rfl | (simp only [bR_iff, bR_iff_f, dec_iff, dec_f, beqB_iff', andB_iff', reduceCtorEq, imp_self, false_implies, and_true, true_and, implies_true, and_self]; done) | (simp [bR_iff, dec_iff, beqB_iff', andB_iff']; done) | (simp [bR_iff, dec_iff, beqB_iff', andB_iff']; omega)
        refine bR_t ?_ ?_
        · -- g5
          first | rfl | (simp only [bR_iff, bR_iff_f, dec_iff, dec_f, beqB_iff', andB_iff', reduceCtorEq, imp_self, false_implies, and_true, true_and, implies_true, and_self]; done) | (simp [bR_iff, dec_iff, beqB_iff', andB_iff']; done) | (simp [bR_iff, dec_iff, beqB_iff', andB_iff']; omega)
        refine req_i ?_ ?_
        · -- r40
          first | omega | assumption | grind
        refine req_i ?_ ?_
        · -- r41
          first | omega | assumption | grind
        refine req_i ?_ ?_
        · -- r42
          first | omega | assumption | grind
        refine req_i ?_ ?_
        · -- r43
          first | omega | assumption | grind
        refine req_i ?_ ?_
        · -- r44
          first | omega | ((try simp only [losL2, losInv, mea0, List.cons.injEq, DV.b.injEq, and_true, List.length_take, List.take_length, List.take_take, Nat.min_self, List.length_drop, List.drop_zero, List.length_cons, List.length_nil]); first | done | omega | assumption | grind [getD_set, getD_rep, toNat_succ, cntN_yes, cntN_no])
        refine req_i ?_ ?_
        · -- r45
          first | omega | ((try simp only [losL2, losInv, mea0, List.cons.injEq, DV.b.injEq, and_true, List.length_take, List.take_length, List.take_take, Nat.min_self, List.length_drop, List.drop_zero, List.length_cons, List.length_nil]); first | done | omega | assumption | grind [getD_set, getD_rep, toNat_succ, cntN_yes, cntN_no])
        rfl
  ·
    have et : n4.toNat = l2.length := by omega
    rw [et] at h13
    refine req_i ?_ ?_
    · -- r46
      first | omega | assumption | grind
    refine req_i ?_ ?_
    · -- r47
      first | omega | assumption | grind
    refine req_i ?_ ?_
    · -- r48
      first | omega | ((try simp only [sigLos, losPre, losPost, inS, List.cons.injEq, DV.b.injEq, and_true, List.length_cons, List.length_nil]); first | done | omega | assumption | grind [getD_set, getD_rep, toNat_succ, cntN_yes, cntN_no])
    rfl
theorem ext_los : ∀ p ∈ ([(33, Ext.ctr (ctOf sigLost))] : List (Nat × Ext)), ExtRow Try.prog p.1 p.2 := by
  intro p hp
  simp only [List.mem_cons, List.not_mem_nil, or_false] at hp
  rcases hp with rfl
  · trivial
theorem cts_los : CtsOk Try.prog [(33, Ext.ctr (ctOf sigLost))] := ctsOk_of (cs := [(33, sigLost)])
  (fun p hp => by
    simp only [List.mem_cons, List.not_mem_nil, or_false] at hp
    rcases hp with rfl
    · exact fn_lost
)
  (fun f c h => by
    simp only [List.lookup_cons] at h
    repeat' split at h
    all_goals first | (cases h; done) | (rename_i e; have e := beq_iff_eq.1 e; subst e; cases h; exact ⟨_, by simp, rfl⟩))
theorem fn_los : FnOk Try.prog 40 sigLos [] := fn_sound (by kernel_rfl) ext_los cts_los names vt_los
end Go.Proofs.Ytemcaojbhfgpgaa

namespace Go.Proofs.Ytemcaojbhfgpgaa
open Go.Ev Go.Sp
set_option maxRecDepth 100000
theorem vc_adapt : vcFn Try.prog [(31, Ext.ctr (ctOf sigChkA)), (38, Ext.ctr (ctOf sigGrt)), (40, Ext.ctr (ctOf sigLos)), (47, Ext.ctr (ctOf (sigHv (-70368744177664) 70368744177664))), (35, Ext.ctr (ctOf sigGr))] tab [] 100 15 sigAdapt = (allB fun l0 : List Int => 
impB (l0.length ≤ (300 : Nat)) (
impB (∀ (y : Int), y ∈ l0 → (-9223372036854775808 : Int) ≤ y ∧ y ≤ (9223372036854775807 : Int)) (
allB fun l1 : List Int => 
impB (l1.length = l0.length) (
impB (∀ (y : Int), y ∈ l1 → (-9223372036854775808 : Int) ≤ y ∧ y ≤ (9223372036854775807 : Int)) (
allB fun n2 : Int => 
impB ((-9223372036854775808 : Int) ≤ n2) (
impB (n2 ≤ (9223372036854775807 : Int)) (
allB fun n3 : Int => 
impB ((-9223372036854775808 : Int) ≤ n3) (
impB (n3 ≤ (9223372036854775807 : Int)) (
impB (sigAdapt.pre [DV.l l0, DV.l l1, DV.n n2, DV.n n3]) (
reqB (((0 : Nat) + l0.length) * (2 : Nat) ≤ l0.length.mul (2 : Nat)) (
reqB (l0.length ≤ (9223372036854775807 : Nat)) (
reqB ((List.take l0.length (List.drop (0 : Nat) l0)).length = l0.length) (
reqB (∀ (y : Int),
  y ∈ List.take l0.length (List.drop (0 : Nat) l0) → (-9223372036854775808 : Int) ≤ y ∧ y ≤ (9223372036854775807 : Int)) (
reqB ((List.take l0.length (List.drop (0 : Nat) l1)).length = l0.length) (
reqB (∀ (y : Int),
  y ∈ List.take l0.length (List.drop (0 : Nat) l1) → (-9223372036854775808 : Int) ≤ y ∧ y ≤ (9223372036854775807 : Int)) (
reqB ((-9223372036854775808 : Int) ≤ n2) (
reqB (n2 ≤ (9223372036854775807 : Int)) (
reqB ((-9223372036854775808 : Int) ≤ n3) (
reqB (n3 ≤ (9223372036854775807 : Int)) (
reqB (sigChkA.pre
  [DV.l (List.take l0.length (List.drop (0 : Nat) l0)), DV.l (List.take l0.length (List.drop (0 : Nat) l1)),
    DV.n n2, DV.n n3]) (
allB fun n4 : Int => 
impB ((0 : Int) ≤ n4) (
impB (n4 ≤ (18 : Int)) (
impB (sigChkA.post
  [DV.l (List.take l0.length (List.drop (0 : Nat) l0)), DV.l (List.take l0.length (List.drop (0 : Nat) l1)),
    DV.n n2, DV.n n3]
  [DV.n n4]) (
bR (dec (n4 ≠ (0 : Int))) (
 reqB ((0 : Int) ≤ n4) (
 reqB (n4 ≤ (18 : Int)) (
 reqB (sigAdapt.post [DV.l l0, DV.l l1, DV.n n2, DV.n n3]
  [DV.n (0 : Int), DV.n (0 : Int), DV.n n4]) (
 true)))) (
 reqB (((0 : Nat) + l0.length) * (2 : Nat) ≤ l0.length.mul (2 : Nat)) (
 reqB (l0.length ≤ (300 : Nat)) (
 reqB ((List.take l0.length (List.drop (0 : Nat) l0)).length = l0.length) (
 reqB (∀ (y : Int),
  y ∈ List.take l0.length (List.drop (0 : Nat) l0) → (-9223372036854775808 : Int) ≤ y ∧ y ≤ (9223372036854775807 : Int)) (
 reqB ((List.take l0.length (List.drop (0 : Nat) l1)).length = l0.length) (
 reqB (∀ (y : Int),
  y ∈ List.take l0.length (List.drop (0 : Nat) l1) → (-9223372036854775808 : Int) ≤ y ∧ y ≤ (9223372036854775807 : Int)) (
 reqB (sigGrt.pre
  [DV.l (List.take l0.length (List.drop (0 : Nat) l0)), DV.l (List.take l0.length (List.drop (0 : Nat) l1))]) (
 allB fun n5 : Int => 
 impB ((0 : Int) ≤ n5) (
 impB (n5 ≤ (70368744177664 : Int)) (
 impB (sigGrt.post
  [DV.l (List.take l0.length (List.drop (0 : Nat) l0)), DV.l (List.take l0.length (List.drop (0 : Nat) l1))]
  [DV.n n5]) (
 reqB ((-70368744177664 : Int) ≤ n5) (
 reqB (n5 ≤ (70368744177664 : Int)) (
 reqB ((0 : Int) ≤ n3) (
 reqB (n3 ≤ (30 : Int)) (
 reqB ((sigHv (-70368744177664 : Int) (70368744177664 : Int)).pre [DV.n n5, DV.n n3]) (
 allB fun n6 : Int => 
 impB ((-70368744177664 : Int) ≤ n6) (
 impB (n6 ≤ (70368744177664 : Int)) (
 impB ((sigHv (-70368744177664 : Int) (70368744177664 : Int)).post [DV.n n5, DV.n n3] [DV.n n6]) (
 reqB ((2 : Int) ≤ n2) (
 reqB (n2 ≤ (8 : Int)) (
 reqB ((0 : Int) ≤ n3) (
 reqB (n3 ≤ (30 : Int)) (
 reqB (sigGr.pre [DV.n n2, DV.n n3]) (
 allB fun n7 : Int => 
 impB ((1 : Int) ≤ n7) (
 impB (n7 ≤ (127 : Int)) (
 impB (sigGr.post [DV.n n2, DV.n n3] [DV.n n7]) (
 bR (dec ((4 : Int) * n6 ≤ n7)) (
  allB fun n8 : Int => 
  impB (n8 = Go.IntKind.i64.wrap (n3 - (2 : Int))) (
  impB (Int.negSucc (9223372036854775807 : Nat) ≤ n8) (
  impB (n8 ≤ Int.ofNat (9223372036854775807 : Nat)) (
  allB fun n9 : Int => 
  impB (n9 = Go.IntKind.i64.wrap (n8 + (1 : Int))) (
  impB (Int.negSucc (9223372036854775807 : Nat) ≤ n9) (
  impB (n9 ≤ Int.ofNat (9223372036854775807 : Nat)) (
  reqB ((0 : Int) ≤ n2) (
  reqB (n2 ≤ (8 : Int)) (
  reqB ((0 : Int) ≤ Min.min (Max.max n9 (0 : Int)) (30 : Int)) (
  reqB (Min.min (Max.max n9 (0 : Int)) (30 : Int) ≤ (30 : Int)) (
  reqB (sigAdapt.post [DV.l l0, DV.l l1, DV.n n2, DV.n n3]
  [DV.n n2, DV.n (Min.min (Max.max n9 (0 : Int)) (30 : Int)), DV.n (0 : Int)]) (
  true)))))))))))) (
  reqB ((2 : Int) ≤ n2) (
  reqB (n2 ≤ (8 : Int)) (
  reqB ((0 : Int) ≤ n3) (
  reqB (n3 ≤ (30 : Int)) (
  reqB (((0 : Nat) + l0.length) * (2 : Nat) ≤ l0.length.mul (2 : Nat)) (
  reqB (l0.length ≤ (300 : Nat)) (
  reqB ((List.take l0.length (List.drop (0 : Nat) l0)).length = l0.length) (
  reqB (∀ (y : Int),
  y ∈ List.take l0.length (List.drop (0 : Nat) l0) → (-9223372036854775808 : Int) ≤ y ∧ y ≤ (9223372036854775807 : Int)) (
  reqB ((List.take l0.length (List.drop (0 : Nat) l1)).length = l0.length) (
  reqB (∀ (y : Int),
  y ∈ List.take l0.length (List.drop (0 : Nat) l1) → (-9223372036854775808 : Int) ≤ y ∧ y ≤ (9223372036854775807 : Int)) (
  reqB (sigLos.pre
  [DV.n n2, DV.n n3, DV.l (List.take l0.length (List.drop (0 : Nat) l0)),
    DV.l (List.take l0.length (List.drop (0 : Nat) l1))]) (
  allB fun n10 : Int => 
  impB ((0 : Int) ≤ n10) (
  impB (n10 ≤ (300 : Int)) (
  impB (sigLos.post
  [DV.n n2, DV.n n3, DV.l (List.take l0.length (List.drop (0 : Nat) l0)),
    DV.l (List.take l0.length (List.drop (0 : Nat) l1))]
  [DV.n n10]) (
  bR (dec ((↑l0.length : Int) < (16 : Int) * n10)) (
   allB fun n11 : Int => 
   impB (n11 = Go.IntKind.i64.wrap (n3 + (1 : Int))) (
   impB (Int.negSucc (9223372036854775807 : Nat) ≤ n11) (
   impB (n11 ≤ Int.ofNat (9223372036854775807 : Nat)) (
   reqB ((0 : Int) ≤ n2) (
   reqB (n2 ≤ (8 : Int)) (
   reqB ((0 : Int) ≤ Min.min (Max.max n11 (0 : Int)) (30 : Int)) (
   reqB (Min.min (Max.max n11 (0 : Int)) (30 : Int) ≤ (30 : Int)) (
   reqB (sigAdapt.post [DV.l l0, DV.l l1, DV.n n2, DV.n n3]
  [DV.n n2, DV.n (Min.min (Max.max n11 (0 : Int)) (30 : Int)), DV.n (0 : Int)]) (
   true))))))))) (
   reqB ((0 : Int) ≤ n2) (
   reqB (n2 ≤ (8 : Int)) (
   reqB ((0 : Int) ≤ Min.min (Max.max n3 (0 : Int)) (30 : Int)) (
   reqB (Min.min (Max.max n3 (0 : Int)) (30 : Int) ≤ (30 : Int)) (
   reqB (sigAdapt.post [DV.l l0, DV.l l1, DV.n n2, DV.n n3]
  [DV.n n2, DV.n (Min.min (Max.max n3 (0 : Int)) (30 : Int)), DV.n (0 : Int)]) (
   true)))))))))))))))))))))))))))))))))))))))))))))))))))))))))))))))))))))))) := by kernel_rfl
set_option maxHeartbeats 8000000 in
theorem vt_adapt : vcFn Try.prog [(31, Ext.ctr (ctOf sigChkA)), (38, Ext.ctr (ctOf sigGrt)), (40, Ext.ctr (ctOf sigLos)), (47, Ext.ctr (ctOf (sigHv (-70368744177664) 70368744177664))), (35, Ext.ctr (ctOf sigGr))] tab [] 100 15 sigAdapt = true := by
  rw [vc_adapt]
  try simp only [Int.toNat_natCast, List.length_set, List.length_replicate, List.length_take, List.length_drop, List.length_append, List.length_cons, List.length_nil, Nat.min_self, List.take_take, lenCols_i, lenCols_b, List.drop_zero, List.take_length, Nat.add_eq, Nat.mul_eq, Nat.sub_eq, Nat.zero_add, Nat.sub_zero, Nat.mul_one]
  refine all_i fun l0 => ?_
  refine imp_i fun h0 => ?_
  refine imp_i fun h1 => ?_
  refine all_i fun l1 => ?_
  refine imp_i fun h2 => ?_
  have tkl1 := take_eq h2
  try simp only [tkl1]
  refine imp_i fun h3 => ?_
  refine all_i fun n2 => ?_
  refine imp_i fun h4 => ?_
  refine imp_i fun h5 => ?_
  refine all_i fun n3 => ?_
  refine imp_i fun h6 => ?_
  refine imp_i fun h7 => ?_
  refine imp_i fun h8 => ?_
  try simp only [sigAdapt, adaptPost, List.cons.injEq, DV.b.injEq, and_true, List.length_cons, List.length_nil] at h8
  refine req_i ?_ ?_
  · -- r0
    first | omega | ((try simp only [Nat.mul_eq]); first | done | omega | assumption | grind [getD_set, getD_rep, toNat_succ, cntN_yes, cntN_no])
  refine req_i ?_ ?_
  · -- r1
    first | omega | ((try simp only [Nat.zero_add]); first | done | omega | assumption | grind [getD_set, getD_rep, toNat_succ, cntN_yes, cntN_no])
  refine req_i ?_ ?_
  · -- r2
    first | omega | ((try simp only [List.length_take, List.take_length, List.take_take, Nat.min_self, List.length_drop, List.drop_zero, List.length_cons, List.length_nil]); first | done | omega | assumption | grind [getD_set, getD_rep, toNat_succ, cntN_yes, cntN_no])
  refine req_i ?_ ?_
  · -- r3
    first | assumption | exact rep_bd (by omega) (by omega) | exact set_bd (by assumption) (by omega) (by omega) | exact take_bd (by assumption) | ((try simp only [List.length_take, List.take_length, List.take_take, Nat.min_self, List.length_drop, List.drop_zero, List.length_cons, List.length_nil]); first | assumption | exact rep_bd (by omega) (by omega) | exact set_bd (by assumption) (by omega) (by omega) | exact take_bd (by assumption) | grind [getD_set, getD_rep, toNat_succ, cntN_yes, cntN_no])
  refine req_i ?_ ?_
  · -- r4
    first | omega | ((try simp only [List.length_take, List.take_length, List.take_take, Nat.min_self, List.length_drop, List.drop_zero, List.length_cons, List.length_nil]); first | done | omega | assumption | grind [getD_set, getD_rep, toNat_succ, cntN_yes, cntN_no])
  refine req_i ?_ ?_
  · -- r5
    first | assumption | exact rep_bd (by omega) (by omega) | exact set_bd (by assumption) (by omega) (by omega) | exact take_bd (by assumption) | ((try simp only [List.length_take, List.take_length, List.take_take, Nat.min_self, List.length_drop, List.drop_zero, List.length_cons, List.length_nil]); first | assumption | exact rep_bd (by omega) (by omega) | exact set_bd (by assumption) (by omega) (by omega) | exact take_bd (by assumption) | grind [getD_set, getD_rep, toNat_succ, cntN_yes, cntN_no])
  refine req_i ?_ ?_
  · -- r6
    first | omega | assumption | grind
  refine req_i ?_ ?_
  · -- r7
    first | omega | assumption | grind
  refine req_i ?_ ?_
  · -- r8
    first | omega | assumption | grind
  refine req_i ?_ ?_
  · -- r9
    first | omega | assumption | grind
  refine req_i ?_ ?_
  · -- r10
    first | omega | ((try simp only [sigChkA, chkAPost, List.cons.injEq, DV.b.injEq, and_true, List.length_take, List.take_length, List.take_take, Nat.min_self, List.length_drop, List.drop_zero, List.length_cons, List.length_nil]); first | done | omega | assumption | grind [getD_set, getD_rep, toNat_succ, cntN_yes, cntN_no])
  refine all_i fun n4 => ?_
  refine imp_i fun h9 => ?_
  refine imp_i fun h10 => ?_
  refine imp_i fun h11 => ?_
  try simp only [sigChkA, chkAPost, List.cons.injEq, DV.b.injEq, and_true, List.length_take, List.take_length, List.take_take, Nat.min_self, List.length_drop, List.drop_zero, List.length_cons, List.length_nil] at h11
  refine bR_dec (fun h12 => ?_) (fun h12 => ?_)
  ·
    refine req_i ?_ ?_
    · -- r11
      first | omega | assumption | grind
    refine req_i ?_ ?_
    · -- r12
      first | omega | assumption | grind
    refine req_i ?_ ?_
    · -- r13
      first | omega | ((try simp only [sigAdapt, adaptPost, List.cons.injEq, DV.b.injEq, and_true, List.length_cons, List.length_nil]); first | done | omega | assumption | grind [getD_set, getD_rep, toNat_succ, cntN_yes, cntN_no])
    rfl
  ·
    obtain ⟨G, L, I⟩ := errS_ok (b := n2) (n := n3) (m := 70368744177664) (s := l0) (t := l1) (by omega)
    refine req_i ?_ ?_
    · -- r14
      first | omega | ((try simp only [Nat.mul_eq]); first | done | omega | assumption | grind [getD_set, getD_rep, toNat_succ, cntN_yes, cntN_no])
    refine req_i ?_ ?_
    · -- r15
      first | omega | ((try simp only [Nat.zero_add]); first | done | omega | assumption | grind [getD_set, getD_rep, toNat_succ, cntN_yes, cntN_no])
    refine req_i ?_ ?_
    · -- r16
      first | omega | ((try simp only [List.length_take, List.take_length, List.take_take, Nat.min_self, List.length_drop, List.drop_zero, List.length_cons, List.length_nil]); first | done | omega | assumption | grind [getD_set, getD_rep, toNat_succ, cntN_yes, cntN_no])
    refine req_i ?_ ?_
    · -- r17
      first | assumption | exact rep_bd (by omega) (by omega) | exact set_bd (by assumption) (by omega) (by omega) | exact take_bd (by assumption) | ((try simp only [List.length_take, List.take_length, List.take_take, Nat.min_self, List.length_drop, List.drop_zero, List.length_cons, List.length_nil]); first | assumption | exact rep_bd (by omega) (by omega) | exact set_bd (by assumption) (by omega) (by omega) | exact take_bd (by assumption) | grind [getD_set, getD_rep, toNat_succ, cntN_yes, cntN_no])
    refine req_i ?_ ?_
    · -- r18
      first | omega | ((try simp only [List.length_take, List.take_length, List.take_take, Nat.min_self, List.length_drop, List.drop_zero, List.length_cons, List.length_nil]); first | done | omega | assumption | grind [getD_set, getD_rep, toNat_succ, cntN_yes, cntN_no])
    refine req_i ?_ ?_
    · -- r19
      first | assumption | exact rep_bd (by omega) (by omega) | exact set_bd (by assumption) (by omega) (by omega) | exact take_bd (by assumption) | ((try simp only [List.length_take, List.take_length, List.take_take, Nat.min_self, List.length_drop, List.drop_zero, List.length_cons, List.length_nil]); first | assumption | exact rep_bd (by omega) (by omega) | exact set_bd (by assumption) (by omega) (by omega) | exact take_bd (by assumption) | grind [getD_set, getD_rep, toNat_succ, cntN_yes, cntN_no])
    refine req_i ?_ ?_
    · -- r20
      first | omega | ((try simp only [sigGrt, grtPre, grtPost, inS, List.cons.injEq, DV.b.injEq, and_true, List.length_take, List.take_length, List.take_take, Nat.min_self, List.length_drop, List.drop_zero, List.length_cons, List.length_nil]); first | done | omega | assumption | grind [getD_set, getD_rep, toNat_succ, cntN_yes, cntN_no])
    refine all_i fun n5 => ?_
    refine imp_i fun h13 => ?_
    refine imp_i fun h14 => ?_
    refine imp_i fun h15 => ?_
    try simp only [sigGrt, grtPre, grtPost, inS, List.cons.injEq, DV.b.injEq, and_true, List.length_take, List.take_length, List.take_take, Nat.min_self, List.length_drop, List.drop_zero, List.length_cons, List.length_nil] at h15
    refine req_i ?_ ?_
    · -- r21
      first | omega | assumption | grind
    refine req_i ?_ ?_
    · -- r22
      first | omega | assumption | grind
    refine req_i ?_ ?_
    · -- r23
      first | omega | assumption | grind
    refine req_i ?_ ?_
    · -- r24
      first | omega | assumption | grind
    refine req_i ?_ ?_
    · -- r25
      first | trivial | assumption | (simp only [sigHv, hvPost, List.cons.injEq, DV.b.injEq, and_true, List.length_cons, List.length_nil]; done) | ((try simp only [sigHv, hvPost, List.cons.injEq, DV.b.injEq, and_true, List.length_cons, List.length_nil]); first | omega | assumption | grind)
    refine all_i fun n6 => ?_
    refine imp_i fun h16 => ?_
    refine imp_i fun h17 => ?_
    refine imp_i fun h18 => ?_
    try simp only [sigHv, hvPost, List.cons.injEq, DV.b.injEq, and_true, List.length_cons, List.length_nil] at h18
    refine req_i ?_ ?_
    · -- r26
      first | omega | assumption | grind
    refine req_i ?_ ?_
    · -- r27
      first | omega | assumption | grind
    refine req_i ?_ ?_
    · -- r28
      first | omega | assumption | grind
    refine req_i ?_ ?_
    · -- r29
      first | omega | assumption | grind
    refine req_i ?_ ?_
    · -- r30
      first | trivial | assumption | (simp only [sigGr, grPost, List.cons.injEq, DV.b.injEq, and_true, List.length_cons, List.length_nil]; done) | ((try simp only [sigGr, grPost, List.cons.injEq, DV.b.injEq, and_true, List.length_cons, List.length_nil]); first | omega | assumption | grind)
    refine all_i fun n7 => ?_
    refine imp_i fun h19 => ?_
    refine imp_i fun h20 => ?_
    refine imp_i fun h21 => ?_
    try simp only [sigGr, grPost, List.cons.injEq, DV.b.injEq, and_true, List.length_cons, List.length_nil] at h21
    have qr := quarter (b := n2) (n := n3) (s := l0) (t := l1) (by omega) (by omega)
    have nx := nextS.eq_1 n2 n3 l0 l1
    rw [← h15, ← h18] at nx qr
    rw [← h21] at nx qr
    refine bR_dec (fun h22 => ?_) (fun h22 => ?_)
    ·
      refine all_i fun n8 => ?_
      refine imp_i fun h23 => ?_
      simp only [wrap_i64] at h23
      refine imp_i fun h24 => ?_
      refine imp_i fun h25 => ?_
      refine all_i fun n9 => ?_
      refine imp_i fun h26 => ?_
      simp only [wrap_i64] at h26
      refine imp_i fun h27 => ?_
      refine imp_i fun h28 => ?_
      refine req_i ?_ ?_
      · -- r31
        first | omega | assumption | grind
      refine req_i ?_ ?_
      · -- r32
        first | omega | assumption | grind
      refine req_i ?_ ?_
      · -- r33
        first | omega | assumption | grind
      refine req_i ?_ ?_
      · -- r34
        first | omega | assumption | grind
      refine req_i ?_ ?_
      · -- r35
        first | omega | ((try simp only [sigAdapt, adaptPost, List.cons.injEq, DV.b.injEq, and_true, List.length_cons, List.length_nil]); first | done | omega | assumption | grind [getD_set, getD_rep, toNat_succ, cntN_yes, cntN_no])
      rfl
    ·
      refine req_i ?_ ?_
      · -- r36
        first | omega | assumption | grind
      refine req_i ?_ ?_
      · -- r37
        first | omega | assumption | grind
      refine req_i ?_ ?_
      · -- r38
        first | omega | assumption | grind
      refine req_i ?_ ?_
      · -- r39
        first | omega | assumption | grind
      refine req_i ?_ ?_
      · -- r40
        first | omega | ((try simp only [Nat.mul_eq]); first | done | omega | assumption | grind [getD_set, getD_rep, toNat_succ, cntN_yes, cntN_no])
      refine req_i ?_ ?_
      · -- r41
        first | omega | ((try simp only [Nat.zero_add]); first | done | omega | assumption | grind [getD_set, getD_rep, toNat_succ, cntN_yes, cntN_no])
      refine req_i ?_ ?_
      · -- r42
        first | omega | ((try simp only [List.length_take, List.take_length, List.take_take, Nat.min_self, List.length_drop, List.drop_zero, List.length_cons, List.length_nil]); first | done | omega | assumption | grind [getD_set, getD_rep, toNat_succ, cntN_yes, cntN_no])
      refine req_i ?_ ?_
      · -- r43
        first | assumption | exact rep_bd (by omega) (by omega) | exact set_bd (by assumption) (by omega) (by omega) | exact take_bd (by assumption) | ((try simp only [List.length_take, List.take_length, List.take_take, Nat.min_self, List.length_drop, List.drop_zero, List.length_cons, List.length_nil]); first | assumption | exact rep_bd (by omega) (by omega) | exact set_bd (by assumption) (by omega) (by omega) | exact take_bd (by assumption) | grind [getD_set, getD_rep, toNat_succ, cntN_yes, cntN_no])
      refine req_i ?_ ?_
      · -- r44
        first | omega | ((try simp only [List.length_take, List.take_length, List.take_take, Nat.min_self, List.length_drop, List.drop_zero, List.length_cons, List.length_nil]); first | done | omega | assumption | grind [getD_set, getD_rep, toNat_succ, cntN_yes, cntN_no])
      refine req_i ?_ ?_
      · -- r45
        first | assumption | exact rep_bd (by omega) (by omega) | exact set_bd (by assumption) (by omega) (by omega) | exact take_bd (by assumption) | ((try simp only [List.length_take, List.take_length, List.take_take, Nat.min_self, List.length_drop, List.drop_zero, List.length_cons, List.length_nil]); first | assumption | exact rep_bd (by omega) (by omega) | exact set_bd (by assumption) (by omega) (by omega) | exact take_bd (by assumption) | grind [getD_set, getD_rep, toNat_succ, cntN_yes, cntN_no])
      refine req_i ?_ ?_
      · -- r46
        first | omega | ((try simp only [sigLos, losPre, losPost, inS, List.cons.injEq, DV.b.injEq, and_true, List.length_take, List.take_length, List.take_take, Nat.min_self, List.length_drop, List.drop_zero, List.length_cons, List.length_nil]); first | done | omega | assumption | grind [getD_set, getD_rep, toNat_succ, cntN_yes, cntN_no])
      refine all_i fun n10 => ?_
      refine imp_i fun h29 => ?_
      refine imp_i fun h30 => ?_
      refine imp_i fun h31 => ?_
      try simp only [sigLos, losPre, losPost, inS, List.cons.injEq, DV.b.injEq, and_true, List.length_take, List.take_length, List.take_take, Nat.min_self, List.length_drop, List.drop_zero, List.length_cons, List.length_nil] at h31
      rw [← h31] at nx qr
      refine bR_dec (fun h32 => ?_) (fun h32 => ?_)
      ·
        refine all_i fun n11 => ?_
        refine imp_i fun h33 => ?_
        simp only [wrap_i64] at h33
        refine imp_i fun h34 => ?_
        refine imp_i fun h35 => ?_
        refine req_i ?_ ?_
        · -- r47
          first | omega | assumption | grind
        refine req_i ?_ ?_
        · -- r48
          first | omega | assumption | grind
        refine req_i ?_ ?_
        · -- r49
          first | omega | assumption | grind
        refine req_i ?_ ?_
        · -- r50
          first | omega | assumption | grind
        refine req_i ?_ ?_
        · -- r51
          first | omega | ((try simp only [sigAdapt, adaptPost, List.cons.injEq, DV.b.injEq, and_true, List.length_cons, List.length_nil]); first | done | omega | assumption | grind [getD_set, getD_rep, toNat_succ, cntN_yes, cntN_no])
        rfl
      ·
        refine req_i ?_ ?_
        · -- r52
          first | omega | assumption | grind
        refine req_i ?_ ?_
        · -- r53
          first | omega | assumption | grind
        refine req_i ?_ ?_
        · -- r54
          first | omega | assumption | grind
        refine req_i ?_ ?_
        · -- r55
          first | omega | assumption | grind
        refine req_i ?_ ?_
        · -- r56
          first | omega | ((try simp only [sigAdapt, adaptPost, List.cons.injEq, DV.b.injEq, and_true, List.length_cons, List.length_nil]); first | done | omega | assumption | grind [getD_set, getD_rep, toNat_succ, cntN_yes, cntN_no])
        rfl
theorem ext_adapt : ∀ p ∈ ([(31, Ext.ctr (ctOf sigChkA)), (38, Ext.ctr (ctOf sigGrt)), (40, Ext.ctr (ctOf sigLos)), (47, Ext.ctr (ctOf (sigHv (-70368744177664) 70368744177664))), (35, Ext.ctr (ctOf sigGr))] : List (Nat × Ext)), ExtRow Try.prog p.1 p.2 := by
  intro p hp
  simp only [List.mem_cons, List.not_mem_nil, or_false] at hp
  rcases hp with rfl | rfl | rfl | rfl | rfl
  · trivial
  · trivial
  · trivial
  · trivial
  · trivial
theorem cts_adapt : CtsOk Try.prog [(31, Ext.ctr (ctOf sigChkA)), (38, Ext.ctr (ctOf sigGrt)), (40, Ext.ctr (ctOf sigLos)), (47, Ext.ctr (ctOf (sigHv (-70368744177664) 70368744177664))), (35, Ext.ctr (ctOf sigGr))] := ctsOk_of (cs := [(31, sigChkA), (38, sigGrt), (40, sigLos), (47, (sigHv (-70368744177664) 70368744177664)), (35, sigGr)])
  (fun p hp => by
    simp only [List.mem_cons, List.not_mem_nil, or_false] at hp
    rcases hp with rfl | rfl | rfl | rfl | rfl
    · exact fn_chkA
    · exact fn_grt
    · exact fn_los
    · exact fn_hv
    · exact fn_gr
)
  (fun f c h => by
    simp only [List.lookup_cons] at h
    repeat' split at h
    all_goals first | (cases h; done) | (rename_i e; have e := beq_iff_eq.1 e; subst e; cases h; exact ⟨_, by simp, rfl⟩))
theorem fn_adapt : FnOk Try.prog 15 sigAdapt [] := fn_sound (by kernel_rfl) ext_adapt cts_adapt names vt_adapt
end Go.Proofs.Ytemcaojbhfgpgaa

namespace Go.Proofs.Ytemcaojbhfgpgaa
open Go.Ev Go.Sp
set_option maxRecDepth 100000
theorem vc_count : vcFn Try.prog [(31, Ext.ctr (ctOf sigChkA)), (35, Ext.ctr (ctOf sigGr)), (32, Ext.ctr (ctOf sigLev))] tabC [] 100 16 sigCount = (allB fun l0 : List Int => 
impB (l0.length ≤ (300 : Nat)) (
impB (∀ (y : Int), y ∈ l0 → (-9223372036854775808 : Int) ≤ y ∧ y ≤ (9223372036854775807 : Int)) (
allB fun l1 : List Int => 
impB (l1.length = l0.length) (
impB (∀ (y : Int), y ∈ l1 → (-9223372036854775808 : Int) ≤ y ∧ y ≤ (9223372036854775807 : Int)) (
allB fun n2 : Int => 
impB ((-9223372036854775808 : Int) ≤ n2) (
impB (n2 ≤ (9223372036854775807 : Int)) (
allB fun n3 : Int => 
impB ((-9223372036854775808 : Int) ≤ n3) (
impB (n3 ≤ (9223372036854775807 : Int)) (
impB (sigCount.pre [DV.l l0, DV.l l1, DV.n n2, DV.n n3]) (
reqB (((0 : Nat) + l0.length) * (2 : Nat) ≤ l0.length.mul (2 : Nat)) (
reqB (l0.length ≤ (9223372036854775807 : Nat)) (
reqB ((List.take l0.length (List.drop (0 : Nat) l0)).length = l0.length) (
reqB (∀ (y : Int),
  y ∈ List.take l0.length (List.drop (0 : Nat) l0) → (-9223372036854775808 : Int) ≤ y ∧ y ≤ (9223372036854775807 : Int)) (
reqB ((List.take l0.length (List.drop (0 : Nat) l1)).length = l0.length) (
reqB (∀ (y : Int),
  y ∈ List.take l0.length (List.drop (0 : Nat) l1) → (-9223372036854775808 : Int) ≤ y ∧ y ≤ (9223372036854775807 : Int)) (
reqB ((-9223372036854775808 : Int) ≤ n2) (
reqB (n2 ≤ (9223372036854775807 : Int)) (
reqB ((-9223372036854775808 : Int) ≤ n3) (
reqB (n3 ≤ (9223372036854775807 : Int)) (
reqB (sigChkA.pre
  [DV.l (List.take l0.length (List.drop (0 : Nat) l0)), DV.l (List.take l0.length (List.drop (0 : Nat) l1)),
    DV.n n2, DV.n n3]) (
allB fun n4 : Int => 
impB ((0 : Int) ≤ n4) (
impB (n4 ≤ (18 : Int)) (
impB (sigChkA.post
  [DV.l (List.take l0.length (List.drop (0 : Nat) l0)), DV.l (List.take l0.length (List.drop (0 : Nat) l1)),
    DV.n n2, DV.n n3]
  [DV.n n4]) (
bR (dec (n4 ≠ (0 : Int))) (
 reqB ((0 : Int) ≤ n4) (
 reqB (n4 ≤ (18 : Int)) (
 reqB (sigCount.post [DV.l l0, DV.l l1, DV.n n2, DV.n n3] [DV.l [], DV.n n4]) (
 true)))) (
 reqB ((2 : Int) ≤ n2) (
 reqB (n2 ≤ (8 : Int)) (
 reqB ((0 : Int) ≤ n3) (
 reqB (n3 ≤ (30 : Int)) (
 reqB (sigGr.pre [DV.n n2, DV.n n3]) (
 allB fun n5 : Int => 
 impB ((1 : Int) ≤ n5) (
 impB (n5 ≤ (127 : Int)) (
 impB (sigGr.post [DV.n n2, DV.n n3] [DV.n n5]) (
 reqB (((2 : Int) * n5 + (1 : Int)).toNat ≤ ((2 : Int) * n5 + (1 : Int)).toNat) (
 reqB (((2 : Int) * n5 + (1 : Int)).toNat ≤ (1000000 : Nat)) (
 reqB ((↑l0.length : Int).toNat ≤ (↑l0.length : Int).toNat) (
 reqB ((↑l0.length : Int).toNat ≤ (1000000 : Nat)) (
 reqB (((0 : Nat) + l0.length) * (2 : Nat) ≤ l0.length.mul (2 : Nat)) (
 reqB (l0.length ≤ (300 : Nat)) (
 reqB ((List.take l0.length (List.drop (0 : Nat) l0)).length = l0.length) (
 reqB (∀ (y : Int),
  y ∈ List.take l0.length (List.drop (0 : Nat) l0) → (-9223372036854775808 : Int) ≤ y ∧ y ≤ (9223372036854775807 : Int)) (
 reqB ((List.take l0.length (List.drop (0 : Nat) l1)).length = l0.length) (
 reqB (∀ (y : Int),
  y ∈ List.take l0.length (List.drop (0 : Nat) l1) → (-9223372036854775808 : Int) ≤ y ∧ y ≤ (9223372036854775807 : Int)) (
 reqB ((-9223372036854775808 : Int) ≤ n2) (
 reqB (n2 ≤ (9223372036854775807 : Int)) (
 reqB ((-9223372036854775808 : Int) ≤ n3) (
 reqB (n3 ≤ (9223372036854775807 : Int)) (
 reqB (lenCols
    [Col.i Go.IntKind.i64 (Int.negSucc (9223372036854775807 : Nat)) (Int.ofNat (9223372036854775807 : Nat))
        (List.replicate (↑l0.length : Int).toNat (0 : Int)),
      Col.i Go.IntKind.i64 (Int.negSucc (9223372036854775807 : Nat)) (Int.ofNat (9223372036854775807 : Nat))
        (List.replicate (↑l0.length : Int).toNat (0 : Int))] ≤
  (300 : Nat)) (
 reqB ((List.replicate (↑l0.length : Int).toNat (0 : Int)).length =
  lenCols
    [Col.i Go.IntKind.i64 (Int.negSucc (9223372036854775807 : Nat)) (Int.ofNat (9223372036854775807 : Nat))
        (List.replicate (↑l0.length : Int).toNat (0 : Int)),
      Col.i Go.IntKind.i64 (Int.negSucc (9223372036854775807 : Nat)) (Int.ofNat (9223372036854775807 : Nat))
        (List.replicate (↑l0.length : Int).toNat (0 : Int))]) (
 reqB (∀ (y : Int),
  y ∈ List.replicate (↑l0.length : Int).toNat (0 : Int) →
    (-9223372036854775808 : Int) ≤ y ∧ y ≤ (9223372036854775807 : Int)) (
 reqB ((List.replicate (↑l0.length : Int).toNat (0 : Int)).length =
  lenCols
    [Col.i Go.IntKind.i64 (Int.negSucc (9223372036854775807 : Nat)) (Int.ofNat (9223372036854775807 : Nat))
        (List.replicate (↑l0.length : Int).toNat (0 : Int)),
      Col.i Go.IntKind.i64 (Int.negSucc (9223372036854775807 : Nat)) (Int.ofNat (9223372036854775807 : Nat))
        (List.replicate (↑l0.length : Int).toNat (0 : Int))]) (
 reqB (∀ (y : Int),
  y ∈ List.replicate (↑l0.length : Int).toNat (0 : Int) →
    (-9223372036854775808 : Int) ≤ y ∧ y ≤ (9223372036854775807 : Int)) (
 reqB ((mapL (4 : Nat) (5 : Nat) mapInv).inv
  [DV.l (List.take l0.length (List.drop (0 : Nat) l0)), DV.l (List.take l0.length (List.drop (0 : Nat) l1)),
    DV.n n2, DV.n n3]
  [DV.n (0 : Int), DV.l (List.replicate (↑l0.length : Int).toNat (0 : Int)),
    DV.l (List.replicate (↑l0.length : Int).toNat (0 : Int))]) (
 allB fun n6 : Int => 
 impB ((0 : Int) ≤ n6) (
 impB (n6 ≤ (300 : Int)) (
 allB fun l7 : List Int => 
 impB (l7.length ≤ (300 : Nat)) (
 impB (∀ (y : Int), y ∈ l7 → (-9223372036854775808 : Int) ≤ y ∧ y ≤ (9223372036854775807 : Int)) (
 allB fun l8 : List Int => 
 impB (l8.length = l7.length) (
 impB (∀ (y : Int), y ∈ l8 → (-9223372036854775808 : Int) ≤ y ∧ y ≤ (9223372036854775807 : Int)) (
 impB ((mapL (4 : Nat) (5 : Nat) mapInv).inv
  [DV.l (List.take l0.length (List.drop (0 : Nat) l0)), DV.l (List.take l0.length (List.drop (0 : Nat) l1)),
    DV.n n2, DV.n n3]
  [DV.n n6, DV.l l7, DV.l l8]) (
 bR (dec (n6 < (↑l0.length : Int))) (
  reqB (n6.toNat < l0.length) (
  reqB (Nat.add (0 : Nat) n6.toNat < l0.length) (
  reqB (Nat.add (0 : Nat) n6.toNat < l1.length) (
  reqB ((2 : Int) ≤ n2) (
  reqB (n2 ≤ (8 : Int)) (
  reqB ((0 : Int) ≤ n3) (
  reqB (n3 ≤ (30 : Int)) (
  reqB ((-70368744177664 : Int) ≤ l0.getD (Nat.add (0 : Nat) n6.toNat) (0 : Int)) (
  reqB (l0.getD (Nat.add (0 : Nat) n6.toNat) (0 : Int) ≤ (70368744177664 : Int)) (
  reqB (sigLev.pre [DV.n n2, DV.n n3, DV.n (l0.getD (Nat.add (0 : Nat) n6.toNat) (0 : Int))]) (
  allB fun n9 : Int => 
  impB ((-127 : Int) ≤ n9) (
  impB (n9 ≤ (127 : Int)) (
  impB (sigLev.post [DV.n n2, DV.n n3, DV.n (l0.getD (Nat.add (0 : Nat) n6.toNat) (0 : Int))]
  [DV.n n9]) (
  reqB ((2 : Int) ≤ n2) (
  reqB (n2 ≤ (8 : Int)) (
  reqB ((0 : Int) ≤ n3) (
  reqB (n3 ≤ (30 : Int)) (
  reqB ((-70368744177664 : Int) ≤ l1.getD (Nat.add (0 : Nat) n6.toNat) (0 : Int)) (
  reqB (l1.getD (Nat.add (0 : Nat) n6.toNat) (0 : Int) ≤ (70368744177664 : Int)) (
  reqB (sigLev.pre [DV.n n2, DV.n n3, DV.n (l1.getD (Nat.add (0 : Nat) n6.toNat) (0 : Int))]) (
  allB fun n10 : Int => 
  impB ((-127 : Int) ≤ n10) (
  impB (n10 ≤ (127 : Int)) (
  impB (sigLev.post [DV.n n2, DV.n n3, DV.n (l1.getD (Nat.add (0 : Nat) n6.toNat) (0 : Int))]
  [DV.n n10]) (
  reqB (n6.toNat < (↑l0.length : Int).toNat) (
  reqB (Nat.add (0 : Nat) n6.toNat < l7.length) (
  reqB (Nat.add (0 : Nat) n6.toNat < l8.length) (
  bR (bR (bR (dec ((0 : Nat) = (0 : Nat))) (
   dec ((↑l0.length : Int).toNat = (↑l0.length : Int).toNat)) (
   false)) (
   bR (bR (dec ((0 : Nat) = (0 : Nat))) (
    dec (l0.length = l0.length)) (
    false)) (
    bR (dec ((↑l0.length : Int) = (↑l0.length : Int))) (
     true) (
     false)) (
    false)) (
   false)) (
   bR (bR (bR (dec (n2 = n2)) (
    bR (dec (n3 = n3)) (
     true) (
     false)) (
    false)) (
    bR (bR (dec (((2 : Int) * n5 + (1 : Int)).toNat.mul Go.Proofs.Try.prog.types[(3 : Nat)].size =
  ((2 : Int) * n5 + (1 : Int)).toNat.mul Go.Proofs.Try.prog.types[(3 : Nat)].size)) (
     dec ([Col.i Go.IntKind.i64 (Int.negSucc (9223372036854775807 : Nat)) (Int.ofNat (9223372036854775807 : Nat))
      (List.replicate ((2 : Int) * n5 + (1 : Int)).toNat (0 : Int))] =
  [Col.i Go.IntKind.i64 (Int.negSucc (9223372036854775807 : Nat)) (Int.ofNat (9223372036854775807 : Nat))
      (List.replicate ((2 : Int) * n5 + (1 : Int)).toNat (0 : Int))])) (
     false)) (
     bR (bR (dec (n2 = n2)) (
      bR (dec (n3 = n3)) (
       true) (
       false)) (
      false)) (
      true) (
      false)) (
     false)) (
    false)) (
    reqB ((0 : Int) ≤ n6 + (1 : Int)) (
    reqB (n6 + (1 : Int) ≤ (300 : Int)) (
    reqB (lenCols
    [Col.i Go.IntKind.i64 (-9223372036854775808 : Int) (9223372036854775807 : Int)
        (l7.set (Nat.add (0 : Nat) n6.toNat) n9),
      Col.i Go.IntKind.i64 (-9223372036854775808 : Int) (9223372036854775807 : Int)
        (l8.set (Nat.add (0 : Nat) n6.toNat) n10)] ≤
  (300 : Nat)) (
    reqB ((l7.set (Nat.add (0 : Nat) n6.toNat) n9).length =
  lenCols
    [Col.i Go.IntKind.i64 (-9223372036854775808 : Int) (9223372036854775807 : Int)
        (l7.set (Nat.add (0 : Nat) n6.toNat) n9),
      Col.i Go.IntKind.i64 (-9223372036854775808 : Int) (9223372036854775807 : Int)
        (l8.set (Nat.add (0 : Nat) n6.toNat) n10)]) (
    reqB (∀ (y : Int),
  y ∈ l7.set (Nat.add (0 : Nat) n6.toNat) n9 → (-9223372036854775808 : Int) ≤ y ∧ y ≤ (9223372036854775807 : Int)) (
    reqB ((l8.set (Nat.add (0 : Nat) n6.toNat) n10).length =
  lenCols
    [Col.i Go.IntKind.i64 (-9223372036854775808 : Int) (9223372036854775807 : Int)
        (l7.set (Nat.add (0 : Nat) n6.toNat) n9),
      Col.i Go.IntKind.i64 (-9223372036854775808 : Int) (9223372036854775807 : Int)
        (l8.set (Nat.add (0 : Nat) n6.toNat) n10)]) (
    reqB (∀ (y : Int),
  y ∈ l8.set (Nat.add (0 : Nat) n6.toNat) n10 → (-9223372036854775808 : Int) ≤ y ∧ y ≤ (9223372036854775807 : Int)) (
    reqB ((mapL (4 : Nat) (5 : Nat) mapInv).inv
  [DV.l (List.take l0.length (List.drop (0 : Nat) l0)), DV.l (List.take l0.length (List.drop (0 : Nat) l1)),
    DV.n n2, DV.n n3]
  [DV.n (n6 + (1 : Int)), DV.l (l7.set (Nat.add (0 : Nat) n6.toNat) n9),
    DV.l (l8.set (Nat.add (0 : Nat) n6.toNat) n10)]) (
    reqB ((mapL (4 : Nat) (5 : Nat) mapInv).mea
    [DV.l (List.take l0.length (List.drop (0 : Nat) l0)),
      DV.l (List.take l0.length (List.drop (0 : Nat) l1)), DV.n n2, DV.n n3]
    [DV.n (n6 + (1 : Int)), DV.l (l7.set (Nat.add (0 : Nat) n6.toNat) n9),
      DV.l (l8.set (Nat.add (0 : Nat) n6.toNat) n10)] <
  (mapL (4 : Nat) (5 : Nat) mapInv).mea
    [DV.l (List.take l0.length (List.drop (0 : Nat) l0)),
      DV.l (List.take l0.length (List.drop (0 : Nat) l1)), DV.n n2, DV.n n3]
    [DV.n n6, DV.l l7, DV.l l8]) (
    true)))))))))) (
    false)) (
   false)))))))))))))))))))))))))))) (
  reqB (((0 : Nat) + (↑l0.length : Int).toNat) * (2 : Nat) ≤ l7.length.mul (2 : Nat)) (
  reqB ((↑l0.length : Int).toNat ≤ (300 : Nat)) (
  reqB ((List.take (↑l0.length : Int).toNat (List.drop (0 : Nat) l7)).length = (↑l0.length : Int).toNat) (
  reqB (∀ (y : Int),
  y ∈ List.take (↑l0.length : Int).toNat (List.drop (0 : Nat) l7) →
    (-9223372036854775808 : Int) ≤ y ∧ y ≤ (9223372036854775807 : Int)) (
  reqB ((List.take (↑l0.length : Int).toNat (List.drop (0 : Nat) l8)).length = (↑l0.length : Int).toNat) (
  reqB (∀ (y : Int),
  y ∈ List.take (↑l0.length : Int).toNat (List.drop (0 : Nat) l8) →
    (-9223372036854775808 : Int) ≤ y ∧ y ≤ (9223372036854775807 : Int)) (
  reqB ((1 : Int) ≤ n5) (
  reqB (n5 ≤ (127 : Int)) (
  reqB (lenCols
    [Col.i Go.IntKind.i64 (Int.negSucc (9223372036854775807 : Nat)) (Int.ofNat (9223372036854775807 : Nat))
        (List.replicate ((2 : Int) * n5 + (1 : Int)).toNat (0 : Int))] ≤
  (255 : Nat)) (
  reqB ((List.replicate ((2 : Int) * n5 + (1 : Int)).toNat (0 : Int)).length =
  lenCols
    [Col.i Go.IntKind.i64 (Int.negSucc (9223372036854775807 : Nat)) (Int.ofNat (9223372036854775807 : Nat))
        (List.replicate ((2 : Int) * n5 + (1 : Int)).toNat (0 : Int))]) (
  reqB (∀ (y : Int), y ∈ List.replicate ((2 : Int) * n5 + (1 : Int)).toNat (0 : Int) → (0 : Int) ≤ y ∧ y ≤ (600 : Int)) (
  reqB (cntL.inv
  [DV.l (List.take (↑l0.length : Int).toNat (List.drop (0 : Nat) l7)),
    DV.l (List.take (↑l0.length : Int).toNat (List.drop (0 : Nat) l8)), DV.n n5]
  [DV.n (0 : Int), DV.l (List.replicate ((2 : Int) * n5 + (1 : Int)).toNat (0 : Int))]) (
  allB fun n11 : Int => 
  impB ((0 : Int) ≤ n11) (
  impB (n11 ≤ (300 : Int)) (
  allB fun l12 : List Int => 
  impB (l12.length ≤ (255 : Nat)) (
  impB (∀ (y : Int), y ∈ l12 → (0 : Int) ≤ y ∧ y ≤ (600 : Int)) (
  impB (cntL.inv
  [DV.l (List.take (↑l0.length : Int).toNat (List.drop (0 : Nat) l7)),
    DV.l (List.take (↑l0.length : Int).toNat (List.drop (0 : Nat) l8)), DV.n n5]
  [DV.n n11, DV.l l12]) (
  bR (dec (n11 < (↑(↑l0.length : Int).toNat : Int))) (
   reqB (n11.toNat < (↑l0.length : Int).toNat) (
   reqB (Nat.add (0 : Nat) n11.toNat < l7.length) (
   reqB (Nat.add (0 : Nat) n11.toNat < l8.length) (
   allB fun n13 : Int => 
   impB (n13 = Go.IntKind.i64.wrap (l7.getD (Nat.add (0 : Nat) n11.toNat) (0 : Int) + n5)) (
   impB (Int.negSucc (9223372036854775807 : Nat) ≤ n13) (
   impB (n13 ≤ Int.ofNat (9223372036854775807 : Nat)) (
   reqB ((0 : Int) ≤ n13) (
   reqB (n13.toNat < ((2 : Int) * n5 + (1 : Int)).toNat) (
   reqB (Nat.add (0 : Nat) n13.toNat < l12.length) (
   reqB ((0 : Int) ≤ n13) (
   reqB (n13.toNat < ((2 : Int) * n5 + (1 : Int)).toNat) (
   reqB ((0 : Int) ≤ l12.getD (Nat.add (0 : Nat) n13.toNat) (0 : Int) + (1 : Int) ∧
  l12.getD (Nat.add (0 : Nat) n13.toNat) (0 : Int) + (1 : Int) ≤ (600 : Int)) (
   reqB (Nat.add (0 : Nat) n13.toNat < l12.length) (
   allB fun n14 : Int => 
   impB (n14 = Go.IntKind.i64.wrap (l8.getD (Nat.add (0 : Nat) n11.toNat) (0 : Int) + n5)) (
   impB (Int.negSucc (9223372036854775807 : Nat) ≤ n14) (
   impB (n14 ≤ Int.ofNat (9223372036854775807 : Nat)) (
   reqB ((0 : Int) ≤ n14) (
   reqB (n14.toNat < ((2 : Int) * n5 + (1 : Int)).toNat) (
   reqB (Nat.add (0 : Nat) n14.toNat <
  (l12.set (Nat.add (0 : Nat) n13.toNat) (l12.getD (Nat.add (0 : Nat) n13.toNat) (0 : Int) + (1 : Int))).length) (
   reqB ((0 : Int) ≤ n14) (
   reqB (n14.toNat < ((2 : Int) * n5 + (1 : Int)).toNat) (
   reqB ((0 : Int) ≤
    (l12.set (Nat.add (0 : Nat) n13.toNat) (l12.getD (Nat.add (0 : Nat) n13.toNat) (0 : Int) + (1 : Int))).getD
        (Nat.add (0 : Nat) n14.toNat) (0 : Int) +
      (1 : Int) ∧
  (l12.set (Nat.add (0 : Nat) n13.toNat) (l12.getD (Nat.add (0 : Nat) n13.toNat) (0 : Int) + (1 : Int))).getD
        (Nat.add (0 : Nat) n14.toNat) (0 : Int) +
      (1 : Int) ≤
    (600 : Int)) (
   reqB (Nat.add (0 : Nat) n14.toNat <
  (l12.set (Nat.add (0 : Nat) n13.toNat) (l12.getD (Nat.add (0 : Nat) n13.toNat) (0 : Int) + (1 : Int))).length) (
   bR (bR (dec (n5 = n5)) (
    bR (bR (dec ((0 : Nat) = (0 : Nat))) (
     dec (((2 : Int) * n5 + (1 : Int)).toNat = ((2 : Int) * n5 + (1 : Int)).toNat)) (
     false)) (
     bR (bR (dec ((0 : Nat) = (0 : Nat))) (
      dec ((↑l0.length : Int).toNat = (↑l0.length : Int).toNat)) (
      false)) (
      bR (dec ((↑(↑l0.length : Int).toNat : Int) = (↑(↑l0.length : Int).toNat : Int))) (
       true) (
       false)) (
      false)) (
     false)) (
    false)) (
    bR (bR (bR (dec (n2 = n2)) (
     bR (dec (n3 = n3)) (
      true) (
      false)) (
     false)) (
     bR (bR (dec (n2 = n2)) (
      bR (dec (n3 = n3)) (
       true) (
       false)) (
      false)) (
      bR (bR (dec (l7.length.mul (2 : Nat) = l7.length.mul (2 : Nat))) (
       dec ([Col.i Go.IntKind.i64 (-9223372036854775808 : Int) (9223372036854775807 : Int) l7,
    Col.i Go.IntKind.i64 (-9223372036854775808 : Int) (9223372036854775807 : Int) l8] =
  [Col.i Go.IntKind.i64 (-9223372036854775808 : Int) (9223372036854775807 : Int) l7,
    Col.i Go.IntKind.i64 (-9223372036854775808 : Int) (9223372036854775807 : Int) l8])) (
       false)) (
       true) (
       false)) (
      false)) (
     false)) (
     reqB ((0 : Int) ≤ n11 + (1 : Int)) (
     reqB (n11 + (1 : Int) ≤ (300 : Int)) (
     reqB (lenCols
    [Col.i Go.IntKind.i64 (0 : Int) (600 : Int)
        ((l12.set (Nat.add (0 : Nat) n13.toNat) (l12.getD (Nat.add (0 : Nat) n13.toNat) (0 : Int) + (1 : Int))).set
          (Nat.add (0 : Nat) n14.toNat)
          ((l12.set (Nat.add (0 : Nat) n13.toNat) (l12.getD (Nat.add (0 : Nat) n13.toNat) (0 : Int) + (1 : Int))).getD
              (Nat.add (0 : Nat) n14.toNat) (0 : Int) +
            (1 : Int)))] ≤
  (255 : Nat)) (
     reqB (((l12.set (Nat.add (0 : Nat) n13.toNat) (l12.getD (Nat.add (0 : Nat) n13.toNat) (0 : Int) + (1 : Int))).set
      (Nat.add (0 : Nat) n14.toNat)
      ((l12.set (Nat.add (0 : Nat) n13.toNat) (l12.getD (Nat.add (0 : Nat) n13.toNat) (0 : Int) + (1 : Int))).getD
          (Nat.add (0 : Nat) n14.toNat) (0 : Int) +
        (1 : Int))).length =
  lenCols
    [Col.i Go.IntKind.i64 (0 : Int) (600 : Int)
        ((l12.set (Nat.add (0 : Nat) n13.toNat) (l12.getD (Nat.add (0 : Nat) n13.toNat) (0 : Int) + (1 : Int))).set
          (Nat.add (0 : Nat) n14.toNat)
          ((l12.set (Nat.add (0 : Nat) n13.toNat) (l12.getD (Nat.add (0 : Nat) n13.toNat) (0 : Int) + (1 : Int))).getD
              (Nat.add (0 : Nat) n14.toNat) (0 : Int) +
            (1 : Int)))]) (
     reqB (∀ (y : Int),
  y ∈
      (l12.set (Nat.add (0 : Nat) n13.toNat) (l12.getD (Nat.add (0 : Nat) n13.toNat) (0 : Int) + (1 : Int))).set
        (Nat.add (0 : Nat) n14.toNat)
        ((l12.set (Nat.add (0 : Nat) n13.toNat) (l12.getD (Nat.add (0 : Nat) n13.toNat) (0 : Int) + (1 : Int))).getD
            (Nat.add (0 : Nat) n14.toNat) (0 : Int) +
          (1 : Int)) →
    (0 : Int) ≤ y ∧ y ≤ (600 : Int)) (
     reqB (cntL.inv
  [DV.l (List.take (↑l0.length : Int).toNat (List.drop (0 : Nat) l7)),
    DV.l (List.take (↑l0.length : Int).toNat (List.drop (0 : Nat) l8)), DV.n n5]
  [DV.n (n11 + (1 : Int)),
    DV.l
      ((l12.set (Nat.add (0 : Nat) n13.toNat) (l12.getD (Nat.add (0 : Nat) n13.toNat) (0 : Int) + (1 : Int))).set
        (Nat.add (0 : Nat) n14.toNat)
        ((l12.set (Nat.add (0 : Nat) n13.toNat) (l12.getD (Nat.add (0 : Nat) n13.toNat) (0 : Int) + (1 : Int))).getD
            (Nat.add (0 : Nat) n14.toNat) (0 : Int) +
          (1 : Int)))]) (
     reqB (cntL.mea
    [DV.l (List.take (↑l0.length : Int).toNat (List.drop (0 : Nat) l7)),
      DV.l (List.take (↑l0.length : Int).toNat (List.drop (0 : Nat) l8)), DV.n n5]
    [DV.n (n11 + (1 : Int)),
      DV.l
        ((l12.set (Nat.add (0 : Nat) n13.toNat) (l12.getD (Nat.add (0 : Nat) n13.toNat) (0 : Int) + (1 : Int))).set
          (Nat.add (0 : Nat) n14.toNat)
          ((l12.set (Nat.add (0 : Nat) n13.toNat) (l12.getD (Nat.add (0 : Nat) n13.toNat) (0 : Int) + (1 : Int))).getD
              (Nat.add (0 : Nat) n14.toNat) (0 : Int) +
            (1 : Int)))] <
  cntL.mea
    [DV.l (List.take (↑l0.length : Int).toNat (List.drop (0 : Nat) l7)),
      DV.l (List.take (↑l0.length : Int).toNat (List.drop (0 : Nat) l8)), DV.n n5]
    [DV.n n11, DV.l l12]) (
     true)))))))) (
     false)) (
    false))))))))))))))))))))))))) (
   reqB (((0 : Nat) + ((2 : Int) * n5 + (1 : Int)).toNat) * (1 : Nat) ≤ l12.length.mul (1 : Nat)) (
   reqB (((2 : Int) * n5 + (1 : Int)).toNat ≤ (255 : Nat)) (
   reqB ((List.take ((2 : Int) * n5 + (1 : Int)).toNat (List.drop (0 : Nat) l12)).length = ((2 : Int) * n5 + (1 : Int)).toNat) (
   reqB (∀ (y : Int),
  y ∈ List.take ((2 : Int) * n5 + (1 : Int)).toNat (List.drop (0 : Nat) l12) → (0 : Int) ≤ y ∧ y ≤ (600 : Int)) (
   reqB (sigCount.post [DV.l l0, DV.l l1, DV.n n2, DV.n n3]
  [DV.l (List.take ((2 : Int) * n5 + (1 : Int)).toNat (List.drop (0 : Nat) l12)), DV.n (0 : Int)]) (
   true)))))))))))))))))))))))))))))))))))))))))))))))))))))))))))))))))))))))))))))))))))) := by kernel_rfl
set_option maxHeartbeats 8000000 in
theorem vt_count : vcFn Try.prog [(31, Ext.ctr (ctOf sigChkA)), (35, Ext.ctr (ctOf sigGr)), (32, Ext.ctr (ctOf sigLev))] tabC [] 100 16 sigCount = true := by
  rw [vc_count]
  try simp only [Int.toNat_natCast, List.length_set, List.length_replicate, List.length_take, List.length_drop, List.length_append, List.length_cons, List.length_nil, Nat.min_self, List.take_take, lenCols_i, lenCols_b, List.drop_zero, List.take_length, Nat.add_eq, Nat.mul_eq, Nat.sub_eq, Nat.zero_add, Nat.sub_zero, Nat.mul_one]
  refine all_i fun l0 => ?_
  refine imp_i fun h0 => ?_
  refine imp_i fun h1 => ?_
  refine all_i fun l1 => ?_
  refine imp_i fun h2 => ?_
  have tkl1 := take_eq h2
  try simp only [tkl1]
  refine imp_i fun h3 => ?_
  refine all_i fun n2 => ?_
  refine imp_i fun h4 => ?_
  refine imp_i fun h5 => ?_
  refine all_i fun n3 => ?_
  refine imp_i fun h6 => ?_
  refine imp_i fun h7 => ?_
  refine imp_i fun h8 => ?_
  try simp only [sigCount, countPost, List.cons.injEq, DV.b.injEq, and_true, List.length_cons, List.length_nil] at h8
  refine req_i ?_ ?_
  · -- r0
    first | omega | exact i2 | (simp only [Nat.mul_eq]; exact ⟨by omega, by omega, rfl⟩) | (simp only [Nat.mul_eq, incA_len]; omega) | ((try simp only [Nat.mul_eq]); first | done | omega | assumption | grind [getD_set, getD_rep, toNat_succ, cntN_yes, cntN_no])
  refine req_i ?_ ?_
  · -- r1
    first | omega | exact i2 | (simp only [Nat.zero_add]; exact ⟨by omega, by omega, rfl⟩) | (simp only [Nat.zero_add, incA_len]; omega) | ((try simp only [Nat.zero_add]); first | done | omega | assumption | grind [getD_set, getD_rep, toNat_succ, cntN_yes, cntN_no])
  refine req_i ?_ ?_
  · -- r2
    first | omega | exact i2 | (simp only [List.length_take, List.take_length, List.take_take, Nat.min_self, List.length_drop, List.drop_zero, List.length_cons, List.length_nil]; exact ⟨by omega, by omega, rfl⟩) | (simp only [List.length_take, List.take_length, List.take_take, Nat.min_self, List.length_drop, List.drop_zero, List.length_cons, List.length_nil, incA_len]; omega) | ((try simp only [List.length_take, List.take_length, List.take_take, Nat.min_self, List.length_drop, List.drop_zero, List.length_cons, List.length_nil]); first | done | omega | assumption | grind [getD_set, getD_rep, toNat_succ, cntN_yes, cntN_no])
  refine req_i ?_ ?_
  · -- r3
    first | assumption | exact rep_bd (by omega) (by omega) | exact set_bd (by assumption) (by omega) (by omega) | exact take_bd (by assumption) | exact i2 | (simp only [List.length_take, List.take_length, List.take_take, Nat.min_self, List.length_drop, List.drop_zero, List.length_cons, List.length_nil]; exact ⟨by omega, by omega, rfl⟩) | (simp only [List.length_take, List.take_length, List.take_take, Nat.min_self, List.length_drop, List.drop_zero, List.length_cons, List.length_nil, incA_len]; omega) | ((try simp only [List.length_take, List.take_length, List.take_take, Nat.min_self, List.length_drop, List.drop_zero, List.length_cons, List.length_nil]); first | assumption | exact rep_bd (by omega) (by omega) | exact set_bd (by assumption) (by omega) (by omega) | exact take_bd (by assumption) | grind [getD_set, getD_rep, toNat_succ, cntN_yes, cntN_no])
  refine req_i ?_ ?_
  · -- r4
    first | omega | exact i2 | (simp only [List.length_take, List.take_length, List.take_take, Nat.min_self, List.length_drop, List.drop_zero, List.length_cons, List.length_nil]; exact ⟨by omega, by omega, rfl⟩) | (simp only [List.length_take, List.take_length, List.take_take, Nat.min_self, List.length_drop, List.drop_zero, List.length_cons, List.length_nil, incA_len]; omega) | ((try simp only [List.length_take, List.take_length, List.take_take, Nat.min_self, List.length_drop, List.drop_zero, List.length_cons, List.length_nil]); first | done | omega | assumption | grind [getD_set, getD_rep, toNat_succ, cntN_yes, cntN_no])
  refine req_i ?_ ?_
  · -- r5
    first | assumption | exact rep_bd (by omega) (by omega) | exact set_bd (by assumption) (by omega) (by omega) | exact take_bd (by assumption) | exact i2 | (simp only [List.length_take, List.take_length, List.take_take, Nat.min_self, List.length_drop, List.drop_zero, List.length_cons, List.length_nil]; exact ⟨by omega, by omega, rfl⟩) | (simp only [List.length_take, List.take_length, List.take_take, Nat.min_self, List.length_drop, List.drop_zero, List.length_cons, List.length_nil, incA_len]; omega) | ((try simp only [List.length_take, List.take_length, List.take_take, Nat.min_self, List.length_drop, List.drop_zero, List.length_cons, List.length_nil]); first | assumption | exact rep_bd (by omega) (by omega) | exact set_bd (by assumption) (by omega) (by omega) | exact take_bd (by assumption) | grind [getD_set, getD_rep, toNat_succ, cntN_yes, cntN_no])
  refine req_i ?_ ?_
  · -- r6
    first | omega | assumption | exact i2 | (simp only [Nat.zero_add]; exact ⟨by omega, by omega, rfl⟩) | (simp only [Nat.zero_add, incA_len]; omega) | grind
  refine req_i ?_ ?_
  · -- r7
    first | omega | assumption | exact i2 | (simp only [Nat.zero_add]; exact ⟨by omega, by omega, rfl⟩) | (simp only [Nat.zero_add, incA_len]; omega) | grind
  refine req_i ?_ ?_
  · -- r8
    first | omega | assumption | exact i2 | (simp only [Nat.zero_add]; exact ⟨by omega, by omega, rfl⟩) | (simp only [Nat.zero_add, incA_len]; omega) | grind
  refine req_i ?_ ?_
  · -- r9
    first | omega | assumption | exact i2 | (simp only [Nat.zero_add]; exact ⟨by omega, by omega, rfl⟩) | (simp only [Nat.zero_add, incA_len]; omega) | grind
  refine req_i ?_ ?_
  · -- r10
    first | omega | exact i2 | (simp only [sigChkA, chkAPost, List.cons.injEq, DV.b.injEq, and_true, List.length_take, List.take_length, List.take_take, Nat.min_self, List.length_drop, List.drop_zero, List.length_cons, List.length_nil]; exact ⟨by omega, by omega, rfl⟩) | (simp only [sigChkA, chkAPost, List.cons.injEq, DV.b.injEq, and_true, List.length_take, List.take_length, List.take_take, Nat.min_self, List.length_drop, List.drop_zero, List.length_cons, List.length_nil, incA_len]; omega) | ((try simp only [sigChkA, chkAPost, List.cons.injEq, DV.b.injEq, and_true, List.length_take, List.take_length, List.take_take, Nat.min_self, List.length_drop, List.drop_zero, List.length_cons, List.length_nil]); first | done | omega | assumption | grind [getD_set, getD_rep, toNat_succ, cntN_yes, cntN_no])
  refine all_i fun n4 => ?_
  refine imp_i fun h9 => ?_
  refine imp_i fun h10 => ?_
  refine imp_i fun h11 => ?_
  try simp only [sigChkA, chkAPost, List.cons.injEq, DV.b.injEq, and_true, List.length_take, List.take_length, List.take_take, Nat.min_self, List.length_drop, List.drop_zero, List.length_cons, List.length_nil] at h11
  refine bR_dec (fun h12 => ?_) (fun h12 => ?_)
  ·
    refine req_i ?_ ?_
    · -- r11
      first | omega | assumption | exact i2 | (simp only [Nat.zero_add]; exact ⟨by omega, by omega, rfl⟩) | (simp only [Nat.zero_add, incA_len]; omega) | grind
    refine req_i ?_ ?_
    · -- r12
      first | omega | assumption | exact i2 | (simp only [Nat.zero_add]; exact ⟨by omega, by omega, rfl⟩) | (simp only [Nat.zero_add, incA_len]; omega) | grind
    refine req_i ?_ ?_
    · -- r13
      first | omega | exact i2 | (simp only [sigCount, countPost, List.cons.injEq, DV.b.injEq, and_true, List.length_cons, List.length_nil]; exact ⟨by omega, by omega, rfl⟩) | (simp only [sigCount, countPost, List.cons.injEq, DV.b.injEq, and_true, List.length_cons, List.length_nil, incA_len]; omega) | ((try simp only [sigCount, countPost, List.cons.injEq, DV.b.injEq, and_true, List.length_cons, List.length_nil]); first | done | omega | assumption | grind [getD_set, getD_rep, toNat_succ, cntN_yes, cntN_no])
    rfl
  ·
    obtain ⟨G, L, I⟩ := errS_ok (b := n2) (n := n3) (m := 70368744177664) (s := l0) (t := l1) (by omega)
    refine req_i ?_ ?_
    · -- r14
      first | omega | assumption | exact i2 | (simp only [Nat.zero_add]; exact ⟨by omega, by omega, rfl⟩) | (simp only [Nat.zero_add, incA_len]; omega) | grind
    refine req_i ?_ ?_
    · -- r15
      first | omega | assumption | exact i2 | (simp only [Nat.zero_add]; exact ⟨by omega, by omega, rfl⟩) | (simp only [Nat.zero_add, incA_len]; omega) | grind
    refine req_i ?_ ?_
    · -- r16
      first | omega | assumption | exact i2 | (simp only [Nat.zero_add]; exact ⟨by omega, by omega, rfl⟩) | (simp only [Nat.zero_add, incA_len]; omega) | grind
    refine req_i ?_ ?_
    · -- r17
      first | omega | assumption | exact i2 | (simp only [Nat.zero_add]; exact ⟨by omega, by omega, rfl⟩) | (simp only [Nat.zero_add, incA_len]; omega) | grind
    refine req_i ?_ ?_
    · -- r18
      first | trivial | assumption | exact i2 | (simp only [sigGr, grPost, List.cons.injEq, DV.b.injEq, and_true, List.length_cons, List.length_nil]; exact ⟨by omega, by omega, rfl⟩) | (simp only [sigGr, grPost, List.cons.injEq, DV.b.injEq, and_true, List.length_cons, List.length_nil, incA_len]; omega) | (simp only [sigGr, grPost, List.cons.injEq, DV.b.injEq, and_true, List.length_cons, List.length_nil]; done) | ((try simp only [sigGr, grPost, List.cons.injEq, DV.b.injEq, and_true, List.length_cons, List.length_nil]); first | omega | assumption | grind)
    refine all_i fun n5 => ?_
    refine imp_i fun h13 => ?_
    refine imp_i fun h14 => ?_
    refine imp_i fun h15 => ?_
    try simp only [sigGr, grPost, List.cons.injEq, DV.b.injEq, and_true, List.length_cons, List.length_nil] at h15
    have ql := qq_bd (b := n2) (by omega) (by omega)
    refine req_i ?_ ?_
    · -- r19
      first | omega | assumption | exact i2 | (simp only [Int.toNat_natCast, List.length_cons, List.length_nil]; exact ⟨by omega, by omega, rfl⟩) | (simp only [Int.toNat_natCast, List.length_cons, List.length_nil, incA_len]; omega) | grind
    refine req_i ?_ ?_
    · -- r20
      first | omega | assumption | exact i2 | (simp only [Int.toNat_natCast, List.length_cons, List.length_nil]; exact ⟨by omega, by omega, rfl⟩) | (simp only [Int.toNat_natCast, List.length_cons, List.length_nil, incA_len]; omega) | grind
    refine req_i ?_ ?_
    · -- r21
      first | omega | exact i2 | (simp only [Int.toNat_natCast, List.length_cons, List.length_nil]; exact ⟨by omega, by omega, rfl⟩) | (simp only [Int.toNat_natCast, List.length_cons, List.length_nil, incA_len]; omega) | ((try simp only [Int.toNat_natCast, List.length_cons, List.length_nil]); first | done | omega | assumption | grind [getD_set, getD_rep, toNat_succ, cntN_yes, cntN_no])
    refine req_i ?_ ?_
    · -- r22
      first | omega | exact i2 | (simp only [Int.toNat_natCast, List.length_cons, List.length_nil]; exact ⟨by omega, by omega, rfl⟩) | (simp only [Int.toNat_natCast, List.length_cons, List.length_nil, incA_len]; omega) | ((try simp only [Int.toNat_natCast, List.length_cons, List.length_nil]); first | done | omega | assumption | grind [getD_set, getD_rep, toNat_succ, cntN_yes, cntN_no])
    refine req_i ?_ ?_
    · -- r23
      first | omega | exact i2 | (simp only [Nat.mul_eq]; exact ⟨by omega, by omega, rfl⟩) | (simp only [Nat.mul_eq, incA_len]; omega) | ((try simp only [Nat.mul_eq]); first | done | omega | assumption | grind [getD_set, getD_rep, toNat_succ, cntN_yes, cntN_no])
    refine req_i ?_ ?_
    · -- r24
      first | omega | exact i2 | (simp only [Nat.zero_add]; exact ⟨by omega, by omega, rfl⟩) | (simp only [Nat.zero_add, incA_len]; omega) | ((try simp only [Nat.zero_add]); first | done | omega | assumption | grind [getD_set, getD_rep, toNat_succ, cntN_yes, cntN_no])
    refine req_i ?_ ?_
    · -- r25
      first | omega | exact i2 | (simp only [List.length_take, List.take_length, List.take_take, Nat.min_self, List.length_drop, List.drop_zero, List.length_cons, List.length_nil]; exact ⟨by omega, by omega, rfl⟩) | (simp only [List.length_take, List.take_length, List.take_take, Nat.min_self, List.length_drop, List.drop_zero, List.length_cons, List.length_nil, incA_len]; omega) | ((try simp only [List.length_take, List.take_length, List.take_take, Nat.min_self, List.length_drop, List.drop_zero, List.length_cons, List.length_nil]); first | done | omega | assumption | grind [getD_set, getD_rep, toNat_succ, cntN_yes, cntN_no])
    refine req_i ?_ ?_
    · -- r26
      first | assumption | exact rep_bd (by omega) (by omega) | exact set_bd (by assumption) (by omega) (by omega) | exact take_bd (by assumption) | exact i2 | (simp only [List.length_take, List.take_length, List.take_take, Nat.min_self, List.length_drop, List.drop_zero, List.length_cons, List.length_nil]; exact ⟨by omega, by omega, rfl⟩) | (simp only [List.length_take, List.take_length, List.take_take, Nat.min_self, List.length_drop, List.drop_zero, List.length_cons, List.length_nil, incA_len]; omega) | ((try simp only [List.length_take, List.take_length, List.take_take, Nat.min_self, List.length_drop, List.drop_zero, List.length_cons, List.length_nil]); first | assumption | exact rep_bd (by omega) (by omega) | exact set_bd (by assumption) (by omega) (by omega) | exact take_bd (by assumption) | grind [getD_set, getD_rep, toNat_succ, cntN_yes, cntN_no])
    refine req_i ?_ ?_
    · -- r27
      first | omega | exact i2 | (simp only [List.length_take, List.take_length, List.take_take, Nat.min_self, List.length_drop, List.drop_zero, List.length_cons, List.length_nil]; exact ⟨by omega, by omega, rfl⟩) | (simp only [List.length_take, List.take_length, List.take_take, Nat.min_self, List.length_drop, List.drop_zero, List.length_cons, List.length_nil, incA_len]; omega) | ((try simp only [List.length_take, List.take_length, List.take_take, Nat.min_self, List.length_drop, List.drop_zero, List.length_cons, List.length_nil]); first | done | omega | assumption | grind [getD_set, getD_rep, toNat_succ, cntN_yes, cntN_no])
    refine req_i ?_ ?_
    · -- r28
      first | assumption | exact rep_bd (by omega) (by omega) | exact set_bd (by assumption) (by omega) (by omega) | exact take_bd (by assumption) | exact i2 | (simp only [List.length_take, List.take_length, List.take_take, Nat.min_self, List.length_drop, List.drop_zero, List.length_cons, List.length_nil]; exact ⟨by omega, by omega, rfl⟩) | (simp only [List.length_take, List.take_length, List.take_take, Nat.min_self, List.length_drop, List.drop_zero, List.length_cons, List.length_nil, incA_len]; omega) | ((try simp only [List.length_take, List.take_length, List.take_take, Nat.min_self, List.length_drop, List.drop_zero, List.length_cons, List.length_nil]); first | assumption | exact rep_bd (by omega) (by omega) | exact set_bd (by assumption) (by omega) (by omega) | exact take_bd (by assumption) | grind [getD_set, getD_rep, toNat_succ, cntN_yes, cntN_no])
    refine req_i ?_ ?_
    · -- r29
      first | omega | assumption | exact i2 | (simp only [Nat.zero_add]; exact ⟨by omega, by omega, rfl⟩) | (simp only [Nat.zero_add, incA_len]; omega) | grind
    refine req_i ?_ ?_
    · -- r30
      first | omega | assumption | exact i2 | (simp only [Nat.zero_add]; exact ⟨by omega, by omega, rfl⟩) | (simp only [Nat.zero_add, incA_len]; omega) | grind
    refine req_i ?_ ?_
    · -- r31
      first | omega | assumption | exact i2 | (simp only [Nat.zero_add]; exact ⟨by omega, by omega, rfl⟩) | (simp only [Nat.zero_add, incA_len]; omega) | grind
    refine req_i ?_ ?_
    · -- r32
      first | omega | assumption | exact i2 | (simp only [Nat.zero_add]; exact ⟨by omega, by omega, rfl⟩) | (simp only [Nat.zero_add, incA_len]; omega) | grind
    refine req_i ?_ ?_
    · -- r33
      first | omega | exact i2 | (simp only [Int.toNat_natCast, List.length_replicate, List.length_cons, List.length_nil, lenCols_i, lenCols_b]; exact ⟨by omega, by omega, rfl⟩) | (simp only [Int.toNat_natCast, List.length_replicate, List.length_cons, List.length_nil, lenCols_i, lenCols_b, incA_len]; omega) | ((try simp only [Int.toNat_natCast, List.length_replicate, List.length_cons, List.length_nil, lenCols_i, lenCols_b]); first | done | omega | assumption | grind [getD_set, getD_rep, toNat_succ, cntN_yes, cntN_no])
    refine req_i ?_ ?_
    · -- r34
      first | omega | exact i2 | (simp only [Int.toNat_natCast, List.length_replicate, List.length_cons, List.length_nil, lenCols_i, lenCols_b]; exact ⟨by omega, by omega, rfl⟩) | (simp only [Int.toNat_natCast, List.length_replicate, List.length_cons, List.length_nil, lenCols_i, lenCols_b, incA_len]; omega) | ((try simp only [Int.toNat_natCast, List.length_replicate, List.length_cons, List.length_nil, lenCols_i, lenCols_b]); first | done | omega | assumption | grind [getD_set, getD_rep, toNat_succ, cntN_yes, cntN_no])
    refine req_i ?_ ?_
    · -- r35
      first | assumption | exact rep_bd (by omega) (by omega) | exact set_bd (by assumption) (by omega) (by omega) | exact take_bd (by assumption) | exact i2 | (simp only [Int.toNat_natCast, List.length_replicate, List.length_cons, List.length_nil]; exact ⟨by omega, by omega, rfl⟩) | (simp only [Int.toNat_natCast, List.length_replicate, List.length_cons, List.length_nil, incA_len]; omega) | ((try simp only [Int.toNat_natCast, List.length_replicate, List.length_cons, List.length_nil]); first | assumption | exact rep_bd (by omega) (by omega) | exact set_bd (by assumption) (by omega) (by omega) | exact take_bd (by assumption) | grind [getD_set, getD_rep, toNat_succ, cntN_yes, cntN_no])
    refine req_i ?_ ?_
    · -- r36
      first | omega | exact i2 | (simp only [Int.toNat_natCast, List.length_replicate, List.length_cons, List.length_nil, lenCols_i, lenCols_b]; exact ⟨by omega, by omega, rfl⟩) | (simp only [Int.toNat_natCast, List.length_replicate, List.length_cons, List.length_nil, lenCols_i, lenCols_b, incA_len]; omega) | ((try simp only [Int.toNat_natCast, List.length_replicate, List.length_cons, List.length_nil, lenCols_i, lenCols_b]); first | done | omega | assumption | grind [getD_set, getD_rep, toNat_succ, cntN_yes, cntN_no])
    refine req_i ?_ ?_
    · -- r37
      first | assumption | exact rep_bd (by omega) (by omega) | exact set_bd (by assumption) (by omega) (by omega) | exact take_bd (by assumption) | exact i2 | (simp only [Int.toNat_natCast, List.length_replicate, List.length_cons, List.length_nil]; exact ⟨by omega, by omega, rfl⟩) | (simp only [Int.toNat_natCast, List.length_replicate, List.length_cons, List.length_nil, incA_len]; omega) | ((try simp only [Int.toNat_natCast, List.length_replicate, List.length_cons, List.length_nil]); first | assumption | exact rep_bd (by omega) (by omega) | exact set_bd (by assumption) (by omega) (by omega) | exact take_bd (by assumption) | grind [getD_set, getD_rep, toNat_succ, cntN_yes, cntN_no])
    refine req_i ?_ ?_
    · -- r38
      first | omega | exact i2 | (simp only [mapL, mapInv, mea0, List.cons.injEq, DV.b.injEq, and_true, Int.toNat_natCast, List.length_replicate, List.length_take, List.take_length, List.take_take, Nat.min_self, List.length_drop, List.drop_zero, List.length_cons, List.length_nil]; exact ⟨by omega, by omega, rfl⟩) | (simp only [mapL, mapInv, mea0, List.cons.injEq, DV.b.injEq, and_true, Int.toNat_natCast, List.length_replicate, List.length_take, List.take_length, List.take_take, Nat.min_self, List.length_drop, List.drop_zero, List.length_cons, List.length_nil, incA_len]; omega) | ((try simp only [mapL, mapInv, mea0, List.cons.injEq, DV.b.injEq, and_true, Int.toNat_natCast, List.length_replicate, List.length_take, List.take_length, List.take_take, Nat.min_self, List.length_drop, List.drop_zero, List.length_cons, List.length_nil]); first | done | omega | assumption | grind [getD_set, getD_rep, toNat_succ, cntN_yes, cntN_no])
    refine all_i fun n6 => ?_
    refine imp_i fun h16 => ?_
    refine imp_i fun h17 => ?_
    refine all_i fun l7 => ?_
    refine imp_i fun h18 => ?_
    refine imp_i fun h19 => ?_
    refine all_i fun l8 => ?_
    refine imp_i fun h20 => ?_
    have tkl8 := take_eq h20
    try simp only [tkl8]
    refine imp_i fun h21 => ?_
    refine imp_i fun h22 => ?_
    try simp only [mapL, mapInv, mea0, List.cons.injEq, DV.b.injEq, and_true, List.length_take, List.take_length, List.take_take, Nat.min_self, List.length_drop, List.drop_zero, List.length_cons, List.length_nil] at h22
    refine bR_dec (fun h23 => ?_) (fun h23 => ?_)
    ·
      have ib := inS_bd I (i := n6) (by omega)
      refine req_i ?_ ?_
      · -- r39
        first | omega | exact i2 | (simp only [Int.toNat_natCast, List.length_cons, List.length_nil]; exact ⟨by omega, by omega, rfl⟩) | (simp only [Int.toNat_natCast, List.length_cons, List.length_nil, incA_len]; omega) | ((try simp only [Int.toNat_natCast, List.length_cons, List.length_nil]); first | done | omega | assumption | grind [getD_set, getD_rep, toNat_succ, cntN_yes, cntN_no])
      refine req_i ?_ ?_
      · -- r40
        first | omega | exact i2 | (simp only [Int.toNat_natCast, List.length_cons, List.length_nil, Nat.add_eq, Nat.zero_add]; exact ⟨by omega, by omega, rfl⟩) | (simp only [Int.toNat_natCast, List.length_cons, List.length_nil, Nat.add_eq, Nat.zero_add, incA_len]; omega) | ((try simp only [Int.toNat_natCast, List.length_cons, List.length_nil, Nat.add_eq, Nat.zero_add]); first | done | omega | assumption | grind [getD_set, getD_rep, toNat_succ, cntN_yes, cntN_no])
      refine req_i ?_ ?_
      · -- r41
        first | omega | exact i2 | (simp only [Int.toNat_natCast, List.length_cons, List.length_nil, Nat.add_eq, Nat.zero_add]; exact ⟨by omega, by omega, rfl⟩) | (simp only [Int.toNat_natCast, List.length_cons, List.length_nil, Nat.add_eq, Nat.zero_add, incA_len]; omega) | ((try simp only [Int.toNat_natCast, List.length_cons, List.length_nil, Nat.add_eq, Nat.zero_add]); first | done | omega | assumption | grind [getD_set, getD_rep, toNat_succ, cntN_yes, cntN_no])
      refine req_i ?_ ?_
      · -- r42
        first | omega | assumption | exact i2 | (simp only [Nat.zero_add]; exact ⟨by omega, by omega, rfl⟩) | (simp only [Nat.zero_add, incA_len]; omega) | grind
      refine req_i ?_ ?_
      · -- r43
        first | omega | assumption | exact i2 | (simp only [Nat.zero_add]; exact ⟨by omega, by omega, rfl⟩) | (simp only [Nat.zero_add, incA_len]; omega) | grind
      refine req_i ?_ ?_
      · -- r44
        first | omega | assumption | exact i2 | (simp only [Nat.zero_add]; exact ⟨by omega, by omega, rfl⟩) | (simp only [Nat.zero_add, incA_len]; omega) | grind
      refine req_i ?_ ?_
      · -- r45
        first | omega | assumption | exact i2 | (simp only [Nat.zero_add]; exact ⟨by omega, by omega, rfl⟩) | (simp only [Nat.zero_add, incA_len]; omega) | grind
      refine req_i ?_ ?_
      · -- r46
        first | omega | assumption | exact i2 | (simp only [Int.toNat_natCast, List.length_cons, List.length_nil, Nat.add_eq, Nat.zero_add]; exact ⟨by omega, by omega, rfl⟩) | (simp only [Int.toNat_natCast, List.length_cons, List.length_nil, Nat.add_eq, Nat.zero_add, incA_len]; omega) | grind
      refine req_i ?_ ?_
      · -- r47
        first | omega | assumption | exact i2 | (simp only [Int.toNat_natCast, List.length_cons, List.length_nil, Nat.add_eq, Nat.zero_add]; exact ⟨by omega, by omega, rfl⟩) | (simp only [Int.toNat_natCast, List.length_cons, List.length_nil, Nat.add_eq, Nat.zero_add, incA_len]; omega) | grind
      refine req_i ?_ ?_
      · -- r48
        first | trivial | assumption | exact i2 | (simp only [sigLev, levPost, List.cons.injEq, DV.b.injEq, and_true, Int.toNat_natCast, List.length_cons, List.length_nil, Nat.add_eq, Nat.zero_add]; exact ⟨by omega, by omega, rfl⟩) | (simp only [sigLev, levPost, List.cons.injEq, DV.b.injEq, and_true, Int.toNat_natCast, List.length_cons, List.length_nil, Nat.add_eq, Nat.zero_add, incA_len]; omega) | (simp only [sigLev, levPost, List.cons.injEq, DV.b.injEq, and_true, Int.toNat_natCast, List.length_cons, List.length_nil, Nat.add_eq, Nat.zero_add]; done) | ((try simp only [sigLev, levPost, List.cons.injEq, DV.b.injEq, and_true, Int.toNat_natCast, List.length_cons, List.length_nil, Nat.add_eq, Nat.zero_add]); first | omega | assumption | grind)
      refine all_i fun n9 => ?_
      refine imp_i fun h24 => ?_
      refine imp_i fun h25 => ?_
      refine imp_i fun h26 => ?_
      try simp only [sigLev, levPost, List.cons.injEq, DV.b.injEq, and_true, Int.toNat_natCast, List.length_cons, List.length_nil, Nat.add_eq, Nat.zero_add] at h26
      refine req_i ?_ ?_
      · -- r49
        first | omega | assumption | exact i2 | (simp only [Nat.zero_add]; exact ⟨by omega, by omega, rfl⟩) | (simp only [Nat.zero_add, incA_len]; omega) | grind
      refine req_i ?_ ?_
      · -- r50
        first | omega | assumption | exact i2 | (simp only [Nat.zero_add]; exact ⟨by omega, by omega, rfl⟩) | (simp only [Nat.zero_add, incA_len]; omega) | grind
      refine req_i ?_ ?_
      · -- r51
        first | omega | assumption | exact i2 | (simp only [Nat.zero_add]; exact ⟨by omega, by omega, rfl⟩) | (simp only [Nat.zero_add, incA_len]; omega) | grind
      refine req_i ?_ ?_
      · -- r52
        first | omega | assumption | exact i2 | (simp only [Nat.zero_add]; exact ⟨by omega, by omega, rfl⟩) | (simp only [Nat.zero_add, incA_len]; omega) | grind
      refine req_i ?_ ?_
      · -- r53
        first | omega | assumption | exact i2 | (simp only [Int.toNat_natCast, List.length_cons, List.length_nil, Nat.add_eq, Nat.zero_add]; exact ⟨by omega, by omega, rfl⟩) | (simp only [Int.toNat_natCast, List.length_cons, List.length_nil, Nat.add_eq, Nat.zero_add, incA_len]; omega) | grind
      refine req_i ?_ ?_
      · -- r54
        first | omega | assumption | exact i2 | (simp only [Int.toNat_natCast, List.length_cons, List.length_nil, Nat.add_eq, Nat.zero_add]; exact ⟨by omega, by omega, rfl⟩) | (simp only [Int.toNat_natCast, List.length_cons, List.length_nil, Nat.add_eq, Nat.zero_add, incA_len]; omega) | grind
      refine req_i ?_ ?_
      · -- r55
        first | trivial | assumption | exact i2 | (simp only [sigLev, levPost, List.cons.injEq, DV.b.injEq, and_true, Int.toNat_natCast, List.length_cons, List.length_nil, Nat.add_eq, Nat.zero_add]; exact ⟨by omega, by omega, rfl⟩) | (simp only [sigLev, levPost, List.cons.injEq, DV.b.injEq, and_true, Int.toNat_natCast, List.length_cons, List.length_nil, Nat.add_eq, Nat.zero_add, incA_len]; omega) | (simp only [sigLev, levPost, List.cons.injEq, DV.b.injEq, and_true, Int.toNat_natCast, List.length_cons, List.length_nil, Nat.add_eq, Nat.zero_add]; done) | ((try simp only [sigLev, levPost, List.cons.injEq, DV.b.injEq, and_true, Int.toNat_natCast, List.length_cons, List.length_nil, Nat.add_eq, Nat.zero_add]); first | omega | assumption | grind)
      refine all_i fun n10 => ?_
      refine imp_i fun h27 => ?_
      refine imp_i fun h28 => ?_
      refine imp_i fun h29 => ?_
      try simp only [sigLev, levPost, List.cons.injEq, DV.b.injEq, and_true, Int.toNat_natCast, List.length_cons, List.length_nil, Nat.add_eq, Nat.zero_add] at h29
      refine req_i ?_ ?_
      · -- r56
        first | omega | exact i2 | (simp only [Int.toNat_natCast, List.length_cons, List.length_nil]; exact ⟨by omega, by omega, rfl⟩) | (simp only [Int.toNat_natCast, List.length_cons, List.length_nil, incA_len]; omega) | ((try simp only [Int.toNat_natCast, List.length_cons, List.length_nil]); first | done | omega | assumption | grind [getD_set, getD_rep, toNat_succ, cntN_yes, cntN_no])
      refine req_i ?_ ?_
      · -- r57
        first | omega | exact i2 | (simp only [Int.toNat_natCast, List.length_cons, List.length_nil, Nat.add_eq, Nat.zero_add]; exact ⟨by omega, by omega, rfl⟩) | (simp only [Int.toNat_natCast, List.length_cons, List.length_nil, Nat.add_eq, Nat.zero_add, incA_len]; omega) | ((try simp only [Int.toNat_natCast, List.length_cons, List.length_nil, Nat.add_eq, Nat.zero_add]); first | done | omega | assumption | grind [getD_set, getD_rep, toNat_succ, cntN_yes, cntN_no])
      refine req_i ?_ ?_
      · -- r58
        first | omega | exact i2 | (simp only [Int.toNat_natCast, List.length_cons, List.length_nil, Nat.add_eq, Nat.zero_add]; exact ⟨by omega, by omega, rfl⟩) | (simp only [Int.toNat_natCast, List.length_cons, List.length_nil, Nat.add_eq, Nat.zero_add, incA_len]; omega) | ((try simp only [Int.toNat_natCast, List.length_cons, List.length_nil, Nat.add_eq, Nat.zero_add]); first | done | omega | assumption | grind [getD_set, getD_rep, toNat_succ, cntN_yes, cntN_no])
      refine bR_t ?_ ?_
      · -- g0
        first | rfl | (simp only [bR_iff, bR_iff_f, dec_iff, dec_f, beqB_iff', andB_iff', reduceCtorEq, imp_self, false_implies, and_true, true_and, implies_true, and_self]; done) | (simp [bR_iff, dec_iff, beqB_iff', andB_iff']; done) | (simp [bR_iff, dec_iff, beqB_iff', andB_iff']; omega)
      refine bR_t ?_ ?_
      · -- g1
        first | rfl | (simp only [bR_iff, bR_iff_f, dec_iff, dec_f, beqB_iff', andB_iff', reduceCtorEq, imp_self, false_implies, and_true, true_and, implies_true, and_self]; done) | (simp [bR_iff, dec_iff, beqB_iff', andB_iff']; done) | (simp [bR_iff, dec_iff, beqB_iff', andB_iff']; omega)
      refine req_i ?_ ?_
      · -- r59
        first | omega | assumption | exact i2 | (simp only [Nat.zero_add]; exact ⟨by omega, by omega, rfl⟩) | (simp only [Nat.zero_add, incA_len]; omega) | grind
      refine req_i ?_ ?_
      · -- r60
        first | omega | assumption | exact i2 | (simp only [Nat.zero_add]; exact ⟨by omega, by omega, rfl⟩) | (simp only [Nat.zero_add, incA_len]; omega) | grind
      refine req_i ?_ ?_
      · -- r61
        first | omega | exact i2 | (simp only [Int.toNat_natCast, List.length_set, List.length_cons, List.length_nil, lenCols_i, lenCols_b, Nat.add_eq, Nat.zero_add]; exact ⟨by omega, by omega, rfl⟩) | (simp only [Int.toNat_natCast, List.length_set, List.length_cons, List.length_nil, lenCols_i, lenCols_b, Nat.add_eq, Nat.zero_add, incA_len]; omega) | ((try simp only [Int.toNat_natCast, List.length_set, List.length_cons, List.length_nil, lenCols_i, lenCols_b, Nat.add_eq, Nat.zero_add]); first | done | omega | assumption | grind [getD_set, getD_rep, toNat_succ, cntN_yes, cntN_no])
      refine req_i ?_ ?_
      · -- r62
        first | omega | exact i2 | (simp only [Int.toNat_natCast, List.length_set, List.length_cons, List.length_nil, lenCols_i, lenCols_b, Nat.add_eq, Nat.zero_add]; exact ⟨by omega, by omega, rfl⟩) | (simp only [Int.toNat_natCast, List.length_set, List.length_cons, List.length_nil, lenCols_i, lenCols_b, Nat.add_eq, Nat.zero_add, incA_len]; omega) | ((try simp only [Int.toNat_natCast, List.length_set, List.length_cons, List.length_nil, lenCols_i, lenCols_b, Nat.add_eq, Nat.zero_add]); first | done | omega | assumption | grind [getD_set, getD_rep, toNat_succ, cntN_yes, cntN_no])
      refine req_i ?_ ?_
      · -- r63
        first | assumption | exact rep_bd (by omega) (by omega) | exact set_bd (by assumption) (by omega) (by omega) | exact take_bd (by assumption) | exact i2 | (simp only [Int.toNat_natCast, List.length_set, List.length_cons, List.length_nil, Nat.add_eq, Nat.zero_add]; exact ⟨by omega, by omega, rfl⟩) | (simp only [Int.toNat_natCast, List.length_set, List.length_cons, List.length_nil, Nat.add_eq, Nat.zero_add, incA_len]; omega) | ((try simp only [Int.toNat_natCast, List.length_set, List.length_cons, List.length_nil, Nat.add_eq, Nat.zero_add]); first | assumption | exact rep_bd (by omega) (by omega) | exact set_bd (by assumption) (by omega) (by omega) | exact take_bd (by assumption) | grind [getD_set, getD_rep, toNat_succ, cntN_yes, cntN_no])
      refine req_i ?_ ?_
      · -- r64
        first | omega | exact i2 | (simp only [Int.toNat_natCast, List.length_set, List.length_cons, List.length_nil, lenCols_i, lenCols_b, Nat.add_eq, Nat.zero_add]; exact ⟨by omega, by omega, rfl⟩) | (simp only [Int.toNat_natCast, List.length_set, List.length_cons, List.length_nil, lenCols_i, lenCols_b, Nat.add_eq, Nat.zero_add, incA_len]; omega) | ((try simp only [Int.toNat_natCast, List.length_set, List.length_cons, List.length_nil, lenCols_i, lenCols_b, Nat.add_eq, Nat.zero_add]); first | done | omega | assumption | grind [getD_set, getD_rep, toNat_succ, cntN_yes, cntN_no])
      refine req_i ?_ ?_
      · -- r65
        first | assumption | exact rep_bd (by omega) (by omega) | exact set_bd (by assumption) (by omega) (by omega) | exact take_bd (by assumption) | exact i2 | (simp only [Int.toNat_natCast, List.length_set, List.length_cons, List.length_nil, Nat.add_eq, Nat.zero_add]; exact ⟨by omega, by omega, rfl⟩) | (simp only [Int.toNat_natCast, List.length_set, List.length_cons, List.length_nil, Nat.add_eq, Nat.zero_add, incA_len]; omega) | ((try simp only [Int.toNat_natCast, List.length_set, List.length_cons, List.length_nil, Nat.add_eq, Nat.zero_add]); first | assumption | exact rep_bd (by omega) (by omega) | exact set_bd (by assumption) (by omega) (by omega) | exact take_bd (by assumption) | grind [getD_set, getD_rep, toNat_succ, cntN_yes, cntN_no])
      refine req_i ?_ ?_
      · -- r66
        first | omega | exact i2 | (simp only [mapL, mapInv, mea0, List.cons.injEq, DV.b.injEq, and_true, Int.toNat_natCast, List.length_set, List.length_take, List.take_length, List.take_take, Nat.min_self, List.length_drop, List.drop_zero, List.length_cons, List.length_nil, Nat.add_eq, Nat.zero_add]; exact ⟨by omega, by omega, rfl⟩) | (simp only [mapL, mapInv, mea0, List.cons.injEq, DV.b.injEq, and_true, Int.toNat_natCast, List.length_set, List.length_take, List.take_length, List.take_take, Nat.min_self, List.length_drop, List.drop_zero, List.length_cons, List.length_nil, Nat.add_eq, Nat.zero_add, incA_len]; omega) | ((try simp only [mapL, mapInv, mea0, List.cons.injEq, DV.b.injEq, and_true, Int.toNat_natCast, List.length_set, List.length_take, List.take_length, List.take_take, Nat.min_self, List.length_drop, List.drop_zero, List.length_cons, List.length_nil, Nat.add_eq, Nat.zero_add]); first | done | omega | assumption | grind [getD_set, getD_rep, toNat_succ, cntN_yes, cntN_no])
      refine req_i ?_ ?_
      · -- r67
        first | omega | exact i2 | (simp only [mapL, mapInv, mea0, List.cons.injEq, DV.b.injEq, and_true, Int.toNat_natCast, List.length_set, List.length_take, List.take_length, List.take_take, Nat.min_self, List.length_drop, List.drop_zero, List.length_cons, List.length_nil, Nat.add_eq, Nat.zero_add]; exact ⟨by omega, by omega, rfl⟩) | (simp only [mapL, mapInv, mea0, List.cons.injEq, DV.b.injEq, and_true, Int.toNat_natCast, List.length_set, List.length_take, List.take_length, List.take_take, Nat.min_self, List.length_drop, List.drop_zero, List.length_cons, List.length_nil, Nat.add_eq, Nat.zero_add, incA_len]; omega) | ((try simp only [mapL, mapInv, mea0, List.cons.injEq, DV.b.injEq, and_true, Int.toNat_natCast, List.length_set, List.length_take, List.take_length, List.take_take, Nat.min_self, List.length_drop, List.drop_zero, List.length_cons, List.length_nil, Nat.add_eq, Nat.zero_add]); first | done | omega | assumption | grind [getD_set, getD_rep, toNat_succ, cntN_yes, cntN_no])
      rfl
    ·
      have tq7 := take_eq' (l := l7) h22.2.2.1
      have tq8 := take_eq' (l := l8) (n := l0.length) (by omega)
      simp only [tq7, tq8]
      refine req_i ?_ ?_
      · -- r68
        first | omega | exact i2 | (simp only [Int.toNat_natCast, List.length_cons, List.length_nil, Nat.mul_eq]; exact ⟨by omega, by omega, rfl⟩) | (simp only [Int.toNat_natCast, List.length_cons, List.length_nil, Nat.mul_eq, incA_len]; omega) | ((try simp only [Int.toNat_natCast, List.length_cons, List.length_nil, Nat.mul_eq]); first | done | omega | assumption | grind [getD_set, getD_rep, toNat_succ, cntN_yes, cntN_no])
      refine req_i ?_ ?_
      · -- r69
        first | omega | exact i2 | (simp only [Int.toNat_natCast, List.length_cons, List.length_nil]; exact ⟨by omega, by omega, rfl⟩) | (simp only [Int.toNat_natCast, List.length_cons, List.length_nil, incA_len]; omega) | ((try simp only [Int.toNat_natCast, List.length_cons, List.length_nil]); first | done | omega | assumption | grind [getD_set, getD_rep, toNat_succ, cntN_yes, cntN_no])
      refine req_i ?_ ?_
      · -- r70
        first | omega | exact i2 | (simp only [Int.toNat_natCast, List.length_take, List.take_length, List.take_take, Nat.min_self, List.length_drop, List.drop_zero, List.length_cons, List.length_nil]; exact ⟨by omega, by omega, rfl⟩) | (simp only [Int.toNat_natCast, List.length_take, List.take_length, List.take_take, Nat.min_self, List.length_drop, List.drop_zero, List.length_cons, List.length_nil, incA_len]; omega) | ((try simp only [Int.toNat_natCast, List.length_take, List.take_length, List.take_take, Nat.min_self, List.length_drop, List.drop_zero, List.length_cons, List.length_nil]); first | done | omega | assumption | grind [getD_set, getD_rep, toNat_succ, cntN_yes, cntN_no])
      refine req_i ?_ ?_
      · -- r71
        first | assumption | exact rep_bd (by omega) (by omega) | exact set_bd (by assumption) (by omega) (by omega) | exact take_bd (by assumption) | exact i2 | (simp only [Int.toNat_natCast, List.length_take, List.take_length, List.take_take, Nat.min_self, List.length_drop, List.drop_zero, List.length_cons, List.length_nil]; exact ⟨by omega, by omega, rfl⟩) | (simp only [Int.toNat_natCast, List.length_take, List.take_length, List.take_take, Nat.min_self, List.length_drop, List.drop_zero, List.length_cons, List.length_nil, incA_len]; omega) | ((try simp only [Int.toNat_natCast, List.length_take, List.take_length, List.take_take, Nat.min_self, List.length_drop, List.drop_zero, List.length_cons, List.length_nil]); first | assumption | exact rep_bd (by omega) (by omega) | exact set_bd (by assumption) (by omega) (by omega) | exact take_bd (by assumption) | grind [getD_set, getD_rep, toNat_succ, cntN_yes, cntN_no])
      refine req_i ?_ ?_
      · -- r72
        first | omega | exact i2 | (simp only [Int.toNat_natCast, List.length_take, List.take_length, List.take_take, Nat.min_self, List.length_drop, List.drop_zero, List.length_cons, List.length_nil]; exact ⟨by omega, by omega, rfl⟩) | (simp only [Int.toNat_natCast, List.length_take, List.take_length, List.take_take, Nat.min_self, List.length_drop, List.drop_zero, List.length_cons, List.length_nil, incA_len]; omega) | ((try simp only [Int.toNat_natCast, List.length_take, List.take_length, List.take_take, Nat.min_self, List.length_drop, List.drop_zero, List.length_cons, List.length_nil]); first | done | omega | assumption | grind [getD_set, getD_rep, toNat_succ, cntN_yes, cntN_no])
      refine req_i ?_ ?_
      · -- r73
        first | assumption | exact rep_bd (by omega) (by omega) | exact set_bd (by assumption) (by omega) (by omega) | exact take_bd (by assumption) | exact i2 | (simp only [Int.toNat_natCast, List.length_take, List.take_length, List.take_take, Nat.min_self, List.length_drop, List.drop_zero, List.length_cons, List.length_nil]; exact ⟨by omega, by omega, rfl⟩) | (simp only [Int.toNat_natCast, List.length_take, List.take_length, List.take_take, Nat.min_self, List.length_drop, List.drop_zero, List.length_cons, List.length_nil, incA_len]; omega) | ((try simp only [Int.toNat_natCast, List.length_take, List.take_length, List.take_take, Nat.min_self, List.length_drop, List.drop_zero, List.length_cons, List.length_nil]); first | assumption | exact rep_bd (by omega) (by omega) | exact set_bd (by assumption) (by omega) (by omega) | exact take_bd (by assumption) | grind [getD_set, getD_rep, toNat_succ, cntN_yes, cntN_no])
      refine req_i ?_ ?_
      · -- r74
        first | omega | assumption | exact i2 | (simp only [Nat.zero_add]; exact ⟨by omega, by omega, rfl⟩) | (simp only [Nat.zero_add, incA_len]; omega) | grind
      refine req_i ?_ ?_
      · -- r75
        first | omega | assumption | exact i2 | (simp only [Nat.zero_add]; exact ⟨by omega, by omega, rfl⟩) | (simp only [Nat.zero_add, incA_len]; omega) | grind
      refine req_i ?_ ?_
      · -- r76
        first | omega | exact i2 | (simp only [Int.toNat_natCast, List.length_replicate, List.length_cons, List.length_nil, lenCols_i, lenCols_b]; exact ⟨by omega, by omega, rfl⟩) | (simp only [Int.toNat_natCast, List.length_replicate, List.length_cons, List.length_nil, lenCols_i, lenCols_b, incA_len]; omega) | ((try simp only [Int.toNat_natCast, List.length_replicate, List.length_cons, List.length_nil, lenCols_i, lenCols_b]); first | done | omega | assumption | grind [getD_set, getD_rep, toNat_succ, cntN_yes, cntN_no])
      refine req_i ?_ ?_
      · -- r77
        first | omega | exact i2 | (simp only [Int.toNat_natCast, List.length_replicate, List.length_cons, List.length_nil, lenCols_i, lenCols_b]; exact ⟨by omega, by omega, rfl⟩) | (simp only [Int.toNat_natCast, List.length_replicate, List.length_cons, List.length_nil, lenCols_i, lenCols_b, incA_len]; omega) | ((try simp only [Int.toNat_natCast, List.length_replicate, List.length_cons, List.length_nil, lenCols_i, lenCols_b]); first | done | omega | assumption | grind [getD_set, getD_rep, toNat_succ, cntN_yes, cntN_no])
      refine req_i ?_ ?_
      · -- r78
        first | assumption | exact rep_bd (by omega) (by omega) | exact set_bd (by assumption) (by omega) (by omega) | exact take_bd (by assumption) | exact i2 | (simp only [Int.toNat_natCast, List.length_replicate, List.length_cons, List.length_nil]; exact ⟨by omega, by omega, rfl⟩) | (simp only [Int.toNat_natCast, List.length_replicate, List.length_cons, List.length_nil, incA_len]; omega) | ((try simp only [Int.toNat_natCast, List.length_replicate, List.length_cons, List.length_nil]); first | assumption | exact rep_bd (by omega) (by omega) | exact set_bd (by assumption) (by omega) (by omega) | exact take_bd (by assumption) | grind [getD_set, getD_rep, toNat_succ, cntN_yes, cntN_no])
      refine req_i ?_ ?_
      · -- r79
        first | omega | exact i2 | (simp only [cntL, cntInv, mea0, List.cons.injEq, DV.b.injEq, and_true, Int.toNat_natCast, List.length_replicate, List.length_take, List.take_length, List.take_take, Nat.min_self, List.length_drop, List.drop_zero, List.length_cons, List.length_nil]; exact ⟨by omega, by omega, rfl⟩) | (simp only [cntL, cntInv, mea0, List.cons.injEq, DV.b.injEq, and_true, Int.toNat_natCast, List.length_replicate, List.length_take, List.take_length, List.take_take, Nat.min_self, List.length_drop, List.drop_zero, List.length_cons, List.length_nil, incA_len]; omega) | ((try simp only [cntL, cntInv, mea0, List.cons.injEq, DV.b.injEq, and_true, Int.toNat_natCast, List.length_replicate, List.length_take, List.take_length, List.take_take, Nat.min_self, List.length_drop, List.drop_zero, List.length_cons, List.length_nil]); first | done | omega | assumption | grind [getD_set, getD_rep, toNat_succ, cntN_yes, cntN_no])
      refine all_i fun n11 => ?_
      refine imp_i fun h30 => ?_
      refine imp_i fun h31 => ?_
      refine all_i fun l12 => ?_
      refine imp_i fun h32 => ?_
      refine imp_i fun h33 => ?_
      refine imp_i fun h34 => ?_
      try simp only [cntL, cntInv, mea0, List.cons.injEq, DV.b.injEq, and_true, Int.toNat_natCast, List.length_take, List.take_length, List.take_take, Nat.min_self, List.length_drop, List.drop_zero, List.length_cons, List.length_nil] at h34
      try simp only [tq7, tq8] at h34
      refine bR_dec (fun h35 => ?_) (fun h35 => ?_)
      ·
        have m1 := h22.2.2.2 n11.toNat (by omega)
        have b1 := lev_bd (b := n2) (n := n3) (x := l0.getD n11.toNat 0) (by omega) (by omega)
        have b2 := lev_bd (b := n2) (n := n3) (x := l1.getD n11.toNat 0) (by omega) (by omega)
        refine req_i ?_ ?_
        · -- r80
          first | omega | exact i2 | (simp only [Int.toNat_natCast, List.length_cons, List.length_nil]; exact ⟨by omega, by omega, rfl⟩) | (simp only [Int.toNat_natCast, List.length_cons, List.length_nil, incA_len]; omega) | ((try simp only [Int.toNat_natCast, List.length_cons, List.length_nil]); first | done | omega | assumption | grind [getD_set, getD_rep, toNat_succ, cntN_yes, cntN_no])
        refine req_i ?_ ?_
        · -- r81
          first | omega | exact i2 | (simp only [Int.toNat_natCast, List.length_cons, List.length_nil, Nat.add_eq, Nat.zero_add]; exact ⟨by omega, by omega, rfl⟩) | (simp only [Int.toNat_natCast, List.length_cons, List.length_nil, Nat.add_eq, Nat.zero_add, incA_len]; omega) | ((try simp only [Int.toNat_natCast, List.length_cons, List.length_nil, Nat.add_eq, Nat.zero_add]); first | done | omega | assumption | grind [getD_set, getD_rep, toNat_succ, cntN_yes, cntN_no])
        refine req_i ?_ ?_
        · -- r82
          first | omega | exact i2 | (simp only [Int.toNat_natCast, List.length_cons, List.length_nil, Nat.add_eq, Nat.zero_add]; exact ⟨by omega, by omega, rfl⟩) | (simp only [Int.toNat_natCast, List.length_cons, List.length_nil, Nat.add_eq, Nat.zero_add, incA_len]; omega) | ((try simp only [Int.toNat_natCast, List.length_cons, List.length_nil, Nat.add_eq, Nat.zero_add]); first | done | omega | assumption | grind [getD_set, getD_rep, toNat_succ, cntN_yes, cntN_no])
        refine all_i fun n13 => ?_
        refine imp_i fun h36 => ?_
        simp only [wrap_i64] at h36
        have hb := hist_bd n5 (fun j => l7.getD j 0) (fun j => l8.getD j 0) n11.toNat
        rw [← h34.2.2] at hb
        have hl := hist_len n5 (fun j => l7.getD j 0) (fun j => l8.getD j 0) n11.toNat
        rw [← h34.2.2] at hl
        have g1 := getD_bd (i := n13.toNat) hb (by omega) (by omega)
        have i1 := incA_bd (i := n13.toNat) hb (by omega)
        refine imp_i fun h37 => ?_
        refine imp_i fun h38 => ?_
        refine req_i ?_ ?_
        · -- r83
          first | omega | assumption | exact i2 | (simp only [Nat.zero_add]; exact ⟨by omega, by omega, rfl⟩) | (simp only [Nat.zero_add, incA_len]; omega) | grind
        refine req_i ?_ ?_
        · -- r84
          first | omega | assumption | exact i2 | (simp only [Int.toNat_natCast, List.length_cons, List.length_nil]; exact ⟨by omega, by omega, rfl⟩) | (simp only [Int.toNat_natCast, List.length_cons, List.length_nil, incA_len]; omega) | grind
        refine req_i ?_ ?_
        · -- r85
          first | omega | exact i2 | (simp only [Int.toNat_natCast, List.length_cons, List.length_nil, Nat.add_eq, Nat.zero_add]; exact ⟨by omega, by omega, rfl⟩) | (simp only [Int.toNat_natCast, List.length_cons, List.length_nil, Nat.add_eq, Nat.zero_add, incA_len]; omega) | ((try simp only [Int.toNat_natCast, List.length_cons, List.length_nil, Nat.add_eq, Nat.zero_add]); first | done | omega | assumption | grind [getD_set, getD_rep, toNat_succ, cntN_yes, cntN_no])
        refine req_i ?_ ?_
        · -- r86
          first | omega | assumption | exact i2 | (simp only [Nat.zero_add]; exact ⟨by omega, by omega, rfl⟩) | (simp only [Nat.zero_add, incA_len]; omega) | grind
        refine req_i ?_ ?_
        · -- r87
          first | omega | assumption | exact i2 | (simp only [Int.toNat_natCast, List.length_cons, List.length_nil]; exact ⟨by omega, by omega, rfl⟩) | (simp only [Int.toNat_natCast, List.length_cons, List.length_nil, incA_len]; omega) | grind
        refine req_i ?_ ?_
        · -- r88
          first | omega | assumption | exact i2 | (simp only [Int.toNat_natCast, List.length_cons, List.length_nil, Nat.add_eq, Nat.zero_add]; exact ⟨by omega, by omega, rfl⟩) | (simp only [Int.toNat_natCast, List.length_cons, List.length_nil, Nat.add_eq, Nat.zero_add, incA_len]; omega) | grind
        refine req_i ?_ ?_
        · -- r89
          first | omega | exact i2 | (simp only [Int.toNat_natCast, List.length_cons, List.length_nil, Nat.add_eq, Nat.zero_add]; exact ⟨by omega, by omega, rfl⟩) | (simp only [Int.toNat_natCast, List.length_cons, List.length_nil, Nat.add_eq, Nat.zero_add, incA_len]; omega) | ((try simp only [Int.toNat_natCast, List.length_cons, List.length_nil, Nat.add_eq, Nat.zero_add]); first | done | omega | assumption | grind [getD_set, getD_rep, toNat_succ, cntN_yes, cntN_no])
        refine all_i fun n14 => ?_
        refine imp_i fun h39 => ?_
        simp only [wrap_i64] at h39
        simp only [incA_fold]
        have g2 := getD_bd (i := n14.toNat) i1 (by omega) (by omega)
        have i2 := sub_bd (incA_bd (i := n14.toNat) i1 (by omega)) (show (0 : Int) ≤ 0 by omega) (show _ ≤ (600 : Int) by omega)
        have hn : incA (incA l12 n13.toNat) n14.toNat = hist n5 (fun j => l7.getD j 0) (fun j => l8.getD j 0) (n11 + 1).toNat := by
          rw [toNat_succ h34.1, hist, ← h34.2.2, show n13 = l7.getD n11.toNat 0 + n5 by omega, show n14 = l8.getD n11.toNat 0 + n5 by omega]
        refine imp_i fun h40 => ?_
        refine imp_i fun h41 => ?_
        refine req_i ?_ ?_
        · -- r90
          first | omega | assumption | exact i2 | (simp only [Nat.zero_add]; exact ⟨by omega, by omega, rfl⟩) | (simp only [Nat.zero_add, incA_len]; omega) | grind
        refine req_i ?_ ?_
        · -- r91
          first | omega | assumption | exact i2 | (simp only [Int.toNat_natCast, List.length_cons, List.length_nil]; exact ⟨by omega, by omega, rfl⟩) | (simp only [Int.toNat_natCast, List.length_cons, List.length_nil, incA_len]; omega) | grind
        refine req_i ?_ ?_
        · -- r92
          first | omega | exact i2 | (simp only [Int.toNat_natCast, List.length_set, List.length_cons, List.length_nil, Nat.add_eq, Nat.zero_add]; exact ⟨by omega, by omega, rfl⟩) | (simp only [Int.toNat_natCast, List.length_set, List.length_cons, List.length_nil, Nat.add_eq, Nat.zero_add, incA_len]; omega) | ((try simp only [Int.toNat_natCast, List.length_set, List.length_cons, List.length_nil, Nat.add_eq, Nat.zero_add]); first | done | omega | assumption | grind [getD_set, getD_rep, toNat_succ, cntN_yes, cntN_no])
        refine req_i ?_ ?_
        · -- r93
          first | omega | assumption | exact i2 | (simp only [Nat.zero_add]; exact ⟨by omega, by omega, rfl⟩) | (simp only [Nat.zero_add, incA_len]; omega) | grind
        refine req_i ?_ ?_
        · -- r94
          first | omega | assumption | exact i2 | (simp only [Int.toNat_natCast, List.length_cons, List.length_nil]; exact ⟨by omega, by omega, rfl⟩) | (simp only [Int.toNat_natCast, List.length_cons, List.length_nil, incA_len]; omega) | grind
        refine req_i ?_ ?_
        · -- r95
          first | omega | assumption | exact i2 | (simp only [Int.toNat_natCast, List.length_set, List.length_cons, List.length_nil, Nat.add_eq, Nat.zero_add]; exact ⟨by omega, by omega, rfl⟩) | (simp only [Int.toNat_natCast, List.length_set, List.length_cons, List.length_nil, Nat.add_eq, Nat.zero_add, incA_len]; omega) | grind
        refine req_i ?_ ?_
        · -- r96
          first | omega | exact i2 | (simp only [Int.toNat_natCast, List.length_set, List.length_cons, List.length_nil, Nat.add_eq, Nat.zero_add]; exact ⟨by omega, by omega, rfl⟩) | (simp only [Int.toNat_natCast, List.length_set, List.length_cons, List.length_nil, Nat.add_eq, Nat.zero_add, incA_len]; omega) | ((try simp only [Int.toNat_natCast, List.length_set, List.length_cons, List.length_nil, Nat.add_eq, Nat.zero_add]); first | done | omega | assumption | grind [getD_set, getD_rep, toNat_succ, cntN_yes, cntN_no])
        refine bR_t ?_ ?_
        · -- g2
          first | rfl | (simp only [bR_iff, bR_iff_f, dec_iff, dec_f, beqB_iff', andB_iff', reduceCtorEq, imp_self, false_implies, and_true, true_and, implies_true, and_self]; done) | (simp [bR_iff, dec_iff, beqB_iff', andB_iff']; done) | (simp [bR_iff, dec_iff, beqB_iff', andB_iff']; omega)
        refine bR_t ?_ ?_
        · -- g3
          first | rfl | (simp only [bR_iff, bR_iff_f, dec_iff, dec_f, beqB_iff', andB_iff', reduceCtorEq, imp_self, false_implies, and_true, true_and, implies_true, and_self]; done) | (simp [bR_iff, dec_iff, beqB_iff', andB_iff']; done) | (simp [bR_iff, dec_iff, beqB_iff', andB_iff']; omega)
        refine req_i ?_ ?_
        · -- r97
          first | omega | assumption | exact i2 | (simp only [Nat.zero_add]; exact ⟨by omega, by omega, rfl⟩) | (simp only [Nat.zero_add, incA_len]; omega) | grind
        refine req_i ?_ ?_
        · -- r98
          first | omega | assumption | exact i2 | (simp only [Nat.zero_add]; exact ⟨by omega, by omega, rfl⟩) | (simp only [Nat.zero_add, incA_len]; omega) | grind
        refine req_i ?_ ?_
        · -- r99
          first | omega | exact i2 | (simp only [Int.toNat_natCast, List.length_set, List.length_cons, List.length_nil, lenCols_i, lenCols_b, Nat.add_eq, Nat.zero_add]; exact ⟨by omega, by omega, rfl⟩) | (simp only [Int.toNat_natCast, List.length_set, List.length_cons, List.length_nil, lenCols_i, lenCols_b, Nat.add_eq, Nat.zero_add, incA_len]; omega) | ((try simp only [Int.toNat_natCast, List.length_set, List.length_cons, List.length_nil, lenCols_i, lenCols_b, Nat.add_eq, Nat.zero_add]); first | done | omega | assumption | grind [getD_set, getD_rep, toNat_succ, cntN_yes, cntN_no])
        refine req_i ?_ ?_
        · -- r100
          first | omega | exact i2 | (simp only [Int.toNat_natCast, List.length_set, List.length_cons, List.length_nil, lenCols_i, lenCols_b, Nat.add_eq, Nat.zero_add]; exact ⟨by omega, by omega, rfl⟩) | (simp only [Int.toNat_natCast, List.length_set, List.length_cons, List.length_nil, lenCols_i, lenCols_b, Nat.add_eq, Nat.zero_add, incA_len]; omega) | ((try simp only [Int.toNat_natCast, List.length_set, List.length_cons, List.length_nil, lenCols_i, lenCols_b, Nat.add_eq, Nat.zero_add]); first | done | omega | assumption | grind [getD_set, getD_rep, toNat_succ, cntN_yes, cntN_no])
        refine req_i ?_ ?_
        · -- r101
          first | assumption | exact rep_bd (by omega) (by omega) | exact set_bd (by assumption) (by omega) (by omega) | exact take_bd (by assumption) | exact i2 | (simp only [Int.toNat_natCast, List.length_set, List.length_cons, List.length_nil, Nat.add_eq, Nat.zero_add]; exact ⟨by omega, by omega, rfl⟩) | (simp only [Int.toNat_natCast, List.length_set, List.length_cons, List.length_nil, Nat.add_eq, Nat.zero_add, incA_len]; omega) | ((try simp only [Int.toNat_natCast, List.length_set, List.length_cons, List.length_nil, Nat.add_eq, Nat.zero_add]); first | assumption | exact rep_bd (by omega) (by omega) | exact set_bd (by assumption) (by omega) (by omega) | exact take_bd (by assumption) | grind [getD_set, getD_rep, toNat_succ, cntN_yes, cntN_no])
        refine req_i ?_ ?_
        · -- r102
          first | omega | exact i2 | (simp only [cntL, cntInv, mea0, List.cons.injEq, DV.b.injEq, and_true, Int.toNat_natCast, List.length_set, List.length_take, List.take_length, List.take_take, Nat.min_self, List.length_drop, List.drop_zero, List.length_cons, List.length_nil, Nat.add_eq, Nat.zero_add]; exact ⟨by omega, by omega, rfl⟩) | (simp only [cntL, cntInv, mea0, List.cons.injEq, DV.b.injEq, and_true, Int.toNat_natCast, List.length_set, List.length_take, List.take_length, List.take_take, Nat.min_self, List.length_drop, List.drop_zero, List.length_cons, List.length_nil, Nat.add_eq, Nat.zero_add, incA_len]; omega) | ((try simp only [cntL, cntInv, mea0, List.cons.injEq, DV.b.injEq, and_true, Int.toNat_natCast, List.length_set, List.length_take, List.take_length, List.take_take, Nat.min_self, List.length_drop, List.drop_zero, List.length_cons, List.length_nil, Nat.add_eq, Nat.zero_add]); first | done | omega | assumption | grind [getD_set, getD_rep, toNat_succ, cntN_yes, cntN_no])
        refine req_i ?_ ?_
        · -- r103
          first | omega | exact i2 | (simp only [cntL, cntInv, mea0, List.cons.injEq, DV.b.injEq, and_true, Int.toNat_natCast, List.length_set, List.length_take, List.take_length, List.take_take, Nat.min_self, List.length_drop, List.drop_zero, List.length_cons, List.length_nil, Nat.add_eq, Nat.zero_add]; exact ⟨by omega, by omega, rfl⟩) | (simp only [cntL, cntInv, mea0, List.cons.injEq, DV.b.injEq, and_true, Int.toNat_natCast, List.length_set, List.length_take, List.take_length, List.take_take, Nat.min_self, List.length_drop, List.drop_zero, List.length_cons, List.length_nil, Nat.add_eq, Nat.zero_add, incA_len]; omega) | ((try simp only [cntL, cntInv, mea0, List.cons.injEq, DV.b.injEq, and_true, Int.toNat_natCast, List.length_set, List.length_take, List.take_length, List.take_take, Nat.min_self, List.length_drop, List.drop_zero, List.length_cons, List.length_nil, Nat.add_eq, Nat.zero_add]); first | done | omega | assumption | grind [getD_set, getD_rep, toNat_succ, cntN_yes, cntN_no])
        rfl
      ·
        have hl := hist_len n5 (fun j => l7.getD j 0) (fun j => l8.getD j 0) n11.toNat
        rw [← h34.2.2] at hl
        have tq12 := take_eq' hl
        simp only [tq12]
        have hf : l12 = histP (qq n2) l0 l1 n2 n3 l0.length := by rw [h34.2.2, histP, ← h15, show n11.toNat = l0.length by omega]; exact hist_congr (fun j hj => h22.2.2.2 j (by omega))
        refine req_i ?_ ?_
        · -- r104
          first | omega | exact i2 | (simp only [Int.toNat_natCast, List.length_cons, List.length_nil, Nat.mul_eq]; exact ⟨by omega, by omega, rfl⟩) | (simp only [Int.toNat_natCast, List.length_cons, List.length_nil, Nat.mul_eq, incA_len]; omega) | ((try simp only [Int.toNat_natCast, List.length_cons, List.length_nil, Nat.mul_eq]); first | done | omega | assumption | grind [getD_set, getD_rep, toNat_succ, cntN_yes, cntN_no])
        refine req_i ?_ ?_
        · -- r105
          first | omega | assumption | exact i2 | (simp only [Int.toNat_natCast, List.length_cons, List.length_nil]; exact ⟨by omega, by omega, rfl⟩) | (simp only [Int.toNat_natCast, List.length_cons, List.length_nil, incA_len]; omega) | grind
        refine req_i ?_ ?_
        · -- r106
          first | omega | exact i2 | (simp only [Int.toNat_natCast, List.length_take, List.take_length, List.take_take, Nat.min_self, List.length_drop, List.drop_zero, List.length_cons, List.length_nil]; exact ⟨by omega, by omega, rfl⟩) | (simp only [Int.toNat_natCast, List.length_take, List.take_length, List.take_take, Nat.min_self, List.length_drop, List.drop_zero, List.length_cons, List.length_nil, incA_len]; omega) | ((try simp only [Int.toNat_natCast, List.length_take, List.take_length, List.take_take, Nat.min_self, List.length_drop, List.drop_zero, List.length_cons, List.length_nil]); first | done | omega | assumption | grind [getD_set, getD_rep, toNat_succ, cntN_yes, cntN_no])
        refine req_i ?_ ?_
        · -- r107
          first | assumption | exact rep_bd (by omega) (by omega) | exact set_bd (by assumption) (by omega) (by omega) | exact take_bd (by assumption) | exact i2 | (simp only [Int.toNat_natCast, List.length_take, List.take_length, List.take_take, Nat.min_self, List.length_drop, List.drop_zero, List.length_cons, List.length_nil]; exact ⟨by omega, by omega, rfl⟩) | (simp only [Int.toNat_natCast, List.length_take, List.take_length, List.take_take, Nat.min_self, List.length_drop, List.drop_zero, List.length_cons, List.length_nil, incA_len]; omega) | ((try simp only [Int.toNat_natCast, List.length_take, List.take_length, List.take_take, Nat.min_self, List.length_drop, List.drop_zero, List.length_cons, List.length_nil]); first | assumption | exact rep_bd (by omega) (by omega) | exact set_bd (by assumption) (by omega) (by omega) | exact take_bd (by assumption) | grind [getD_set, getD_rep, toNat_succ, cntN_yes, cntN_no])
        refine req_i ?_ ?_
        · -- r108
          first | omega | exact i2 | (simp only [sigCount, countPost, List.cons.injEq, DV.b.injEq, and_true, Int.toNat_natCast, List.length_take, List.take_length, List.take_take, Nat.min_self, List.length_drop, List.drop_zero, List.length_cons, List.length_nil]; exact ⟨by omega, by omega, rfl⟩) | (simp only [sigCount, countPost, List.cons.injEq, DV.b.injEq, and_true, Int.toNat_natCast, List.length_take, List.take_length, List.take_take, Nat.min_self, List.length_drop, List.drop_zero, List.length_cons, List.length_nil, incA_len]; omega) | ((try simp only [sigCount, countPost, List.cons.injEq, DV.b.injEq, and_true, Int.toNat_natCast, List.length_take, List.take_length, List.take_take, Nat.min_self, List.length_drop, List.drop_zero, List.length_cons, List.length_nil]); first | done | omega | assumption | grind [getD_set, getD_rep, toNat_succ, cntN_yes, cntN_no])
        rfl
theorem ext_count : ∀ p ∈ ([(31, Ext.ctr (ctOf sigChkA)), (35, Ext.ctr (ctOf sigGr)), (32, Ext.ctr (ctOf sigLev))] : List (Nat × Ext)), ExtRow Try.prog p.1 p.2 := by
  intro p hp
  simp only [List.mem_cons, List.not_mem_nil, or_false] at hp
  rcases hp with rfl | rfl | rfl
  · trivial
  · trivial
  · trivial
theorem cts_count : CtsOk Try.prog [(31, Ext.ctr (ctOf sigChkA)), (35, Ext.ctr (ctOf sigGr)), (32, Ext.ctr (ctOf sigLev))] := ctsOk_of (cs := [(31, sigChkA), (35, sigGr), (32, sigLev)])
  (fun p hp => by
    simp only [List.mem_cons, List.not_mem_nil, or_false] at hp
    rcases hp with rfl | rfl | rfl
    · exact fn_chkA
    · exact fn_gr
    · exact fn_lev
)
  (fun f c h => by
    simp only [List.lookup_cons] at h
    repeat' split at h
    all_goals first | (cases h; done) | (rename_i e; have e := beq_iff_eq.1 e; subst e; cases h; exact ⟨_, by simp, rfl⟩))
theorem fn_count : FnOk Try.prog 16 sigCount [] := fn_sound (by kernel_rfl) ext_count cts_count names vt_count
end Go.Proofs.Ytemcaojbhfgpgaa

