import Derived.Test.YthfbhkeligmdfaaSpec21e
import Derived.Test.YthfbhkeligmdfaaRows
import Derived.Test.YthfbhkeligmdfaaFnames
namespace Go.Proofs.Ythfbhkeligmdfaa
open Go.Ev Go.Sp
set_option maxRecDepth 100000
theorem vc_known : vcFn Try.prog [] noA [] 300 3 sigTrue0 = (impB (sigTrue0.pre []) (
reqB (sigTrue0.post [] [DV.b (eqI (16 : Int) (16 : Int))]) (
true))) := by kernel_rfl
set_option maxHeartbeats 8000000 in
theorem vt_known : vcFn Try.prog [] noA [] 300 3 sigTrue0 = true := by
  rw [vc_known]
  try simp only [Int.toNat_natCast, List.length_set, List.length_replicate, List.length_take, List.length_drop, List.length_append, List.length_cons, List.length_nil, Nat.min_self, List.take_take, lenCols_i, lenCols_b, List.drop_zero, List.take_length, List.take_nil, List.drop_nil, List.take_zero, List.nil_append, Nat.add_eq, Nat.mul_eq, Nat.sub_eq, Nat.zero_add, Nat.sub_zero, Nat.mul_one]
  refine imp_i fun h0 => ?_
  try simp only [sigTrue0, List.cons.injEq, DV.b.injEq, and_true, List.length_cons, List.length_nil] at h0
  refine req_i ?_ ?_
  · -- r0
   exact rfl
  rfl
theorem ext_known : ∀ p ∈ ([] : List (Nat × Ext)), ExtRow Try.prog p.1 p.2 := by
  intro p hp
  cases hp
theorem cts_known : CtsOk Try.prog [] := fun f c h => by cases h
theorem fn_known : FnOk Try.prog 3 sigTrue0 [] := fn_sound (by kernel_rfl) ext_known cts_known names vt_known
end Go.Proofs.Ythfbhkeligmdfaa

namespace Go.Proofs.Ythfbhkeligmdfaa
open Go.Ev Go.Sp
set_option maxRecDepth 100000
theorem vc_turn : vcFn Try.prog [] noA [] 100 29 sigTurn = (allB fun n0 : Int => 
impB ((-9223372036854775808 : Int) ≤ n0) (
impB (n0 ≤ (9223372036854775807 : Int)) (
allB fun n1 : Int => 
impB ((1 : Int) ≤ n1) (
impB (n1 ≤ (1000 : Int)) (
impB (sigTurn.pre [DV.n n0, DV.n n1]) (
bR (dec (n0.tmod n1 < (0 : Int))) (
 reqB ((0 : Int) ≤ n0.tmod n1 + n1) (
 reqB (n0.tmod n1 + n1 ≤ (1000 : Int)) (
 reqB (sigTurn.post [DV.n n0, DV.n n1] [DV.n (n0.tmod n1 + n1)]) (
 true)))) (
 reqB ((0 : Int) ≤ n0.tmod n1) (
 reqB (n0.tmod n1 ≤ (1000 : Int)) (
 reqB (sigTurn.post [DV.n n0, DV.n n1] [DV.n (n0.tmod n1)]) (
 true)))))))))) := by kernel_rfl
set_option maxHeartbeats 8000000 in
theorem vt_turn : vcFn Try.prog [] noA [] 100 29 sigTurn = true := by
  rw [vc_turn]
  try simp only [Int.toNat_natCast, List.length_set, List.length_replicate, List.length_take, List.length_drop, List.length_append, List.length_cons, List.length_nil, Nat.min_self, List.take_take, lenCols_i, lenCols_b, List.drop_zero, List.take_length, List.take_nil, List.drop_nil, List.take_zero, List.nil_append, Nat.add_eq, Nat.mul_eq, Nat.sub_eq, Nat.zero_add, Nat.sub_zero, Nat.mul_one]
  refine all_i fun n0 => ?_
  refine imp_i fun h0 => ?_
  refine imp_i fun h1 => ?_
  refine all_i fun n1 => ?_
  refine imp_i fun h2 => ?_
  refine imp_i fun h3 => ?_
  refine imp_i fun h4 => ?_
  try simp only [sigTurn, turnPost, List.cons.injEq, DV.b.injEq, and_true, List.length_cons, List.length_nil] at h4
  have tm := tmod_of (x := n0) (n := n1) (by omega)
  refine bR_dec (fun h5 => ?_) (fun h5 => ?_)
  ·
   refine req_i ?_ ?_
   · -- r0
    first | omega | assumption | grind
   refine req_i ?_ ?_
   · -- r1
    first | omega | assumption | grind
   refine req_i ?_ ?_
   · -- r2
    first | omega | ((try simp only [sigTurn, turnPost, List.cons.injEq, DV.b.injEq, and_true, List.length_cons, List.length_nil]); first | done | omega | assumption | grind [getD_set, getD_rep, toNat_succ, cntN_yes, cntN_no])
   rfl
  ·
   refine req_i ?_ ?_
   · -- r3
    first | omega | assumption | grind
   refine req_i ?_ ?_
   · -- r4
    first | omega | assumption | grind
   refine req_i ?_ ?_
   · -- r5
    first | omega | ((try simp only [sigTurn, turnPost, List.cons.injEq, DV.b.injEq, and_true, List.length_cons, List.length_nil]); first | done | omega | assumption | grind [getD_set, getD_rep, toNat_succ, cntN_yes, cntN_no])
   rfl
theorem ext_turn : ∀ p ∈ ([] : List (Nat × Ext)), ExtRow Try.prog p.1 p.2 := by
  intro p hp
  cases hp
theorem cts_turn : CtsOk Try.prog [] := fun f c h => by cases h
theorem fn_turn : FnOk Try.prog 29 sigTurn [] := fn_sound (by kernel_rfl) ext_turn cts_turn names vt_turn
end Go.Proofs.Ythfbhkeligmdfaa

namespace Go.Proofs.Ythfbhkeligmdfaa
open Go.Ev Go.Sp
set_option maxRecDepth 100000
theorem vc_sums : vcFn Try.prog [(29, Ext.ctr (ctOf sigTurn))] (fun f p _ => at2 f p 28 58 sumsL (none)) [] 100 28 sigSms = (allB fun l0 : List Int => 
impB (l0.length ≤ (60 : Nat)) (
impB (∀ (y : Int), y ∈ l0 → (-9223372036854775808 : Int) ≤ y ∧ y ≤ (9223372036854775807 : Int)) (
impB (sigSms.pre [DV.l l0]) (
reqB (((0 : Nat) + l0.length) * (1 : Nat) ≤ l0.length.mul (1 : Nat)) (
reqB (l0.length ≤ (60 : Nat)) (
reqB ((List.take l0.length (List.drop (0 : Nat) l0)).length = l0.length) (
reqB (∀ (y : Int),
 y ∈ List.take l0.length (List.drop (0 : Nat) l0) → (-9223372036854775808 : Int) ≤ y ∧ y ≤ (9223372036854775807 : Int)) (
reqB (sumsL.inv [DV.l (List.take l0.length (List.drop (0 : Nat) l0))]
 [DV.n (0 : Int), DV.l [], DV.l []]) (
allB fun n1 : Int => 
impB ((0 : Int) ≤ n1) (
impB (n1 ≤ (60 : Int)) (
allB fun l2 : List Int => 
impB (l2.length ≤ (60 : Nat)) (
impB (∀ (y : Int), y ∈ l2 → (-100 : Int) ≤ y ∧ y ≤ (100 : Int)) (
allB fun l3 : List Int => 
impB (l3.length = l2.length) (
impB (∀ (y : Int), y ∈ l3 → (-100 : Int) ≤ y ∧ y ≤ (100 : Int)) (
impB (sumsL.inv [DV.l (List.take l0.length (List.drop (0 : Nat) l0))]
 [DV.n n1, DV.l l2, DV.l l3]) (
bR (dec (n1 < (↑l0.length : Int))) (
 reqB (n1.toNat < l0.length) (
 reqB (Nat.add (0 : Nat) n1.toNat < l0.length) (
 reqB ((-9223372036854775808 : Int) ≤ l0.getD (Nat.add (0 : Nat) n1.toNat) (0 : Int)) (
 reqB (l0.getD (Nat.add (0 : Nat) n1.toNat) (0 : Int) ≤ (9223372036854775807 : Int)) (
 reqB (sigTurn.pre [DV.n (l0.getD (Nat.add (0 : Nat) n1.toNat) (0 : Int)), DV.n (201 : Int)]) (
 allB fun n4 : Int => 
 impB ((0 : Int) ≤ n4) (
 impB (n4 ≤ (1000 : Int)) (
 impB (sigTurn.post [DV.n (l0.getD (Nat.add (0 : Nat) n1.toNat) (0 : Int)), DV.n (201 : Int)] [DV.n n4]) (
 reqB (n1.toNat < l0.length) (
 reqB (Nat.add (0 : Nat) n1.toNat < l0.length) (
 reqB ((-9223372036854775808 : Int) ≤ (l0.getD (Nat.add (0 : Nat) n1.toNat) (0 : Int)).tdiv (201 : Int)) (
 reqB ((l0.getD (Nat.add (0 : Nat) n1.toNat) (0 : Int)).tdiv (201 : Int) ≤ (9223372036854775807 : Int)) (
 reqB (sigTurn.pre
 [DV.n ((l0.getD (Nat.add (0 : Nat) n1.toNat) (0 : Int)).tdiv (201 : Int)), DV.n (201 : Int)]) (
 allB fun n5 : Int => 
 impB ((0 : Int) ≤ n5) (
 impB (n5 ≤ (1000 : Int)) (
 impB (sigTurn.post
 [DV.n ((l0.getD (Nat.add (0 : Nat) n1.toNat) (0 : Int)).tdiv (201 : Int)), DV.n (201 : Int)]
 [DV.n n5]) (
 reqB (l2.length + (1 : Nat) ≤ (1000000 : Nat)) (
 reqB (((0 : Nat) + l2.length) * (1 + (1 : Nat)) ≤ l2.length.mul (2 : Nat)) (
 bR (bR (bR (dec ((0 : Nat) = (0 : Nat))) (
 dec (l0.length = l0.length)) (
 false)) (
 true) (
 false)) (
 reqB ((0 : Int) ≤ n1 + (1 : Int)) (
 reqB (n1 + (1 : Int) ≤ (60 : Int)) (
 reqB (((0 : Nat) + l2.length.add (1 : Nat)) * (2 : Nat) ≤ (l2.length.add (1 : Nat)).mul (1 + (1 : Nat))) (
 reqB (l2.length.add (1 : Nat) ≤ (60 : Nat)) (
 reqB ((List.take (l2.length.add (1 : Nat))
 (List.drop (0 : Nat) (List.take l2.length (List.drop (0 : Nat) l2) ++ [n4 - (100 : Int)]))).length =
 l2.length.add (1 : Nat)) (
 reqB (∀ (y : Int),
 y ∈
 List.take (l2.length.add (1 : Nat))
 (List.drop (0 : Nat) (List.take l2.length (List.drop (0 : Nat) l2) ++ [n4 - (100 : Int)])) →
 (-100 : Int) ≤ y ∧ y ≤ (100 : Int)) (
 reqB ((List.take (l2.length.add (1 : Nat))
 (List.drop (0 : Nat) (List.take l2.length (List.drop (0 : Nat) l3) ++ [n5 - (100 : Int)]))).length =
 l2.length.add (1 : Nat)) (
 reqB (∀ (y : Int),
 y ∈
 List.take (l2.length.add (1 : Nat))
 (List.drop (0 : Nat) (List.take l2.length (List.drop (0 : Nat) l3) ++ [n5 - (100 : Int)])) →
 (-100 : Int) ≤ y ∧ y ≤ (100 : Int)) (
 reqB (sumsL.inv [DV.l (List.take l0.length (List.drop (0 : Nat) l0))]
 [DV.n (n1 + (1 : Int)),
 DV.l
 (List.take (l2.length.add (1 : Nat))
 (List.drop (0 : Nat) (List.take l2.length (List.drop (0 : Nat) l2) ++ [n4 - (100 : Int)]))),
 DV.l
 (List.take (l2.length.add (1 : Nat))
 (List.drop (0 : Nat) (List.take l2.length (List.drop (0 : Nat) l3) ++ [n5 - (100 : Int)])))]) (
 reqB (sumsL.mea [DV.l (List.take l0.length (List.drop (0 : Nat) l0))]
 [DV.n (n1 + (1 : Int)),
 DV.l
 (List.take (l2.length.add (1 : Nat))
 (List.drop (0 : Nat) (List.take l2.length (List.drop (0 : Nat) l2) ++ [n4 - (100 : Int)]))),
 DV.l
 (List.take (l2.length.add (1 : Nat))
 (List.drop (0 : Nat) (List.take l2.length (List.drop (0 : Nat) l3) ++ [n5 - (100 : Int)])))] <
 sumsL.mea [DV.l (List.take l0.length (List.drop (0 : Nat) l0))]
 [DV.n n1, DV.l l2, DV.l l3]) (
 true))))))))))) (
 false)))))))))))))))))))) (
 reqB (((0 : Nat) + l2.length) * (2 : Nat) ≤ l2.length.mul (2 : Nat)) (
 reqB (l2.length ≤ (60 : Nat)) (
 reqB ((List.take l2.length (List.drop (0 : Nat) l2)).length = l2.length) (
 reqB (∀ (y : Int), y ∈ List.take l2.length (List.drop (0 : Nat) l2) → (-100 : Int) ≤ y ∧ y ≤ (100 : Int)) (
 reqB ((List.take l2.length (List.drop (0 : Nat) l3)).length = l2.length) (
 reqB (∀ (y : Int), y ∈ List.take l2.length (List.drop (0 : Nat) l3) → (-100 : Int) ≤ y ∧ y ≤ (100 : Int)) (
 reqB (sigSms.post [DV.l l0]
 [DV.l (List.take l2.length (List.drop (0 : Nat) l2)), DV.l (List.take l2.length (List.drop (0 : Nat) l3))]) (
 true)))))))))))))))))))))))) := by kernel_rfl
set_option maxHeartbeats 8000000 in
theorem vt_sums : vcFn Try.prog [(29, Ext.ctr (ctOf sigTurn))] (fun f p _ => at2 f p 28 58 sumsL (none)) [] 100 28 sigSms = true := by
  rw [vc_sums]
  try simp only [Int.toNat_natCast, List.length_set, List.length_replicate, List.length_take, List.length_drop, List.length_append, List.length_cons, List.length_nil, Nat.min_self, List.take_take, lenCols_i, lenCols_b, List.drop_zero, List.take_length, List.take_nil, List.drop_nil, List.take_zero, List.nil_append, Nat.add_eq, Nat.mul_eq, Nat.sub_eq, Nat.zero_add, Nat.sub_zero, Nat.mul_one]
  refine all_i fun l0 => ?_
  refine imp_i fun h0 => ?_
  refine imp_i fun h1 => ?_
  refine imp_i fun h2 => ?_
  try simp only [sigSms, cIn, smsPost, List.cons.injEq, DV.b.injEq, and_true, List.length_cons, List.length_nil] at h2
  refine req_i ?_ ?_
  · -- r0
   first | omega | ((try simp only [Nat.mul_eq]); first | done | omega | assumption | grind [getD_set, getD_rep, toNat_succ, cntN_yes, cntN_no])
  refine req_i ?_ ?_
  · -- r1
   first | omega | ((try simp only [Nat.zero_add]); first | done | omega | assumption | grind [getD_set, getD_rep, toNat_succ, cntN_yes, cntN_no])
  refine req_i ?_ ?_
  · -- r2
   first | omega | ((try simp only [List.take_nil, List.take_zero, List.length_take, List.take_length, List.take_take, Nat.min_self, List.drop_nil, List.length_drop, List.drop_zero, List.length_cons, List.length_nil]); first | done | omega | assumption | grind [getD_set, getD_rep, toNat_succ, cntN_yes, cntN_no])
  refine req_i ?_ ?_
  · -- r3
   first | assumption | exact rep_bd (by omega) (by omega) | exact set_bd (by assumption) (by omega) (by omega) | exact take_bd (by assumption) | ((try simp only [List.take_nil, List.take_zero, List.length_take, List.take_length, List.take_take, Nat.min_self, List.drop_nil, List.length_drop, List.drop_zero, List.length_cons, List.length_nil]); first | assumption | exact rep_bd (by omega) (by omega) | exact set_bd (by assumption) (by omega) (by omega) | exact take_bd (by assumption) | grind [getD_set, getD_rep, toNat_succ, cntN_yes, cntN_no])
  refine req_i ?_ ?_
  · -- r4
   first | omega | ((try simp only [sumsL, cIn, smsInv, mea1, List.cons.injEq, DV.b.injEq, and_true, List.take_nil, List.take_zero, List.length_take, List.take_length, List.take_take, Nat.min_self, List.drop_nil, List.length_drop, List.drop_zero, List.length_cons, List.length_nil]); first | done | omega | assumption | grind [getD_set, getD_rep, toNat_succ, cntN_yes, cntN_no])
  refine all_i fun n1 => ?_
  refine imp_i fun h3 => ?_
  refine imp_i fun h4 => ?_
  refine all_i fun l2 => ?_
  refine imp_i fun h5 => ?_
  refine imp_i fun h6 => ?_
  refine all_i fun l3 => ?_
  refine imp_i fun h7 => ?_
  have tkl3 := take_eq h7
  try simp only [tkl3]
  refine imp_i fun h8 => ?_
  refine imp_i fun h9 => ?_
  try simp only [sumsL, cIn, smsInv, mea1, List.cons.injEq, DV.b.injEq, and_true, List.take_nil, List.take_zero, List.length_take, List.take_length, List.take_take, Nat.min_self, List.drop_nil, List.length_drop, List.drop_zero, List.length_cons, List.length_nil] at h9
  refine bR_dec (fun h10 => ?_) (fun h10 => ?_)
  ·
   have gb := getD_bd (i := n1.toNat) h1 (by omega) (by omega)
   have td := tdiv201 gb.1 gb.2
   refine req_i ?_ ?_
   · -- r5
    first | omega | ((try simp only [Int.toNat_natCast, List.length_cons, List.length_nil]); first | done | omega | assumption | grind [getD_set, getD_rep, toNat_succ, cntN_yes, cntN_no])
   refine req_i ?_ ?_
   · -- r6
    first | omega | ((try simp only [Int.toNat_natCast, List.length_cons, List.length_nil, Nat.add_eq, Nat.zero_add]); first | done | omega | assumption | grind [getD_set, getD_rep, toNat_succ, cntN_yes, cntN_no])
   refine req_i ?_ ?_
   · -- r7
    first | omega | assumption | grind
   refine req_i ?_ ?_
   · -- r8
    first | omega | assumption | grind
   refine req_i ?_ ?_
   · -- r9
    first | trivial | assumption | (simp only [sigTurn, turnPost, List.cons.injEq, DV.b.injEq, and_true, Int.toNat_natCast, List.length_cons, List.length_nil, Nat.add_eq, Nat.zero_add]; done) | ((try simp only [sigTurn, turnPost, List.cons.injEq, DV.b.injEq, and_true, Int.toNat_natCast, List.length_cons, List.length_nil, Nat.add_eq, Nat.zero_add]); first | omega | assumption | grind)
   refine all_i fun n4 => ?_
   refine imp_i fun h11 => ?_
   refine imp_i fun h12 => ?_
   refine imp_i fun h13 => ?_
   try simp only [sigTurn, turnPost, List.cons.injEq, DV.b.injEq, and_true, Int.toNat_natCast, List.length_cons, List.length_nil, Nat.add_eq, Nat.zero_add] at h13
   refine req_i ?_ ?_
   · -- r10
    first | omega | ((try simp only [Int.toNat_natCast, List.length_cons, List.length_nil]); first | done | omega | assumption | grind [getD_set, getD_rep, toNat_succ, cntN_yes, cntN_no])
   refine req_i ?_ ?_
   · -- r11
    first | omega | ((try simp only [Int.toNat_natCast, List.length_cons, List.length_nil, Nat.add_eq, Nat.zero_add]); first | done | omega | assumption | grind [getD_set, getD_rep, toNat_succ, cntN_yes, cntN_no])
   refine req_i ?_ ?_
   · -- r12
    first | omega | assumption | grind
   refine req_i ?_ ?_
   · -- r13
    first | omega | assumption | grind
   refine req_i ?_ ?_
   · -- r14
    first | omega | ((try simp only [sigTurn, turnPost, List.cons.injEq, DV.b.injEq, and_true, Int.toNat_natCast, List.length_cons, List.length_nil, Nat.add_eq, Nat.zero_add]); first | done | omega | assumption | grind [getD_set, getD_rep, toNat_succ, cntN_yes, cntN_no])
   refine all_i fun n5 => ?_
   refine imp_i fun h14 => ?_
   refine imp_i fun h15 => ?_
   refine imp_i fun h16 => ?_
   try simp only [sigTurn, turnPost, List.cons.injEq, DV.b.injEq, and_true, Int.toNat_natCast, List.length_cons, List.length_nil, Nat.add_eq, Nat.zero_add] at h16
   refine req_i ?_ ?_
   · -- r15
    first | omega | ((try simp only [Nat.zero_add]); first | done | omega | assumption | grind [getD_set, getD_rep, toNat_succ, cntN_yes, cntN_no])
   refine req_i ?_ ?_
   · -- r16
    first | omega | ((try simp only [Nat.mul_eq]); first | done | omega | assumption | grind [getD_set, getD_rep, toNat_succ, cntN_yes, cntN_no])
   refine bR_t ?_ ?_
   · -- g0
    first | rfl | (simp only [bR_iff, bR_iff_f, dec_iff, dec_f, beqB_iff', andB_iff', reduceCtorEq, imp_self, false_implies, and_true, true_and, implies_true, and_self]; done) | (simp [bR_iff, dec_iff, beqB_iff', andB_iff']; done) | (simp [bR_iff, dec_iff, beqB_iff', andB_iff']; omega)
   refine req_i ?_ ?_
   · -- r17
    first | omega | assumption | grind
   refine req_i ?_ ?_
   · -- r18
    first | omega | assumption | grind
   refine req_i ?_ ?_
   · -- r19
    first | omega | ((try simp only [Nat.add_eq, Nat.zero_add, Nat.mul_eq]); first | done | omega | assumption | grind [getD_set, getD_rep, toNat_succ, cntN_yes, cntN_no])
   refine req_i ?_ ?_
   · -- r20
    first | omega | ((try simp only [Nat.add_eq, Nat.zero_add]); first | done | omega | assumption | grind [getD_set, getD_rep, toNat_succ, cntN_yes, cntN_no])
   refine req_i ?_ ?_
   · -- r21
    first | omega | ((try simp only [List.take_nil, List.take_zero, List.length_take, List.take_length, List.take_take, Nat.min_self, List.drop_nil, List.length_drop, List.drop_zero, List.nil_append, List.length_append, List.length_cons, List.length_nil, Nat.add_eq, Nat.zero_add]); first | done | omega | assumption | grind [getD_set, getD_rep, toNat_succ, cntN_yes, cntN_no])
   refine req_i ?_ ?_
   · -- r22
    first | assumption | exact rep_bd (by omega) (by omega) | exact set_bd (by assumption) (by omega) (by omega) | exact take_bd (by assumption) | ((try simp only [List.take_nil, List.take_zero, List.length_take, List.take_length, List.take_take, Nat.min_self, List.drop_nil, List.length_drop, List.drop_zero, List.nil_append, List.length_append, List.length_cons, List.length_nil, Nat.add_eq, Nat.zero_add]); first | assumption | exact rep_bd (by omega) (by omega) | exact set_bd (by assumption) (by omega) (by omega) | exact take_bd (by assumption) | grind [getD_set, getD_rep, toNat_succ, cntN_yes, cntN_no])
   refine req_i ?_ ?_
   · -- r23
    first | omega | ((try simp only [List.take_nil, List.take_zero, List.length_take, List.take_length, List.take_take, Nat.min_self, List.drop_nil, List.length_drop, List.drop_zero, List.nil_append, List.length_append, List.length_cons, List.length_nil, Nat.add_eq, Nat.zero_add]); first | done | omega | assumption | grind [getD_set, getD_rep, toNat_succ, cntN_yes, cntN_no])
   refine req_i ?_ ?_
   · -- r24
    first | assumption | exact rep_bd (by omega) (by omega) | exact set_bd (by assumption) (by omega) (by omega) | exact take_bd (by assumption) | ((try simp only [List.take_nil, List.take_zero, List.length_take, List.take_length, List.take_take, Nat.min_self, List.drop_nil, List.length_drop, List.drop_zero, List.nil_append, List.length_append, List.length_cons, List.length_nil, Nat.add_eq, Nat.zero_add]); first | assumption | exact rep_bd (by omega) (by omega) | exact set_bd (by assumption) (by omega) (by omega) | exact take_bd (by assumption) | grind [getD_set, getD_rep, toNat_succ, cntN_yes, cntN_no])
   refine req_i ?_ ?_
   · -- r25
    first | omega | ((try simp only [sumsL, cIn, smsInv, mea1, List.cons.injEq, DV.b.injEq, and_true, List.take_nil, List.take_zero, List.length_take, List.take_length, List.take_take, Nat.min_self, List.drop_nil, List.length_drop, List.drop_zero, List.nil_append, List.length_append, List.length_cons, List.length_nil, Nat.add_eq, Nat.zero_add]); first | done | omega | assumption | grind [getD_set, getD_rep, toNat_succ, cntN_yes, cntN_no])
   refine req_i ?_ ?_
   · -- r26
    first | omega | ((try simp only [sumsL, cIn, smsInv, mea1, List.cons.injEq, DV.b.injEq, and_true, List.take_nil, List.take_zero, List.length_take, List.take_length, List.take_take, Nat.min_self, List.drop_nil, List.length_drop, List.drop_zero, List.nil_append, List.length_append, List.length_cons, List.length_nil, Nat.add_eq, Nat.zero_add]); first | done | omega | assumption | grind [getD_set, getD_rep, toNat_succ, cntN_yes, cntN_no])
   rfl
  ·
   refine req_i ?_ ?_
   · -- r27
    first | omega | ((try simp only [Nat.mul_eq]); first | done | omega | assumption | grind [getD_set, getD_rep, toNat_succ, cntN_yes, cntN_no])
   refine req_i ?_ ?_
   · -- r28
    first | omega | ((try simp only [Nat.zero_add]); first | done | omega | assumption | grind [getD_set, getD_rep, toNat_succ, cntN_yes, cntN_no])
   refine req_i ?_ ?_
   · -- r29
    first | omega | ((try simp only [List.take_nil, List.take_zero, List.length_take, List.take_length, List.take_take, Nat.min_self, List.drop_nil, List.length_drop, List.drop_zero, List.length_cons, List.length_nil]); first | done | omega | assumption | grind [getD_set, getD_rep, toNat_succ, cntN_yes, cntN_no])
   refine req_i ?_ ?_
   · -- r30
    first | assumption | exact rep_bd (by omega) (by omega) | exact set_bd (by assumption) (by omega) (by omega) | exact take_bd (by assumption) | ((try simp only [List.take_nil, List.take_zero, List.length_take, List.take_length, List.take_take, Nat.min_self, List.drop_nil, List.length_drop, List.drop_zero, List.length_cons, List.length_nil]); first | assumption | exact rep_bd (by omega) (by omega) | exact set_bd (by assumption) (by omega) (by omega) | exact take_bd (by assumption) | grind [getD_set, getD_rep, toNat_succ, cntN_yes, cntN_no])
   refine req_i ?_ ?_
   · -- r31
    first | omega | ((try simp only [List.take_nil, List.take_zero, List.length_take, List.take_length, List.take_take, Nat.min_self, List.drop_nil, List.length_drop, List.drop_zero, List.length_cons, List.length_nil]); first | done | omega | assumption | grind [getD_set, getD_rep, toNat_succ, cntN_yes, cntN_no])
   refine req_i ?_ ?_
   · -- r32
    first | assumption | exact rep_bd (by omega) (by omega) | exact set_bd (by assumption) (by omega) (by omega) | exact take_bd (by assumption) | ((try simp only [List.take_nil, List.take_zero, List.length_take, List.take_length, List.take_take, Nat.min_self, List.drop_nil, List.length_drop, List.drop_zero, List.length_cons, List.length_nil]); first | assumption | exact rep_bd (by omega) (by omega) | exact set_bd (by assumption) (by omega) (by omega) | exact take_bd (by assumption) | grind [getD_set, getD_rep, toNat_succ, cntN_yes, cntN_no])
   refine req_i ?_ ?_
   · -- r33
    first | omega | ((try simp only [sigSms, cIn, smsPost, List.cons.injEq, DV.b.injEq, and_true, List.take_nil, List.take_zero, List.length_take, List.take_length, List.take_take, Nat.min_self, List.drop_nil, List.length_drop, List.drop_zero, List.length_cons, List.length_nil]); first | done | omega | assumption | grind [getD_set, getD_rep, toNat_succ, cntN_yes, cntN_no])
   rfl
theorem ext_sums : ∀ p ∈ ([(29, Ext.ctr (ctOf sigTurn))] : List (Nat × Ext)), ExtRow Try.prog p.1 p.2 := by
  intro p hp
  simp only [List.mem_cons, List.not_mem_nil, or_false] at hp
  rcases hp with rfl
  · trivial
theorem cts_sums : CtsOk Try.prog [(29, Ext.ctr (ctOf sigTurn))] := ctsOk_of (cs := [(29, sigTurn)])
  (fun p hp => by
    simp only [List.mem_cons, List.not_mem_nil, or_false] at hp
    rcases hp with rfl
    · exact fn_turn
)
  (fun f c h => by
    simp only [List.lookup_cons] at h
    repeat' split at h
    all_goals first | (cases h; done) | (rename_i e; have e := beq_iff_eq.1 e; subst e; cases h; refine ⟨_, ?_, rfl⟩; simp))
theorem fn_sums : FnOk Try.prog 28 sigSms [] := fn_sound (by kernel_rfl) ext_sums cts_sums names vt_sums
end Go.Proofs.Ythfbhkeligmdfaa

namespace Go.Proofs.Ythfbhkeligmdfaa
open Go.Ev Go.Sp
set_option maxRecDepth 100000
theorem vc_new : vcFn Try.prog [] noA [] 100 9 sigNew = (allB fun n0 : Int => 
impB ((1 : Int) ≤ n0) (
impB (n0 ≤ (20 : Int)) (
impB (sigNew.pre [DV.n n0]) (
reqB (n0.toNat ≤ n0.toNat) (
reqB (n0.toNat ≤ (1000000 : Nat)) (
reqB (((0 : Nat) + n0.toNat) * (1 : Nat) ≤ n0.toNat.mul Go.Proofs.Try.prog.types[(3 : Nat)].size) (
reqB (n0.toNat ≤ (20 : Nat)) (
reqB ((List.take n0.toNat (List.drop (0 : Nat) (List.replicate n0.toNat (0 : Int)))).length = n0.toNat) (
reqB (∀ (y : Int),
 y ∈ List.take n0.toNat (List.drop (0 : Nat) (List.replicate n0.toNat (0 : Int))) → (0 : Int) ≤ y ∧ y ≤ (1000 : Int)) (
reqB (sigNew.post [DV.n n0]
 [DV.l (List.take n0.toNat (List.drop (0 : Nat) (List.replicate n0.toNat (0 : Int)))), DV.n (0 : Int),
 DV.n (0 : Int), DV.n (0 : Int), DV.n (0 : Int)]) (
true))))))))))) := by kernel_rfl
set_option maxHeartbeats 8000000 in
theorem vt_new : vcFn Try.prog [] noA [] 100 9 sigNew = true := by
  rw [vc_new]
  try simp only [Int.toNat_natCast, List.length_set, List.length_replicate, List.length_take, List.length_drop, List.length_append, List.length_cons, List.length_nil, Nat.min_self, List.take_take, lenCols_i, lenCols_b, List.drop_zero, List.take_length, List.take_nil, List.drop_nil, List.take_zero, List.nil_append, Nat.add_eq, Nat.mul_eq, Nat.sub_eq, Nat.zero_add, Nat.sub_zero, Nat.mul_one]
  refine all_i fun n0 => ?_
  refine imp_i fun h0 => ?_
  refine imp_i fun h1 => ?_
  refine imp_i fun h2 => ?_
  try simp only [sigNew, syncV, newPost, cChg, List.cons.injEq, DV.b.injEq, and_true, List.length_cons, List.length_nil] at h2
  refine req_i ?_ ?_
  · -- r0
   first | omega | assumption | grind
  refine req_i ?_ ?_
  · -- r1
   first | omega | assumption | grind
  refine req_i ?_ ?_
  · -- r2
   rw [show Try.prog.types[3].size = 1 from rfl]; omega
  refine req_i ?_ ?_
  · -- r3
   first | omega | assumption | grind
  refine req_i ?_ ?_
  · -- r4
   first | omega | ((try simp only [Int.toNat_natCast, List.length_replicate, List.take_nil, List.take_zero, List.length_take, List.take_length, List.take_take, Nat.min_self, List.drop_nil, List.length_drop, List.drop_zero, List.length_cons, List.length_nil]); first | done | omega | assumption | grind [getD_set, getD_rep, toNat_succ, cntN_yes, cntN_no])
  refine req_i ?_ ?_
  · -- r5
   first | assumption | exact rep_bd (by omega) (by omega) | exact set_bd (by assumption) (by omega) (by omega) | exact take_bd (by assumption) | ((try simp only [Int.toNat_natCast, List.length_replicate, List.take_nil, List.take_zero, List.length_take, List.take_length, List.take_take, Nat.min_self, List.drop_nil, List.length_drop, List.drop_zero, List.length_cons, List.length_nil]); first | assumption | exact rep_bd (by omega) (by omega) | exact set_bd (by assumption) (by omega) (by omega) | exact take_bd (by assumption) | grind [getD_set, getD_rep, toNat_succ, cntN_yes, cntN_no])
  refine req_i ?_ ?_
  · -- r6
   first | omega | ((try simp only [sigNew, syncV, newPost, cChg, List.cons.injEq, DV.b.injEq, and_true, Int.toNat_natCast, List.length_replicate, List.take_nil, List.take_zero, List.length_take, List.take_length, List.take_take, Nat.min_self, List.drop_nil, List.length_drop, List.drop_zero, List.length_cons, List.length_nil]); first | done | omega | assumption | grind [getD_set, getD_rep, toNat_succ, cntN_yes, cntN_no])
  rfl
theorem ext_new : ∀ p ∈ ([] : List (Nat × Ext)), ExtRow Try.prog p.1 p.2 := by
  intro p hp
  cases hp
theorem cts_new : CtsOk Try.prog [] := fun f c h => by cases h
theorem fn_new : FnOk Try.prog 9 sigNew [] := fn_sound (by kernel_rfl) ext_new cts_new names vt_new
end Go.Proofs.Ythfbhkeligmdfaa

namespace Go.Proofs.Ythfbhkeligmdfaa
open Go.Ev Go.Sp
set_option maxRecDepth 100000
theorem vc_clone : vcFn Try.prog [] noA [] 100 40 sigClone = (allB fun l0 : List Int => 
impB (l0.length ≤ (30 : Nat)) (
impB (∀ (y : Int), y ∈ l0 → (-9223372036854775808 : Int) ≤ y ∧ y ≤ (9223372036854775807 : Int)) (
impB (sigClone.pre [DV.l l0]) (
reqB (l0.length ≠ (0 : Nat)) (
reqB (((0 : Nat) + l0.length) * (0 + (1 : Nat)) ≤ l0.length.mul (1 : Nat)) (
reqB ((0 : Nat) + l0.length ≤ (1000000 : Nat)) (
reqB (((0 : Nat) + l0.length) * (1 : Nat) ≤ l0.length.mul (0 + (1 : Nat))) (
reqB (l0.length ≤ (30 : Nat)) (
reqB ((List.take l0.length (List.drop (0 : Nat) (List.take l0.length (List.drop (0 : Nat) l0)))).length = l0.length) (
reqB (∀ (y : Int),
 y ∈ List.take l0.length (List.drop (0 : Nat) (List.take l0.length (List.drop (0 : Nat) l0))) →
 (-9223372036854775808 : Int) ≤ y ∧ y ≤ (9223372036854775807 : Int)) (
reqB (sigClone.post [DV.l l0]
 [DV.l (List.take l0.length (List.drop (0 : Nat) (List.take l0.length (List.drop (0 : Nat) l0))))]) (
true)))))))))))) := by kernel_rfl
set_option maxHeartbeats 8000000 in
theorem vt_clone : vcFn Try.prog [] noA [] 100 40 sigClone = true := by
  rw [vc_clone]
  try simp only [Int.toNat_natCast, List.length_set, List.length_replicate, List.length_take, List.length_drop, List.length_append, List.length_cons, List.length_nil, Nat.min_self, List.take_take, lenCols_i, lenCols_b, List.drop_zero, List.take_length, List.take_nil, List.drop_nil, List.take_zero, List.nil_append, Nat.add_eq, Nat.mul_eq, Nat.sub_eq, Nat.zero_add, Nat.sub_zero, Nat.mul_one]
  refine all_i fun l0 => ?_
  refine imp_i fun h0 => ?_
  refine imp_i fun h1 => ?_
  refine imp_i fun h2 => ?_
  try simp only [sigClone, cIn, clonePre, clonePost, List.cons.injEq, DV.b.injEq, and_true, List.length_cons, List.length_nil] at h2
  refine req_i ?_ ?_
  · -- r0
   first | omega | ((try simp only [Nat.zero_add]); first | done | omega | assumption | grind [getD_set, getD_rep, toNat_succ, cntN_yes, cntN_no])
  refine req_i ?_ ?_
  · -- r1
   first | omega | ((try simp only [Nat.mul_eq]); first | done | omega | assumption | grind [getD_set, getD_rep, toNat_succ, cntN_yes, cntN_no])
  refine req_i ?_ ?_
  · -- r2
   first | omega | ((try simp only [Nat.zero_add]); first | done | omega | assumption | grind [getD_set, getD_rep, toNat_succ, cntN_yes, cntN_no])
  refine req_i ?_ ?_
  · -- r3
   first | omega | ((try simp only [Nat.mul_eq]); first | done | omega | assumption | grind [getD_set, getD_rep, toNat_succ, cntN_yes, cntN_no])
  refine req_i ?_ ?_
  · -- r4
   first | omega | ((try simp only [Nat.zero_add]); first | done | omega | assumption | grind [getD_set, getD_rep, toNat_succ, cntN_yes, cntN_no])
  refine req_i ?_ ?_
  · -- r5
   first | omega | ((try simp only [List.take_nil, List.take_zero, List.length_take, List.take_length, List.take_take, Nat.min_self, List.drop_nil, List.length_drop, List.drop_zero, List.length_cons, List.length_nil]); first | done | omega | assumption | grind [getD_set, getD_rep, toNat_succ, cntN_yes, cntN_no])
  refine req_i ?_ ?_
  · -- r6
   first | assumption | exact rep_bd (by omega) (by omega) | exact set_bd (by assumption) (by omega) (by omega) | exact take_bd (by assumption) | ((try simp only [List.take_nil, List.take_zero, List.length_take, List.take_length, List.take_take, Nat.min_self, List.drop_nil, List.length_drop, List.drop_zero, List.length_cons, List.length_nil]); first | assumption | exact rep_bd (by omega) (by omega) | exact set_bd (by assumption) (by omega) (by omega) | exact take_bd (by assumption) | grind [getD_set, getD_rep, toNat_succ, cntN_yes, cntN_no])
  refine req_i ?_ ?_
  · -- r7
   first | omega | ((try simp only [sigClone, cIn, clonePre, clonePost, List.cons.injEq, DV.b.injEq, and_true, List.take_nil, List.take_zero, List.length_take, List.take_length, List.take_take, Nat.min_self, List.drop_nil, List.length_drop, List.drop_zero, List.length_cons, List.length_nil]); first | done | omega | assumption | grind [getD_set, getD_rep, toNat_succ, cntN_yes, cntN_no])
  rfl
theorem ext_clone : ∀ p ∈ ([] : List (Nat × Ext)), ExtRow Try.prog p.1 p.2 := by
  intro p hp
  cases hp
theorem cts_clone : CtsOk Try.prog [] := fun f c h => by cases h
theorem fn_clone : FnOk Try.prog 40 sigClone [] := fn_sound (by kernel_rfl) ext_clone cts_clone names vt_clone
end Go.Proofs.Ythfbhkeligmdfaa

namespace Go.Proofs.Ythfbhkeligmdfaa
open Go.Ev Go.Sp
set_option maxRecDepth 100000
theorem vc_feed : vcFn Try.prog [(40, Ext.ctr (ctOf sigClone))] (fun f p _ => at2 f p 21 250 chk21L (at2 f p 11 250 feedL (none))) [] 100 11 sigFeed = (allB fun l0 : List Int => 
impB (l0.length ≤ (20 : Nat)) (
impB (∀ (y : Int), y ∈ l0 → (0 : Int) ≤ y ∧ y ≤ (1000 : Int)) (
allB fun n1 : Int => 
impB ((0 : Int) ≤ n1) (
impB (n1 ≤ (1000 : Int)) (
allB fun n2 : Int => 
impB ((-1000 : Int) ≤ n2) (
impB (n2 ≤ (1000 : Int)) (
allB fun n3 : Int => 
impB ((-1000 : Int) ≤ n3) (
impB (n3 ≤ (1000 : Int)) (
allB fun l4 : List Int => 
impB (l4.length ≤ (200 : Nat)) (
impB (∀ (y : Int), y ∈ l4 → (-1000 : Int) ≤ y ∧ y ≤ (1000 : Int)) (
allB fun l5 : List Int => 
impB (l5.length = l4.length) (
impB (∀ (y : Int), y ∈ l5 → (-1000 : Int) ≤ y ∧ y ≤ (1000 : Int)) (
impB (sigFeed.pre [DV.l l0, DV.n n1, DV.n n2, DV.n n3, DV.l l4, DV.l l5]) (
bR (dec ((↑l0.length : Int) < (1 : Int))) (
 reqB (sigFeed.post [DV.l l0, DV.n n1, DV.n n2, DV.n n3, DV.l l4, DV.l l5]
 [DV.l [], DV.n (0 : Int), DV.n (0 : Int), DV.n (0 : Int), DV.n (2 : Int)]) (
 true)) (
 reqB (((0 : Nat) + l0.length) * (1 : Nat) ≤ l0.length.mul (1 : Nat)) (
 reqB (l0.length ≤ (20 : Nat)) (
 reqB ((List.take l0.length (List.drop (0 : Nat) l0)).length = l0.length) (
 reqB (∀ (y : Int), y ∈ List.take l0.length (List.drop (0 : Nat) l0) → (0 : Int) ≤ y ∧ y ≤ (1000 : Int)) (
 reqB ((0 : Int) ≤ n1) (
 reqB (n1 ≤ (1000 : Int)) (
 reqB ((0 : Int) ≤ n1) (
 reqB (n1 ≤ (1000 : Int)) (
 reqB (chk21L.inv [DV.l (List.take l0.length (List.drop (0 : Nat) l0)), DV.n n1]
 [DV.n (0 : Int), DV.n n1]) (
 allB fun n6 : Int => 
 impB ((0 : Int) ≤ n6) (
 impB (n6 ≤ (20 : Int)) (
 allB fun n7 : Int => 
 impB ((0 : Int) ≤ n7) (
 impB (n7 ≤ (1000 : Int)) (
 impB (chk21L.inv [DV.l (List.take l0.length (List.drop (0 : Nat) l0)), DV.n n1]
 [DV.n n6, DV.n n7]) (
 bR (dec (n6 < (↑l0.length : Int))) (
 reqB (n6.toNat < l0.length) (
 reqB (Nat.add (0 : Nat) n6.toNat < l0.length) (
 bR (dec (n7 < l0.getD (Nat.add (0 : Nat) n6.toNat) (0 : Int))) (
 reqB (sigFeed.post [DV.l l0, DV.n n1, DV.n n2, DV.n n3, DV.l l4, DV.l l5]
 [DV.l [], DV.n (0 : Int), DV.n (0 : Int), DV.n (0 : Int), DV.n (3 : Int)]) (
 true)) (
 bR (bR (dec (n1 = n1)) (
 bR (bR (dec ((0 : Nat) = (0 : Nat))) (
 dec (l0.length = l0.length)) (
 false)) (
 bR (dec ((↑l0.length : Int) = (↑l0.length : Int))) (
 true) (
 false)) (
 false)) (
 false)) (
 bR (bR (bR (bR (dec ((0 : Nat) = (0 : Nat))) (
 dec (l0.length = l0.length)) (
 false)) (
 bR (dec (n1 = n1)) (
 bR (dec (n2 = n2)) (
 bR (dec (n3 = n3)) (
 true) (
 false)) (
 false)) (
 false)) (
 false)) (
 bR (bR (bR (dec ((0 : Nat) = (0 : Nat))) (
 dec (l0.length = l0.length)) (
 false)) (
 bR (dec (n1 = n1)) (
 bR (dec (n2 = n2)) (
 bR (dec (n3 = n3)) (
 true) (
 false)) (
 false)) (
 false)) (
 false)) (
 bR (bR (dec (n2 = n2)) (
 bR (dec (n3 = n3)) (
 true) (
 false)) (
 false)) (
 true) (
 false)) (
 false)) (
 false)) (
 reqB ((0 : Int) ≤ n6 + (1 : Int)) (
 reqB (n6 + (1 : Int) ≤ (20 : Int)) (
 reqB ((0 : Int) ≤ n7 - l0.getD (Nat.add (0 : Nat) n6.toNat) (0 : Int)) (
 reqB (n7 - l0.getD (Nat.add (0 : Nat) n6.toNat) (0 : Int) ≤ (1000 : Int)) (
 reqB (chk21L.inv [DV.l (List.take l0.length (List.drop (0 : Nat) l0)), DV.n n1]
 [DV.n (n6 + (1 : Int)), DV.n (n7 - l0.getD (Nat.add (0 : Nat) n6.toNat) (0 : Int))]) (
 reqB (chk21L.mea [DV.l (List.take l0.length (List.drop (0 : Nat) l0)), DV.n n1]
 [DV.n (n6 + (1 : Int)), DV.n (n7 - l0.getD (Nat.add (0 : Nat) n6.toNat) (0 : Int))] <
 chk21L.mea [DV.l (List.take l0.length (List.drop (0 : Nat) l0)), DV.n n1]
 [DV.n n6, DV.n n7]) (
 true))))))) (
 false)) (
 false))))) (
 bR (dec (n1 = (0 : Int))) (
 bR (bR (bR (dec (n2 = (0 : Int))) (
 bR (dec (n3 = (0 : Int))) (
 true) (
 false)) (
 false)) (
 false) (
 true)) (
 reqB (sigFeed.post [DV.l l0, DV.n n1, DV.n n2, DV.n n3, DV.l l4, DV.l l5]
 [DV.l [], DV.n (0 : Int), DV.n (0 : Int), DV.n (0 : Int), DV.n (3 : Int)]) (
 true)) (
 reqB (((0 : Nat) + l0.length) * (1 : Nat) ≤ l0.length.mul (1 : Nat)) (
 reqB (l0.length ≤ (30 : Nat)) (
 reqB ((List.take l0.length (List.drop (0 : Nat) l0)).length = l0.length) (
 reqB (∀ (y : Int),
 y ∈ List.take l0.length (List.drop (0 : Nat) l0) → (-9223372036854775808 : Int) ≤ y ∧ y ≤ (9223372036854775807 : Int)) (
 reqB (sigClone.pre [DV.l (List.take l0.length (List.drop (0 : Nat) l0))]) (
 allB fun l8 : List Int => 
 impB (l8.length ≤ (30 : Nat)) (
 impB (∀ (y : Int), y ∈ l8 → (-9223372036854775808 : Int) ≤ y ∧ y ≤ (9223372036854775807 : Int)) (
 impB (sigClone.post [DV.l (List.take l0.length (List.drop (0 : Nat) l0))] [DV.l l8]) (
 reqB (((0 : Nat) + l0.length) * (1 : Nat) ≤ l0.length.mul (1 : Nat)) (
 reqB (l0.length ≤ (20 : Nat)) (
 reqB ((List.take l0.length (List.drop (0 : Nat) l0)).length = l0.length) (
 reqB (∀ (y : Int), y ∈ List.take l0.length (List.drop (0 : Nat) l0) → (0 : Int) ≤ y ∧ y ≤ (1000 : Int)) (
 reqB ((0 : Int) ≤ n1) (
 reqB (n1 ≤ (1000 : Int)) (
 reqB ((-1000 : Int) ≤ n2) (
 reqB (n2 ≤ (1000 : Int)) (
 reqB ((-1000 : Int) ≤ n3) (
 reqB (n3 ≤ (1000 : Int)) (
 reqB (((0 : Nat) + l4.length) * (2 : Nat) ≤ l4.length.mul (2 : Nat)) (
 reqB (l4.length ≤ (200 : Nat)) (
 reqB ((List.take l4.length (List.drop (0 : Nat) l4)).length = l4.length) (
 reqB (∀ (y : Int), y ∈ List.take l4.length (List.drop (0 : Nat) l4) → (-1000 : Int) ≤ y ∧ y ≤ (1000 : Int)) (
 reqB ((List.take l4.length (List.drop (0 : Nat) l5)).length = l4.length) (
 reqB (∀ (y : Int), y ∈ List.take l4.length (List.drop (0 : Nat) l5) → (-1000 : Int) ≤ y ∧ y ≤ (1000 : Int)) (
 reqB (lenCols [Col.i Go.IntKind.i64 (-9223372036854775808 : Int) (9223372036854775807 : Int) l8] ≤ (20 : Nat)) (
 reqB (l8.length = lenCols [Col.i Go.IntKind.i64 (-9223372036854775808 : Int) (9223372036854775807 : Int) l8]) (
 reqB (∀ (y : Int), y ∈ l8 → (0 : Int) ≤ y ∧ y ≤ (1000 : Int)) (
 reqB ((0 : Int) ≤ n1) (
 reqB (n1 ≤ (1000 : Int)) (
 reqB ((-1000 : Int) ≤ n2) (
 reqB (n2 ≤ (1000 : Int)) (
 reqB ((-1000 : Int) ≤ n3) (
 reqB (n3 ≤ (1000 : Int)) (
 reqB (feedL.inv
 [DV.l (List.take l0.length (List.drop (0 : Nat) l0)), DV.n n1, DV.n n2, DV.n n3,
 DV.l (List.take l4.length (List.drop (0 : Nat) l4)),
 DV.l (List.take l4.length (List.drop (0 : Nat) l5))]
 [DV.n (0 : Int), DV.l l8, DV.n n1, DV.n n2, DV.n n3]) (
 allB fun n9 : Int => 
 impB ((0 : Int) ≤ n9) (
 impB (n9 ≤ (200 : Int)) (
 allB fun l10 : List Int => 
 impB (l10.length ≤ (20 : Nat)) (
 impB (∀ (y : Int), y ∈ l10 → (0 : Int) ≤ y ∧ y ≤ (1000 : Int)) (
 allB fun n11 : Int => 
 impB ((0 : Int) ≤ n11) (
 impB (n11 ≤ (1000 : Int)) (
 allB fun n12 : Int => 
 impB ((-1000 : Int) ≤ n12) (
 impB (n12 ≤ (1000 : Int)) (
 allB fun n13 : Int => 
 impB ((-1000 : Int) ≤ n13) (
 impB (n13 ≤ (1000 : Int)) (
 impB (feedL.inv
 [DV.l (List.take l0.length (List.drop (0 : Nat) l0)), DV.n n1, DV.n n2, DV.n n3,
 DV.l (List.take l4.length (List.drop (0 : Nat) l4)),
 DV.l (List.take l4.length (List.drop (0 : Nat) l5))]
 [DV.n n9, DV.l l10, DV.n n11, DV.n n12, DV.n n13]) (
 bR (dec (n9 < (↑l4.length : Int))) (
 reqB (n9.toNat < l4.length) (
 reqB (Nat.add (0 : Nat) n9.toNat < l4.length) (
 reqB (Nat.add (0 : Nat) n9.toNat < l5.length) (
 bR (dec (n12 * l4.getD (Nat.add (0 : Nat) n9.toNat) (0 : Int) + n13 * l5.getD (Nat.add (0 : Nat) n9.toNat) (0 : Int) < (0 : Int))) (
 reqB ((↑l8.length : Int) ≠ (0 : Int)) (
 reqB ((n11.tmod (↑l8.length : Int)).toNat < l8.length) (
 reqB (Nat.add (0 : Nat) (n11.tmod (↑l8.length : Int)).toNat < l10.length) (
 reqB ((n11.tmod (↑l8.length : Int)).toNat < l8.length) (
 reqB ((0 : Int) ≤ l10.getD (Nat.add (0 : Nat) (n11.tmod (↑l8.length : Int)).toNat) (0 : Int) + (1 : Int) ∧
 l10.getD (Nat.add (0 : Nat) (n11.tmod (↑l8.length : Int)).toNat) (0 : Int) + (1 : Int) ≤ (1000 : Int)) (
 reqB (Nat.add (0 : Nat) (n11.tmod (↑l8.length : Int)).toNat < l10.length) (
 bR (bR (bR (dec ((0 : Nat) = (0 : Nat))) (
 dec (l4.length = l4.length)) (
 false)) (
 bR (bR (true) (
 true) (
 false)) (
 bR (bR (dec ((0 : Nat) = (0 : Nat))) (
 dec (l4.length = l4.length)) (
 false)) (
 bR (dec ((↑l4.length : Int) = (↑l4.length : Int))) (
 true) (
 false)) (
 false)) (
 false)) (
 false)) (
 bR (bR (bR (bR (dec ((0 : Nat) = (0 : Nat))) (
 dec (l0.length = l0.length)) (
 false)) (
 bR (dec (n1 = n1)) (
 bR (dec (n2 = n2)) (
 bR (dec (n3 = n3)) (
 true) (
 false)) (
 false)) (
 false)) (
 false)) (
 bR (bR (bR (dec ((0 : Nat) = (0 : Nat))) (
 dec (l0.length = l0.length)) (
 false)) (
 bR (dec (n1 = n1)) (
 bR (dec (n2 = n2)) (
 bR (dec (n3 = n3)) (
 true) (
 false)) (
 false)) (
 false)) (
 false)) (
 bR (bR (dec (n2 = n2)) (
 bR (dec (n3 = n3)) (
 true) (
 false)) (
 false)) (
 bR (bR (bR (true) (
 bR (dec ((0 : Nat) = (0 : Nat))) (
 dec (l8.length = l8.length)) (
 false)) (
 false)) (
 bR (dec (n1 = n1)) (
 bR (dec (n2 = n2)) (
 bR (dec (n3 = n3)) (
 true) (
 false)) (
 false)) (
 false)) (
 false)) (
 bR (bR (bR (true) (
 bR (dec ((0 : Nat) = (0 : Nat))) (
 dec (l8.length = l8.length)) (
 false)) (
 false)) (
 bR (dec (n1 = n1)) (
 bR (dec (n2 = n2)) (
 bR (dec (n3 = n3)) (
 true) (
 false)) (
 false)) (
 false)) (
 false)) (
 bR (bR (bR (true) (
 bR (dec ((0 : Nat) = (0 : Nat))) (
 dec (l8.length = l8.length)) (
 false)) (
 false)) (
 true) (
 false)) (
 true) (
 false)) (
 false)) (
 false)) (
 false)) (
 false)) (
 false)) (
 reqB ((0 : Int) ≤ n9 + (1 : Int)) (
 reqB (n9 + (1 : Int) ≤ (200 : Int)) (
 reqB (lenCols
 [Col.i Go.IntKind.i64 (0 : Int) (1000 : Int)
 (l10.set (Nat.add (0 : Nat) (n11.tmod (↑l8.length : Int)).toNat)
 (l10.getD (Nat.add (0 : Nat) (n11.tmod (↑l8.length : Int)).toNat) (0 : Int) + (1 : Int)))] ≤
 (20 : Nat)) (
 reqB ((l10.set (Nat.add (0 : Nat) (n11.tmod (↑l8.length : Int)).toNat)
 (l10.getD (Nat.add (0 : Nat) (n11.tmod (↑l8.length : Int)).toNat) (0 : Int) + (1 : Int))).length =
 lenCols
 [Col.i Go.IntKind.i64 (0 : Int) (1000 : Int)
 (l10.set (Nat.add (0 : Nat) (n11.tmod (↑l8.length : Int)).toNat)
 (l10.getD (Nat.add (0 : Nat) (n11.tmod (↑l8.length : Int)).toNat) (0 : Int) + (1 : Int)))]) (
 reqB (∀ (y : Int),
 y ∈
 l10.set (Nat.add (0 : Nat) (n11.tmod (↑l8.length : Int)).toNat)
 (l10.getD (Nat.add (0 : Nat) (n11.tmod (↑l8.length : Int)).toNat) (0 : Int) + (1 : Int)) →
 (0 : Int) ≤ y ∧ y ≤ (1000 : Int)) (
 reqB ((0 : Int) ≤ n11 + (1 : Int)) (
 reqB (n11 + (1 : Int) ≤ (1000 : Int)) (
 reqB ((-1000 : Int) ≤ l4.getD (Nat.add (0 : Nat) n9.toNat) (0 : Int)) (
 reqB (l4.getD (Nat.add (0 : Nat) n9.toNat) (0 : Int) ≤ (1000 : Int)) (
 reqB ((-1000 : Int) ≤ l5.getD (Nat.add (0 : Nat) n9.toNat) (0 : Int)) (
 reqB (l5.getD (Nat.add (0 : Nat) n9.toNat) (0 : Int) ≤ (1000 : Int)) (
 reqB (feedL.inv
 [DV.l (List.take l0.length (List.drop (0 : Nat) l0)), DV.n n1, DV.n n2, DV.n n3,
 DV.l (List.take l4.length (List.drop (0 : Nat) l4)),
 DV.l (List.take l4.length (List.drop (0 : Nat) l5))]
 [DV.n (n9 + (1 : Int)),
 DV.l
 (l10.set (Nat.add (0 : Nat) (n11.tmod (↑l8.length : Int)).toNat)
 (l10.getD (Nat.add (0 : Nat) (n11.tmod (↑l8.length : Int)).toNat) (0 : Int) + (1 : Int))),
 DV.n (n11 + (1 : Int)), DV.n (l4.getD (Nat.add (0 : Nat) n9.toNat) (0 : Int)),
 DV.n (l5.getD (Nat.add (0 : Nat) n9.toNat) (0 : Int))]) (
 reqB (feedL.mea
 [DV.l (List.take l0.length (List.drop (0 : Nat) l0)), DV.n n1, DV.n n2, DV.n n3,
 DV.l (List.take l4.length (List.drop (0 : Nat) l4)),
 DV.l (List.take l4.length (List.drop (0 : Nat) l5))]
 [DV.n (n9 + (1 : Int)),
 DV.l
 (l10.set (Nat.add (0 : Nat) (n11.tmod (↑l8.length : Int)).toNat)
 (l10.getD (Nat.add (0 : Nat) (n11.tmod (↑l8.length : Int)).toNat) (0 : Int) + (1 : Int))),
 DV.n (n11 + (1 : Int)), DV.n (l4.getD (Nat.add (0 : Nat) n9.toNat) (0 : Int)),
 DV.n (l5.getD (Nat.add (0 : Nat) n9.toNat) (0 : Int))] <
 feedL.mea
 [DV.l (List.take l0.length (List.drop (0 : Nat) l0)), DV.n n1, DV.n n2, DV.n n3,
 DV.l (List.take l4.length (List.drop (0 : Nat) l4)),
 DV.l (List.take l4.length (List.drop (0 : Nat) l5))]
 [DV.n n9, DV.l l10, DV.n n11, DV.n n12, DV.n n13]) (
 true)))))))))))))) (
 false)) (
 false)))))))) (
 bR (bR (bR (dec ((0 : Nat) = (0 : Nat))) (
 dec (l4.length = l4.length)) (
 false)) (
 bR (bR (true) (
 true) (
 false)) (
 bR (bR (dec ((0 : Nat) = (0 : Nat))) (
 dec (l4.length = l4.length)) (
 false)) (
 bR (dec ((↑l4.length : Int) = (↑l4.length : Int))) (
 true) (
 false)) (
 false)) (
 false)) (
 false)) (
 bR (bR (bR (bR (dec ((0 : Nat) = (0 : Nat))) (
 dec (l0.length = l0.length)) (
 false)) (
 bR (dec (n1 = n1)) (
 bR (dec (n2 = n2)) (
 bR (dec (n3 = n3)) (
 true) (
 false)) (
 false)) (
 false)) (
 false)) (
 bR (bR (bR (dec ((0 : Nat) = (0 : Nat))) (
 dec (l0.length = l0.length)) (
 false)) (
 bR (dec (n1 = n1)) (
 bR (dec (n2 = n2)) (
 bR (dec (n3 = n3)) (
 true) (
 false)) (
 false)) (
 false)) (
 false)) (
 bR (bR (dec (n2 = n2)) (
 bR (dec (n3 = n3)) (
 true) (
 false)) (
 false)) (
 bR (bR (bR (true) (
 bR (dec ((0 : Nat) = (0 : Nat))) (
 dec (l8.length = l8.length)) (
 false)) (
 false)) (
 bR (dec (n1 = n1)) (
 bR (dec (n2 = n2)) (
 bR (dec (n3 = n3)) (
 true) (
 false)) (
 false)) (
 false)) (
 false)) (
 bR (bR (bR (true) (
 bR (dec ((0 : Nat) = (0 : Nat))) (
 dec (l8.length = l8.length)) (
 false)) (
 false)) (
 bR (dec (n1 = n1)) (
 bR (dec (n2 = n2)) (
 bR (dec (n3 = n3)) (
 true) (
 false)) (
 false)) (
 false)) (
 false)) (
 bR (bR (bR (true) (
 bR (dec ((0 : Nat) = (0 : Nat))) (
 dec (l8.length = l8.length)) (
 false)) (
 false)) (
 true) (
 false)) (
 true) (
 false)) (
 false)) (
 false)) (
 false)) (
 false)) (
 false)) (
 reqB ((0 : Int) ≤ n9 + (1 : Int)) (
 reqB (n9 + (1 : Int) ≤ (200 : Int)) (
 reqB (lenCols [Col.i Go.IntKind.i64 (0 : Int) (1000 : Int) l10] ≤ (20 : Nat)) (
 reqB (l10.length = lenCols [Col.i Go.IntKind.i64 (0 : Int) (1000 : Int) l10]) (
 reqB (∀ (y : Int), y ∈ l10 → (0 : Int) ≤ y ∧ y ≤ (1000 : Int)) (
 reqB ((0 : Int) ≤ n11 + (1 : Int)) (
 reqB (n11 + (1 : Int) ≤ (1000 : Int)) (
 reqB ((-1000 : Int) ≤ l4.getD (Nat.add (0 : Nat) n9.toNat) (0 : Int)) (
 reqB (l4.getD (Nat.add (0 : Nat) n9.toNat) (0 : Int) ≤ (1000 : Int)) (
 reqB ((-1000 : Int) ≤ l5.getD (Nat.add (0 : Nat) n9.toNat) (0 : Int)) (
 reqB (l5.getD (Nat.add (0 : Nat) n9.toNat) (0 : Int) ≤ (1000 : Int)) (
 reqB (feedL.inv
 [DV.l (List.take l0.length (List.drop (0 : Nat) l0)), DV.n n1, DV.n n2, DV.n n3,
 DV.l (List.take l4.length (List.drop (0 : Nat) l4)),
 DV.l (List.take l4.length (List.drop (0 : Nat) l5))]
 [DV.n (n9 + (1 : Int)), DV.l l10, DV.n (n11 + (1 : Int)),
 DV.n (l4.getD (Nat.add (0 : Nat) n9.toNat) (0 : Int)),
 DV.n (l5.getD (Nat.add (0 : Nat) n9.toNat) (0 : Int))]) (
 reqB (feedL.mea
 [DV.l (List.take l0.length (List.drop (0 : Nat) l0)), DV.n n1, DV.n n2, DV.n n3,
 DV.l (List.take l4.length (List.drop (0 : Nat) l4)),
 DV.l (List.take l4.length (List.drop (0 : Nat) l5))]
 [DV.n (n9 + (1 : Int)), DV.l l10, DV.n (n11 + (1 : Int)),
 DV.n (l4.getD (Nat.add (0 : Nat) n9.toNat) (0 : Int)),
 DV.n (l5.getD (Nat.add (0 : Nat) n9.toNat) (0 : Int))] <
 feedL.mea
 [DV.l (List.take l0.length (List.drop (0 : Nat) l0)), DV.n n1, DV.n n2, DV.n n3,
 DV.l (List.take l4.length (List.drop (0 : Nat) l4)),
 DV.l (List.take l4.length (List.drop (0 : Nat) l5))]
 [DV.n n9, DV.l l10, DV.n n11, DV.n n12, DV.n n13]) (
 true)))))))))))))) (
 false)) (
 false)))))) (
 reqB (((0 : Nat) + l8.length) * (1 : Nat) ≤ l10.length.mul (1 : Nat)) (
 reqB (l8.length ≤ (20 : Nat)) (
 reqB ((List.take l8.length (List.drop (0 : Nat) l10)).length = l8.length) (
 reqB (∀ (y : Int), y ∈ List.take l8.length (List.drop (0 : Nat) l10) → (0 : Int) ≤ y ∧ y ≤ (1000 : Int)) (
 reqB ((0 : Int) ≤ n11) (
 reqB (n11 ≤ (1000 : Int)) (
 reqB ((-1000 : Int) ≤ n12) (
 reqB (n12 ≤ (1000 : Int)) (
 reqB ((-1000 : Int) ≤ n13) (
 reqB (n13 ≤ (1000 : Int)) (
 reqB (sigFeed.post [DV.l l0, DV.n n1, DV.n n2, DV.n n3, DV.l l4, DV.l l5]
 [DV.l (List.take l8.length (List.drop (0 : Nat) l10)), DV.n n11, DV.n n12, DV.n n13,
 DV.n (0 : Int)]) (
 true))))))))))))))))))))))))))))))))))))))))))))))))))))))))))) (
 reqB (((0 : Nat) + l0.length) * (1 : Nat) ≤ l0.length.mul (1 : Nat)) (
 reqB (l0.length ≤ (30 : Nat)) (
 reqB ((List.take l0.length (List.drop (0 : Nat) l0)).length = l0.length) (
 reqB (∀ (y : Int),
 y ∈ List.take l0.length (List.drop (0 : Nat) l0) → (-9223372036854775808 : Int) ≤ y ∧ y ≤ (9223372036854775807 : Int)) (
 reqB (sigClone.pre [DV.l (List.take l0.length (List.drop (0 : Nat) l0))]) (
 allB fun l14 : List Int => 
 impB (l14.length ≤ (30 : Nat)) (
 impB (∀ (y : Int), y ∈ l14 → (-9223372036854775808 : Int) ≤ y ∧ y ≤ (9223372036854775807 : Int)) (
 impB (sigClone.post [DV.l (List.take l0.length (List.drop (0 : Nat) l0))] [DV.l l14]) (
 reqB (((0 : Nat) + l0.length) * (1 : Nat) ≤ l0.length.mul (1 : Nat)) (
 reqB (l0.length ≤ (20 : Nat)) (
 reqB ((List.take l0.length (List.drop (0 : Nat) l0)).length = l0.length) (
 reqB (∀ (y : Int), y ∈ List.take l0.length (List.drop (0 : Nat) l0) → (0 : Int) ≤ y ∧ y ≤ (1000 : Int)) (
 reqB ((0 : Int) ≤ n1) (
 reqB (n1 ≤ (1000 : Int)) (
 reqB ((-1000 : Int) ≤ n2) (
 reqB (n2 ≤ (1000 : Int)) (
 reqB ((-1000 : Int) ≤ n3) (
 reqB (n3 ≤ (1000 : Int)) (
 reqB (((0 : Nat) + l4.length) * (2 : Nat) ≤ l4.length.mul (2 : Nat)) (
 reqB (l4.length ≤ (200 : Nat)) (
 reqB ((List.take l4.length (List.drop (0 : Nat) l4)).length = l4.length) (
 reqB (∀ (y : Int), y ∈ List.take l4.length (List.drop (0 : Nat) l4) → (-1000 : Int) ≤ y ∧ y ≤ (1000 : Int)) (
 reqB ((List.take l4.length (List.drop (0 : Nat) l5)).length = l4.length) (
 reqB (∀ (y : Int), y ∈ List.take l4.length (List.drop (0 : Nat) l5) → (-1000 : Int) ≤ y ∧ y ≤ (1000 : Int)) (
 reqB (lenCols [Col.i Go.IntKind.i64 (-9223372036854775808 : Int) (9223372036854775807 : Int) l14] ≤ (20 : Nat)) (
 reqB (l14.length = lenCols [Col.i Go.IntKind.i64 (-9223372036854775808 : Int) (9223372036854775807 : Int) l14]) (
 reqB (∀ (y : Int), y ∈ l14 → (0 : Int) ≤ y ∧ y ≤ (1000 : Int)) (
 reqB ((0 : Int) ≤ n1) (
 reqB (n1 ≤ (1000 : Int)) (
 reqB ((-1000 : Int) ≤ n2) (
 reqB (n2 ≤ (1000 : Int)) (
 reqB ((-1000 : Int) ≤ n3) (
 reqB (n3 ≤ (1000 : Int)) (
 reqB (feedL.inv
 [DV.l (List.take l0.length (List.drop (0 : Nat) l0)), DV.n n1, DV.n n2, DV.n n3,
 DV.l (List.take l4.length (List.drop (0 : Nat) l4)),
 DV.l (List.take l4.length (List.drop (0 : Nat) l5))]
 [DV.n (0 : Int), DV.l l14, DV.n n1, DV.n n2, DV.n n3]) (
 allB fun n15 : Int => 
 impB ((0 : Int) ≤ n15) (
 impB (n15 ≤ (200 : Int)) (
 allB fun l16 : List Int => 
 impB (l16.length ≤ (20 : Nat)) (
 impB (∀ (y : Int), y ∈ l16 → (0 : Int) ≤ y ∧ y ≤ (1000 : Int)) (
 allB fun n17 : Int => 
 impB ((0 : Int) ≤ n17) (
 impB (n17 ≤ (1000 : Int)) (
 allB fun n18 : Int => 
 impB ((-1000 : Int) ≤ n18) (
 impB (n18 ≤ (1000 : Int)) (
 allB fun n19 : Int => 
 impB ((-1000 : Int) ≤ n19) (
 impB (n19 ≤ (1000 : Int)) (
 impB (feedL.inv
 [DV.l (List.take l0.length (List.drop (0 : Nat) l0)), DV.n n1, DV.n n2, DV.n n3,
 DV.l (List.take l4.length (List.drop (0 : Nat) l4)),
 DV.l (List.take l4.length (List.drop (0 : Nat) l5))]
 [DV.n n15, DV.l l16, DV.n n17, DV.n n18, DV.n n19]) (
 bR (dec (n15 < (↑l4.length : Int))) (
 reqB (n15.toNat < l4.length) (
 reqB (Nat.add (0 : Nat) n15.toNat < l4.length) (
 reqB (Nat.add (0 : Nat) n15.toNat < l5.length) (
 bR (dec (n18 * l4.getD (Nat.add (0 : Nat) n15.toNat) (0 : Int) + n19 * l5.getD (Nat.add (0 : Nat) n15.toNat) (0 : Int) <
 (0 : Int))) (
 reqB ((↑l14.length : Int) ≠ (0 : Int)) (
 reqB ((n17.tmod (↑l14.length : Int)).toNat < l14.length) (
 reqB (Nat.add (0 : Nat) (n17.tmod (↑l14.length : Int)).toNat < l16.length) (
 reqB ((n17.tmod (↑l14.length : Int)).toNat < l14.length) (
 reqB ((0 : Int) ≤ l16.getD (Nat.add (0 : Nat) (n17.tmod (↑l14.length : Int)).toNat) (0 : Int) + (1 : Int) ∧
 l16.getD (Nat.add (0 : Nat) (n17.tmod (↑l14.length : Int)).toNat) (0 : Int) + (1 : Int) ≤ (1000 : Int)) (
 reqB (Nat.add (0 : Nat) (n17.tmod (↑l14.length : Int)).toNat < l16.length) (
 bR (bR (bR (dec ((0 : Nat) = (0 : Nat))) (
 dec (l4.length = l4.length)) (
 false)) (
 bR (bR (true) (
 true) (
 false)) (
 bR (bR (dec ((0 : Nat) = (0 : Nat))) (
 dec (l4.length = l4.length)) (
 false)) (
 bR (dec ((↑l4.length : Int) = (↑l4.length : Int))) (
 true) (
 false)) (
 false)) (
 false)) (
 false)) (
 bR (bR (bR (bR (dec ((0 : Nat) = (0 : Nat))) (
 dec (l0.length = l0.length)) (
 false)) (
 bR (dec (n1 = n1)) (
 bR (dec (n2 = n2)) (
 bR (dec (n3 = n3)) (
 true) (
 false)) (
 false)) (
 false)) (
 false)) (
 bR (bR (bR (dec ((0 : Nat) = (0 : Nat))) (
 dec (l0.length = l0.length)) (
 false)) (
 bR (dec (n1 = n1)) (
 bR (dec (n2 = n2)) (
 bR (dec (n3 = n3)) (
 true) (
 false)) (
 false)) (
 false)) (
 false)) (
 bR (bR (dec (n2 = n2)) (
 bR (dec (n3 = n3)) (
 true) (
 false)) (
 false)) (
 bR (bR (bR (true) (
 bR (dec ((0 : Nat) = (0 : Nat))) (
 dec (l14.length = l14.length)) (
 false)) (
 false)) (
 bR (dec (n1 = n1)) (
 bR (dec (n2 = n2)) (
 bR (dec (n3 = n3)) (
 true) (
 false)) (
 false)) (
 false)) (
 false)) (
 bR (bR (bR (true) (
 bR (dec ((0 : Nat) = (0 : Nat))) (
 dec (l14.length = l14.length)) (
 false)) (
 false)) (
 bR (dec (n1 = n1)) (
 bR (dec (n2 = n2)) (
 bR (dec (n3 = n3)) (
 true) (
 false)) (
 false)) (
 false)) (
 false)) (
 bR (bR (bR (true) (
 bR (dec ((0 : Nat) = (0 : Nat))) (
 dec (l14.length = l14.length)) (
 false)) (
 false)) (
 true) (
 false)) (
 true) (
 false)) (
 false)) (
 false)) (
 false)) (
 false)) (
 false)) (
 reqB ((0 : Int) ≤ n15 + (1 : Int)) (
 reqB (n15 + (1 : Int) ≤ (200 : Int)) (
 reqB (lenCols
 [Col.i Go.IntKind.i64 (0 : Int) (1000 : Int)
 (l16.set (Nat.add (0 : Nat) (n17.tmod (↑l14.length : Int)).toNat)
 (l16.getD (Nat.add (0 : Nat) (n17.tmod (↑l14.length : Int)).toNat) (0 : Int) + (1 : Int)))] ≤
 (20 : Nat)) (
 reqB ((l16.set (Nat.add (0 : Nat) (n17.tmod (↑l14.length : Int)).toNat)
 (l16.getD (Nat.add (0 : Nat) (n17.tmod (↑l14.length : Int)).toNat) (0 : Int) + (1 : Int))).length =
 lenCols
 [Col.i Go.IntKind.i64 (0 : Int) (1000 : Int)
 (l16.set (Nat.add (0 : Nat) (n17.tmod (↑l14.length : Int)).toNat)
 (l16.getD (Nat.add (0 : Nat) (n17.tmod (↑l14.length : Int)).toNat) (0 : Int) + (1 : Int)))]) (
 reqB (∀ (y : Int),
 y ∈
 l16.set (Nat.add (0 : Nat) (n17.tmod (↑l14.length : Int)).toNat)
 (l16.getD (Nat.add (0 : Nat) (n17.tmod (↑l14.length : Int)).toNat) (0 : Int) + (1 : Int)) →
 (0 : Int) ≤ y ∧ y ≤ (1000 : Int)) (
 reqB ((0 : Int) ≤ n17 + (1 : Int)) (
 reqB (n17 + (1 : Int) ≤ (1000 : Int)) (
 reqB ((-1000 : Int) ≤ l4.getD (Nat.add (0 : Nat) n15.toNat) (0 : Int)) (
 reqB (l4.getD (Nat.add (0 : Nat) n15.toNat) (0 : Int) ≤ (1000 : Int)) (
 reqB ((-1000 : Int) ≤ l5.getD (Nat.add (0 : Nat) n15.toNat) (0 : Int)) (
 reqB (l5.getD (Nat.add (0 : Nat) n15.toNat) (0 : Int) ≤ (1000 : Int)) (
 reqB (feedL.inv
 [DV.l (List.take l0.length (List.drop (0 : Nat) l0)), DV.n n1, DV.n n2, DV.n n3,
 DV.l (List.take l4.length (List.drop (0 : Nat) l4)),
 DV.l (List.take l4.length (List.drop (0 : Nat) l5))]
 [DV.n (n15 + (1 : Int)),
 DV.l
 (l16.set (Nat.add (0 : Nat) (n17.tmod (↑l14.length : Int)).toNat)
 (l16.getD (Nat.add (0 : Nat) (n17.tmod (↑l14.length : Int)).toNat) (0 : Int) + (1 : Int))),
 DV.n (n17 + (1 : Int)), DV.n (l4.getD (Nat.add (0 : Nat) n15.toNat) (0 : Int)),
 DV.n (l5.getD (Nat.add (0 : Nat) n15.toNat) (0 : Int))]) (
 reqB (feedL.mea
 [DV.l (List.take l0.length (List.drop (0 : Nat) l0)), DV.n n1, DV.n n2, DV.n n3,
 DV.l (List.take l4.length (List.drop (0 : Nat) l4)),
 DV.l (List.take l4.length (List.drop (0 : Nat) l5))]
 [DV.n (n15 + (1 : Int)),
 DV.l
 (l16.set (Nat.add (0 : Nat) (n17.tmod (↑l14.length : Int)).toNat)
 (l16.getD (Nat.add (0 : Nat) (n17.tmod (↑l14.length : Int)).toNat) (0 : Int) + (1 : Int))),
 DV.n (n17 + (1 : Int)), DV.n (l4.getD (Nat.add (0 : Nat) n15.toNat) (0 : Int)),
 DV.n (l5.getD (Nat.add (0 : Nat) n15.toNat) (0 : Int))] <
 feedL.mea
 [DV.l (List.take l0.length (List.drop (0 : Nat) l0)), DV.n n1, DV.n n2, DV.n n3,
 DV.l (List.take l4.length (List.drop (0 : Nat) l4)),
 DV.l (List.take l4.length (List.drop (0 : Nat) l5))]
 [DV.n n15, DV.l l16, DV.n n17, DV.n n18, DV.n n19]) (
 true)))))))))))))) (
 false)) (
 false)))))))) (
 bR (bR (bR (dec ((0 : Nat) = (0 : Nat))) (
 dec (l4.length = l4.length)) (
 false)) (
 bR (bR (true) (
 true) (
 false)) (
 bR (bR (dec ((0 : Nat) = (0 : Nat))) (
 dec (l4.length = l4.length)) (
 false)) (
 bR (dec ((↑l4.length : Int) = (↑l4.length : Int))) (
 true) (
 false)) (
 false)) (
 false)) (
 false)) (
 bR (bR (bR (bR (dec ((0 : Nat) = (0 : Nat))) (
 dec (l0.length = l0.length)) (
 false)) (
 bR (dec (n1 = n1)) (
 bR (dec (n2 = n2)) (
 bR (dec (n3 = n3)) (
 true) (
 false)) (
 false)) (
 false)) (
 false)) (
 bR (bR (bR (dec ((0 : Nat) = (0 : Nat))) (
 dec (l0.length = l0.length)) (
 false)) (
 bR (dec (n1 = n1)) (
 bR (dec (n2 = n2)) (
 bR (dec (n3 = n3)) (
 true) (
 false)) (
 false)) (
 false)) (
 false)) (
 bR (bR (dec (n2 = n2)) (
 bR (dec (n3 = n3)) (
 true) (
 false)) (
 false)) (
 bR (bR (bR (true) (
 bR (dec ((0 : Nat) = (0 : Nat))) (
 dec (l14.length = l14.length)) (
 false)) (
 false)) (
 bR (dec (n1 = n1)) (
 bR (dec (n2 = n2)) (
 bR (dec (n3 = n3)) (
 true) (
 false)) (
 false)) (
 false)) (
 false)) (
 bR (bR (bR (true) (
 bR (dec ((0 : Nat) = (0 : Nat))) (
 dec (l14.length = l14.length)) (
 false)) (
 false)) (
 bR (dec (n1 = n1)) (
 bR (dec (n2 = n2)) (
 bR (dec (n3 = n3)) (
 true) (
 false)) (
 false)) (
 false)) (
 false)) (
 bR (bR (bR (true) (
 bR (dec ((0 : Nat) = (0 : Nat))) (
 dec (l14.length = l14.length)) (
 false)) (
 false)) (
 true) (
 false)) (
 true) (
 false)) (
 false)) (
 false)) (
 false)) (
 false)) (
 false)) (
 reqB ((0 : Int) ≤ n15 + (1 : Int)) (
 reqB (n15 + (1 : Int) ≤ (200 : Int)) (
 reqB (lenCols [Col.i Go.IntKind.i64 (0 : Int) (1000 : Int) l16] ≤ (20 : Nat)) (
 reqB (l16.length = lenCols [Col.i Go.IntKind.i64 (0 : Int) (1000 : Int) l16]) (
 reqB (∀ (y : Int), y ∈ l16 → (0 : Int) ≤ y ∧ y ≤ (1000 : Int)) (
 reqB ((0 : Int) ≤ n17 + (1 : Int)) (
 reqB (n17 + (1 : Int) ≤ (1000 : Int)) (
 reqB ((-1000 : Int) ≤ l4.getD (Nat.add (0 : Nat) n15.toNat) (0 : Int)) (
 reqB (l4.getD (Nat.add (0 : Nat) n15.toNat) (0 : Int) ≤ (1000 : Int)) (
 reqB ((-1000 : Int) ≤ l5.getD (Nat.add (0 : Nat) n15.toNat) (0 : Int)) (
 reqB (l5.getD (Nat.add (0 : Nat) n15.toNat) (0 : Int) ≤ (1000 : Int)) (
 reqB (feedL.inv
 [DV.l (List.take l0.length (List.drop (0 : Nat) l0)), DV.n n1, DV.n n2, DV.n n3,
 DV.l (List.take l4.length (List.drop (0 : Nat) l4)),
 DV.l (List.take l4.length (List.drop (0 : Nat) l5))]
 [DV.n (n15 + (1 : Int)), DV.l l16, DV.n (n17 + (1 : Int)),
 DV.n (l4.getD (Nat.add (0 : Nat) n15.toNat) (0 : Int)),
 DV.n (l5.getD (Nat.add (0 : Nat) n15.toNat) (0 : Int))]) (
 reqB (feedL.mea
 [DV.l (List.take l0.length (List.drop (0 : Nat) l0)), DV.n n1, DV.n n2, DV.n n3,
 DV.l (List.take l4.length (List.drop (0 : Nat) l4)),
 DV.l (List.take l4.length (List.drop (0 : Nat) l5))]
 [DV.n (n15 + (1 : Int)), DV.l l16, DV.n (n17 + (1 : Int)),
 DV.n (l4.getD (Nat.add (0 : Nat) n15.toNat) (0 : Int)),
 DV.n (l5.getD (Nat.add (0 : Nat) n15.toNat) (0 : Int))] <
 feedL.mea
 [DV.l (List.take l0.length (List.drop (0 : Nat) l0)), DV.n n1, DV.n n2, DV.n n3,
 DV.l (List.take l4.length (List.drop (0 : Nat) l4)),
 DV.l (List.take l4.length (List.drop (0 : Nat) l5))]
 [DV.n n15, DV.l l16, DV.n n17, DV.n n18, DV.n n19]) (
 true)))))))))))))) (
 false)) (
 false)))))) (
 reqB (((0 : Nat) + l14.length) * (1 : Nat) ≤ l16.length.mul (1 : Nat)) (
 reqB (l14.length ≤ (20 : Nat)) (
 reqB ((List.take l14.length (List.drop (0 : Nat) l16)).length = l14.length) (
 reqB (∀ (y : Int), y ∈ List.take l14.length (List.drop (0 : Nat) l16) → (0 : Int) ≤ y ∧ y ≤ (1000 : Int)) (
 reqB ((0 : Int) ≤ n17) (
 reqB (n17 ≤ (1000 : Int)) (
 reqB ((-1000 : Int) ≤ n18) (
 reqB (n18 ≤ (1000 : Int)) (
 reqB ((-1000 : Int) ≤ n19) (
 reqB (n19 ≤ (1000 : Int)) (
 reqB (sigFeed.post [DV.l l0, DV.n n1, DV.n n2, DV.n n3, DV.l l4, DV.l l5]
 [DV.l (List.take l14.length (List.drop (0 : Nat) l16)), DV.n n17, DV.n n18, DV.n n19,
 DV.n (0 : Int)]) (
 true)))))))))))))))))))))))))))))))))))))))))))))))))))))))))))))))))))))))))))))))))))))))) := by kernel_rfl
set_option maxHeartbeats 8000000 in
theorem vt_feed : vcFn Try.prog [(40, Ext.ctr (ctOf sigClone))] (fun f p _ => at2 f p 21 250 chk21L (at2 f p 11 250 feedL (none))) [] 100 11 sigFeed = true := by
  rw [vc_feed]
  try simp only [Int.toNat_natCast, List.length_set, List.length_replicate, List.length_take, List.length_drop, List.length_append, List.length_cons, List.length_nil, Nat.min_self, List.take_take, lenCols_i, lenCols_b, List.drop_zero, List.take_length, List.take_nil, List.drop_nil, List.take_zero, List.nil_append, Nat.add_eq, Nat.mul_eq, Nat.sub_eq, Nat.zero_add, Nat.sub_zero, Nat.mul_one]
  refine all_i fun l0 => ?_
  refine imp_i fun h0 => ?_
  refine imp_i fun h1 => ?_
  refine all_i fun n1 => ?_
  refine imp_i fun h2 => ?_
  refine imp_i fun h3 => ?_
  refine all_i fun n2 => ?_
  refine imp_i fun h4 => ?_
  refine imp_i fun h5 => ?_
  refine all_i fun n3 => ?_
  refine imp_i fun h6 => ?_
  refine imp_i fun h7 => ?_
  refine all_i fun l4 => ?_
  refine imp_i fun h8 => ?_
  refine imp_i fun h9 => ?_
  refine all_i fun l5 => ?_
  refine imp_i fun h10 => ?_
  have tkl5 := take_eq h10
  try simp only [tkl5]
  refine imp_i fun h11 => ?_
  refine imp_i fun h12 => ?_
  try simp only [sigFeed, syncV, cSm, feedPre, feedPost, cChg, List.cons.injEq, DV.b.injEq, and_true, List.length_cons, List.length_nil] at h12
  have nn : ∀ y ∈ l0, 0 ≤ y := fun y hy => (h1 y hy).1
  have s0 := sumL_nn nn
  refine bR_dec (fun h13 => ?_) (fun h13 => ?_)
  ·
   refine req_i ?_ ?_
   · -- r0
    first | omega | ((try simp only [sigFeed, syncV, cSm, feedPre, feedPost, cChg, List.cons.injEq, DV.b.injEq, and_true, List.length_cons, List.length_nil]); first | done | omega | assumption | grind [getD_set, getD_rep, toNat_succ, cntN_yes, cntN_no])
   rfl
  ·
   refine req_i ?_ ?_
   · -- r1
    first | omega | ((try simp only [Nat.mul_eq]); first | done | omega | assumption | grind [getD_set, getD_rep, toNat_succ, cntN_yes, cntN_no])
   refine req_i ?_ ?_
   · -- r2
    first | omega | ((try simp only [Nat.zero_add]); first | done | omega | assumption | grind [getD_set, getD_rep, toNat_succ, cntN_yes, cntN_no])
   refine req_i ?_ ?_
   · -- r3
    first | omega | ((try simp only [List.take_nil, List.take_zero, List.length_take, List.take_length, List.take_take, Nat.min_self, List.drop_nil, List.length_drop, List.drop_zero, List.length_cons, List.length_nil]); first | done | omega | assumption | grind [getD_set, getD_rep, toNat_succ, cntN_yes, cntN_no])
   refine req_i ?_ ?_
   · -- r4
    first | assumption | exact rep_bd (by omega) (by omega) | exact set_bd (by assumption) (by omega) (by omega) | exact take_bd (by assumption) | ((try simp only [List.take_nil, List.take_zero, List.length_take, List.take_length, List.take_take, Nat.min_self, List.drop_nil, List.length_drop, List.drop_zero, List.length_cons, List.length_nil]); first | assumption | exact rep_bd (by omega) (by omega) | exact set_bd (by assumption) (by omega) (by omega) | exact take_bd (by assumption) | grind [getD_set, getD_rep, toNat_succ, cntN_yes, cntN_no])
   refine req_i ?_ ?_
   · -- r5
    first | omega | assumption | grind
   refine req_i ?_ ?_
   · -- r6
    first | omega | assumption | grind
   refine req_i ?_ ?_
   · -- r7
    first | omega | assumption | grind
   refine req_i ?_ ?_
   · -- r8
    first | omega | assumption | grind
   refine req_i ?_ ?_
   · -- r9
    exact ⟨by omega, by omega, by show n1 = n1 - sumL (l0.take 0); simp [sumL]⟩
   refine all_i fun n6 => ?_
   refine imp_i fun h14 => ?_
   refine imp_i fun h15 => ?_
   refine all_i fun n7 => ?_
   refine imp_i fun h16 => ?_
   refine imp_i fun h17 => ?_
   refine imp_i fun h18 => ?_
   try simp only [chk21L, cChg, chk21Inv, mea1, List.cons.injEq, DV.b.injEq, and_true, List.take_nil, List.take_zero, List.length_take, List.take_length, List.take_take, Nat.min_self, List.drop_nil, List.length_drop, List.drop_zero, List.length_cons, List.length_nil] at h18
   refine bR_dec (fun h19 => ?_) (fun h19 => ?_)
   ·
    have st := sumL_take (l := l0) (i := n6) (by omega) (by omega)
    have sl := sumL_take_le (n := (n6 + 1).toNat) nn
    have sl0 := sumL_take_le (n := n6.toNat) nn
    have sn := sumL_nn (l := l0.take n6.toNat) fun y hy => nn y (List.mem_of_mem_take hy)
    have sn1 := sumL_nn (l := l0.take (n6 + 1).toNat) fun y hy => nn y (List.mem_of_mem_take hy)
    have gg := getD_bd (i := n6.toNat) h1 (by omega) (by omega)
    refine req_i ?_ ?_
    · -- r10
     first | omega | ((try simp only [Int.toNat_natCast, List.length_cons, List.length_nil]); first | done | omega | assumption | grind [getD_set, getD_rep, toNat_succ, cntN_yes, cntN_no])
    refine req_i ?_ ?_
    · -- r11
     first | omega | ((try simp only [Int.toNat_natCast, List.length_cons, List.length_nil, Nat.add_eq, Nat.zero_add]); first | done | omega | assumption | grind [getD_set, getD_rep, toNat_succ, cntN_yes, cntN_no])
    refine bR_dec (fun h20 => ?_) (fun h20 => ?_)
    ·
     refine req_i ?_ ?_
     · -- r12
      exfalso; (try simp only [Nat.add_eq, Nat.zero_add] at h20); omega
     rfl
    ·
     refine bR_t ?_ ?_
     · -- g0
      first | rfl | (simp only [bR_iff, bR_iff_f, dec_iff, dec_f, beqB_iff', andB_iff', reduceCtorEq, imp_self, false_implies, and_true, true_and, implies_true, and_self]; done) | (simp [bR_iff, dec_iff, beqB_iff', andB_iff']; done) | (simp [bR_iff, dec_iff, beqB_iff', andB_iff']; omega)
     refine bR_t ?_ ?_
     · -- g1
      first | rfl | (simp only [bR_iff, bR_iff_f, dec_iff, dec_f, beqB_iff', andB_iff', reduceCtorEq, imp_self, false_implies, and_true, true_and, implies_true, and_self]; done) | (simp [bR_iff, dec_iff, beqB_iff', andB_iff']; done) | (simp [bR_iff, dec_iff, beqB_iff', andB_iff']; omega)
     refine req_i ?_ ?_
     · -- r13
      first | omega | assumption | grind
     refine req_i ?_ ?_
     · -- r14
      first | omega | assumption | grind
     refine req_i ?_ ?_
     · -- r15
      first | omega | assumption | grind
     refine req_i ?_ ?_
     · -- r16
      first | omega | assumption | grind
     refine req_i ?_ ?_
     · -- r17
      simp only [chk21L, chk21Inv, List.drop_zero, List.take_length, Nat.add_eq, Nat.zero_add]; exact ⟨by omega, by omega, by omega⟩
     refine req_i ?_ ?_
     · -- r18
      first | omega | ((try simp only [chk21L, cChg, chk21Inv, mea1, List.cons.injEq, DV.b.injEq, and_true, Int.toNat_natCast, List.take_nil, List.take_zero, List.length_take, List.take_length, List.take_take, Nat.min_self, List.drop_nil, List.length_drop, List.drop_zero, List.length_cons, List.length_nil, Nat.add_eq, Nat.zero_add]); first | done | omega | assumption | grind [getD_set, getD_rep, toNat_succ, cntN_yes, cntN_no])
     rfl
   ·
    refine bR_dec (fun h21 => ?_) (fun h21 => ?_)
    ·
     refine bR_i (fun h22 => ?_) (fun h22 => ?_)
     ·
      simp only [bR_iff, bR_iff_f, dec_iff, dec_f, Bool.false_eq_true, Bool.true_eq_false, false_implies, imp_false, and_true, true_and, implies_true, Classical.not_not] at h22
      refine req_i ?_ ?_
      · -- r19
       obtain ⟨z1, z2⟩ := h12.2.2.1 h21; exfalso; simp [z1, z2, bR, dec] at h22
      rfl
     ·
      simp only [bR_iff, bR_iff_f, dec_iff, dec_f, Bool.false_eq_true, Bool.true_eq_false, false_implies, imp_false, and_true, true_and, implies_true, Classical.not_not] at h22
      refine req_i ?_ ?_
      · -- r20
       first | omega | ((try simp only [Nat.mul_eq]); first | done | omega | assumption | grind [getD_set, getD_rep, toNat_succ, cntN_yes, cntN_no])
      refine req_i ?_ ?_
      · -- r21
       first | omega | ((try simp only [Nat.zero_add]); first | done | omega | assumption | grind [getD_set, getD_rep, toNat_succ, cntN_yes, cntN_no])
      refine req_i ?_ ?_
      · -- r22
       first | omega | ((try simp only [List.take_nil, List.take_zero, List.length_take, List.take_length, List.take_take, Nat.min_self, List.drop_nil, List.length_drop, List.drop_zero, List.length_cons, List.length_nil]); first | done | omega | assumption | grind [getD_set, getD_rep, toNat_succ, cntN_yes, cntN_no])
      refine req_i ?_ ?_
      · -- r23
       first | assumption | exact rep_bd (by omega) (by omega) | exact set_bd (by assumption) (by omega) (by omega) | exact take_bd (by assumption) | ((try simp only [List.take_nil, List.take_zero, List.length_take, List.take_length, List.take_take, Nat.min_self, List.drop_nil, List.length_drop, List.drop_zero, List.length_cons, List.length_nil]); first | assumption | exact rep_bd (by omega) (by omega) | exact set_bd (by assumption) (by omega) (by omega) | exact take_bd (by assumption) | grind [getD_set, getD_rep, toNat_succ, cntN_yes, cntN_no])
      refine req_i ?_ ?_
      · -- r24
       first | trivial | assumption | (simp only [sigClone, cIn, clonePre, clonePost, List.cons.injEq, DV.b.injEq, and_true, List.take_nil, List.take_zero, List.length_take, List.take_length, List.take_take, Nat.min_self, List.drop_nil, List.length_drop, List.drop_zero, List.length_cons, List.length_nil]; done) | ((try simp only [sigClone, cIn, clonePre, clonePost, List.cons.injEq, DV.b.injEq, and_true, List.take_nil, List.take_zero, List.length_take, List.take_length, List.take_take, Nat.min_self, List.drop_nil, List.length_drop, List.drop_zero, List.length_cons, List.length_nil]); first | omega | assumption | grind)
      refine all_i fun l8 => ?_
      refine imp_i fun h23 => ?_
      refine imp_i fun h24 => ?_
      refine imp_i fun h25 => ?_
      try simp only [sigClone, cIn, clonePre, clonePost, List.cons.injEq, DV.b.injEq, and_true, List.take_nil, List.take_zero, List.length_take, List.take_length, List.take_take, Nat.min_self, List.drop_nil, List.length_drop, List.drop_zero, List.length_cons, List.length_nil] at h25
      have k8 : l8.length = l0.length := by rw [h25]
      refine req_i ?_ ?_
      · -- r25
       first | omega | ((try simp only [Nat.mul_eq]); first | done | omega | assumption | grind [getD_set, getD_rep, toNat_succ, cntN_yes, cntN_no])
      refine req_i ?_ ?_
      · -- r26
       first | omega | ((try simp only [Nat.zero_add]); first | done | omega | assumption | grind [getD_set, getD_rep, toNat_succ, cntN_yes, cntN_no])
      refine req_i ?_ ?_
      · -- r27
       first | omega | ((try simp only [List.take_nil, List.take_zero, List.length_take, List.take_length, List.take_take, Nat.min_self, List.drop_nil, List.length_drop, List.drop_zero, List.length_cons, List.length_nil]); first | done | omega | assumption | grind [getD_set, getD_rep, toNat_succ, cntN_yes, cntN_no])
      refine req_i ?_ ?_
      · -- r28
       first | assumption | exact rep_bd (by omega) (by omega) | exact set_bd (by assumption) (by omega) (by omega) | exact take_bd (by assumption) | ((try simp only [List.take_nil, List.take_zero, List.length_take, List.take_length, List.take_take, Nat.min_self, List.drop_nil, List.length_drop, List.drop_zero, List.length_cons, List.length_nil]); first | assumption | exact rep_bd (by omega) (by omega) | exact set_bd (by assumption) (by omega) (by omega) | exact take_bd (by assumption) | grind [getD_set, getD_rep, toNat_succ, cntN_yes, cntN_no])
      refine req_i ?_ ?_
      · -- r29
       first | omega | assumption | grind
      refine req_i ?_ ?_
      · -- r30
       first | omega | assumption | grind
      refine req_i ?_ ?_
      · -- r31
       first | omega | assumption | grind
      refine req_i ?_ ?_
      · -- r32
       first | omega | assumption | grind
      refine req_i ?_ ?_
      · -- r33
       first | omega | assumption | grind
      refine req_i ?_ ?_
      · -- r34
       first | omega | assumption | grind
      refine req_i ?_ ?_
      · -- r35
       first | omega | ((try simp only [Nat.mul_eq]); first | done | omega | assumption | grind [getD_set, getD_rep, toNat_succ, cntN_yes, cntN_no])
      refine req_i ?_ ?_
      · -- r36
       first | omega | ((try simp only [Nat.zero_add]); first | done | omega | assumption | grind [getD_set, getD_rep, toNat_succ, cntN_yes, cntN_no])
      refine req_i ?_ ?_
      · -- r37
       first | omega | ((try simp only [List.take_nil, List.take_zero, List.length_take, List.take_length, List.take_take, Nat.min_self, List.drop_nil, List.length_drop, List.drop_zero, List.length_cons, List.length_nil]); first | done | omega | assumption | grind [getD_set, getD_rep, toNat_succ, cntN_yes, cntN_no])
      refine req_i ?_ ?_
      · -- r38
       first | assumption | exact rep_bd (by omega) (by omega) | exact set_bd (by assumption) (by omega) (by omega) | exact take_bd (by assumption) | ((try simp only [List.take_nil, List.take_zero, List.length_take, List.take_length, List.take_take, Nat.min_self, List.drop_nil, List.length_drop, List.drop_zero, List.length_cons, List.length_nil]); first | assumption | exact rep_bd (by omega) (by omega) | exact set_bd (by assumption) (by omega) (by omega) | exact take_bd (by assumption) | grind [getD_set, getD_rep, toNat_succ, cntN_yes, cntN_no])
      refine req_i ?_ ?_
      · -- r39
       first | omega | ((try simp only [List.take_nil, List.take_zero, List.length_take, List.take_length, List.take_take, Nat.min_self, List.drop_nil, List.length_drop, List.drop_zero, List.length_cons, List.length_nil]); first | done | omega | assumption | grind [getD_set, getD_rep, toNat_succ, cntN_yes, cntN_no])
      refine req_i ?_ ?_
      · -- r40
       first | assumption | exact rep_bd (by omega) (by omega) | exact set_bd (by assumption) (by omega) (by omega) | exact take_bd (by assumption) | ((try simp only [List.take_nil, List.take_zero, List.length_take, List.take_length, List.take_take, Nat.min_self, List.drop_nil, List.length_drop, List.drop_zero, List.length_cons, List.length_nil]); first | assumption | exact rep_bd (by omega) (by omega) | exact set_bd (by assumption) (by omega) (by omega) | exact take_bd (by assumption) | grind [getD_set, getD_rep, toNat_succ, cntN_yes, cntN_no])
      refine req_i ?_ ?_
      · -- r41
       first | omega | ((try simp only [List.length_cons, List.length_nil, lenCols_i, lenCols_b]); first | done | omega | assumption | grind [getD_set, getD_rep, toNat_succ, cntN_yes, cntN_no])
      refine req_i ?_ ?_
      · -- r42
       first | omega | ((try simp only [List.length_cons, List.length_nil, lenCols_i, lenCols_b]); first | done | omega | assumption | grind [getD_set, getD_rep, toNat_succ, cntN_yes, cntN_no])
      refine req_i ?_ ?_
      · -- r43
       rw [h25]; exact h1
      refine req_i ?_ ?_
      · -- r44
       first | omega | assumption | grind
      refine req_i ?_ ?_
      · -- r45
       first | omega | assumption | grind
      refine req_i ?_ ?_
      · -- r46
       first | omega | assumption | grind
      refine req_i ?_ ?_
      · -- r47
       first | omega | assumption | grind
      refine req_i ?_ ?_
      · -- r48
       first | omega | assumption | grind
      refine req_i ?_ ?_
      · -- r49
       first | omega | assumption | grind
      refine req_i ?_ ?_
      · -- r50
       exact ⟨by omega, by omega, h25, by omega, rfl, rfl⟩
      refine all_i fun n9 => ?_
      refine imp_i fun h26 => ?_
      refine imp_i fun h27 => ?_
      refine all_i fun l10 => ?_
      refine imp_i fun h28 => ?_
      refine imp_i fun h29 => ?_
      refine all_i fun n11 => ?_
      refine imp_i fun h30 => ?_
      refine imp_i fun h31 => ?_
      refine all_i fun n12 => ?_
      refine imp_i fun h32 => ?_
      refine imp_i fun h33 => ?_
      refine all_i fun n13 => ?_
      refine imp_i fun h34 => ?_
      refine imp_i fun h35 => ?_
      refine imp_i fun h36 => ?_
      try simp only [feedL, cChg, cSm, feedInv, mea5, List.cons.injEq, DV.b.injEq, and_true, List.take_nil, List.take_zero, List.length_take, List.take_length, List.take_take, Nat.min_self, List.drop_nil, List.length_drop, List.drop_zero, List.length_cons, List.length_nil] at h36
      refine bR_dec (fun h37 => ?_) (fun h37 => ?_)
      ·
       have g4 := getD_bd (i := n9.toNat) h9 (by omega) (by omega)
       have g5 := getD_bd (i := n9.toNat) h11 (by omega) (by omega)
       have k10 : l10.length = l0.length := by rw [h36.2.2.1, chN_len]
       have mb := mod_bd (a := n11) (n := (l8.length : Int)) (by omega) (by omega)
       have cs := chN_sum (seen := n1) (la := n2) (lb := n3) (xs := l4) (ys := l5) h12.1 (n := n9.toNat)
       rw [← h36.2.2.1] at cs
       have cb := cng_bd (la := n2) (lb := n3) (xs := l4) (ys := l5) (n := n9.toNat)
       have nn10 : ∀ y ∈ l10, 0 ≤ y := fun y hy => (h29 y hy).1
       have gl := getD_le_sum (i := (n11.tmod (l8.length : Int)).toNat) nn10
       have gn := getD_bd (i := (n11.tmod (l8.length : Int)).toNat) h29 (by omega) (by omega)
       have p1 := prv_succ (a := n2) (xs := l4) (n := n9) (by omega)
       have p2 := prv_succ (a := n3) (xs := l5) (n := n9) (by omega)
       refine req_i ?_ ?_
       · -- r51
        first | omega | ((try simp only [Int.toNat_natCast, List.length_cons, List.length_nil]); first | done | omega | assumption | grind [getD_set, getD_rep, toNat_succ, cntN_yes, cntN_no])
       refine req_i ?_ ?_
       · -- r52
        first | omega | ((try simp only [Int.toNat_natCast, List.length_cons, List.length_nil, Nat.add_eq, Nat.zero_add]); first | done | omega | assumption | grind [getD_set, getD_rep, toNat_succ, cntN_yes, cntN_no])
       refine req_i ?_ ?_
       · -- r53
        first | omega | ((try simp only [Int.toNat_natCast, List.length_cons, List.length_nil, Nat.add_eq, Nat.zero_add]); first | done | omega | assumption | grind [getD_set, getD_rep, toNat_succ, cntN_yes, cntN_no])
       refine bR_dec (fun h38 => ?_) (fun h38 => ?_)
       ·
        have cg : chg n2 n3 l4 l5 n9.toNat := by
          unfold chg; rw [← h36.2.2.2.2.1, ← h36.2.2.2.2.2]; simpa only [Nat.add_eq, Nat.zero_add] using h38
        have fy := feed_yes (ch := l0) (seen := n1) (c := l10) (s := n11) (L := (l8.length : Int)) cg (by omega) h36.2.2.1 (by omega) (by omega) (by omega)
        refine req_i ?_ ?_
        · -- r54
         first | omega | ((try simp only [Nat.zero_add]); first | done | omega | assumption | grind [getD_set, getD_rep, toNat_succ, cntN_yes, cntN_no])
        refine req_i ?_ ?_
        · -- r55
         first | omega | ((try simp only [Int.toNat_natCast, List.length_cons, List.length_nil]); first | done | omega | assumption | grind [getD_set, getD_rep, toNat_succ, cntN_yes, cntN_no])
        refine req_i ?_ ?_
        · -- r56
         first | omega | ((try simp only [Int.toNat_natCast, List.length_cons, List.length_nil, Nat.add_eq, Nat.zero_add]); first | done | omega | assumption | grind [getD_set, getD_rep, toNat_succ, cntN_yes, cntN_no])
        refine req_i ?_ ?_
        · -- r57
         first | omega | ((try simp only [Int.toNat_natCast, List.length_cons, List.length_nil]); first | done | omega | assumption | grind [getD_set, getD_rep, toNat_succ, cntN_yes, cntN_no])
        refine req_i ?_ ?_
        · -- r58
         (try simp only [Nat.add_eq, Nat.zero_add]); omega
        refine req_i ?_ ?_
        · -- r59
         first | omega | ((try simp only [Int.toNat_natCast, List.length_cons, List.length_nil, Nat.add_eq, Nat.zero_add]); first | done | omega | assumption | grind [getD_set, getD_rep, toNat_succ, cntN_yes, cntN_no])
        refine bR_t ?_ ?_
        · -- g2
         first | rfl | (simp only [bR_iff, bR_iff_f, dec_iff, dec_f, beqB_iff', andB_iff', reduceCtorEq, imp_self, false_implies, and_true, true_and, implies_true, and_self]; done) | (simp [bR_iff, dec_iff, beqB_iff', andB_iff']; done) | (simp [bR_iff, dec_iff, beqB_iff', andB_iff']; omega)
        refine bR_t ?_ ?_
        · -- g3
         first | rfl | (simp only [bR_iff, bR_iff_f, dec_iff, dec_f, beqB_iff', andB_iff', reduceCtorEq, imp_self, false_implies, and_true, true_and, implies_true, and_self]; done) | (simp [bR_iff, dec_iff, beqB_iff', andB_iff']; done) | (simp [bR_iff, dec_iff, beqB_iff', andB_iff']; omega)
        refine req_i ?_ ?_
        · -- r60
         first | omega | assumption | grind
        refine req_i ?_ ?_
        · -- r61
         first | omega | assumption | grind
        refine req_i ?_ ?_
        · -- r62
         first | omega | ((try simp only [Int.toNat_natCast, List.length_set, List.length_cons, List.length_nil, lenCols_i, lenCols_b, Nat.add_eq, Nat.zero_add]); first | done | omega | assumption | grind [getD_set, getD_rep, toNat_succ, cntN_yes, cntN_no])
        refine req_i ?_ ?_
        · -- r63
         first | omega | ((try simp only [Int.toNat_natCast, List.length_set, List.length_cons, List.length_nil, lenCols_i, lenCols_b, Nat.add_eq, Nat.zero_add]); first | done | omega | assumption | grind [getD_set, getD_rep, toNat_succ, cntN_yes, cntN_no])
        refine req_i ?_ ?_
        · -- r64
         (try simp only [Nat.add_eq, Nat.zero_add]); exact set_bd h29 (by omega) (by omega)
        refine req_i ?_ ?_
        · -- r65
         first | omega | assumption | grind
        refine req_i ?_ ?_
        · -- r66
         first | omega | assumption | grind
        refine req_i ?_ ?_
        · -- r67
         first | omega | assumption | grind
        refine req_i ?_ ?_
        · -- r68
         first | omega | assumption | grind
        refine req_i ?_ ?_
        · -- r69
         first | omega | assumption | grind
        refine req_i ?_ ?_
        · -- r70
         first | omega | assumption | grind
        refine req_i ?_ ?_
        · -- r71
         simp only [feedL, feedInv, List.drop_zero, List.take_length, Nat.add_eq, Nat.zero_add]; exact ⟨by omega, by omega, fy, by omega, p1.symm, p2.symm⟩
        refine req_i ?_ ?_
        · -- r72
         first | omega | ((try simp only [feedL, cChg, cSm, feedInv, mea5, List.cons.injEq, DV.b.injEq, and_true, Int.toNat_natCast, List.length_set, List.take_nil, List.take_zero, List.length_take, List.take_length, List.take_take, Nat.min_self, List.drop_nil, List.length_drop, List.drop_zero, List.length_cons, List.length_nil, Nat.add_eq, Nat.zero_add]); first | done | omega | assumption | grind [getD_set, getD_rep, toNat_succ, cntN_yes, cntN_no])
        rfl
       ·
        have cg : ¬chg n2 n3 l4 l5 n9.toNat := by
          unfold chg; rw [← h36.2.2.2.2.1, ← h36.2.2.2.2.2]; simpa only [Nat.add_eq, Nat.zero_add] using h38
        have fn := feed_no (ch := l0) (seen := n1) (c := l10) cg (by omega) h36.2.2.1
        refine bR_t ?_ ?_
        · -- g4
         first | rfl | (simp only [bR_iff, bR_iff_f, dec_iff, dec_f, beqB_iff', andB_iff', reduceCtorEq, imp_self, false_implies, and_true, true_and, implies_true, and_self]; done) | (simp [bR_iff, dec_iff, beqB_iff', andB_iff']; done) | (simp [bR_iff, dec_iff, beqB_iff', andB_iff']; omega)
        refine bR_t ?_ ?_
        · -- g5
         first | rfl | (simp only [bR_iff, bR_iff_f, dec_iff, dec_f, beqB_iff', andB_iff', reduceCtorEq, imp_self, false_implies, and_true, true_and, implies_true, and_self]; done) | (simp [bR_iff, dec_iff, beqB_iff', andB_iff']; done) | (simp [bR_iff, dec_iff, beqB_iff', andB_iff']; omega)
        refine req_i ?_ ?_
        · -- r73
         first | omega | assumption | grind
        refine req_i ?_ ?_
        · -- r74
         first | omega | assumption | grind
        refine req_i ?_ ?_
        · -- r75
         first | omega | ((try simp only [List.length_cons, List.length_nil, lenCols_i, lenCols_b]); first | done | omega | assumption | grind [getD_set, getD_rep, toNat_succ, cntN_yes, cntN_no])
        refine req_i ?_ ?_
        · -- r76
         first | omega | ((try simp only [List.length_cons, List.length_nil, lenCols_i, lenCols_b]); first | done | omega | assumption | grind [getD_set, getD_rep, toNat_succ, cntN_yes, cntN_no])
        refine req_i ?_ ?_
        · -- r77
         first | assumption | exact rep_bd (by omega) (by omega) | exact set_bd (by assumption) (by omega) (by omega) | exact take_bd (by assumption) | ((try simp only [Nat.zero_add]); first | assumption | exact rep_bd (by omega) (by omega) | exact set_bd (by assumption) (by omega) (by omega) | exact take_bd (by assumption) | grind [getD_set, getD_rep, toNat_succ, cntN_yes, cntN_no])
        refine req_i ?_ ?_
        · -- r78
         first | omega | assumption | grind
        refine req_i ?_ ?_
        · -- r79
         first | omega | assumption | grind
        refine req_i ?_ ?_
        · -- r80
         first | omega | assumption | grind
        refine req_i ?_ ?_
        · -- r81
         first | omega | assumption | grind
        refine req_i ?_ ?_
        · -- r82
         first | omega | assumption | grind
        refine req_i ?_ ?_
        · -- r83
         first | omega | assumption | grind
        refine req_i ?_ ?_
        · -- r84
         simp only [feedL, feedInv, List.drop_zero, List.take_length, Nat.add_eq, Nat.zero_add]; exact ⟨by omega, by omega, fn, by omega, p1.symm, p2.symm⟩
        refine req_i ?_ ?_
        · -- r85
         first | omega | ((try simp only [feedL, cChg, cSm, feedInv, mea5, List.cons.injEq, DV.b.injEq, and_true, Int.toNat_natCast, List.take_nil, List.take_zero, List.length_take, List.take_length, List.take_take, Nat.min_self, List.drop_nil, List.length_drop, List.drop_zero, List.length_cons, List.length_nil, Nat.add_eq, Nat.zero_add]); first | done | omega | assumption | grind [getD_set, getD_rep, toNat_succ, cntN_yes, cntN_no])
        rfl
      ·
       have k10 : l10.length = l0.length := by rw [h36.2.2.1, chN_len]
       refine req_i ?_ ?_
       · -- r86
        first | omega | ((try simp only [Nat.mul_eq]); first | done | omega | assumption | grind [getD_set, getD_rep, toNat_succ, cntN_yes, cntN_no])
       refine req_i ?_ ?_
       · -- r87
        first | omega | ((try simp only [Nat.zero_add]); first | done | omega | assumption | grind [getD_set, getD_rep, toNat_succ, cntN_yes, cntN_no])
       refine req_i ?_ ?_
       · -- r88
        first | omega | ((try simp only [List.take_nil, List.take_zero, List.length_take, List.take_length, List.take_take, Nat.min_self, List.drop_nil, List.length_drop, List.drop_zero, List.length_cons, List.length_nil]); first | done | omega | assumption | grind [getD_set, getD_rep, toNat_succ, cntN_yes, cntN_no])
       refine req_i ?_ ?_
       · -- r89
        first | assumption | exact rep_bd (by omega) (by omega) | exact set_bd (by assumption) (by omega) (by omega) | exact take_bd (by assumption) | ((try simp only [List.take_nil, List.take_zero, List.length_take, List.take_length, List.take_take, Nat.min_self, List.drop_nil, List.length_drop, List.drop_zero, List.length_cons, List.length_nil]); first | assumption | exact rep_bd (by omega) (by omega) | exact set_bd (by assumption) (by omega) (by omega) | exact take_bd (by assumption) | grind [getD_set, getD_rep, toNat_succ, cntN_yes, cntN_no])
       refine req_i ?_ ?_
       · -- r90
        first | omega | assumption | grind
       refine req_i ?_ ?_
       · -- r91
        first | omega | assumption | grind
       refine req_i ?_ ?_
       · -- r92
        first | omega | assumption | grind
       refine req_i ?_ ?_
       · -- r93
        first | omega | assumption | grind
       refine req_i ?_ ?_
       · -- r94
        first | omega | assumption | grind
       refine req_i ?_ ?_
       · -- r95
        first | omega | assumption | grind
       refine req_i ?_ ?_
       · -- r96
        (try simp only [List.drop_zero]); have k10 : l10.length = l0.length := by rw [h36.2.2.1, chN_len]
        rw [List.take_of_length_le (by omega)]; exact ⟨rfl, by rw [h36.2.2.1, show n9.toNat = l4.length by omega], by omega, by rw [h36.2.2.2.2.1, show n9.toNat = l4.length by omega], by rw [h36.2.2.2.2.2, show n9.toNat = l5.length by omega]⟩
       rfl
    ·
     refine req_i ?_ ?_
     · -- r97
      first | omega | ((try simp only [Nat.mul_eq]); first | done | omega | assumption | grind [getD_set, getD_rep, toNat_succ, cntN_yes, cntN_no])
     refine req_i ?_ ?_
     · -- r98
      first | omega | ((try simp only [Nat.zero_add]); first | done | omega | assumption | grind [getD_set, getD_rep, toNat_succ, cntN_yes, cntN_no])
     refine req_i ?_ ?_
     · -- r99
      first | omega | ((try simp only [List.take_nil, List.take_zero, List.length_take, List.take_length, List.take_take, Nat.min_self, List.drop_nil, List.length_drop, List.drop_zero, List.length_cons, List.length_nil]); first | done | omega | assumption | grind [getD_set, getD_rep, toNat_succ, cntN_yes, cntN_no])
     refine req_i ?_ ?_
     · -- r100
      first | assumption | exact rep_bd (by omega) (by omega) | exact set_bd (by assumption) (by omega) (by omega) | exact take_bd (by assumption) | ((try simp only [List.take_nil, List.take_zero, List.length_take, List.take_length, List.take_take, Nat.min_self, List.drop_nil, List.length_drop, List.drop_zero, List.length_cons, List.length_nil]); first | assumption | exact rep_bd (by omega) (by omega) | exact set_bd (by assumption) (by omega) (by omega) | exact take_bd (by assumption) | grind [getD_set, getD_rep, toNat_succ, cntN_yes, cntN_no])
     refine req_i ?_ ?_
     · -- r101
      first | trivial | assumption | (simp only [sigClone, cIn, clonePre, clonePost, List.cons.injEq, DV.b.injEq, and_true, List.take_nil, List.take_zero, List.length_take, List.take_length, List.take_take, Nat.min_self, List.drop_nil, List.length_drop, List.drop_zero, List.length_cons, List.length_nil]; done) | ((try simp only [sigClone, cIn, clonePre, clonePost, List.cons.injEq, DV.b.injEq, and_true, List.take_nil, List.take_zero, List.length_take, List.take_length, List.take_take, Nat.min_self, List.drop_nil, List.length_drop, List.drop_zero, List.length_cons, List.length_nil]); first | omega | assumption | grind)
     refine all_i fun l14 => ?_
     refine imp_i fun h39 => ?_
     refine imp_i fun h40 => ?_
     refine imp_i fun h41 => ?_
     try simp only [sigClone, cIn, clonePre, clonePost, List.cons.injEq, DV.b.injEq, and_true, List.take_nil, List.take_zero, List.length_take, List.take_length, List.take_take, Nat.min_self, List.drop_nil, List.length_drop, List.drop_zero, List.length_cons, List.length_nil] at h41
     have k8 : l14.length = l0.length := by rw [h41]
     refine req_i ?_ ?_
     · -- r102
      first | omega | ((try simp only [Nat.mul_eq]); first | done | omega | assumption | grind [getD_set, getD_rep, toNat_succ, cntN_yes, cntN_no])
     refine req_i ?_ ?_
     · -- r103
      first | omega | ((try simp only [Nat.zero_add]); first | done | omega | assumption | grind [getD_set, getD_rep, toNat_succ, cntN_yes, cntN_no])
     refine req_i ?_ ?_
     · -- r104
      first | omega | ((try simp only [List.take_nil, List.take_zero, List.length_take, List.take_length, List.take_take, Nat.min_self, List.drop_nil, List.length_drop, List.drop_zero, List.length_cons, List.length_nil]); first | done | omega | assumption | grind [getD_set, getD_rep, toNat_succ, cntN_yes, cntN_no])
     refine req_i ?_ ?_
     · -- r105
      first | assumption | exact rep_bd (by omega) (by omega) | exact set_bd (by assumption) (by omega) (by omega) | exact take_bd (by assumption) | ((try simp only [List.take_nil, List.take_zero, List.length_take, List.take_length, List.take_take, Nat.min_self, List.drop_nil, List.length_drop, List.drop_zero, List.length_cons, List.length_nil]); first | assumption | exact rep_bd (by omega) (by omega) | exact set_bd (by assumption) (by omega) (by omega) | exact take_bd (by assumption) | grind [getD_set, getD_rep, toNat_succ, cntN_yes, cntN_no])
     refine req_i ?_ ?_
     · -- r106
      first | omega | assumption | grind
     refine req_i ?_ ?_
     · -- r107
      first | omega | assumption | grind
     refine req_i ?_ ?_
     · -- r108
      first | omega | assumption | grind
     refine req_i ?_ ?_
     · -- r109
      first | omega | assumption | grind
     refine req_i ?_ ?_
     · -- r110
      first | omega | assumption | grind
     refine req_i ?_ ?_
     · -- r111
      first | omega | assumption | grind
     refine req_i ?_ ?_
     · -- r112
      first | omega | ((try simp only [Nat.mul_eq]); first | done | omega | assumption | grind [getD_set, getD_rep, toNat_succ, cntN_yes, cntN_no])
     refine req_i ?_ ?_
     · -- r113
      first | omega | ((try simp only [Nat.zero_add]); first | done | omega | assumption | grind [getD_set, getD_rep, toNat_succ, cntN_yes, cntN_no])
     refine req_i ?_ ?_
     · -- r114
      first | omega | ((try simp only [List.take_nil, List.take_zero, List.length_take, List.take_length, List.take_take, Nat.min_self, List.drop_nil, List.length_drop, List.drop_zero, List.length_cons, List.length_nil]); first | done | omega | assumption | grind [getD_set, getD_rep, toNat_succ, cntN_yes, cntN_no])
     refine req_i ?_ ?_
     · -- r115
      first | assumption | exact rep_bd (by omega) (by omega) | exact set_bd (by assumption) (by omega) (by omega) | exact take_bd (by assumption) | ((try simp only [List.take_nil, List.take_zero, List.length_take, List.take_length, List.take_take, Nat.min_self, List.drop_nil, List.length_drop, List.drop_zero, List.length_cons, List.length_nil]); first | assumption | exact rep_bd (by omega) (by omega) | exact set_bd (by assumption) (by omega) (by omega) | exact take_bd (by assumption) | grind [getD_set, getD_rep, toNat_succ, cntN_yes, cntN_no])
     refine req_i ?_ ?_
     · -- r116
      first | omega | ((try simp only [List.take_nil, List.take_zero, List.length_take, List.take_length, List.take_take, Nat.min_self, List.drop_nil, List.length_drop, List.drop_zero, List.length_cons, List.length_nil]); first | done | omega | assumption | grind [getD_set, getD_rep, toNat_succ, cntN_yes, cntN_no])
     refine req_i ?_ ?_
     · -- r117
      first | assumption | exact rep_bd (by omega) (by omega) | exact set_bd (by assumption) (by omega) (by omega) | exact take_bd (by assumption) | ((try simp only [List.take_nil, List.take_zero, List.length_take, List.take_length, List.take_take, Nat.min_self, List.drop_nil, List.length_drop, List.drop_zero, List.length_cons, List.length_nil]); first | assumption | exact rep_bd (by omega) (by omega) | exact set_bd (by assumption) (by omega) (by omega) | exact take_bd (by assumption) | grind [getD_set, getD_rep, toNat_succ, cntN_yes, cntN_no])
     refine req_i ?_ ?_
     · -- r118
      first | omega | ((try simp only [List.length_cons, List.length_nil, lenCols_i, lenCols_b]); first | done | omega | assumption | grind [getD_set, getD_rep, toNat_succ, cntN_yes, cntN_no])
     refine req_i ?_ ?_
     · -- r119
      first | omega | ((try simp only [List.length_cons, List.length_nil, lenCols_i, lenCols_b]); first | done | omega | assumption | grind [getD_set, getD_rep, toNat_succ, cntN_yes, cntN_no])
     refine req_i ?_ ?_
     · -- r120
      rw [h41]; exact h1
     refine req_i ?_ ?_
     · -- r121
      first | omega | assumption | grind
     refine req_i ?_ ?_
     · -- r122
      first | omega | assumption | grind
     refine req_i ?_ ?_
     · -- r123
      first | omega | assumption | grind
     refine req_i ?_ ?_
     · -- r124
      first | omega | assumption | grind
     refine req_i ?_ ?_
     · -- r125
      first | omega | assumption | grind
     refine req_i ?_ ?_
     · -- r126
      first | omega | assumption | grind
     refine req_i ?_ ?_
     · -- r127
      exact ⟨by omega, by omega, h41, by omega, rfl, rfl⟩
     refine all_i fun n15 => ?_
     refine imp_i fun h42 => ?_
     refine imp_i fun h43 => ?_
     refine all_i fun l16 => ?_
     refine imp_i fun h44 => ?_
     refine imp_i fun h45 => ?_
     refine all_i fun n17 => ?_
     refine imp_i fun h46 => ?_
     refine imp_i fun h47 => ?_
     refine all_i fun n18 => ?_
     refine imp_i fun h48 => ?_
     refine imp_i fun h49 => ?_
     refine all_i fun n19 => ?_
     refine imp_i fun h50 => ?_
     refine imp_i fun h51 => ?_
     refine imp_i fun h52 => ?_
     try simp only [feedL, cChg, cSm, feedInv, mea5, List.cons.injEq, DV.b.injEq, and_true, List.take_nil, List.take_zero, List.length_take, List.take_length, List.take_take, Nat.min_self, List.drop_nil, List.length_drop, List.drop_zero, List.length_cons, List.length_nil] at h52
     refine bR_dec (fun h53 => ?_) (fun h53 => ?_)
     ·
      have g4 := getD_bd (i := n15.toNat) h9 (by omega) (by omega)
      have g5 := getD_bd (i := n15.toNat) h11 (by omega) (by omega)
      have k10 : l16.length = l0.length := by rw [h52.2.2.1, chN_len]
      have mb := mod_bd (a := n17) (n := (l14.length : Int)) (by omega) (by omega)
      have cs := chN_sum (seen := n1) (la := n2) (lb := n3) (xs := l4) (ys := l5) h12.1 (n := n15.toNat)
      rw [← h52.2.2.1] at cs
      have cb := cng_bd (la := n2) (lb := n3) (xs := l4) (ys := l5) (n := n15.toNat)
      have nn10 : ∀ y ∈ l16, 0 ≤ y := fun y hy => (h45 y hy).1
      have gl := getD_le_sum (i := (n17.tmod (l14.length : Int)).toNat) nn10
      have gn := getD_bd (i := (n17.tmod (l14.length : Int)).toNat) h45 (by omega) (by omega)
      have p1 := prv_succ (a := n2) (xs := l4) (n := n15) (by omega)
      have p2 := prv_succ (a := n3) (xs := l5) (n := n15) (by omega)
      refine req_i ?_ ?_
      · -- r128
       first | omega | ((try simp only [Int.toNat_natCast, List.length_cons, List.length_nil]); first | done | omega | assumption | grind [getD_set, getD_rep, toNat_succ, cntN_yes, cntN_no])
      refine req_i ?_ ?_
      · -- r129
       first | omega | ((try simp only [Int.toNat_natCast, List.length_cons, List.length_nil, Nat.add_eq, Nat.zero_add]); first | done | omega | assumption | grind [getD_set, getD_rep, toNat_succ, cntN_yes, cntN_no])
      refine req_i ?_ ?_
      · -- r130
       first | omega | ((try simp only [Int.toNat_natCast, List.length_cons, List.length_nil, Nat.add_eq, Nat.zero_add]); first | done | omega | assumption | grind [getD_set, getD_rep, toNat_succ, cntN_yes, cntN_no])
      refine bR_dec (fun h54 => ?_) (fun h54 => ?_)
      ·
       have cg : chg n2 n3 l4 l5 n15.toNat := by
         unfold chg; rw [← h52.2.2.2.2.1, ← h52.2.2.2.2.2]; simpa only [Nat.add_eq, Nat.zero_add] using h54
       have fy := feed_yes (ch := l0) (seen := n1) (c := l16) (s := n17) (L := (l14.length : Int)) cg (by omega) h52.2.2.1 (by omega) (by omega) (by omega)
       refine req_i ?_ ?_
       · -- r131
        first | omega | ((try simp only [Nat.zero_add]); first | done | omega | assumption | grind [getD_set, getD_rep, toNat_succ, cntN_yes, cntN_no])
       refine req_i ?_ ?_
       · -- r132
        first | omega | ((try simp only [Int.toNat_natCast, List.length_cons, List.length_nil]); first | done | omega | assumption | grind [getD_set, getD_rep, toNat_succ, cntN_yes, cntN_no])
       refine req_i ?_ ?_
       · -- r133
        first | omega | ((try simp only [Int.toNat_natCast, List.length_cons, List.length_nil, Nat.add_eq, Nat.zero_add]); first | done | omega | assumption | grind [getD_set, getD_rep, toNat_succ, cntN_yes, cntN_no])
       refine req_i ?_ ?_
       · -- r134
        first | omega | ((try simp only [Int.toNat_natCast, List.length_cons, List.length_nil]); first | done | omega | assumption | grind [getD_set, getD_rep, toNat_succ, cntN_yes, cntN_no])
       refine req_i ?_ ?_
       · -- r135
        (try simp only [Nat.add_eq, Nat.zero_add]); omega
       refine req_i ?_ ?_
       · -- r136
        first | omega | ((try simp only [Int.toNat_natCast, List.length_cons, List.length_nil, Nat.add_eq, Nat.zero_add]); first | done | omega | assumption | grind [getD_set, getD_rep, toNat_succ, cntN_yes, cntN_no])
       refine bR_t ?_ ?_
       · -- g6
        first | rfl | (simp only [bR_iff, bR_iff_f, dec_iff, dec_f, beqB_iff', andB_iff', reduceCtorEq, imp_self, false_implies, and_true, true_and, implies_true, and_self]; done) | (simp [bR_iff, dec_iff, beqB_iff', andB_iff']; done) | (simp [bR_iff, dec_iff, beqB_iff', andB_iff']; omega)
       refine bR_t ?_ ?_
       · -- g7
        first | rfl | (simp only [bR_iff, bR_iff_f, dec_iff, dec_f, beqB_iff', andB_iff', reduceCtorEq, imp_self, false_implies, and_true, true_and, implies_true, and_self]; done) | (simp [bR_iff, dec_iff, beqB_iff', andB_iff']; done) | (simp [bR_iff, dec_iff, beqB_iff', andB_iff']; omega)
       refine req_i ?_ ?_
       · -- r137
        first | omega | assumption | grind
       refine req_i ?_ ?_
       · -- r138
        first | omega | assumption | grind
       refine req_i ?_ ?_
       · -- r139
        first | omega | ((try simp only [Int.toNat_natCast, List.length_set, List.length_cons, List.length_nil, lenCols_i, lenCols_b, Nat.add_eq, Nat.zero_add]); first | done | omega | assumption | grind [getD_set, getD_rep, toNat_succ, cntN_yes, cntN_no])
       refine req_i ?_ ?_
       · -- r140
        first | omega | ((try simp only [Int.toNat_natCast, List.length_set, List.length_cons, List.length_nil, lenCols_i, lenCols_b, Nat.add_eq, Nat.zero_add]); first | done | omega | assumption | grind [getD_set, getD_rep, toNat_succ, cntN_yes, cntN_no])
       refine req_i ?_ ?_
       · -- r141
        (try simp only [Nat.add_eq, Nat.zero_add]); exact set_bd h45 (by omega) (by omega)
       refine req_i ?_ ?_
       · -- r142
        first | omega | assumption | grind
       refine req_i ?_ ?_
       · -- r143
        first | omega | assumption | grind
       refine req_i ?_ ?_
       · -- r144
        first | omega | assumption | grind
       refine req_i ?_ ?_
       · -- r145
        first | omega | assumption | grind
       refine req_i ?_ ?_
       · -- r146
        first | omega | assumption | grind
       refine req_i ?_ ?_
       · -- r147
        first | omega | assumption | grind
       refine req_i ?_ ?_
       · -- r148
        simp only [feedL, feedInv, List.drop_zero, List.take_length, Nat.add_eq, Nat.zero_add]; exact ⟨by omega, by omega, fy, by omega, p1.symm, p2.symm⟩
       refine req_i ?_ ?_
       · -- r149
        first | omega | ((try simp only [feedL, cChg, cSm, feedInv, mea5, List.cons.injEq, DV.b.injEq, and_true, Int.toNat_natCast, List.length_set, List.take_nil, List.take_zero, List.length_take, List.take_length, List.take_take, Nat.min_self, List.drop_nil, List.length_drop, List.drop_zero, List.length_cons, List.length_nil, Nat.add_eq, Nat.zero_add]); first | done | omega | assumption | grind [getD_set, getD_rep, toNat_succ, cntN_yes, cntN_no])
       rfl
      ·
       have cg : ¬chg n2 n3 l4 l5 n15.toNat := by
         unfold chg; rw [← h52.2.2.2.2.1, ← h52.2.2.2.2.2]; simpa only [Nat.add_eq, Nat.zero_add] using h54
       have fn := feed_no (ch := l0) (seen := n1) (c := l16) cg (by omega) h52.2.2.1
       refine bR_t ?_ ?_
       · -- g8
        first | rfl | (simp only [bR_iff, bR_iff_f, dec_iff, dec_f, beqB_iff', andB_iff', reduceCtorEq, imp_self, false_implies, and_true, true_and, implies_true, and_self]; done) | (simp [bR_iff, dec_iff, beqB_iff', andB_iff']; done) | (simp [bR_iff, dec_iff, beqB_iff', andB_iff']; omega)
       refine bR_t ?_ ?_
       · -- g9
        first | rfl | (simp only [bR_iff, bR_iff_f, dec_iff, dec_f, beqB_iff', andB_iff', reduceCtorEq, imp_self, false_implies, and_true, true_and, implies_true, and_self]; done) | (simp [bR_iff, dec_iff, beqB_iff', andB_iff']; done) | (simp [bR_iff, dec_iff, beqB_iff', andB_iff']; omega)
       refine req_i ?_ ?_
       · -- r150
        first | omega | assumption | grind
       refine req_i ?_ ?_
       · -- r151
        first | omega | assumption | grind
       refine req_i ?_ ?_
       · -- r152
        first | omega | ((try simp only [List.length_cons, List.length_nil, lenCols_i, lenCols_b]); first | done | omega | assumption | grind [getD_set, getD_rep, toNat_succ, cntN_yes, cntN_no])
       refine req_i ?_ ?_
       · -- r153
        first | omega | ((try simp only [List.length_cons, List.length_nil, lenCols_i, lenCols_b]); first | done | omega | assumption | grind [getD_set, getD_rep, toNat_succ, cntN_yes, cntN_no])
       refine req_i ?_ ?_
       · -- r154
        first | assumption | exact rep_bd (by omega) (by omega) | exact set_bd (by assumption) (by omega) (by omega) | exact take_bd (by assumption) | ((try simp only [Nat.zero_add]); first | assumption | exact rep_bd (by omega) (by omega) | exact set_bd (by assumption) (by omega) (by omega) | exact take_bd (by assumption) | grind [getD_set, getD_rep, toNat_succ, cntN_yes, cntN_no])
       refine req_i ?_ ?_
       · -- r155
        first | omega | assumption | grind
       refine req_i ?_ ?_
       · -- r156
        first | omega | assumption | grind
       refine req_i ?_ ?_
       · -- r157
        first | omega | assumption | grind
       refine req_i ?_ ?_
       · -- r158
        first | omega | assumption | grind
       refine req_i ?_ ?_
       · -- r159
        first | omega | assumption | grind
       refine req_i ?_ ?_
       · -- r160
        first | omega | assumption | grind
       refine req_i ?_ ?_
       · -- r161
        simp only [feedL, feedInv, List.drop_zero, List.take_length, Nat.add_eq, Nat.zero_add]; exact ⟨by omega, by omega, fn, by omega, p1.symm, p2.symm⟩
       refine req_i ?_ ?_
       · -- r162
        first | omega | ((try simp only [feedL, cChg, cSm, feedInv, mea5, List.cons.injEq, DV.b.injEq, and_true, Int.toNat_natCast, List.take_nil, List.take_zero, List.length_take, List.take_length, List.take_take, Nat.min_self, List.drop_nil, List.length_drop, List.drop_zero, List.length_cons, List.length_nil, Nat.add_eq, Nat.zero_add]); first | done | omega | assumption | grind [getD_set, getD_rep, toNat_succ, cntN_yes, cntN_no])
       rfl
     ·
      have k10 : l16.length = l0.length := by rw [h52.2.2.1, chN_len]
      refine req_i ?_ ?_
      · -- r163
       first | omega | ((try simp only [Nat.mul_eq]); first | done | omega | assumption | grind [getD_set, getD_rep, toNat_succ, cntN_yes, cntN_no])
      refine req_i ?_ ?_
      · -- r164
       first | omega | ((try simp only [Nat.zero_add]); first | done | omega | assumption | grind [getD_set, getD_rep, toNat_succ, cntN_yes, cntN_no])
      refine req_i ?_ ?_
      · -- r165
       first | omega | ((try simp only [List.take_nil, List.take_zero, List.length_take, List.take_length, List.take_take, Nat.min_self, List.drop_nil, List.length_drop, List.drop_zero, List.length_cons, List.length_nil]); first | done | omega | assumption | grind [getD_set, getD_rep, toNat_succ, cntN_yes, cntN_no])
      refine req_i ?_ ?_
      · -- r166
       first | assumption | exact rep_bd (by omega) (by omega) | exact set_bd (by assumption) (by omega) (by omega) | exact take_bd (by assumption) | ((try simp only [List.take_nil, List.take_zero, List.length_take, List.take_length, List.take_take, Nat.min_self, List.drop_nil, List.length_drop, List.drop_zero, List.length_cons, List.length_nil]); first | assumption | exact rep_bd (by omega) (by omega) | exact set_bd (by assumption) (by omega) (by omega) | exact take_bd (by assumption) | grind [getD_set, getD_rep, toNat_succ, cntN_yes, cntN_no])
      refine req_i ?_ ?_
      · -- r167
       first | omega | assumption | grind
      refine req_i ?_ ?_
      · -- r168
       first | omega | assumption | grind
      refine req_i ?_ ?_
      · -- r169
       first | omega | assumption | grind
      refine req_i ?_ ?_
      · -- r170
       first | omega | assumption | grind
      refine req_i ?_ ?_
      · -- r171
       first | omega | assumption | grind
      refine req_i ?_ ?_
      · -- r172
       first | omega | assumption | grind
      refine req_i ?_ ?_
      · -- r173
       (try simp only [List.drop_zero]); have k10 : l16.length = l0.length := by rw [h52.2.2.1, chN_len]
       rw [List.take_of_length_le (by omega)]; exact ⟨rfl, by rw [h52.2.2.1, show n15.toNat = l4.length by omega], by omega, by rw [h52.2.2.2.2.1, show n15.toNat = l4.length by omega], by rw [h52.2.2.2.2.2, show n15.toNat = l5.length by omega]⟩
      rfl
theorem ext_feed : ∀ p ∈ ([(40, Ext.ctr (ctOf sigClone))] : List (Nat × Ext)), ExtRow Try.prog p.1 p.2 := by
  intro p hp
  simp only [List.mem_cons, List.not_mem_nil, or_false] at hp
  rcases hp with rfl
  · trivial
theorem cts_feed : CtsOk Try.prog [(40, Ext.ctr (ctOf sigClone))] := ctsOk_of (cs := [(40, sigClone)])
  (fun p hp => by
    simp only [List.mem_cons, List.not_mem_nil, or_false] at hp
    rcases hp with rfl
    · exact fn_clone
)
  (fun f c h => by
    simp only [List.lookup_cons] at h
    repeat' split at h
    all_goals first | (cases h; done) | (rename_i e; have e := beq_iff_eq.1 e; subst e; cases h; refine ⟨_, ?_, rfl⟩; simp))
theorem fn_feed : FnOk Try.prog 11 sigFeed [] := fn_sound (by kernel_rfl) ext_feed cts_feed names vt_feed
end Go.Proofs.Ythfbhkeligmdfaa

namespace Go.Proofs.Ythfbhkeligmdfaa
open Go.Ev Go.Sp
set_option maxRecDepth 100000
theorem vc_equ : vcFn Try.prog [] (fun f p _ => at2 f p 16 58 equL (none)) [] 100 16 sigEqu = (allB fun l0 : List Int => 
impB (l0.length ≤ (1000 : Nat)) (
impB (∀ (y : Int), y ∈ l0 → (-9223372036854775808 : Int) ≤ y ∧ y ≤ (9223372036854775807 : Int)) (
allB fun l1 : List Int => 
impB (l1.length ≤ (1000 : Nat)) (
impB (∀ (y : Int), y ∈ l1 → (-9223372036854775808 : Int) ≤ y ∧ y ≤ (9223372036854775807 : Int)) (
impB (sigEqu.pre [DV.l l0, DV.l l1]) (
bR (dec ((↑l0.length : Int) ≠ (↑l1.length : Int))) (
 reqB (sigEqu.post [DV.l l0, DV.l l1] [DV.b Bool.false]) (
 true)) (
 reqB (((0 : Nat) + l0.length) * (1 : Nat) ≤ l0.length.mul (1 : Nat)) (
 reqB (l0.length ≤ (1000 : Nat)) (
 reqB ((List.take l0.length (List.drop (0 : Nat) l0)).length = l0.length) (
 reqB (∀ (y : Int),
 y ∈ List.take l0.length (List.drop (0 : Nat) l0) → (-9223372036854775808 : Int) ≤ y ∧ y ≤ (9223372036854775807 : Int)) (
 reqB (((0 : Nat) + l1.length) * (1 : Nat) ≤ l1.length.mul (1 : Nat)) (
 reqB (l1.length ≤ (1000 : Nat)) (
 reqB ((List.take l1.length (List.drop (0 : Nat) l1)).length = l1.length) (
 reqB (∀ (y : Int),
 y ∈ List.take l1.length (List.drop (0 : Nat) l1) → (-9223372036854775808 : Int) ≤ y ∧ y ≤ (9223372036854775807 : Int)) (
 reqB (equL.inv
 [DV.l (List.take l0.length (List.drop (0 : Nat) l0)), DV.l (List.take l1.length (List.drop (0 : Nat) l1))]
 [DV.n (0 : Int)]) (
 allB fun n2 : Int => 
 impB ((0 : Int) ≤ n2) (
 impB (n2 ≤ (1000 : Int)) (
 impB (equL.inv
 [DV.l (List.take l0.length (List.drop (0 : Nat) l0)), DV.l (List.take l1.length (List.drop (0 : Nat) l1))]
 [DV.n n2]) (
 bR (dec (n2 < (↑l0.length : Int))) (
 reqB (n2.toNat < l0.length) (
 reqB (Nat.add (0 : Nat) n2.toNat < l0.length) (
 reqB (n2.toNat < l1.length) (
 reqB (Nat.add (0 : Nat) n2.toNat < l1.length) (
 bR (dec (l0.getD (Nat.add (0 : Nat) n2.toNat) (0 : Int) ≠ l1.getD (Nat.add (0 : Nat) n2.toNat) (0 : Int))) (
 reqB (sigEqu.post [DV.l l0, DV.l l1] [DV.b Bool.false]) (
 true)) (
 bR (bR (bR (dec ((0 : Nat) = (0 : Nat))) (
 dec (l0.length = l0.length)) (
 false)) (
 bR (bR (dec ((0 : Nat) = (0 : Nat))) (
 dec (l1.length = l1.length)) (
 false)) (
 true) (
 false)) (
 false)) (
 reqB ((0 : Int) ≤ n2 + (1 : Int)) (
 reqB (n2 + (1 : Int) ≤ (1000 : Int)) (
 reqB (equL.inv
 [DV.l (List.take l0.length (List.drop (0 : Nat) l0)), DV.l (List.take l1.length (List.drop (0 : Nat) l1))]
 [DV.n (n2 + (1 : Int))]) (
 reqB (equL.mea
 [DV.l (List.take l0.length (List.drop (0 : Nat) l0)),
 DV.l (List.take l1.length (List.drop (0 : Nat) l1))]
 [DV.n (n2 + (1 : Int))] <
 equL.mea
 [DV.l (List.take l0.length (List.drop (0 : Nat) l0)),
 DV.l (List.take l1.length (List.drop (0 : Nat) l1))]
 [DV.n n2]) (
 true))))) (
 false))))))) (
 reqB (sigEqu.post [DV.l l0, DV.l l1] [DV.b Bool.true]) (
 true))))))))))))))))))))) := by kernel_rfl
set_option maxHeartbeats 8000000 in
theorem vt_equ : vcFn Try.prog [] (fun f p _ => at2 f p 16 58 equL (none)) [] 100 16 sigEqu = true := by
  rw [vc_equ]
  try simp only [Int.toNat_natCast, List.length_set, List.length_replicate, List.length_take, List.length_drop, List.length_append, List.length_cons, List.length_nil, Nat.min_self, List.take_take, lenCols_i, lenCols_b, List.drop_zero, List.take_length, List.take_nil, List.drop_nil, List.take_zero, List.nil_append, Nat.add_eq, Nat.mul_eq, Nat.sub_eq, Nat.zero_add, Nat.sub_zero, Nat.mul_one]
  refine all_i fun l0 => ?_
  refine imp_i fun h0 => ?_
  refine imp_i fun h1 => ?_
  refine all_i fun l1 => ?_
  refine imp_i fun h2 => ?_
  refine imp_i fun h3 => ?_
  refine imp_i fun h4 => ?_
  try simp only [sigEqu, cIn, equP, List.cons.injEq, DV.b.injEq, and_true, List.length_cons, List.length_nil] at h4
  refine bR_dec (fun h5 => ?_) (fun h5 => ?_)
  ·
   refine req_i ?_ ?_
   · -- r0
    first | omega | ((try simp only [sigEqu, cIn, equP, List.cons.injEq, DV.b.injEq, and_true, List.length_cons, List.length_nil]); first | done | omega | assumption | grind [getD_set, getD_rep, toNat_succ, cntN_yes, cntN_no])
   rfl
  ·
   refine req_i ?_ ?_
   · -- r1
    first | omega | ((try simp only [Nat.mul_eq]); first | done | omega | assumption | grind [getD_set, getD_rep, toNat_succ, cntN_yes, cntN_no])
   refine req_i ?_ ?_
   · -- r2
    first | omega | ((try simp only [Nat.zero_add]); first | done | omega | assumption | grind [getD_set, getD_rep, toNat_succ, cntN_yes, cntN_no])
   refine req_i ?_ ?_
   · -- r3
    first | omega | ((try simp only [List.take_nil, List.take_zero, List.length_take, List.take_length, List.take_take, Nat.min_self, List.drop_nil, List.length_drop, List.drop_zero, List.length_cons, List.length_nil]); first | done | omega | assumption | grind [getD_set, getD_rep, toNat_succ, cntN_yes, cntN_no])
   refine req_i ?_ ?_
   · -- r4
    first | assumption | exact rep_bd (by omega) (by omega) | exact set_bd (by assumption) (by omega) (by omega) | exact take_bd (by assumption) | ((try simp only [List.take_nil, List.take_zero, List.length_take, List.take_length, List.take_take, Nat.min_self, List.drop_nil, List.length_drop, List.drop_zero, List.length_cons, List.length_nil]); first | assumption | exact rep_bd (by omega) (by omega) | exact set_bd (by assumption) (by omega) (by omega) | exact take_bd (by assumption) | grind [getD_set, getD_rep, toNat_succ, cntN_yes, cntN_no])
   refine req_i ?_ ?_
   · -- r5
    first | omega | ((try simp only [Nat.mul_eq]); first | done | omega | assumption | grind [getD_set, getD_rep, toNat_succ, cntN_yes, cntN_no])
   refine req_i ?_ ?_
   · -- r6
    first | omega | ((try simp only [Nat.zero_add]); first | done | omega | assumption | grind [getD_set, getD_rep, toNat_succ, cntN_yes, cntN_no])
   refine req_i ?_ ?_
   · -- r7
    first | omega | ((try simp only [List.take_nil, List.take_zero, List.length_take, List.take_length, List.take_take, Nat.min_self, List.drop_nil, List.length_drop, List.drop_zero, List.length_cons, List.length_nil]); first | done | omega | assumption | grind [getD_set, getD_rep, toNat_succ, cntN_yes, cntN_no])
   refine req_i ?_ ?_
   · -- r8
    first | assumption | exact rep_bd (by omega) (by omega) | exact set_bd (by assumption) (by omega) (by omega) | exact take_bd (by assumption) | ((try simp only [List.take_nil, List.take_zero, List.length_take, List.take_length, List.take_take, Nat.min_self, List.drop_nil, List.length_drop, List.drop_zero, List.length_cons, List.length_nil]); first | assumption | exact rep_bd (by omega) (by omega) | exact set_bd (by assumption) (by omega) (by omega) | exact take_bd (by assumption) | grind [getD_set, getD_rep, toNat_succ, cntN_yes, cntN_no])
   refine req_i ?_ ?_
   · -- r9
    first | omega | ((try simp only [equL, cIn, equInv, mea1, List.cons.injEq, DV.b.injEq, and_true, List.take_nil, List.take_zero, List.length_take, List.take_length, List.take_take, Nat.min_self, List.drop_nil, List.length_drop, List.drop_zero, List.length_cons, List.length_nil]); first | done | omega | assumption | grind [getD_set, getD_rep, toNat_succ, cntN_yes, cntN_no])
   refine all_i fun n2 => ?_
   refine imp_i fun h6 => ?_
   refine imp_i fun h7 => ?_
   refine imp_i fun h8 => ?_
   try simp only [equL, cIn, equInv, mea1, List.cons.injEq, DV.b.injEq, and_true, List.take_nil, List.take_zero, List.length_take, List.take_length, List.take_take, Nat.min_self, List.drop_nil, List.length_drop, List.drop_zero, List.length_cons, List.length_nil] at h8
   refine bR_dec (fun h9 => ?_) (fun h9 => ?_)
   ·
    refine req_i ?_ ?_
    · -- r10
     first | omega | ((try simp only [Int.toNat_natCast, List.length_cons, List.length_nil]); first | done | omega | assumption | grind [getD_set, getD_rep, toNat_succ, cntN_yes, cntN_no])
    refine req_i ?_ ?_
    · -- r11
     first | omega | ((try simp only [Int.toNat_natCast, List.length_cons, List.length_nil, Nat.add_eq, Nat.zero_add]); first | done | omega | assumption | grind [getD_set, getD_rep, toNat_succ, cntN_yes, cntN_no])
    refine req_i ?_ ?_
    · -- r12
     first | omega | ((try simp only [Int.toNat_natCast, List.length_cons, List.length_nil]); first | done | omega | assumption | grind [getD_set, getD_rep, toNat_succ, cntN_yes, cntN_no])
    refine req_i ?_ ?_
    · -- r13
     first | omega | ((try simp only [Int.toNat_natCast, List.length_cons, List.length_nil, Nat.add_eq, Nat.zero_add]); first | done | omega | assumption | grind [getD_set, getD_rep, toNat_succ, cntN_yes, cntN_no])
    refine bR_dec (fun h10 => ?_) (fun h10 => ?_)
    ·
     refine req_i ?_ ?_
     · -- r14
      first | omega | ((try simp only [sigEqu, cIn, equP, List.cons.injEq, DV.b.injEq, and_true, List.length_cons, List.length_nil]); first | done | omega | assumption | grind [getD_set, getD_rep, toNat_succ, cntN_yes, cntN_no])
     rfl
    ·
     refine bR_t ?_ ?_
     · -- g0
      first | rfl | (simp only [bR_iff, bR_iff_f, dec_iff, dec_f, beqB_iff', andB_iff', reduceCtorEq, imp_self, false_implies, and_true, true_and, implies_true, and_self]; done) | (simp [bR_iff, dec_iff, beqB_iff', andB_iff']; done) | (simp [bR_iff, dec_iff, beqB_iff', andB_iff']; omega)
     refine req_i ?_ ?_
     · -- r15
      first | omega | assumption | grind
     refine req_i ?_ ?_
     · -- r16
      first | omega | assumption | grind
     refine req_i ?_ ?_
     · -- r17
      first | omega | ((try simp only [equL, cIn, equInv, mea1, List.cons.injEq, DV.b.injEq, and_true, List.take_nil, List.take_zero, List.length_take, List.take_length, List.take_take, Nat.min_self, List.drop_nil, List.length_drop, List.drop_zero, List.length_cons, List.length_nil]); first | done | omega | assumption | grind [getD_set, getD_rep, toNat_succ, cntN_yes, cntN_no])
     refine req_i ?_ ?_
     · -- r18
      first | omega | ((try simp only [equL, cIn, equInv, mea1, List.cons.injEq, DV.b.injEq, and_true, List.take_nil, List.take_zero, List.length_take, List.take_length, List.take_take, Nat.min_self, List.drop_nil, List.length_drop, List.drop_zero, List.length_cons, List.length_nil]); first | done | omega | assumption | grind [getD_set, getD_rep, toNat_succ, cntN_yes, cntN_no])
     rfl
   ·
    have e1 := equ_of (a := l0) (b := l1) h8.2.1 h9 h8.2.2.2
    refine req_i ?_ ?_
    · -- r19
     first | omega | ((try simp only [sigEqu, cIn, equP, List.cons.injEq, DV.b.injEq, and_true, List.length_cons, List.length_nil]); first | done | omega | assumption | grind [getD_set, getD_rep, toNat_succ, cntN_yes, cntN_no])
    rfl
theorem ext_equ : ∀ p ∈ ([] : List (Nat × Ext)), ExtRow Try.prog p.1 p.2 := by
  intro p hp
  cases hp
theorem cts_equ : CtsOk Try.prog [] := fun f c h => by cases h
theorem fn_equ : FnOk Try.prog 16 sigEqu [] := fn_sound (by kernel_rfl) ext_equ cts_equ names vt_equ
end Go.Proofs.Ythfbhkeligmdfaa

namespace Go.Proofs.Ythfbhkeligmdfaa
open Go.Ev Go.Sp
set_option maxRecDepth 100000
theorem vc_val : vcFn Try.prog [] (fun f p _ => at2 f p 14 122 chkVL (at2 f p 41 2 chunkL (at2 f p 1000000 42 bodyL (none)))) [] 100 14 sigVal = (allB fun l0 : List Int => 
impB (l0.length ≤ (200 : Nat)) (
impB (∀ (y : Int), y ∈ l0 → (-9223372036854775808 : Int) ≤ y ∧ y ≤ (9223372036854775807 : Int)) (
allB fun l1 : List Int => 
impB (l1.length = l0.length) (
impB (∀ (y : Int), y ∈ l1 → (-9223372036854775808 : Int) ≤ y ∧ y ≤ (9223372036854775807 : Int)) (
allB fun n2 : Int => 
impB ((-9223372036854775808 : Int) ≤ n2) (
impB (n2 ≤ (9223372036854775807 : Int)) (
allB fun n3 : Int => 
impB ((-9223372036854775808 : Int) ≤ n3) (
impB (n3 ≤ (9223372036854775807 : Int)) (
impB (sigVal.pre [DV.l l0, DV.l l1, DV.n n2, DV.n n3]) (
bR (dec (n2 < (1 : Int))) (
 reqB (sigVal.post [DV.l l0, DV.l l1, DV.n n2, DV.n n3]
 [DV.l [], DV.l [], DV.n (2 : Int)]) (
 true)) (
 bR (dec ((20 : Int) < n2)) (
 reqB (sigVal.post [DV.l l0, DV.l l1, DV.n n2, DV.n n3]
 [DV.l [], DV.l [], DV.n (2 : Int)]) (
 true)) (
 bR (dec (n3 < (0 : Int))) (
 reqB (sigVal.post [DV.l l0, DV.l l1, DV.n n2, DV.n n3]
 [DV.l [], DV.l [], DV.n (2 : Int)]) (
 true)) (
 bR (dec (n2 ≤ n3)) (
 reqB (sigVal.post [DV.l l0, DV.l l1, DV.n n2, DV.n n3]
 [DV.l [], DV.l [], DV.n (2 : Int)]) (
 true)) (
 reqB (((0 : Nat) + l0.length) * (2 : Nat) ≤ l0.length.mul (2 : Nat)) (
 reqB (l0.length ≤ (200 : Nat)) (
 reqB ((List.take l0.length (List.drop (0 : Nat) l0)).length = l0.length) (
 reqB (∀ (y : Int),
 y ∈ List.take l0.length (List.drop (0 : Nat) l0) → (-9223372036854775808 : Int) ≤ y ∧ y ≤ (9223372036854775807 : Int)) (
 reqB ((List.take l0.length (List.drop (0 : Nat) l1)).length = l0.length) (
 reqB (∀ (y : Int),
 y ∈ List.take l0.length (List.drop (0 : Nat) l1) → (-9223372036854775808 : Int) ≤ y ∧ y ≤ (9223372036854775807 : Int)) (
 reqB (chkVL.inv
 [DV.l (List.take l0.length (List.drop (0 : Nat) l0)), DV.l (List.take l0.length (List.drop (0 : Nat) l1))]
 [DV.n (0 : Int)]) (
 allB fun n4 : Int => 
 impB ((0 : Int) ≤ n4) (
 impB (n4 ≤ (200 : Int)) (
 impB (chkVL.inv
 [DV.l (List.take l0.length (List.drop (0 : Nat) l0)), DV.l (List.take l0.length (List.drop (0 : Nat) l1))]
 [DV.n n4]) (
 bR (dec (n4 < (↑l0.length : Int))) (
 reqB (n4.toNat < l0.length) (
 reqB (Nat.add (0 : Nat) n4.toNat < l0.length) (
 reqB (Nat.add (0 : Nat) n4.toNat < l1.length) (
 bR (dec (Min.min (l0.getD (Nat.add (0 : Nat) n4.toNat) (0 : Int)) (l1.getD (Nat.add (0 : Nat) n4.toNat) (0 : Int)) <
 (-1048576 : Int))) (
 reqB (sigVal.post [DV.l l0, DV.l l1, DV.n n2, DV.n n3]
 [DV.l [], DV.l [], DV.n (2 : Int)]) (
 true)) (
 bR (dec ((1048576 : Int) <
 Max.max (l0.getD (Nat.add (0 : Nat) n4.toNat) (0 : Int)) (l1.getD (Nat.add (0 : Nat) n4.toNat) (0 : Int)))) (
 reqB (sigVal.post [DV.l l0, DV.l l1, DV.n n2, DV.n n3]
 [DV.l [], DV.l [], DV.n (2 : Int)]) (
 true)) (
 bR (bR (bR (dec ((0 : Nat) = (0 : Nat))) (
 dec (l0.length = l0.length)) (
 false)) (
 bR (dec (n2 = n2)) (
 bR (dec (n3 = n3)) (
 bR (bR (dec ((0 : Nat) = (0 : Nat))) (
 dec (l0.length = l0.length)) (
 false)) (
 bR (dec ((↑l0.length : Int) = (↑l0.length : Int))) (
 true) (
 false)) (
 false)) (
 false)) (
 false)) (
 false)) (
 reqB ((0 : Int) ≤ n4 + (1 : Int)) (
 reqB (n4 + (1 : Int) ≤ (200 : Int)) (
 reqB (chkVL.inv
 [DV.l (List.take l0.length (List.drop (0 : Nat) l0)), DV.l (List.take l0.length (List.drop (0 : Nat) l1))]
 [DV.n (n4 + (1 : Int))]) (
 reqB (chkVL.mea
 [DV.l (List.take l0.length (List.drop (0 : Nat) l0)),
 DV.l (List.take l0.length (List.drop (0 : Nat) l1))]
 [DV.n (n4 + (1 : Int))] <
 chkVL.mea
 [DV.l (List.take l0.length (List.drop (0 : Nat) l0)),
 DV.l (List.take l0.length (List.drop (0 : Nat) l1))]
 [DV.n n4]) (
 true))))) (
 false))))))) (
 allB fun n5 : Int => 
 impB (n5 = Go.IntKind.i64.wrap (n3 + n2)) (
 impB (Int.negSucc (9223372036854775807 : Nat) ≤ n5) (
 impB (n5 ≤ Int.ofNat (9223372036854775807 : Nat)) (
 bR (dec ((↑l0.length : Int) < n5)) (
 reqB (sigVal.post [DV.l l0, DV.l l1, DV.n n2, DV.n n3]
 [DV.l [], DV.l [], DV.n (16 : Int)]) (
 true)) (
 reqB ((0 : Int) ≤ n3) (
 reqB (n3.toNat ≤ l0.length) (
 reqB (l0.length ≤ l0.length) (
 reqB ((Nat.add (0 : Nat) n3.toNat + l0.length.sub n3.toNat) * (2 : Nat) ≤ l0.length.mul (2 : Nat)) (
 reqB (l0.length.sub n3.toNat ≤ (200 : Nat)) (
 reqB ((List.take (l0.length.sub n3.toNat) (List.drop (Nat.add (0 : Nat) n3.toNat) l0)).length = l0.length.sub n3.toNat) (
 reqB (∀ (y : Int),
 y ∈ List.take (l0.length.sub n3.toNat) (List.drop (Nat.add (0 : Nat) n3.toNat) l0) →
 (-9223372036854775808 : Int) ≤ y ∧ y ≤ (9223372036854775807 : Int)) (
 reqB ((List.take (l0.length.sub n3.toNat) (List.drop (Nat.add (0 : Nat) n3.toNat) l1)).length = l0.length.sub n3.toNat) (
 reqB (∀ (y : Int),
 y ∈ List.take (l0.length.sub n3.toNat) (List.drop (Nat.add (0 : Nat) n3.toNat) l1) →
 (-9223372036854775808 : Int) ≤ y ∧ y ≤ (9223372036854775807 : Int)) (
 reqB ((1 : Int) ≤ n2) (
 reqB (n2 ≤ (20 : Int)) (
 reqB (chunkL.inv
 [DV.l (List.take (l0.length.sub n3.toNat) (List.drop (Nat.add (0 : Nat) n3.toNat) l0)),
 DV.l (List.take (l0.length.sub n3.toNat) (List.drop (Nat.add (0 : Nat) n3.toNat) l1)),
 DV.w (Nat.add (0 : Nat) n3.toNat) (l0.length.sub n3.toNat), DV.n n2]
 [DV.w (Nat.add (0 : Nat) n3.toNat) (l0.length.sub n3.toNat), DV.l [], DV.l []]) (
 allB fun m6 : Nat => 
 allB fun m7 : Nat => 
 allB fun l8 : List Int => 
 impB (l8.length ≤ (200 : Nat)) (
 impB (∀ (y : Int), y ∈ l8 → (-21000000 : Int) ≤ y ∧ y ≤ (21000000 : Int)) (
 allB fun l9 : List Int => 
 impB (l9.length = l8.length) (
 impB (∀ (y : Int), y ∈ l9 → (-21000000 : Int) ≤ y ∧ y ≤ (21000000 : Int)) (
 impB (chunkL.inv
 [DV.l (List.take (l0.length.sub n3.toNat) (List.drop (Nat.add (0 : Nat) n3.toNat) l0)),
 DV.l (List.take (l0.length.sub n3.toNat) (List.drop (Nat.add (0 : Nat) n3.toNat) l1)),
 DV.w (Nat.add (0 : Nat) n3.toNat) (l0.length.sub n3.toNat), DV.n n2]
 [DV.w m6 m7, DV.l l8, DV.l l9]) (
 bR (dec (n2 ≤ (↑m7 : Int))) (
 reqB ((0 : Int) ≤ n2) (
 reqB ((0 : Nat) ≤ n2.toNat) (
 reqB (n2.toNat ≤ m7) (
 reqB ((m6.add (0 : Nat) + n2.toNat.sub (0 : Nat)) * (2 : Nat) ≤ l0.length.mul (2 : Nat)) (
 reqB (n2.toNat.sub (0 : Nat) ≤ (20 : Nat)) (
 reqB ((List.take (n2.toNat.sub (0 : Nat)) (List.drop (m6.add (0 : Nat)) l0)).length = n2.toNat.sub (0 : Nat)) (
 reqB (∀ (y : Int),
 y ∈ List.take (n2.toNat.sub (0 : Nat)) (List.drop (m6.add (0 : Nat)) l0) → (-1048576 : Int) ≤ y ∧ y ≤ (1048576 : Int)) (
 reqB ((List.take (n2.toNat.sub (0 : Nat)) (List.drop (m6.add (0 : Nat)) l1)).length = n2.toNat.sub (0 : Nat)) (
 reqB (∀ (y : Int),
 y ∈ List.take (n2.toNat.sub (0 : Nat)) (List.drop (m6.add (0 : Nat)) l1) → (-1048576 : Int) ≤ y ∧ y ≤ (1048576 : Int)) (
 reqB (bodyL.inv
 [DV.l (List.take (n2.toNat.sub (0 : Nat)) (List.drop (m6.add (0 : Nat)) l0)),
 DV.l (List.take (n2.toNat.sub (0 : Nat)) (List.drop (m6.add (0 : Nat)) l1))]
 [DV.n (0 : Int), DV.n (0 : Int), DV.n (0 : Int)]) (
 allB fun n10 : Int => 
 impB ((0 : Int) ≤ n10) (
 impB (n10 ≤ (20 : Int)) (
 allB fun n11 : Int => 
 impB ((-21000000 : Int) ≤ n11) (
 impB (n11 ≤ (21000000 : Int)) (
 allB fun n12 : Int => 
 impB ((-21000000 : Int) ≤ n12) (
 impB (n12 ≤ (21000000 : Int)) (
 impB (bodyL.inv
 [DV.l (List.take (n2.toNat.sub (0 : Nat)) (List.drop (m6.add (0 : Nat)) l0)),
 DV.l (List.take (n2.toNat.sub (0 : Nat)) (List.drop (m6.add (0 : Nat)) l1))]
 [DV.n n10, DV.n n11, DV.n n12]) (
 bR (dec (n10 < (↑(n2.toNat.sub (0 : Nat)) : Int))) (
 reqB (n10.toNat < n2.toNat.sub (0 : Nat)) (
 reqB ((m6.add (0 : Nat)).add n10.toNat < l0.length) (
 reqB ((m6.add (0 : Nat)).add n10.toNat < l1.length) (
 allB fun n13 : Int => 
 impB (n13 = Go.IntKind.i64.wrap (n11 + l0.getD ((m6.add (0 : Nat)).add n10.toNat) (0 : Int))) (
 impB (Int.negSucc (9223372036854775807 : Nat) ≤ n13) (
 impB (n13 ≤ Int.ofNat (9223372036854775807 : Nat)) (
 allB fun n14 : Int => 
 impB (n14 = Go.IntKind.i64.wrap (n12 + l1.getD ((m6.add (0 : Nat)).add n10.toNat) (0 : Int))) (
 impB (Int.negSucc (9223372036854775807 : Nat) ≤ n14) (
 impB (n14 ≤ Int.ofNat (9223372036854775807 : Nat)) (
 bR (bR (bR (true) (
 bR (bR (bR (bR (true) (
 true) (
 false)) (
 bR (bR (true) (
 true) (
 false)) (
 true) (
 false)) (
 false)) (
 bR (dec (n2 = n2)) (
 bR (bR (dec (Nat.add (0 : Nat) n3.toNat = Nat.add (0 : Nat) n3.toNat)) (
 dec (l0.length.sub n3.toNat = l0.length.sub n3.toNat)) (
 false)) (
 bR (dec (n3 = n3)) (
 bR (bR (dec ((0 : Nat) = (0 : Nat))) (
 dec (l0.length = l0.length)) (
 false)) (
 bR (dec ((↑l0.length : Int) = (↑l0.length : Int))) (
 bR (bR (dec ((0 : Nat) = (0 : Nat))) (
 dec (l0.length = l0.length)) (
 false)) (
 bR (dec (n5 = n5)) (
 bR (dec (n2 = n2)) (
 bR (dec (n3 = n3)) (
 bR (dec (n4 = n4)) (
 bR (dec ((↑l0.length : Int) = (↑l0.length : Int))) (
 bR (bR (dec ((0 : Nat) = (0 : Nat))) (
 dec (l0.length = l0.length)) (
 false)) (
 bR (bR (bR (bR (false) (
 false) (
 true)) (
 true) (
 false)) (
 true) (
 false)) (
 bR (dec (n3 = n3)) (
 bR (dec (n2 = n2)) (
 bR (bR (dec ((0 : Nat) = (0 : Nat))) (
 dec (l0.length = l0.length)) (
 false)) (
 true) (
 false)) (
 false)) (
 false)) (
 false)) (
 false)) (
 false)) (
 false)) (
 false)) (
 false)) (
 false)) (
 false)) (
 false)) (
 false)) (
 false)) (
 false)) (
 false)) (
 false)) (
 dec (sameRT
 (rtAt Go.Proofs.Try.prog (14 : Nat)
 [Bool.true, Bool.true, Bool.true, Bool.true, Bool.true, Bool.true, Bool.false, Bool.true, Bool.false]).fst
 (rtAt Go.Proofs.Try.prog (14 : Nat)
 [Bool.true, Bool.true, Bool.true, Bool.true, Bool.true, Bool.true, Bool.false, Bool.true, Bool.false]).snd.fst
 (rtAt Go.Proofs.Try.prog (14 : Nat)
 [Bool.true, Bool.true, Bool.true, Bool.true, Bool.true, Bool.true, Bool.false, Bool.true, Bool.false]).snd.snd
 (rtAt Go.Proofs.Try.prog (14 : Nat)
 [Bool.true, Bool.true, Bool.true, Bool.true, Bool.true, Bool.true, Bool.false, Bool.true, Bool.false]).fst
 (rtAt Go.Proofs.Try.prog (14 : Nat)
 [Bool.true, Bool.true, Bool.true, Bool.true, Bool.true, Bool.true, Bool.false, Bool.true, Bool.false]).snd.fst
 (rtAt Go.Proofs.Try.prog (14 : Nat)
 [Bool.true, Bool.true, Bool.true, Bool.true, Bool.true, Bool.true, Bool.false, Bool.true, Bool.false]).snd.snd)) (
 false)) (
 false)) (
 bR (true) (
 true) (
 false)) (
 false)) (
 bR (bR (bR (dec ((0 : Nat) = (0 : Nat))) (
 dec (l0.length = l0.length)) (
 false)) (
 bR (dec (n2 = n2)) (
 bR (dec (n3 = n3)) (
 bR (bR (bR (bR (false) (
 false) (
 true)) (
 true) (
 false)) (
 true) (
 false)) (
 bR (bR (dec (m6.add (0 : Nat) = m6.add (0 : Nat))) (
 dec (n2.toNat.sub (0 : Nat) = n2.toNat.sub (0 : Nat))) (
 false)) (
 bR (bR (true) (
 true) (
 false)) (
 bR (bR (dec (m6.add (0 : Nat) = m6.add (0 : Nat))) (
 dec (n2.toNat.sub (0 : Nat) = n2.toNat.sub (0 : Nat))) (
 false)) (
 bR (dec ((↑(n2.toNat.sub (0 : Nat)) : Int) = (↑(n2.toNat.sub (0 : Nat)) : Int))) (
 true) (
 false)) (
 false)) (
 false)) (
 false)) (
 false)) (
 false)) (
 false)) (
 false)) (
 bR (bR (bR (bR (true) (
 bR (dec ((0 : Nat) = (0 : Nat))) (
 dec (l8.length = l8.length)) (
 false)) (
 false)) (
 true) (
 false)) (
 bR (bR (bR (dec (m6 = m6)) (
 dec (m7 = m7)) (
 false)) (
 true) (
 false)) (
 bR (bR (dec (n2 = n2)) (
 true) (
 false)) (
 bR (bR (dec (l8.length.mul (2 : Nat) = l8.length.mul (2 : Nat))) (
 dec ([Col.i Go.IntKind.i64 (-21000000 : Int) (21000000 : Int) l8,
 Col.i Go.IntKind.i64 (-21000000 : Int) (21000000 : Int) l9] =
 [Col.i Go.IntKind.i64 (-21000000 : Int) (21000000 : Int) l8,
 Col.i Go.IntKind.i64 (-21000000 : Int) (21000000 : Int) l9])) (
 false)) (
 true) (
 false)) (
 false)) (
 false)) (
 false)) (
 reqB ((0 : Int) ≤ n10 + (1 : Int)) (
 reqB (n10 + (1 : Int) ≤ (20 : Int)) (
 reqB ((-21000000 : Int) ≤ n13) (
 reqB (n13 ≤ (21000000 : Int)) (
 reqB ((-21000000 : Int) ≤ n14) (
 reqB (n14 ≤ (21000000 : Int)) (
 reqB (bodyL.inv
 [DV.l (List.take (n2.toNat.sub (0 : Nat)) (List.drop (m6.add (0 : Nat)) l0)),
 DV.l (List.take (n2.toNat.sub (0 : Nat)) (List.drop (m6.add (0 : Nat)) l1))]
 [DV.n (n10 + (1 : Int)), DV.n n13, DV.n n14]) (
 reqB (bodyL.mea
 [DV.l (List.take (n2.toNat.sub (0 : Nat)) (List.drop (m6.add (0 : Nat)) l0)),
 DV.l (List.take (n2.toNat.sub (0 : Nat)) (List.drop (m6.add (0 : Nat)) l1))]
 [DV.n (n10 + (1 : Int)), DV.n n13, DV.n n14] <
 bodyL.mea
 [DV.l (List.take (n2.toNat.sub (0 : Nat)) (List.drop (m6.add (0 : Nat)) l0)),
 DV.l (List.take (n2.toNat.sub (0 : Nat)) (List.drop (m6.add (0 : Nat)) l1))]
 [DV.n n10, DV.n n11, DV.n n12]) (
 true))))))))) (
 false)) (
 false)) (
 false))))))))))) (
 reqB (l8.length + (1 : Nat) ≤ (1000000 : Nat)) (
 reqB (((0 : Nat) + l8.length) * (1 + (1 : Nat)) ≤ l8.length.mul (2 : Nat)) (
 reqB ((0 : Int) ≤ n2) (
 reqB (n2.toNat ≤ m7) (
 reqB (m7 ≤ m7) (
 bR (bR (bR (true) (
 bR (bR (bR (bR (true) (
 true) (
 false)) (
 bR (bR (true) (
 true) (
 false)) (
 true) (
 false)) (
 false)) (
 bR (dec (n2 = n2)) (
 bR (bR (dec (Nat.add (0 : Nat) n3.toNat = Nat.add (0 : Nat) n3.toNat)) (
 dec (l0.length.sub n3.toNat = l0.length.sub n3.toNat)) (
 false)) (
 bR (dec (n3 = n3)) (
 bR (bR (dec ((0 : Nat) = (0 : Nat))) (
 dec (l0.length = l0.length)) (
 false)) (
 bR (dec ((↑l0.length : Int) = (↑l0.length : Int))) (
 bR (bR (dec ((0 : Nat) = (0 : Nat))) (
 dec (l0.length = l0.length)) (
 false)) (
 bR (dec (n5 = n5)) (
 bR (dec (n2 = n2)) (
 bR (dec (n3 = n3)) (
 bR (dec (n4 = n4)) (
 bR (dec ((↑l0.length : Int) = (↑l0.length : Int))) (
 bR (bR (dec ((0 : Nat) = (0 : Nat))) (
 dec (l0.length = l0.length)) (
 false)) (
 bR (bR (bR (bR (false) (
 false) (
 true)) (
 true) (
 false)) (
 true) (
 false)) (
 bR (dec (n3 = n3)) (
 bR (dec (n2 = n2)) (
 bR (bR (dec ((0 : Nat) = (0 : Nat))) (
 dec (l0.length = l0.length)) (
 false)) (
 true) (
 false)) (
 false)) (
 false)) (
 false)) (
 false)) (
 false)) (
 false)) (
 false)) (
 false)) (
 false)) (
 false)) (
 false)) (
 false)) (
 false)) (
 false)) (
 false)) (
 false)) (
 dec (sameRT
 (rtAt Go.Proofs.Try.prog (14 : Nat)
 [Bool.true, Bool.true, Bool.true, Bool.true, Bool.true, Bool.true, Bool.false, Bool.true, Bool.false]).fst
 (rtAt Go.Proofs.Try.prog (14 : Nat)
 [Bool.true, Bool.true, Bool.true, Bool.true, Bool.true, Bool.true, Bool.false, Bool.true, Bool.false]).snd.fst
 (rtAt Go.Proofs.Try.prog (14 : Nat)
 [Bool.true, Bool.true, Bool.true, Bool.true, Bool.true, Bool.true, Bool.false, Bool.true, Bool.false]).snd.snd
 (rtAt Go.Proofs.Try.prog (14 : Nat)
 [Bool.true, Bool.true, Bool.true, Bool.true, Bool.true, Bool.true, Bool.false, Bool.true, Bool.false]).fst
 (rtAt Go.Proofs.Try.prog (14 : Nat)
 [Bool.true, Bool.true, Bool.true, Bool.true, Bool.true, Bool.true, Bool.false, Bool.true, Bool.false]).snd.fst
 (rtAt Go.Proofs.Try.prog (14 : Nat)
 [Bool.true, Bool.true, Bool.true, Bool.true, Bool.true, Bool.true, Bool.false, Bool.true, Bool.false]).snd.snd)) (
 false)) (
 false)) (
 bR (true) (
 true) (
 false)) (
 false)) (
 bR (bR (bR (dec (n2 = n2)) (
 true) (
 false)) (
 true) (
 false)) (
 reqB (((0 : Nat) + l8.length.add (1 : Nat)) * (2 : Nat) ≤ (l8.length.add (1 : Nat)).mul (1 + (1 : Nat))) (
 reqB (l8.length.add (1 : Nat) ≤ (200 : Nat)) (
 reqB ((List.take (l8.length.add (1 : Nat))
 (List.drop (0 : Nat) (List.take l8.length (List.drop (0 : Nat) l8) ++ [n11]))).length =
 l8.length.add (1 : Nat)) (
 reqB (∀ (y : Int),
 y ∈
 List.take (l8.length.add (1 : Nat))
 (List.drop (0 : Nat) (List.take l8.length (List.drop (0 : Nat) l8) ++ [n11])) →
 (-21000000 : Int) ≤ y ∧ y ≤ (21000000 : Int)) (
 reqB ((List.take (l8.length.add (1 : Nat))
 (List.drop (0 : Nat) (List.take l8.length (List.drop (0 : Nat) l9) ++ [n12]))).length =
 l8.length.add (1 : Nat)) (
 reqB (∀ (y : Int),
 y ∈
 List.take (l8.length.add (1 : Nat))
 (List.drop (0 : Nat) (List.take l8.length (List.drop (0 : Nat) l9) ++ [n12])) →
 (-21000000 : Int) ≤ y ∧ y ≤ (21000000 : Int)) (
 reqB (chunkL.inv
 [DV.l (List.take (l0.length.sub n3.toNat) (List.drop (Nat.add (0 : Nat) n3.toNat) l0)),
 DV.l (List.take (l0.length.sub n3.toNat) (List.drop (Nat.add (0 : Nat) n3.toNat) l1)),
 DV.w (Nat.add (0 : Nat) n3.toNat) (l0.length.sub n3.toNat), DV.n n2]
 [DV.w (m6.add n2.toNat) (m7.sub n2.toNat),
 DV.l
 (List.take (l8.length.add (1 : Nat))
 (List.drop (0 : Nat) (List.take l8.length (List.drop (0 : Nat) l8) ++ [n11]))),
 DV.l
 (List.take (l8.length.add (1 : Nat))
 (List.drop (0 : Nat) (List.take l8.length (List.drop (0 : Nat) l9) ++ [n12])))]) (
 reqB (chunkL.mea
 [DV.l (List.take (l0.length.sub n3.toNat) (List.drop (Nat.add (0 : Nat) n3.toNat) l0)),
 DV.l (List.take (l0.length.sub n3.toNat) (List.drop (Nat.add (0 : Nat) n3.toNat) l1)),
 DV.w (Nat.add (0 : Nat) n3.toNat) (l0.length.sub n3.toNat), DV.n n2]
 [DV.w (m6.add n2.toNat) (m7.sub n2.toNat),
 DV.l
 (List.take (l8.length.add (1 : Nat))
 (List.drop (0 : Nat) (List.take l8.length (List.drop (0 : Nat) l8) ++ [n11]))),
 DV.l
 (List.take (l8.length.add (1 : Nat))
 (List.drop (0 : Nat) (List.take l8.length (List.drop (0 : Nat) l9) ++ [n12])))] <
 chunkL.mea
 [DV.l (List.take (l0.length.sub n3.toNat) (List.drop (Nat.add (0 : Nat) n3.toNat) l0)),
 DV.l (List.take (l0.length.sub n3.toNat) (List.drop (Nat.add (0 : Nat) n3.toNat) l1)),
 DV.w (Nat.add (0 : Nat) n3.toNat) (l0.length.sub n3.toNat), DV.n n2]
 [DV.w m6 m7, DV.l l8, DV.l l9]) (
 true))))))))) (
 false)) (
 false))))))))))))))))))))))))) (
 reqB (((0 : Nat) + l8.length) * (2 : Nat) ≤ l8.length.mul (2 : Nat)) (
 reqB (l8.length ≤ (200 : Nat)) (
 reqB ((List.take l8.length (List.drop (0 : Nat) l8)).length = l8.length) (
 reqB (∀ (y : Int), y ∈ List.take l8.length (List.drop (0 : Nat) l8) → (-21000000 : Int) ≤ y ∧ y ≤ (21000000 : Int)) (
 reqB ((List.take l8.length (List.drop (0 : Nat) l9)).length = l8.length) (
 reqB (∀ (y : Int), y ∈ List.take l8.length (List.drop (0 : Nat) l9) → (-21000000 : Int) ≤ y ∧ y ≤ (21000000 : Int)) (
 reqB (sigVal.post [DV.l l0, DV.l l1, DV.n n2, DV.n n3]
 [DV.l (List.take l8.length (List.drop (0 : Nat) l8)), DV.l (List.take l8.length (List.drop (0 : Nat) l9)),
 DV.n (0 : Int)]) (
 true)))))))))))))))))))))))))))))))))))))))))))))))))))))) := by kernel_rfl
set_option maxHeartbeats 8000000 in
theorem vt_val : vcFn Try.prog [] (fun f p _ => at2 f p 14 122 chkVL (at2 f p 41 2 chunkL (at2 f p 1000000 42 bodyL (none)))) [] 100 14 sigVal = true := by
  rw [vc_val]
  try simp only [Int.toNat_natCast, List.length_set, List.length_replicate, List.length_take, List.length_drop, List.length_append, List.length_cons, List.length_nil, Nat.min_self, List.take_take, lenCols_i, lenCols_b, List.drop_zero, List.take_length, List.take_nil, List.drop_nil, List.take_zero, List.nil_append, Nat.add_eq, Nat.mul_eq, Nat.sub_eq, Nat.zero_add, Nat.add_zero, Nat.sub_zero, Nat.mul_one]
  refine all_i fun l0 => ?_
  refine imp_i fun h0 => ?_
  refine imp_i fun h1 => ?_
  refine all_i fun l1 => ?_
  refine imp_i fun h2 => ?_
  have tkl1 := take_eq h2
  try simp only [tkl1]
  refine imp_i fun h3 => ?_
  refine all_i fun n2 => ?_
  refine imp_i fun h4 => ?_
  refine imp_i fun h5 => ?_
  refine all_i fun n3 => ?_
  refine imp_i fun h6 => ?_
  refine imp_i fun h7 => ?_
  refine imp_i fun h8 => ?_
  try simp only [sigVal, cS2, cV, valPost, List.cons.injEq, DV.b.injEq, and_true, List.length_cons, List.length_nil] at h8
  refine bR_dec (fun h9 => ?_) (fun h9 => ?_)
  ·
   refine req_i ?_ ?_
   · -- r0
    exact .inl ⟨.inl (by omega), rfl, rfl, rfl⟩
   rfl
  ·
   refine bR_dec (fun h10 => ?_) (fun h10 => ?_)
   ·
    refine req_i ?_ ?_
    · -- r1
     exact .inl ⟨.inl (by omega), rfl, rfl, rfl⟩
    rfl
   ·
    refine bR_dec (fun h11 => ?_) (fun h11 => ?_)
    ·
     refine req_i ?_ ?_
     · -- r2
      exact .inl ⟨.inl (by omega), rfl, rfl, rfl⟩
     rfl
    ·
     refine bR_dec (fun h12 => ?_) (fun h12 => ?_)
     ·
      refine req_i ?_ ?_
      · -- r3
       exact .inl ⟨.inl (by omega), rfl, rfl, rfl⟩
      rfl
     ·
      refine req_i ?_ ?_
      · -- r4
       first | omega | ((try simp only [Nat.mul_eq]); first | done | omega | assumption | grind [getD_set, getD_rep, toNat_succ, cntN_yes, cntN_no])
      refine req_i ?_ ?_
      · -- r5
       first | omega | ((try simp only [Nat.zero_add]); first | done | omega | assumption | grind [getD_set, getD_rep, toNat_succ, cntN_yes, cntN_no])
      refine req_i ?_ ?_
      · -- r6
       first | omega | ((try simp only [List.take_nil, List.take_zero, List.length_take, List.take_length, List.take_take, Nat.min_self, List.drop_nil, List.length_drop, List.drop_zero, List.length_cons, List.length_nil]); first | done | omega | assumption | grind [getD_set, getD_rep, toNat_succ, cntN_yes, cntN_no])
      refine req_i ?_ ?_
      · -- r7
       first | assumption | exact rep_bd (by omega) (by omega) | exact set_bd (by assumption) (by omega) (by omega) | exact take_bd (by assumption) | ((try simp only [List.take_nil, List.take_zero, List.length_take, List.take_length, List.take_take, Nat.min_self, List.drop_nil, List.length_drop, List.drop_zero, List.length_cons, List.length_nil]); first | assumption | exact rep_bd (by omega) (by omega) | exact set_bd (by assumption) (by omega) (by omega) | exact take_bd (by assumption) | grind [getD_set, getD_rep, toNat_succ, cntN_yes, cntN_no])
      refine req_i ?_ ?_
      · -- r8
       first | omega | ((try simp only [List.take_nil, List.take_zero, List.length_take, List.take_length, List.take_take, Nat.min_self, List.drop_nil, List.length_drop, List.drop_zero, List.length_cons, List.length_nil]); first | done | omega | assumption | grind [getD_set, getD_rep, toNat_succ, cntN_yes, cntN_no])
      refine req_i ?_ ?_
      · -- r9
       first | assumption | exact rep_bd (by omega) (by omega) | exact set_bd (by assumption) (by omega) (by omega) | exact take_bd (by assumption) | ((try simp only [List.take_nil, List.take_zero, List.length_take, List.take_length, List.take_take, Nat.min_self, List.drop_nil, List.length_drop, List.drop_zero, List.length_cons, List.length_nil]); first | assumption | exact rep_bd (by omega) (by omega) | exact set_bd (by assumption) (by omega) (by omega) | exact take_bd (by assumption) | grind [getD_set, getD_rep, toNat_succ, cntN_yes, cntN_no])
      refine req_i ?_ ?_
      · -- r10
       first | omega | ((try simp only [chkVL, cS2, chkVInv, mea1, List.cons.injEq, DV.b.injEq, and_true, List.take_nil, List.take_zero, List.length_take, List.take_length, List.take_take, Nat.min_self, List.drop_nil, List.length_drop, List.drop_zero, List.length_cons, List.length_nil]); first | done | omega | assumption | grind [getD_set, getD_rep, toNat_succ, cntN_yes, cntN_no])
      refine all_i fun n4 => ?_
      refine imp_i fun h13 => ?_
      refine imp_i fun h14 => ?_
      refine imp_i fun h15 => ?_
      try simp only [chkVL, cS2, chkVInv, mea1, List.cons.injEq, DV.b.injEq, and_true, List.take_nil, List.take_zero, List.length_take, List.take_length, List.take_take, Nat.min_self, List.drop_nil, List.length_drop, List.drop_zero, List.length_cons, List.length_nil] at h15
      refine bR_dec (fun h16 => ?_) (fun h16 => ?_)
      ·
       refine req_i ?_ ?_
       · -- r11
        first | omega | ((try simp only [Int.toNat_natCast, List.length_cons, List.length_nil]); first | done | omega | assumption | grind [getD_set, getD_rep, toNat_succ, cntN_yes, cntN_no])
       refine req_i ?_ ?_
       · -- r12
        first | omega | ((try simp only [Int.toNat_natCast, List.length_cons, List.length_nil, Nat.add_eq, Nat.zero_add, Nat.add_zero]); first | done | omega | assumption | grind [getD_set, getD_rep, toNat_succ, cntN_yes, cntN_no])
       refine req_i ?_ ?_
       · -- r13
        first | omega | ((try simp only [Int.toNat_natCast, List.length_cons, List.length_nil, Nat.add_eq, Nat.zero_add, Nat.add_zero]); first | done | omega | assumption | grind [getD_set, getD_rep, toNat_succ, cntN_yes, cntN_no])
       refine bR_dec (fun h17 => ?_) (fun h17 => ?_)
       ·
        refine req_i ?_ ?_
        · -- r14
         exact .inl ⟨.inr (fun g => by have := g n4.toNat (by omega); omega), rfl, rfl, rfl⟩
        rfl
       ·
        refine bR_dec (fun h18 => ?_) (fun h18 => ?_)
        ·
         refine req_i ?_ ?_
         · -- r15
          exact .inl ⟨.inr (fun g => by have := g n4.toNat (by omega); omega), rfl, rfl, rfl⟩
         rfl
        ·
         refine bR_t ?_ ?_
         · -- g0
          first | rfl | (simp only [bR_iff, bR_iff_f, dec_iff, dec_f, beqB_iff', andB_iff', reduceCtorEq, imp_self, false_implies, and_true, true_and, implies_true, and_self]; done) | (simp [bR_iff, dec_iff, beqB_iff', andB_iff']; done) | (simp [bR_iff, dec_iff, beqB_iff', andB_iff']; omega)
         refine req_i ?_ ?_
         · -- r16
          first | omega | assumption | grind
         refine req_i ?_ ?_
         · -- r17
          first | omega | assumption | grind
         refine req_i ?_ ?_
         · -- r18
          simp only [chkVL, chkVInv, List.drop_zero, List.take_length, Nat.add_eq, Nat.zero_add]; exact ⟨by omega, by omega, fun j hj => by rcases Int.lt_or_le (j : Int) n4 with x | x; exact h15.2.2 j x; rw [show j = n4.toNat by omega]; omega⟩
         refine req_i ?_ ?_
         · -- r19
          first | omega | ((try simp only [chkVL, cS2, chkVInv, mea1, List.cons.injEq, DV.b.injEq, and_true, List.take_nil, List.take_zero, List.length_take, List.take_length, List.take_take, Nat.min_self, List.drop_nil, List.length_drop, List.drop_zero, List.length_cons, List.length_nil]); first | done | omega | assumption | grind [getD_set, getD_rep, toNat_succ, cntN_yes, cntN_no])
         rfl
      ·
       have ins : insA l0 l1 := fun j hj => h15.2.2 j (by omega)
       obtain ⟨im, im2⟩ := ins_mem h2 ins
       have nb : ¬badV l0 l1 n2 n3 := fun g => g.elim (fun g => g ⟨by omega, by omega, by omega, by omega⟩) (fun g => g ins)
       refine all_i fun n5 => ?_
       refine imp_i fun h19 => ?_
       simp only [wrap_i64] at h19
       replace h19 : n5 = n3 + n2 := by omega
       refine imp_i fun h20 => ?_
       refine imp_i fun h21 => ?_
       refine bR_dec (fun h22 => ?_) (fun h22 => ?_)
       ·
        refine req_i ?_ ?_
        · -- r20
         exact .inr (.inl ⟨nb, by omega, rfl, rfl, rfl⟩)
        rfl
       ·
        refine req_i ?_ ?_
        · -- r21
         first | omega | assumption | grind
        refine req_i ?_ ?_
        · -- r22
         first | omega | ((try simp only [Int.toNat_natCast, List.length_cons, List.length_nil]); first | done | omega | assumption | grind [getD_set, getD_rep, toNat_succ, cntN_yes, cntN_no])
        refine req_i ?_ ?_
        · -- r23
         first | omega | ((try simp only [Nat.zero_add]); first | done | omega | assumption | grind [getD_set, getD_rep, toNat_succ, cntN_yes, cntN_no])
        refine req_i ?_ ?_
        · -- r24
         first | omega | ((try simp only [Int.toNat_natCast, List.length_cons, List.length_nil, Nat.add_eq, Nat.zero_add, Nat.add_zero, Nat.mul_eq, Nat.sub_eq, Nat.sub_zero]); first | done | omega | assumption | grind [getD_set, getD_rep, toNat_succ, cntN_yes, cntN_no])
        refine req_i ?_ ?_
        · -- r25
         first | omega | ((try simp only [Int.toNat_natCast, List.length_cons, List.length_nil, Nat.sub_eq, Nat.sub_zero]); first | done | omega | assumption | grind [getD_set, getD_rep, toNat_succ, cntN_yes, cntN_no])
        refine req_i ?_ ?_
        · -- r26
         first | omega | ((try simp only [Int.toNat_natCast, List.take_nil, List.take_zero, List.length_take, List.take_length, List.take_take, Nat.min_self, List.drop_nil, List.length_drop, List.drop_zero, List.length_cons, List.length_nil, Nat.add_eq, Nat.zero_add, Nat.add_zero, Nat.sub_eq, Nat.sub_zero]); first | done | omega | assumption | grind [getD_set, getD_rep, toNat_succ, cntN_yes, cntN_no])
        refine req_i ?_ ?_
        · -- r27
         first | assumption | exact rep_bd (by omega) (by omega) | exact set_bd (by assumption) (by omega) (by omega) | exact take_bd (by assumption) | ((try simp only [Int.toNat_natCast, List.take_nil, List.take_zero, List.length_take, List.take_length, List.take_take, Nat.min_self, List.drop_nil, List.length_drop, List.drop_zero, List.length_cons, List.length_nil, Nat.add_eq, Nat.zero_add, Nat.add_zero, Nat.sub_eq, Nat.sub_zero]); first | assumption | exact rep_bd (by omega) (by omega) | exact set_bd (by assumption) (by omega) (by omega) | exact take_bd (by assumption) | grind [getD_set, getD_rep, toNat_succ, cntN_yes, cntN_no])
        refine req_i ?_ ?_
        · -- r28
         first | omega | ((try simp only [Int.toNat_natCast, List.take_nil, List.take_zero, List.length_take, List.take_length, List.take_take, Nat.min_self, List.drop_nil, List.length_drop, List.drop_zero, List.length_cons, List.length_nil, Nat.add_eq, Nat.zero_add, Nat.add_zero, Nat.sub_eq, Nat.sub_zero]); first | done | omega | assumption | grind [getD_set, getD_rep, toNat_succ, cntN_yes, cntN_no])
        refine req_i ?_ ?_
        · -- r29
         first | assumption | exact rep_bd (by omega) (by omega) | exact set_bd (by assumption) (by omega) (by omega) | exact take_bd (by assumption) | ((try simp only [Int.toNat_natCast, List.take_nil, List.take_zero, List.length_take, List.take_length, List.take_take, Nat.min_self, List.drop_nil, List.length_drop, List.drop_zero, List.length_cons, List.length_nil, Nat.add_eq, Nat.zero_add, Nat.add_zero, Nat.sub_eq, Nat.sub_zero]); first | assumption | exact rep_bd (by omega) (by omega) | exact set_bd (by assumption) (by omega) (by omega) | exact take_bd (by assumption) | grind [getD_set, getD_rep, toNat_succ, cntN_yes, cntN_no])
        refine req_i ?_ ?_
        · -- r30
         first | omega | assumption | grind
        refine req_i ?_ ?_
        · -- r31
         first | omega | assumption | grind
        refine req_i ?_ ?_
        · -- r32
         exact ⟨by omega, by rw [List.length_take, List.length_drop]; omega, by simp, by simp, fun j hj => absurd hj (Nat.not_lt_zero j), fun j hj => absurd hj (Nat.not_lt_zero j)⟩
        refine all_i fun m6 => ?_
        refine all_i fun m7 => ?_
        refine all_i fun l8 => ?_
        refine imp_i fun h23 => ?_
        refine imp_i fun h24 => ?_
        refine all_i fun l9 => ?_
        refine imp_i fun h25 => ?_
        have tkl9 := take_eq h25
        try simp only [tkl9]
        refine imp_i fun h26 => ?_
        refine imp_i fun h27 => ?_
        try simp only [chunkL, cV, cS2, chunkInv, chunkMea, List.cons.injEq, DV.b.injEq, and_true, Int.toNat_natCast, List.take_nil, List.take_zero, List.length_take, List.take_length, List.take_take, Nat.min_self, List.drop_nil, List.length_drop, List.drop_zero, List.length_cons, List.length_nil, Nat.add_eq, Nat.zero_add, Nat.add_zero, Nat.sub_eq, Nat.sub_zero] at h27
        have mn := mul_nn (n := l8.length) (pb := n2) (by omega)
        have kx : (List.take (l0.length - n3.toNat) (List.drop n3.toNat l0)).length = l0.length - n3.toNat := by rw [List.length_take, List.length_drop]; omega
        have ky : (List.take (l0.length - n3.toNat) (List.drop n3.toNat l1)).length = l0.length - n3.toNat := by rw [List.length_take, List.length_drop]; omega
        refine bR_dec (fun h28 => ?_) (fun h28 => ?_)
        ·
         refine req_i ?_ ?_
         · -- r33
          first | omega | assumption | grind
         refine req_i ?_ ?_
         · -- r34
          first | omega | assumption | grind
         refine req_i ?_ ?_
         · -- r35
          first | omega | assumption | grind
         refine req_i ?_ ?_
         · -- r36
          first | omega | ((try simp only [Int.toNat_natCast, List.length_cons, List.length_nil, Nat.add_eq, Nat.zero_add, Nat.add_zero, Nat.mul_eq, Nat.sub_eq, Nat.sub_zero]); first | done | omega | assumption | grind [getD_set, getD_rep, toNat_succ, cntN_yes, cntN_no])
         refine req_i ?_ ?_
         · -- r37
          first | omega | assumption | grind
         refine req_i ?_ ?_
         · -- r38
          first | omega | ((try simp only [Int.toNat_natCast, List.take_nil, List.take_zero, List.length_take, List.take_length, List.take_take, Nat.min_self, List.drop_nil, List.length_drop, List.drop_zero, List.length_cons, List.length_nil, Nat.add_eq, Nat.zero_add, Nat.add_zero, Nat.sub_eq, Nat.sub_zero]); first | done | omega | assumption | grind [getD_set, getD_rep, toNat_succ, cntN_yes, cntN_no])
         refine req_i ?_ ?_
         · -- r39
          first | exact take_bd (drop_bd im) | ((try simp only [Nat.add_zero, Nat.add_eq, Nat.sub_eq, Nat.sub_zero]); exact take_bd (drop_bd im))
         refine req_i ?_ ?_
         · -- r40
          first | omega | ((try simp only [Int.toNat_natCast, List.take_nil, List.take_zero, List.length_take, List.take_length, List.take_take, Nat.min_self, List.drop_nil, List.length_drop, List.drop_zero, List.length_cons, List.length_nil, Nat.add_eq, Nat.zero_add, Nat.add_zero, Nat.sub_eq, Nat.sub_zero]); first | done | omega | assumption | grind [getD_set, getD_rep, toNat_succ, cntN_yes, cntN_no])
         refine req_i ?_ ?_
         · -- r41
          first | exact take_bd (drop_bd im2) | ((try simp only [Nat.add_zero, Nat.add_eq, Nat.sub_eq, Nat.sub_zero]); exact take_bd (drop_bd im2))
         refine req_i ?_ ?_
         · -- r42
          exact ⟨by omega, by omega, rfl, rfl⟩
         refine all_i fun n10 => ?_
         refine imp_i fun h29 => ?_
         refine imp_i fun h30 => ?_
         refine all_i fun n11 => ?_
         refine imp_i fun h31 => ?_
         refine imp_i fun h32 => ?_
         refine all_i fun n12 => ?_
         refine imp_i fun h33 => ?_
         refine imp_i fun h34 => ?_
         refine imp_i fun h35 => ?_
         try simp only [bodyL, cP, bodyInv, mea1, List.cons.injEq, DV.b.injEq, and_true, Int.toNat_natCast, List.take_nil, List.take_zero, List.length_take, List.take_length, List.take_take, Nat.min_self, List.drop_nil, List.length_drop, List.drop_zero, List.length_cons, List.length_nil, Nat.add_eq, Nat.zero_add, Nat.add_zero, Nat.sub_eq, Nat.sub_zero] at h35
         refine bR_dec (fun h36 => ?_) (fun h36 => ?_)
         ·
          have kp : (List.take n2.toNat (List.drop m6 l0)).length = n2.toNat := by rw [List.length_take, List.length_drop]; omega
          have pm := take_bd (n := n2.toNat) (drop_bd (n := m6) im)
          have pm2 := take_bd (n := n2.toNat) (drop_bd (n := m6) im2)
          have b1 := sumS_bd (s := 0) (n := n10.toNat) pm
          have b2 := sumS_bd (s := 0) (n := n10.toNat) pm2
          have e1 := sumS_next (x := List.take n2.toNat (List.drop m6 l0)) (i := n10) (by omega)
          have e2 := sumS_next (x := List.take n2.toNat (List.drop m6 l1)) (i := n10) (by omega)
          rw [td_get (by omega)] at e1 e2
          have gb := getD_bd (i := m6 + n10.toNat) im (by omega) (by omega)
          have gb2 := getD_bd (i := m6 + n10.toNat) im2 (by omega) (by omega)
          refine req_i ?_ ?_
          · -- r43
           first | omega | assumption | grind
          refine req_i ?_ ?_
          · -- r44
           first | omega | ((try simp only [Int.toNat_natCast, List.length_cons, List.length_nil, Nat.add_eq, Nat.zero_add, Nat.add_zero]); first | done | omega | assumption | grind [getD_set, getD_rep, toNat_succ, cntN_yes, cntN_no])
          refine req_i ?_ ?_
          · -- r45
           first | omega | ((try simp only [Int.toNat_natCast, List.length_cons, List.length_nil, Nat.add_eq, Nat.zero_add, Nat.add_zero]); first | done | omega | assumption | grind [getD_set, getD_rep, toNat_succ, cntN_yes, cntN_no])
          refine all_i fun n13 => ?_
          refine imp_i fun h37 => ?_
          simp only [wrap_i64] at h37
          replace h37 : n13 = n11 + l0.getD (m6 + n10.toNat) 0 := by omega
          refine imp_i fun h38 => ?_
          refine imp_i fun h39 => ?_
          refine all_i fun n14 => ?_
          refine imp_i fun h40 => ?_
          simp only [wrap_i64] at h40
          replace h40 : n14 = n12 + l1.getD (m6 + n10.toNat) 0 := by omega
          refine imp_i fun h41 => ?_
          refine imp_i fun h42 => ?_
          refine bR_t ?_ ?_
          · -- g1
           first | (simp only [sameRT_self, bR_iff, bR_iff_f, dec_iff, dec_f, beqB_iff', andB_iff', reduceCtorEq, imp_self, false_implies, and_true, true_and, implies_true, and_self, not_true_eq_false, forall_const]; done) | (simp [sameRT_self, bR_iff, dec_iff, beqB_iff', andB_iff']; done) | (simp [sameRT_self, bR_iff, dec_iff, beqB_iff', andB_iff']; omega)
          refine bR_t ?_ ?_
          · -- g2
           first | rfl | (simp only [bR_iff, bR_iff_f, dec_iff, dec_f, beqB_iff', andB_iff', reduceCtorEq, imp_self, false_implies, and_true, true_and, implies_true, and_self]; done) | (simp [bR_iff, dec_iff, beqB_iff', andB_iff']; done) | (simp [bR_iff, dec_iff, beqB_iff', andB_iff']; omega)
          refine bR_t ?_ ?_
          · -- g3
           first | rfl | (simp only [bR_iff, bR_iff_f, dec_iff, dec_f, beqB_iff', andB_iff', reduceCtorEq, imp_self, false_implies, and_true, true_and, implies_true, and_self]; done) | (simp [bR_iff, dec_iff, beqB_iff', andB_iff']; done) | (simp [bR_iff, dec_iff, beqB_iff', andB_iff']; omega)
          refine req_i ?_ ?_
          · -- r46
           first | omega | assumption | grind
          refine req_i ?_ ?_
          · -- r47
           first | omega | assumption | grind
          refine req_i ?_ ?_
          · -- r48
           first | omega | assumption | grind
          refine req_i ?_ ?_
          · -- r49
           first | omega | assumption | grind
          refine req_i ?_ ?_
          · -- r50
           first | omega | assumption | grind
          refine req_i ?_ ?_
          · -- r51
           first | omega | assumption | grind
          refine req_i ?_ ?_
          · -- r52
           exact ⟨by omega, by omega, by omega, by omega⟩
          refine req_i ?_ ?_
          · -- r53
           first | omega | ((try simp only [bodyL, cP, bodyInv, mea1, List.cons.injEq, DV.b.injEq, and_true, Int.toNat_natCast, List.take_nil, List.take_zero, List.length_take, List.take_length, List.take_take, Nat.min_self, List.drop_nil, List.length_drop, List.drop_zero, List.length_cons, List.length_nil, Nat.add_eq, Nat.zero_add, Nat.add_zero, Nat.sub_eq, Nat.sub_zero]); first | done | omega | assumption | grind [getD_set, getD_rep, toNat_succ, cntN_yes, cntN_no])
          rfl
         ·
          have q1 : n11 = sumS (List.take (l0.length - n3.toNat) (List.drop n3.toNat l0)) ((l8.length : Int) * n2) n2.toNat := by
            rw [h35.2.2.1, show n10.toNat = n2.toNat by omega, sumS_td (by omega) (by omega), sumS_td (by omega) (by omega)]; congr 1; omega
          have q2 : n12 = sumS (List.take (l0.length - n3.toNat) (List.drop n3.toNat l1)) ((l8.length : Int) * n2) n2.toNat := by
            rw [h35.2.2.2, show n10.toNat = n2.toNat by omega, sumS_td (by omega) (by omega), sumS_td (by omega) (by omega)]; congr 1; omega
          have tk8 := take_snoc (l := l8) (m := l8) (x := n11) rfl
          have tk9 := take_snoc (l := l8) (m := l9) (x := n12) h25
          have cn := chunk_next (o0 := n3.toNat) (L0 := l0.length - n3.toNat) (o := m6) (len := m7) (o' := m6 + n2.toNat) (len' := m7 - n2.toNat) (a := n11) (b := n12) h25 ⟨h27.1, by rw [kx], h27.2.2⟩ (by omega) (by omega) q1 q2
          have l8b : l8.length + 1 ≤ 200 := by
            have := Int.mul_le_mul_of_nonneg_left (show (1 : Int) ≤ n2 by omega) (show (0 : Int) ≤ l8.length + 1 by omega)
            simp only [Int.add_mul, Int.one_mul, Int.mul_one] at this; omega
          refine req_i ?_ ?_
          · -- r54
           first | omega | ((try simp only [Nat.zero_add]); first | done | omega | assumption | grind [getD_set, getD_rep, toNat_succ, cntN_yes, cntN_no])
          refine req_i ?_ ?_
          · -- r55
           first | omega | ((try simp only [Nat.mul_eq]); first | done | omega | assumption | grind [getD_set, getD_rep, toNat_succ, cntN_yes, cntN_no])
          refine req_i ?_ ?_
          · -- r56
           first | omega | assumption | grind
          refine req_i ?_ ?_
          · -- r57
           first | omega | assumption | grind
          refine req_i ?_ ?_
          · -- r58
           first | omega | assumption | grind
          refine bR_t ?_ ?_
          · -- g4
           first | (simp only [sameRT_self, bR_iff, bR_iff_f, dec_iff, dec_f, beqB_iff', andB_iff', reduceCtorEq, imp_self, false_implies, and_true, true_and, implies_true, and_self, not_true_eq_false, forall_const]; done) | (simp [sameRT_self, bR_iff, dec_iff, beqB_iff', andB_iff']; done) | (simp [sameRT_self, bR_iff, dec_iff, beqB_iff', andB_iff']; omega)
          refine bR_t ?_ ?_
          · -- g5
           first | rfl | (simp only [bR_iff, bR_iff_f, dec_iff, dec_f, beqB_iff', andB_iff', reduceCtorEq, imp_self, false_implies, and_true, true_and, implies_true, and_self]; done) | (simp [bR_iff, dec_iff, beqB_iff', andB_iff']; done) | (simp [bR_iff, dec_iff, beqB_iff', andB_iff']; omega)
          refine req_i ?_ ?_
          · -- r59
           first | omega | ((try simp only [Nat.add_eq, Nat.zero_add, Nat.add_zero, Nat.mul_eq]); first | done | omega | assumption | grind [getD_set, getD_rep, toNat_succ, cntN_yes, cntN_no])
          refine req_i ?_ ?_
          · -- r60
           first | omega | ((try simp only [Nat.add_eq, Nat.zero_add, Nat.add_zero]); first | done | omega | assumption | grind [getD_set, getD_rep, toNat_succ, cntN_yes, cntN_no])
          refine req_i ?_ ?_
          · -- r61
           first | omega | ((try simp only [List.take_nil, List.take_zero, List.length_take, List.take_length, List.take_take, Nat.min_self, List.drop_nil, List.length_drop, List.drop_zero, List.nil_append, List.length_append, List.length_cons, List.length_nil, Nat.add_eq, Nat.zero_add, Nat.add_zero]); first | done | omega | assumption | grind [getD_set, getD_rep, toNat_succ, cntN_yes, cntN_no])
          refine req_i ?_ ?_
          · -- r62
           rw [tk8]; exact app_bd h24 (one_bd (by omega) (by omega))
          refine req_i ?_ ?_
          · -- r63
           first | omega | ((try simp only [List.take_nil, List.take_zero, List.length_take, List.take_length, List.take_take, Nat.min_self, List.drop_nil, List.length_drop, List.drop_zero, List.nil_append, List.length_append, List.length_cons, List.length_nil, Nat.add_eq, Nat.zero_add, Nat.add_zero]); first | done | omega | assumption | grind [getD_set, getD_rep, toNat_succ, cntN_yes, cntN_no])
          refine req_i ?_ ?_
          · -- r64
           rw [tk9]; exact app_bd h26 (one_bd (by omega) (by omega))
          refine req_i ?_ ?_
          · -- r65
           rw [tk8, tk9]; exact cn
          refine req_i ?_ ?_
          · -- r66
           first | omega | ((try simp only [chunkL, cV, cS2, chunkInv, chunkMea, List.cons.injEq, DV.b.injEq, and_true, Int.toNat_natCast, List.take_nil, List.take_zero, List.length_take, List.take_length, List.take_take, Nat.min_self, List.drop_nil, List.length_drop, List.drop_zero, List.nil_append, List.length_append, List.length_cons, List.length_nil, Nat.add_eq, Nat.zero_add, Nat.add_zero, Nat.sub_eq, Nat.sub_zero]); first | done | omega | assumption | grind [getD_set, getD_rep, toNat_succ, cntN_yes, cntN_no])
          rfl
        ·
         refine req_i ?_ ?_
         · -- r67
          first | omega | ((try simp only [Nat.mul_eq]); first | done | omega | assumption | grind [getD_set, getD_rep, toNat_succ, cntN_yes, cntN_no])
         refine req_i ?_ ?_
         · -- r68
          first | omega | ((try simp only [Nat.zero_add]); first | done | omega | assumption | grind [getD_set, getD_rep, toNat_succ, cntN_yes, cntN_no])
         refine req_i ?_ ?_
         · -- r69
          first | omega | ((try simp only [List.take_nil, List.take_zero, List.length_take, List.take_length, List.take_take, Nat.min_self, List.drop_nil, List.length_drop, List.drop_zero, List.length_cons, List.length_nil]); first | done | omega | assumption | grind [getD_set, getD_rep, toNat_succ, cntN_yes, cntN_no])
         refine req_i ?_ ?_
         · -- r70
          first | assumption | exact rep_bd (by omega) (by omega) | exact set_bd (by assumption) (by omega) (by omega) | exact take_bd (by assumption) | ((try simp only [List.take_nil, List.take_zero, List.length_take, List.take_length, List.take_take, Nat.min_self, List.drop_nil, List.length_drop, List.drop_zero, List.length_cons, List.length_nil]); first | assumption | exact rep_bd (by omega) (by omega) | exact set_bd (by assumption) (by omega) (by omega) | exact take_bd (by assumption) | grind [getD_set, getD_rep, toNat_succ, cntN_yes, cntN_no])
         refine req_i ?_ ?_
         · -- r71
          first | omega | ((try simp only [List.take_nil, List.take_zero, List.length_take, List.take_length, List.take_take, Nat.min_self, List.drop_nil, List.length_drop, List.drop_zero, List.length_cons, List.length_nil]); first | done | omega | assumption | grind [getD_set, getD_rep, toNat_succ, cntN_yes, cntN_no])
         refine req_i ?_ ?_
         · -- r72
          first | assumption | exact rep_bd (by omega) (by omega) | exact set_bd (by assumption) (by omega) (by omega) | exact take_bd (by assumption) | ((try simp only [List.take_nil, List.take_zero, List.length_take, List.take_length, List.take_take, Nat.min_self, List.drop_nil, List.length_drop, List.drop_zero, List.length_cons, List.length_nil]); first | assumption | exact rep_bd (by omega) (by omega) | exact set_bd (by assumption) (by omega) (by omega) | exact take_bd (by assumption) | grind [getD_set, getD_rep, toNat_succ, cntN_yes, cntN_no])
         refine req_i ?_ ?_
         · -- r73
          exact .inr (.inr ⟨nb, by omega, val_prog (m := m7) (by omega) (by omega) (by omega) (by omega) h27.2.2.2.2.1 h28, (by have e := val_prog (x := l1) (u := l9) (pb := n2) (a := n3) (m := m7) (by omega) (by omega) (by omega) (by rw [h2, h25]; omega) (fun j hj => by rw [h2]; exact h27.2.2.2.2.2 j (by omega)) h28; exact e), rfl⟩)
         rfl
theorem ext_val : ∀ p ∈ ([] : List (Nat × Ext)), ExtRow Try.prog p.1 p.2 := by
  intro p hp
  cases hp
theorem cts_val : CtsOk Try.prog [] := fun f c h => by cases h
theorem fn_val : FnOk Try.prog 14 sigVal [] := fn_sound (by kernel_rfl) ext_val cts_val names vt_val
end Go.Proofs.Ythfbhkeligmdfaa

namespace Go.Proofs.Ythfbhkeligmdfaa
open Go.Ev Go.Sp
set_option maxRecDepth 100000
theorem vc_read : vcFn Try.prog [(14, Ext.ctr (ctOf sigVal))] (fun f p _ => at2 f p 13 250 readL (none)) [] 100 13 sigRead = (allB fun l0 : List Int => 
impB (l0.length ≤ (200 : Nat)) (
impB (∀ (y : Int), y ∈ l0 → (-9223372036854775808 : Int) ≤ y ∧ y ≤ (9223372036854775807 : Int)) (
allB fun l1 : List Int => 
impB (l1.length = l0.length) (
impB (∀ (y : Int), y ∈ l1 → (-9223372036854775808 : Int) ≤ y ∧ y ≤ (9223372036854775807 : Int)) (
allB fun n2 : Int => 
impB ((-9223372036854775808 : Int) ≤ n2) (
impB (n2 ≤ (9223372036854775807 : Int)) (
allB fun n3 : Int => 
impB ((-9223372036854775808 : Int) ≤ n3) (
impB (n3 ≤ (9223372036854775807 : Int)) (
impB (sigRead.pre [DV.l l0, DV.l l1, DV.n n2, DV.n n3]) (
reqB (((0 : Nat) + l0.length) * (2 : Nat) ≤ l0.length.mul (2 : Nat)) (
reqB (l0.length ≤ (200 : Nat)) (
reqB ((List.take l0.length (List.drop (0 : Nat) l0)).length = l0.length) (
reqB (∀ (y : Int),
 y ∈ List.take l0.length (List.drop (0 : Nat) l0) → (-9223372036854775808 : Int) ≤ y ∧ y ≤ (9223372036854775807 : Int)) (
reqB ((List.take l0.length (List.drop (0 : Nat) l1)).length = l0.length) (
reqB (∀ (y : Int),
 y ∈ List.take l0.length (List.drop (0 : Nat) l1) → (-9223372036854775808 : Int) ≤ y ∧ y ≤ (9223372036854775807 : Int)) (
reqB ((-9223372036854775808 : Int) ≤ n2) (
reqB (n2 ≤ (9223372036854775807 : Int)) (
reqB ((-9223372036854775808 : Int) ≤ n3) (
reqB (n3 ≤ (9223372036854775807 : Int)) (
reqB (sigVal.pre
 [DV.l (List.take l0.length (List.drop (0 : Nat) l0)), DV.l (List.take l0.length (List.drop (0 : Nat) l1)),
 DV.n n2, DV.n n3]) (
allB fun l4 : List Int => 
impB (l4.length ≤ (200 : Nat)) (
impB (∀ (y : Int), y ∈ l4 → (-21000000 : Int) ≤ y ∧ y ≤ (21000000 : Int)) (
allB fun l5 : List Int => 
impB (l5.length = l4.length) (
impB (∀ (y : Int), y ∈ l5 → (-21000000 : Int) ≤ y ∧ y ≤ (21000000 : Int)) (
allB fun n6 : Int => 
impB ((0 : Int) ≤ n6) (
impB (n6 ≤ (18 : Int)) (
impB (sigVal.post
 [DV.l (List.take l0.length (List.drop (0 : Nat) l0)), DV.l (List.take l0.length (List.drop (0 : Nat) l1)),
 DV.n n2, DV.n n3]
 [DV.l l4, DV.l l5, DV.n n6]) (
bR (dec (n6 ≠ (0 : Int))) (
 reqB ((0 : Int) ≤ n6) (
 reqB (n6 ≤ (18 : Int)) (
 reqB (sigRead.post [DV.l l0, DV.l l1, DV.n n2, DV.n n3] [DV.l [], DV.n n6]) (
 true)))) (
 reqB ((↑l4.length : Int).toNat ≤ (↑l4.length : Int).toNat) (
 reqB ((↑l4.length : Int).toNat ≤ (1000000 : Nat)) (
 reqB (((0 : Nat) + l4.length) * (2 : Nat) ≤ l4.length.mul (2 : Nat)) (
 reqB (l4.length ≤ (200 : Nat)) (
 reqB ((List.take l4.length (List.drop (0 : Nat) l4)).length = l4.length) (
 reqB (∀ (y : Int), y ∈ List.take l4.length (List.drop (0 : Nat) l4) → (-21000000 : Int) ≤ y ∧ y ≤ (21000000 : Int)) (
 reqB ((List.take l4.length (List.drop (0 : Nat) l5)).length = l4.length) (
 reqB (∀ (y : Int), y ∈ List.take l4.length (List.drop (0 : Nat) l5) → (-21000000 : Int) ≤ y ∧ y ≤ (21000000 : Int)) (
 reqB (lenCols
 [Col.i Go.IntKind.i64 (Int.negSucc (9223372036854775807 : Nat)) (Int.ofNat (9223372036854775807 : Nat))
 (List.replicate (↑l4.length : Int).toNat (0 : Int))] ≤
 (200 : Nat)) (
 reqB ((List.replicate (↑l4.length : Int).toNat (0 : Int)).length =
 lenCols
 [Col.i Go.IntKind.i64 (Int.negSucc (9223372036854775807 : Nat)) (Int.ofNat (9223372036854775807 : Nat))
 (List.replicate (↑l4.length : Int).toNat (0 : Int))]) (
 reqB (∀ (y : Int), y ∈ List.replicate (↑l4.length : Int).toNat (0 : Int) → (0 : Int) ≤ y ∧ y ≤ (1 : Int)) (
 reqB (readL.inv
 [DV.l (List.take l4.length (List.drop (0 : Nat) l4)), DV.l (List.take l4.length (List.drop (0 : Nat) l5))]
 [DV.n (1 : Int), DV.l (List.replicate (↑l4.length : Int).toNat (0 : Int))]) (
 allB fun n7 : Int => 
 impB ((1 : Int) ≤ n7) (
 impB (n7 ≤ (250 : Int)) (
 allB fun l8 : List Int => 
 impB (l8.length ≤ (200 : Nat)) (
 impB (∀ (y : Int), y ∈ l8 → (0 : Int) ≤ y ∧ y ≤ (1 : Int)) (
 impB (readL.inv
 [DV.l (List.take l4.length (List.drop (0 : Nat) l4)), DV.l (List.take l4.length (List.drop (0 : Nat) l5))]
 [DV.n n7, DV.l l8]) (
 bR (dec (n7 < (↑l4.length : Int))) (
 reqB ((n7 - (1 : Int)).toNat < (↑l4.length : Int).toNat) (
 reqB (Nat.add (0 : Nat) (n7 - (1 : Int)).toNat < l8.length) (
 reqB (n7.toNat < (↑l4.length : Int).toNat) (
 reqB (Nat.add (0 : Nat) n7.toNat < l8.length) (
 reqB ((n7 - (1 : Int)).toNat < l4.length) (
 reqB (Nat.add (0 : Nat) (n7 - (1 : Int)).toNat < l4.length) (
 reqB (Nat.add (0 : Nat) (n7 - (1 : Int)).toNat < l5.length) (
 reqB (n7.toNat < l4.length) (
 reqB (Nat.add (0 : Nat) n7.toNat < l4.length) (
 reqB (Nat.add (0 : Nat) n7.toNat < l5.length) (
 bR (dec (l4.getD (Nat.add (0 : Nat) (n7 - (1 : Int)).toNat) (0 : Int) * l4.getD (Nat.add (0 : Nat) n7.toNat) (0 : Int) +
 l5.getD (Nat.add (0 : Nat) (n7 - (1 : Int)).toNat) (0 : Int) * l5.getD (Nat.add (0 : Nat) n7.toNat) (0 : Int) <
 (0 : Int))) (
 reqB (n7.toNat < (↑l4.length : Int).toNat) (
 reqB (Nat.add (0 : Nat) n7.toNat <
 (l8.set (Nat.add (0 : Nat) n7.toNat) (l8.getD (Nat.add (0 : Nat) (n7 - (1 : Int)).toNat) (0 : Int))).length) (
 reqB (n7.toNat < (↑l4.length : Int).toNat) (
 reqB (Nat.add (0 : Nat) n7.toNat <
 (l8.set (Nat.add (0 : Nat) n7.toNat) (l8.getD (Nat.add (0 : Nat) (n7 - (1 : Int)).toNat) (0 : Int))).length) (
 bR (bR (bR (dec ((0 : Nat) = (0 : Nat))) (
 dec (l4.length = l4.length)) (
 false)) (
 bR (bR (dec ((0 : Nat) = (0 : Nat))) (
 dec ((↑l4.length : Int).toNat = (↑l4.length : Int).toNat)) (
 false)) (
 true) (
 false)) (
 false)) (
 bR (bR (bR (dec (l4.length.mul (2 : Nat) = l4.length.mul (2 : Nat))) (
 dec ([Col.i Go.IntKind.i64 (-21000000 : Int) (21000000 : Int) l4,
 Col.i Go.IntKind.i64 (-21000000 : Int) (21000000 : Int) l5] =
 [Col.i Go.IntKind.i64 (-21000000 : Int) (21000000 : Int) l4,
 Col.i Go.IntKind.i64 (-21000000 : Int) (21000000 : Int) l5])) (
 false)) (
 true) (
 false)) (
 reqB ((1 : Int) ≤ n7 + (1 : Int)) (
 reqB (n7 + (1 : Int) ≤ (250 : Int)) (
 reqB (lenCols
 [Col.i Go.IntKind.i64 (0 : Int) (1 : Int)
 ((l8.set (Nat.add (0 : Nat) n7.toNat) (l8.getD (Nat.add (0 : Nat) (n7 - (1 : Int)).toNat) (0 : Int))).set
 (Nat.add (0 : Nat) n7.toNat)
 ((1 : Int) -
 (l8.set (Nat.add (0 : Nat) n7.toNat) (l8.getD (Nat.add (0 : Nat) (n7 - (1 : Int)).toNat) (0 : Int))).getD
 (Nat.add (0 : Nat) n7.toNat) (0 : Int)))] ≤
 (200 : Nat)) (
 reqB (((l8.set (Nat.add (0 : Nat) n7.toNat) (l8.getD (Nat.add (0 : Nat) (n7 - (1 : Int)).toNat) (0 : Int))).set
 (Nat.add (0 : Nat) n7.toNat)
 ((1 : Int) -
 (l8.set (Nat.add (0 : Nat) n7.toNat) (l8.getD (Nat.add (0 : Nat) (n7 - (1 : Int)).toNat) (0 : Int))).getD
 (Nat.add (0 : Nat) n7.toNat) (0 : Int))).length =
 lenCols
 [Col.i Go.IntKind.i64 (0 : Int) (1 : Int)
 ((l8.set (Nat.add (0 : Nat) n7.toNat) (l8.getD (Nat.add (0 : Nat) (n7 - (1 : Int)).toNat) (0 : Int))).set
 (Nat.add (0 : Nat) n7.toNat)
 ((1 : Int) -
 (l8.set (Nat.add (0 : Nat) n7.toNat) (l8.getD (Nat.add (0 : Nat) (n7 - (1 : Int)).toNat) (0 : Int))).getD
 (Nat.add (0 : Nat) n7.toNat) (0 : Int)))]) (
 reqB (∀ (y : Int),
 y ∈
 (l8.set (Nat.add (0 : Nat) n7.toNat) (l8.getD (Nat.add (0 : Nat) (n7 - (1 : Int)).toNat) (0 : Int))).set
 (Nat.add (0 : Nat) n7.toNat)
 ((1 : Int) -
 (l8.set (Nat.add (0 : Nat) n7.toNat) (l8.getD (Nat.add (0 : Nat) (n7 - (1 : Int)).toNat) (0 : Int))).getD
 (Nat.add (0 : Nat) n7.toNat) (0 : Int)) →
 (0 : Int) ≤ y ∧ y ≤ (1 : Int)) (
 reqB (readL.inv
 [DV.l (List.take l4.length (List.drop (0 : Nat) l4)), DV.l (List.take l4.length (List.drop (0 : Nat) l5))]
 [DV.n (n7 + (1 : Int)),
 DV.l
 ((l8.set (Nat.add (0 : Nat) n7.toNat) (l8.getD (Nat.add (0 : Nat) (n7 - (1 : Int)).toNat) (0 : Int))).set
 (Nat.add (0 : Nat) n7.toNat)
 ((1 : Int) -
 (l8.set (Nat.add (0 : Nat) n7.toNat) (l8.getD (Nat.add (0 : Nat) (n7 - (1 : Int)).toNat) (0 : Int))).getD
 (Nat.add (0 : Nat) n7.toNat) (0 : Int)))]) (
 reqB (readL.mea
 [DV.l (List.take l4.length (List.drop (0 : Nat) l4)),
 DV.l (List.take l4.length (List.drop (0 : Nat) l5))]
 [DV.n (n7 + (1 : Int)),
 DV.l
 ((l8.set (Nat.add (0 : Nat) n7.toNat) (l8.getD (Nat.add (0 : Nat) (n7 - (1 : Int)).toNat) (0 : Int))).set
 (Nat.add (0 : Nat) n7.toNat)
 ((1 : Int) -
 (l8.set (Nat.add (0 : Nat) n7.toNat) (l8.getD (Nat.add (0 : Nat) (n7 - (1 : Int)).toNat) (0 : Int))).getD
 (Nat.add (0 : Nat) n7.toNat) (0 : Int)))] <
 readL.mea
 [DV.l (List.take l4.length (List.drop (0 : Nat) l4)),
 DV.l (List.take l4.length (List.drop (0 : Nat) l5))]
 [DV.n n7, DV.l l8]) (
 true)))))))) (
 false)) (
 false)))))) (
 bR (bR (bR (dec ((0 : Nat) = (0 : Nat))) (
 dec (l4.length = l4.length)) (
 false)) (
 bR (bR (dec ((0 : Nat) = (0 : Nat))) (
 dec ((↑l4.length : Int).toNat = (↑l4.length : Int).toNat)) (
 false)) (
 true) (
 false)) (
 false)) (
 bR (bR (bR (dec (l4.length.mul (2 : Nat) = l4.length.mul (2 : Nat))) (
 dec ([Col.i Go.IntKind.i64 (-21000000 : Int) (21000000 : Int) l4,
 Col.i Go.IntKind.i64 (-21000000 : Int) (21000000 : Int) l5] =
 [Col.i Go.IntKind.i64 (-21000000 : Int) (21000000 : Int) l4,
 Col.i Go.IntKind.i64 (-21000000 : Int) (21000000 : Int) l5])) (
 false)) (
 true) (
 false)) (
 reqB ((1 : Int) ≤ n7 + (1 : Int)) (
 reqB (n7 + (1 : Int) ≤ (250 : Int)) (
 reqB (lenCols
 [Col.i Go.IntKind.i64 (0 : Int) (1 : Int)
 (l8.set (Nat.add (0 : Nat) n7.toNat) (l8.getD (Nat.add (0 : Nat) (n7 - (1 : Int)).toNat) (0 : Int)))] ≤
 (200 : Nat)) (
 reqB ((l8.set (Nat.add (0 : Nat) n7.toNat) (l8.getD (Nat.add (0 : Nat) (n7 - (1 : Int)).toNat) (0 : Int))).length =
 lenCols
 [Col.i Go.IntKind.i64 (0 : Int) (1 : Int)
 (l8.set (Nat.add (0 : Nat) n7.toNat) (l8.getD (Nat.add (0 : Nat) (n7 - (1 : Int)).toNat) (0 : Int)))]) (
 reqB (∀ (y : Int),
 y ∈ l8.set (Nat.add (0 : Nat) n7.toNat) (l8.getD (Nat.add (0 : Nat) (n7 - (1 : Int)).toNat) (0 : Int)) →
 (0 : Int) ≤ y ∧ y ≤ (1 : Int)) (
 reqB (readL.inv
 [DV.l (List.take l4.length (List.drop (0 : Nat) l4)), DV.l (List.take l4.length (List.drop (0 : Nat) l5))]
 [DV.n (n7 + (1 : Int)),
 DV.l (l8.set (Nat.add (0 : Nat) n7.toNat) (l8.getD (Nat.add (0 : Nat) (n7 - (1 : Int)).toNat) (0 : Int)))]) (
 reqB (readL.mea
 [DV.l (List.take l4.length (List.drop (0 : Nat) l4)),
 DV.l (List.take l4.length (List.drop (0 : Nat) l5))]
 [DV.n (n7 + (1 : Int)),
 DV.l (l8.set (Nat.add (0 : Nat) n7.toNat) (l8.getD (Nat.add (0 : Nat) (n7 - (1 : Int)).toNat) (0 : Int)))] <
 readL.mea
 [DV.l (List.take l4.length (List.drop (0 : Nat) l4)),
 DV.l (List.take l4.length (List.drop (0 : Nat) l5))]
 [DV.n n7, DV.l l8]) (
 true)))))))) (
 false)) (
 false))))))))))))) (
 reqB (((0 : Nat) + (↑l4.length : Int).toNat) * (1 : Nat) ≤ l8.length.mul (1 : Nat)) (
 reqB ((↑l4.length : Int).toNat ≤ (200 : Nat)) (
 reqB ((List.take (↑l4.length : Int).toNat (List.drop (0 : Nat) l8)).length = (↑l4.length : Int).toNat) (
 reqB (∀ (y : Int), y ∈ List.take (↑l4.length : Int).toNat (List.drop (0 : Nat) l8) → (0 : Int) ≤ y ∧ y ≤ (1 : Int)) (
 reqB (sigRead.post [DV.l l0, DV.l l1, DV.n n2, DV.n n3]
 [DV.l (List.take (↑l4.length : Int).toNat (List.drop (0 : Nat) l8)), DV.n (0 : Int)]) (
 true)))))))))))))))))))))))))))))))))))))))))))))))))))) := by kernel_rfl
set_option maxHeartbeats 8000000 in
theorem vt_read : vcFn Try.prog [(14, Ext.ctr (ctOf sigVal))] (fun f p _ => at2 f p 13 250 readL (none)) [] 100 13 sigRead = true := by
  rw [vc_read]
  try simp only [Int.toNat_natCast, List.length_set, List.length_replicate, List.length_take, List.length_drop, List.length_append, List.length_cons, List.length_nil, Nat.min_self, List.take_take, lenCols_i, lenCols_b, List.drop_zero, List.take_length, List.take_nil, List.drop_nil, List.take_zero, List.nil_append, Nat.add_eq, Nat.mul_eq, Nat.sub_eq, Nat.zero_add, Nat.add_zero, Nat.sub_zero, Nat.mul_one]
  refine all_i fun l0 => ?_
  refine imp_i fun h0 => ?_
  refine imp_i fun h1 => ?_
  refine all_i fun l1 => ?_
  refine imp_i fun h2 => ?_
  have tkl1 := take_eq h2
  try simp only [tkl1]
  refine imp_i fun h3 => ?_
  refine all_i fun n2 => ?_
  refine imp_i fun h4 => ?_
  refine imp_i fun h5 => ?_
  refine all_i fun n3 => ?_
  refine imp_i fun h6 => ?_
  refine imp_i fun h7 => ?_
  refine imp_i fun h8 => ?_
  try simp only [sigRead, cS2, cBt, readPost, List.cons.injEq, DV.b.injEq, and_true, List.length_cons, List.length_nil] at h8
  refine req_i ?_ ?_
  · -- r0
   first | omega | ((try simp only [Nat.mul_eq]); first | done | omega | assumption | grind [getD_set, getD_rep, toNat_succ, cntN_yes, cntN_no])
  refine req_i ?_ ?_
  · -- r1
   first | omega | ((try simp only [Nat.zero_add]); first | done | omega | assumption | grind [getD_set, getD_rep, toNat_succ, cntN_yes, cntN_no])
  refine req_i ?_ ?_
  · -- r2
   first | omega | ((try simp only [List.take_nil, List.take_zero, List.length_take, List.take_length, List.take_take, Nat.min_self, List.drop_nil, List.length_drop, List.drop_zero, List.length_cons, List.length_nil]); first | done | omega | assumption | grind [getD_set, getD_rep, toNat_succ, cntN_yes, cntN_no])
  refine req_i ?_ ?_
  · -- r3
   first | assumption | exact rep_bd (by omega) (by omega) | exact set_bd (by assumption) (by omega) (by omega) | exact take_bd (by assumption) | ((try simp only [List.take_nil, List.take_zero, List.length_take, List.take_length, List.take_take, Nat.min_self, List.drop_nil, List.length_drop, List.drop_zero, List.length_cons, List.length_nil]); first | assumption | exact rep_bd (by omega) (by omega) | exact set_bd (by assumption) (by omega) (by omega) | exact take_bd (by assumption) | grind [getD_set, getD_rep, toNat_succ, cntN_yes, cntN_no])
  refine req_i ?_ ?_
  · -- r4
   first | omega | ((try simp only [List.take_nil, List.take_zero, List.length_take, List.take_length, List.take_take, Nat.min_self, List.drop_nil, List.length_drop, List.drop_zero, List.length_cons, List.length_nil]); first | done | omega | assumption | grind [getD_set, getD_rep, toNat_succ, cntN_yes, cntN_no])
  refine req_i ?_ ?_
  · -- r5
   first | assumption | exact rep_bd (by omega) (by omega) | exact set_bd (by assumption) (by omega) (by omega) | exact take_bd (by assumption) | ((try simp only [List.take_nil, List.take_zero, List.length_take, List.take_length, List.take_take, Nat.min_self, List.drop_nil, List.length_drop, List.drop_zero, List.length_cons, List.length_nil]); first | assumption | exact rep_bd (by omega) (by omega) | exact set_bd (by assumption) (by omega) (by omega) | exact take_bd (by assumption) | grind [getD_set, getD_rep, toNat_succ, cntN_yes, cntN_no])
  refine req_i ?_ ?_
  · -- r6
   first | omega | assumption | grind
  refine req_i ?_ ?_
  · -- r7
   first | omega | assumption | grind
  refine req_i ?_ ?_
  · -- r8
   first | omega | assumption | grind
  refine req_i ?_ ?_
  · -- r9
   first | omega | assumption | grind
  refine req_i ?_ ?_
  · -- r10
   first | omega | ((try simp only [sigVal, cS2, cV, valPost, List.cons.injEq, DV.b.injEq, and_true, List.take_nil, List.take_zero, List.length_take, List.take_length, List.take_take, Nat.min_self, List.drop_nil, List.length_drop, List.drop_zero, List.length_cons, List.length_nil]); first | done | omega | assumption | grind [getD_set, getD_rep, toNat_succ, cntN_yes, cntN_no])
  refine all_i fun l4 => ?_
  refine imp_i fun h9 => ?_
  refine imp_i fun h10 => ?_
  refine all_i fun l5 => ?_
  refine imp_i fun h11 => ?_
  have tkl5 := take_eq h11
  try simp only [tkl5]
  refine imp_i fun h12 => ?_
  refine all_i fun n6 => ?_
  refine imp_i fun h13 => ?_
  refine imp_i fun h14 => ?_
  refine imp_i fun h15 => ?_
  try simp only [Int.toNat_natCast, List.length_set, List.length_replicate, List.length_take, List.length_drop, List.length_append, List.length_cons, List.length_nil, Nat.min_self, List.take_take, lenCols_i, lenCols_b, List.drop_zero, List.take_length, List.take_nil, List.drop_nil, List.take_zero, List.nil_append, Nat.add_eq, Nat.mul_eq, Nat.sub_eq, Nat.zero_add, Nat.add_zero, Nat.sub_zero, Nat.mul_one] at h15
  refine bR_dec (fun h16 => ?_) (fun h16 => ?_)
  ·
   refine req_i ?_ ?_
   · -- r11
    first | omega | assumption | grind
   refine req_i ?_ ?_
   · -- r12
    first | omega | assumption | grind
   refine req_i ?_ ?_
   · -- r13
    rcases (show valR l0 l1 n2 n3 l4 l5 n6 from h15) with ⟨a, _, _, d⟩ | ⟨a, b, _, _, d⟩ | ⟨_, _, _, _, d⟩
    · exact .inl ⟨a, rfl, d⟩
    · exact .inr (.inl ⟨a, b, rfl, d⟩)
    · exact absurd d h16
   rfl
  ·
   obtain ⟨nb, le, e4, e5, _⟩ : ¬badV l0 l1 n2 n3 ∧ n3 + n2 ≤ (l0.length : Int) ∧ l4 = valL l0 n2 n3 ∧ l5 = valL l1 n2 n3 ∧ n6 = 0 := by
     rcases (show valR l0 l1 n2 n3 l4 l5 n6 from h15) with ⟨_, _, _, d⟩ | ⟨_, _, _, _, d⟩ | h
     · omega
     · omega
     · exact h
   have vp : 1 ≤ l4.length := by rw [e4]; exact valL_pos (good_V nb) le
   refine req_i ?_ ?_
   · -- r14
    first | omega | ((try simp only [Int.toNat_natCast, List.length_cons, List.length_nil]); first | done | omega | assumption | grind [getD_set, getD_rep, toNat_succ, cntN_yes, cntN_no])
   refine req_i ?_ ?_
   · -- r15
    first | omega | ((try simp only [Int.toNat_natCast, List.length_cons, List.length_nil]); first | done | omega | assumption | grind [getD_set, getD_rep, toNat_succ, cntN_yes, cntN_no])
   refine req_i ?_ ?_
   · -- r16
    first | omega | ((try simp only [Nat.mul_eq]); first | done | omega | assumption | grind [getD_set, getD_rep, toNat_succ, cntN_yes, cntN_no])
   refine req_i ?_ ?_
   · -- r17
    first | omega | ((try simp only [Nat.zero_add]); first | done | omega | assumption | grind [getD_set, getD_rep, toNat_succ, cntN_yes, cntN_no])
   refine req_i ?_ ?_
   · -- r18
    first | omega | ((try simp only [List.take_nil, List.take_zero, List.length_take, List.take_length, List.take_take, Nat.min_self, List.drop_nil, List.length_drop, List.drop_zero, List.length_cons, List.length_nil]); first | done | omega | assumption | grind [getD_set, getD_rep, toNat_succ, cntN_yes, cntN_no])
   refine req_i ?_ ?_
   · -- r19
    first | assumption | exact rep_bd (by omega) (by omega) | exact set_bd (by assumption) (by omega) (by omega) | exact take_bd (by assumption) | ((try simp only [List.take_nil, List.take_zero, List.length_take, List.take_length, List.take_take, Nat.min_self, List.drop_nil, List.length_drop, List.drop_zero, List.length_cons, List.length_nil]); first | assumption | exact rep_bd (by omega) (by omega) | exact set_bd (by assumption) (by omega) (by omega) | exact take_bd (by assumption) | grind [getD_set, getD_rep, toNat_succ, cntN_yes, cntN_no])
   refine req_i ?_ ?_
   · -- r20
    first | omega | ((try simp only [List.take_nil, List.take_zero, List.length_take, List.take_length, List.take_take, Nat.min_self, List.drop_nil, List.length_drop, List.drop_zero, List.length_cons, List.length_nil]); first | done | omega | assumption | grind [getD_set, getD_rep, toNat_succ, cntN_yes, cntN_no])
   refine req_i ?_ ?_
   · -- r21
    first | assumption | exact rep_bd (by omega) (by omega) | exact set_bd (by assumption) (by omega) (by omega) | exact take_bd (by assumption) | ((try simp only [List.take_nil, List.take_zero, List.length_take, List.take_length, List.take_take, Nat.min_self, List.drop_nil, List.length_drop, List.drop_zero, List.length_cons, List.length_nil]); first | assumption | exact rep_bd (by omega) (by omega) | exact set_bd (by assumption) (by omega) (by omega) | exact take_bd (by assumption) | grind [getD_set, getD_rep, toNat_succ, cntN_yes, cntN_no])
   refine req_i ?_ ?_
   · -- r22
    first | omega | ((try simp only [Int.toNat_natCast, List.length_replicate, List.length_cons, List.length_nil, lenCols_i, lenCols_b]); first | done | omega | assumption | grind [getD_set, getD_rep, toNat_succ, cntN_yes, cntN_no])
   refine req_i ?_ ?_
   · -- r23
    first | omega | ((try simp only [Int.toNat_natCast, List.length_replicate, List.length_cons, List.length_nil, lenCols_i, lenCols_b]); first | done | omega | assumption | grind [getD_set, getD_rep, toNat_succ, cntN_yes, cntN_no])
   refine req_i ?_ ?_
   · -- r24
    first | assumption | exact rep_bd (by omega) (by omega) | exact set_bd (by assumption) (by omega) (by omega) | exact take_bd (by assumption) | ((try simp only [Int.toNat_natCast, List.length_replicate, List.length_cons, List.length_nil]); first | assumption | exact rep_bd (by omega) (by omega) | exact set_bd (by assumption) (by omega) (by omega) | exact take_bd (by assumption) | grind [getD_set, getD_rep, toNat_succ, cntN_yes, cntN_no])
   refine req_i ?_ ?_
   · -- r25
    exact ⟨by omega, .inr rfl, by rw [List.length_replicate], fun j a b => by
      have e : j = 0 := by omega
      subst e; rw [getD_rep]; split <;> rfl⟩
   refine all_i fun n7 => ?_
   refine imp_i fun h17 => ?_
   refine imp_i fun h18 => ?_
   refine all_i fun l8 => ?_
   refine imp_i fun h19 => ?_
   refine imp_i fun h20 => ?_
   refine imp_i fun h21 => ?_
   try simp only [readL, cBt, cV, readInv, mea1, List.cons.injEq, DV.b.injEq, and_true, List.take_nil, List.take_zero, List.length_take, List.take_length, List.take_take, Nat.min_self, List.drop_nil, List.length_drop, List.drop_zero, List.length_cons, List.length_nil] at h21
   refine bR_dec (fun h22 => ?_) (fun h22 => ?_)
   ·
    have bs := bit_step (u := l4) (v := l5) (i := n7) (by omega)
    have gp := h21.2.2.2 (n7 - 1).toNat (by omega) (by omega)
    have gb := getD_bd (i := (n7 - 1).toNat) h20 (by omega) (by omega)
    have sg := set_get (l := l8) (i := n7.toNat) (x := l8.getD (n7 - 1).toNat 0) (by omega)
    try simp only [sg, List.set_set]
    refine req_i ?_ ?_
    · -- r26
     first | omega | ((try simp only [Int.toNat_natCast, List.length_cons, List.length_nil]); first | done | omega | assumption | grind [getD_set, getD_rep, toNat_succ, cntN_yes, cntN_no])
    refine req_i ?_ ?_
    · -- r27
     first | omega | ((try simp only [Int.toNat_natCast, List.length_cons, List.length_nil, Nat.add_eq, Nat.zero_add, Nat.add_zero]); first | done | omega | assumption | grind [getD_set, getD_rep, toNat_succ, cntN_yes, cntN_no])
    refine req_i ?_ ?_
    · -- r28
     first | omega | ((try simp only [Int.toNat_natCast, List.length_cons, List.length_nil]); first | done | omega | assumption | grind [getD_set, getD_rep, toNat_succ, cntN_yes, cntN_no])
    refine req_i ?_ ?_
    · -- r29
     first | omega | ((try simp only [Int.toNat_natCast, List.length_cons, List.length_nil, Nat.add_eq, Nat.zero_add, Nat.add_zero]); first | done | omega | assumption | grind [getD_set, getD_rep, toNat_succ, cntN_yes, cntN_no])
    refine req_i ?_ ?_
    · -- r30
     first | omega | ((try simp only [Int.toNat_natCast, List.length_cons, List.length_nil]); first | done | omega | assumption | grind [getD_set, getD_rep, toNat_succ, cntN_yes, cntN_no])
    refine req_i ?_ ?_
    · -- r31
     first | omega | ((try simp only [Int.toNat_natCast, List.length_cons, List.length_nil, Nat.add_eq, Nat.zero_add, Nat.add_zero]); first | done | omega | assumption | grind [getD_set, getD_rep, toNat_succ, cntN_yes, cntN_no])
    refine req_i ?_ ?_
    · -- r32
     first | omega | ((try simp only [Int.toNat_natCast, List.length_cons, List.length_nil, Nat.add_eq, Nat.zero_add, Nat.add_zero]); first | done | omega | assumption | grind [getD_set, getD_rep, toNat_succ, cntN_yes, cntN_no])
    refine req_i ?_ ?_
    · -- r33
     first | omega | ((try simp only [Int.toNat_natCast, List.length_cons, List.length_nil]); first | done | omega | assumption | grind [getD_set, getD_rep, toNat_succ, cntN_yes, cntN_no])
    refine req_i ?_ ?_
    · -- r34
     first | omega | ((try simp only [Int.toNat_natCast, List.length_cons, List.length_nil, Nat.add_eq, Nat.zero_add, Nat.add_zero]); first | done | omega | assumption | grind [getD_set, getD_rep, toNat_succ, cntN_yes, cntN_no])
    refine req_i ?_ ?_
    · -- r35
     first | omega | ((try simp only [Int.toNat_natCast, List.length_cons, List.length_nil, Nat.add_eq, Nat.zero_add, Nat.add_zero]); first | done | omega | assumption | grind [getD_set, getD_rep, toNat_succ, cntN_yes, cntN_no])
    refine bR_dec (fun h23 => ?_) (fun h23 => ?_)
    ·
     rw [if_pos (by simpa only [Nat.add_eq, Nat.zero_add] using h23)] at bs
     have rs := read_step (b := l8) (x := 1 - l8.getD (n7 - 1).toNat 0) (by omega) (by omega) h21.2.2.1 h21.2.2.2 (by omega)
     refine req_i ?_ ?_
     · -- r36
      first | omega | ((try simp only [Int.toNat_natCast, List.length_cons, List.length_nil]); first | done | omega | assumption | grind [getD_set, getD_rep, toNat_succ, cntN_yes, cntN_no])
     refine req_i ?_ ?_
     · -- r37
      first | omega | ((try simp only [Int.toNat_natCast, List.length_set, List.length_cons, List.length_nil, Nat.add_eq, Nat.zero_add, Nat.add_zero]); first | done | omega | assumption | grind [getD_set, getD_rep, toNat_succ, cntN_yes, cntN_no])
     refine req_i ?_ ?_
     · -- r38
      first | omega | ((try simp only [Int.toNat_natCast, List.length_cons, List.length_nil]); first | done | omega | assumption | grind [getD_set, getD_rep, toNat_succ, cntN_yes, cntN_no])
     refine req_i ?_ ?_
     · -- r39
      first | omega | ((try simp only [Int.toNat_natCast, List.length_set, List.length_cons, List.length_nil, Nat.add_eq, Nat.zero_add, Nat.add_zero]); first | done | omega | assumption | grind [getD_set, getD_rep, toNat_succ, cntN_yes, cntN_no])
     refine bR_t ?_ ?_
     · -- g0
      first | rfl | (simp only [bR_iff, bR_iff_f, dec_iff, dec_f, beqB_iff', andB_iff', reduceCtorEq, imp_self, false_implies, and_true, true_and, implies_true, and_self]; done) | (simp [bR_iff, dec_iff, beqB_iff', andB_iff']; done) | (simp [bR_iff, dec_iff, beqB_iff', andB_iff']; omega)
     refine bR_t ?_ ?_
     · -- g1
      first | rfl | (simp only [bR_iff, bR_iff_f, dec_iff, dec_f, beqB_iff', andB_iff', reduceCtorEq, imp_self, false_implies, and_true, true_and, implies_true, and_self]; done) | (simp [bR_iff, dec_iff, beqB_iff', andB_iff']; done) | (simp [bR_iff, dec_iff, beqB_iff', andB_iff']; omega)
     refine req_i ?_ ?_
     · -- r40
      first | omega | assumption | grind
     refine req_i ?_ ?_
     · -- r41
      first | omega | assumption | grind
     refine req_i ?_ ?_
     · -- r42
      first | omega | ((try simp only [Int.toNat_natCast, List.length_set, List.length_cons, List.length_nil, lenCols_i, lenCols_b, Nat.add_eq, Nat.zero_add, Nat.add_zero]); first | done | omega | assumption | grind [getD_set, getD_rep, toNat_succ, cntN_yes, cntN_no])
     refine req_i ?_ ?_
     · -- r43
      first | omega | ((try simp only [Int.toNat_natCast, List.length_set, List.length_cons, List.length_nil, lenCols_i, lenCols_b, Nat.add_eq, Nat.zero_add, Nat.add_zero]); first | done | omega | assumption | grind [getD_set, getD_rep, toNat_succ, cntN_yes, cntN_no])
     refine req_i ?_ ?_
     · -- r44
      first | assumption | exact rep_bd (by omega) (by omega) | exact set_bd (by assumption) (by omega) (by omega) | exact take_bd (by assumption) | ((try simp only [Int.toNat_natCast, List.length_set, List.length_cons, List.length_nil, Nat.add_eq, Nat.zero_add, Nat.add_zero]); first | assumption | exact rep_bd (by omega) (by omega) | exact set_bd (by assumption) (by omega) (by omega) | exact take_bd (by assumption) | grind [getD_set, getD_rep, toNat_succ, cntN_yes, cntN_no])
     refine req_i ?_ ?_
     · -- r45
      exact ⟨by omega, .inl (by omega), by rw [List.length_set]; exact h21.2.2.1, rs⟩
     refine req_i ?_ ?_
     · -- r46
      first | omega | ((try simp only [readL, cBt, cV, readInv, mea1, List.cons.injEq, DV.b.injEq, and_true, Int.toNat_natCast, List.length_set, List.take_nil, List.take_zero, List.length_take, List.take_length, List.take_take, Nat.min_self, List.drop_nil, List.length_drop, List.drop_zero, List.length_cons, List.length_nil, Nat.add_eq, Nat.zero_add, Nat.add_zero]); first | done | omega | assumption | grind [getD_set, getD_rep, toNat_succ, cntN_yes, cntN_no])
     rfl
    ·
     rw [if_neg (by simpa only [Nat.add_eq, Nat.zero_add] using h23)] at bs
     have rs := read_step (b := l8) (x := l8.getD (n7 - 1).toNat 0) (by omega) (by omega) h21.2.2.1 h21.2.2.2 (by omega)
     refine bR_t ?_ ?_
     · -- g2
      first | rfl | (simp only [bR_iff, bR_iff_f, dec_iff, dec_f, beqB_iff', andB_iff', reduceCtorEq, imp_self, false_implies, and_true, true_and, implies_true, and_self]; done) | (simp [bR_iff, dec_iff, beqB_iff', andB_iff']; done) | (simp [bR_iff, dec_iff, beqB_iff', andB_iff']; omega)
     refine bR_t ?_ ?_
     · -- g3
      first | rfl | (simp only [bR_iff, bR_iff_f, dec_iff, dec_f, beqB_iff', andB_iff', reduceCtorEq, imp_self, false_implies, and_true, true_and, implies_true, and_self]; done) | (simp [bR_iff, dec_iff, beqB_iff', andB_iff']; done) | (simp [bR_iff, dec_iff, beqB_iff', andB_iff']; omega)
     refine req_i ?_ ?_
     · -- r47
      first | omega | assumption | grind
     refine req_i ?_ ?_
     · -- r48
      first | omega | assumption | grind
     refine req_i ?_ ?_
     · -- r49
      first | omega | ((try simp only [Int.toNat_natCast, List.length_set, List.length_cons, List.length_nil, lenCols_i, lenCols_b, Nat.add_eq, Nat.zero_add, Nat.add_zero]); first | done | omega | assumption | grind [getD_set, getD_rep, toNat_succ, cntN_yes, cntN_no])
     refine req_i ?_ ?_
     · -- r50
      first | omega | ((try simp only [Int.toNat_natCast, List.length_set, List.length_cons, List.length_nil, lenCols_i, lenCols_b, Nat.add_eq, Nat.zero_add, Nat.add_zero]); first | done | omega | assumption | grind [getD_set, getD_rep, toNat_succ, cntN_yes, cntN_no])
     refine req_i ?_ ?_
     · -- r51
      first | assumption | exact rep_bd (by omega) (by omega) | exact set_bd (by assumption) (by omega) (by omega) | exact take_bd (by assumption) | ((try simp only [Int.toNat_natCast, List.length_set, List.length_cons, List.length_nil, Nat.add_eq, Nat.zero_add, Nat.add_zero]); first | assumption | exact rep_bd (by omega) (by omega) | exact set_bd (by assumption) (by omega) (by omega) | exact take_bd (by assumption) | grind [getD_set, getD_rep, toNat_succ, cntN_yes, cntN_no])
     refine req_i ?_ ?_
     · -- r52
      exact ⟨by omega, .inl (by omega), by rw [List.length_set]; exact h21.2.2.1, rs⟩
     refine req_i ?_ ?_
     · -- r53
      first | omega | ((try simp only [readL, cBt, cV, readInv, mea1, List.cons.injEq, DV.b.injEq, and_true, Int.toNat_natCast, List.length_set, List.take_nil, List.take_zero, List.length_take, List.take_length, List.take_take, Nat.min_self, List.drop_nil, List.length_drop, List.drop_zero, List.length_cons, List.length_nil, Nat.add_eq, Nat.zero_add, Nat.add_zero]); first | done | omega | assumption | grind [getD_set, getD_rep, toNat_succ, cntN_yes, cntN_no])
     rfl
   ·
    refine req_i ?_ ?_
    · -- r54
     first | omega | ((try simp only [Int.toNat_natCast, List.length_cons, List.length_nil, Nat.mul_eq]); first | done | omega | assumption | grind [getD_set, getD_rep, toNat_succ, cntN_yes, cntN_no])
    refine req_i ?_ ?_
    · -- r55
     first | omega | ((try simp only [Int.toNat_natCast, List.length_cons, List.length_nil]); first | done | omega | assumption | grind [getD_set, getD_rep, toNat_succ, cntN_yes, cntN_no])
    refine req_i ?_ ?_
    · -- r56
     first | omega | ((try simp only [Int.toNat_natCast, List.take_nil, List.take_zero, List.length_take, List.take_length, List.take_take, Nat.min_self, List.drop_nil, List.length_drop, List.drop_zero, List.length_cons, List.length_nil]); first | done | omega | assumption | grind [getD_set, getD_rep, toNat_succ, cntN_yes, cntN_no])
    refine req_i ?_ ?_
    · -- r57
     first | assumption | exact rep_bd (by omega) (by omega) | exact set_bd (by assumption) (by omega) (by omega) | exact take_bd (by assumption) | ((try simp only [Int.toNat_natCast, List.take_nil, List.take_zero, List.length_take, List.take_length, List.take_take, Nat.min_self, List.drop_nil, List.length_drop, List.drop_zero, List.length_cons, List.length_nil]); first | assumption | exact rep_bd (by omega) (by omega) | exact set_bd (by assumption) (by omega) (by omega) | exact take_bd (by assumption) | grind [getD_set, getD_rep, toNat_succ, cntN_yes, cntN_no])
    refine req_i ?_ ?_
    · -- r58
     rw [List.take_of_length_le (by omega)]; exact .inr (.inr ⟨nb, le, by rw [← e4, ← e5]; exact bitsL_of h21.2.2.1 h22 h21.2.2.2, rfl⟩)
    rfl
theorem ext_read : ∀ p ∈ ([(14, Ext.ctr (ctOf sigVal))] : List (Nat × Ext)), ExtRow Try.prog p.1 p.2 := by
  intro p hp
  simp only [List.mem_cons, List.not_mem_nil, or_false] at hp
  rcases hp with rfl
  · trivial
theorem cts_read : CtsOk Try.prog [(14, Ext.ctr (ctOf sigVal))] := ctsOk_of (cs := [(14, sigVal)])
  (fun p hp => by
    simp only [List.mem_cons, List.not_mem_nil, or_false] at hp
    rcases hp with rfl
    · exact fn_val
)
  (fun f c h => by
    simp only [List.lookup_cons] at h
    repeat' split at h
    all_goals first | (cases h; done) | (rename_i e; have e := beq_iff_eq.1 e; subst e; cases h; refine ⟨_, ?_, rfl⟩; simp))
theorem fn_read : FnOk Try.prog 13 sigRead [] := fn_sound (by kernel_rfl) ext_read cts_read names vt_read
end Go.Proofs.Ythfbhkeligmdfaa

