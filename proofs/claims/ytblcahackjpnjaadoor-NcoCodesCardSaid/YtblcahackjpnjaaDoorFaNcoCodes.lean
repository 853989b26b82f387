import Derived.Test.YtblcahackjpnjaaDoorSpec11e
import Derived.Test.YtblcahackjpnjaaDoorRows
import Derived.Test.YtblcahackjpnjaaDoorEvSS
import Derived.Test.YtblcahackjpnjaaDoorFnames
namespace Go.Proofs.YtblcahackjpnjaaDoor
open Go.Ev Go.Sp
set_option maxRecDepth 100000
theorem vc_known : vcFn Tryd.prog [] noA gl11 5000 3 sigTrue0 = (impB (sigTrue0.pre []) (
reqB (sigTrue0.post [] [DV.b (eqI (2 : Int) (2 : Int))]) (
true))) := by kernel_rfl
set_option maxHeartbeats 8000000 in
theorem vt_known : vcFn Tryd.prog [] noA gl11 5000 3 sigTrue0 = true := by
  rw [vc_known]
  try simp only [bR_same, dec_same, bR_true, bR_false]
  simp only [allB_iff, impB_iff, reqB_iff, bR_iff, bR_iff_f, dec_iff, dec_f, reduceCtorEq, imp_false, Classical.not_not, implies_true, true_and, and_true]
  intro _
  first | rfl | trivial | simp [sigTrue0]
theorem ext_known : ∀ p ∈ ([] : List (Nat × Ext)), ExtRow Tryd.prog p.1 p.2 := by
  intro p hp
  cases hp
theorem cts_known : CtsOk Tryd.prog [] := fun f c h => by cases h
theorem fn_known : FnOk Tryd.prog 3 sigTrue0 gl11 := fn_sound (by kernel_rfl) ext_known cts_known names vt_known
end Go.Proofs.YtblcahackjpnjaaDoor

namespace Go.Proofs.YtblcahackjpnjaaDoor
open Go.Ev Go.Sp
set_option maxRecDepth 100000
theorem vc_turnG : vcFn Tryd.prog [] noA gl11 100 28 sigTurn = (allB fun n0 : Int => 
impB ((-9223372036854775808 : Int) ≤ n0) (
impB (n0 ≤ (9223372036854775807 : Int)) (
allB fun n1 : Int => 
impB ((1 : Int) ≤ n1) (
impB (n1 ≤ (4000000000 : Int)) (
impB (sigTurn.pre [DV.n n0, DV.n n1]) (
bR (dec (n0.tmod n1 < (0 : Int))) (
 reqB ((0 : Int) ≤ n0.tmod n1 + n1) (
 reqB (n0.tmod n1 + n1 ≤ (4000000000 : Int)) (
 reqB (sigTurn.post [DV.n n0, DV.n n1] [DV.n (n0.tmod n1 + n1)]) (
 true)))) (
 reqB ((0 : Int) ≤ n0.tmod n1) (
 reqB (n0.tmod n1 ≤ (4000000000 : Int)) (
 reqB (sigTurn.post [DV.n n0, DV.n n1] [DV.n (n0.tmod n1)]) (
 true)))))))))) := by kernel_rfl
set_option maxHeartbeats 8000000 in
theorem vt_turnG : vcFn Tryd.prog [] noA gl11 100 28 sigTurn = true := by
  rw [vc_turnG]
  try simp only [Int.toNat_natCast, List.length_set, List.length_replicate, List.length_take, List.length_drop, List.length_append, List.length_cons, List.length_nil, Nat.min_self, List.take_take, lenCols_i, lenCols_b, List.drop_zero, List.take_length, Nat.add_eq, Nat.mul_eq, Nat.sub_eq, Nat.zero_add, Nat.sub_zero, Nat.mul_one]
  refine all_i fun n0 => ?_
  refine imp_i fun h0 => ?_
  refine imp_i fun h1 => ?_
  refine all_i fun n1 => ?_
  refine imp_i fun h2 => ?_
  refine imp_i fun h3 => ?_
  refine imp_i fun h4 => ?_
  try simp only [sigTurn, pickGP, List.cons.injEq, DV.b.injEq, and_true, List.length_cons, List.length_nil] at h4
  have tm := tmod_of (x := n0) (n := n1) (by omega)
  refine bR_dec (fun h5 => ?_) (fun h5 => ?_)
  ·
   refine req_i ?_ ?_
   · -- r0
    first | omega | assumption | grind
   refine req_i ?_ ?_
   · -- r1
    first | omega | assumption | grind
   refine req_i ?_ ?_
   · -- r2
    first | omega | ((try simp only [sigTurn, pickGP, List.cons.injEq, DV.b.injEq, and_true, List.length_cons, List.length_nil]); first | done | omega | assumption | grind [getD_set, getD_rep, toNat_succ, cntN_yes, cntN_no])
   rfl
  ·
   refine req_i ?_ ?_
   · -- r3
    first | omega | assumption | grind
   refine req_i ?_ ?_
   · -- r4
    first | omega | assumption | grind
   refine req_i ?_ ?_
   · -- r5
    first | omega | ((try simp only [sigTurn, pickGP, List.cons.injEq, DV.b.injEq, and_true, List.length_cons, List.length_nil]); first | done | omega | assumption | grind [getD_set, getD_rep, toNat_succ, cntN_yes, cntN_no])
   rfl
theorem ext_turnG : ∀ p ∈ ([] : List (Nat × Ext)), ExtRow Tryd.prog p.1 p.2 := by
  intro p hp
  cases hp
theorem cts_turnG : CtsOk Tryd.prog [] := fun f c h => by cases h
theorem fn_turnG : FnOk Tryd.prog 28 sigTurn gl11 := fn_sound (by kernel_rfl) ext_turnG cts_turnG names vt_turnG
end Go.Proofs.YtblcahackjpnjaaDoor

namespace Go.Proofs.YtblcahackjpnjaaDoor
open Go.Ev Go.Sp
set_option maxRecDepth 100000
theorem vc_rotd : vcFn Tryd.prog [(28, Ext.ctr (ctOfG gl11 sigTurn))] (fun f p _ => at2 f p 31 58 rotLS (none)) gl11 100 31 sigRotd = (allB fun l0 : List Int => 
impB (l0.length ≤ (1100 : Nat)) (
impB (∀ (y : Int), y ∈ l0 → (-1 : Int) ≤ y ∧ y ≤ (1 : Int)) (
allB fun n1 : Int => 
impB ((0 : Int) ≤ n1) (
impB (n1 ≤ (2000 : Int)) (
impB (sigRotd.pre [DV.l l0, DV.n n1]) (
reqB (((0 : Nat) + l0.length) * (1 : Nat) ≤ l0.length.mul (1 : Nat)) (
reqB (l0.length ≤ (1100 : Nat)) (
reqB ((List.take l0.length (List.drop (0 : Nat) l0)).length = l0.length) (
reqB (∀ (y : Int), y ∈ List.take l0.length (List.drop (0 : Nat) l0) → (-1 : Int) ≤ y ∧ y ≤ (1 : Int)) (
reqB ((0 : Int) ≤ n1) (
reqB (n1 ≤ (2000 : Int)) (
reqB (rotLS.inv [DV.l (List.take l0.length (List.drop (0 : Nat) l0)), DV.n n1]
 [DV.n (0 : Int), DV.l []]) (
allB fun n2 : Int => 
impB ((0 : Int) ≤ n2) (
impB (n2 ≤ (1100 : Int)) (
allB fun l3 : List Int => 
impB (l3.length ≤ (1100 : Nat)) (
impB (∀ (y : Int), y ∈ l3 → (-1 : Int) ≤ y ∧ y ≤ (1 : Int)) (
impB (rotLS.inv [DV.l (List.take l0.length (List.drop (0 : Nat) l0)), DV.n n1]
 [DV.n n2, DV.l l3]) (
bR (dec (n2 < (↑l0.length : Int))) (
 reqB ((-9223372036854775808 : Int) ≤ n2 + n1) (
 reqB (n2 + n1 ≤ (9223372036854775807 : Int)) (
 reqB ((1 : Int) ≤ (↑l0.length : Int)) (
 reqB ((↑l0.length : Int) ≤ (4000000000 : Int)) (
 reqB (sigTurn.pre [DV.n (n2 + n1), DV.n (↑l0.length : Int)]) (
 allB fun n4 : Int => 
 impB ((0 : Int) ≤ n4) (
 impB (n4 ≤ (4000000000 : Int)) (
 impB (sigTurn.post [DV.n (n2 + n1), DV.n (↑l0.length : Int)] [DV.n n4]) (
 reqB (n4.toNat < l0.length) (
 reqB (Nat.add (0 : Nat) n4.toNat < l0.length) (
 reqB (l3.length + (1 : Nat) ≤ (1000000 : Nat)) (
 reqB (((0 : Nat) + l3.length) * (0 + (1 : Nat)) ≤ l3.length.mul (1 : Nat)) (
 bR (bR (bR (dec ((0 : Nat) = (0 : Nat))) (
 dec (l0.length = l0.length)) (
 false)) (
 bR (dec (n1 = n1)) (
 true) (
 false)) (
 false)) (
 reqB ((0 : Int) ≤ n2 + (1 : Int)) (
 reqB (n2 + (1 : Int) ≤ (1100 : Int)) (
 reqB (((0 : Nat) + l3.length.add (1 : Nat)) * (1 : Nat) ≤ (l3.length.add (1 : Nat)).mul (0 + (1 : Nat))) (
 reqB (l3.length.add (1 : Nat) ≤ (1100 : Nat)) (
 reqB ((List.take (l3.length.add (1 : Nat))
 (List.drop (0 : Nat)
 (List.take l3.length (List.drop (0 : Nat) l3) ++ [l0.getD (Nat.add (0 : Nat) n4.toNat) (0 : Int)]))).length =
 l3.length.add (1 : Nat)) (
 reqB (∀ (y : Int),
 y ∈
 List.take (l3.length.add (1 : Nat))
 (List.drop (0 : Nat)
 (List.take l3.length (List.drop (0 : Nat) l3) ++ [l0.getD (Nat.add (0 : Nat) n4.toNat) (0 : Int)])) →
 (-1 : Int) ≤ y ∧ y ≤ (1 : Int)) (
 reqB (rotLS.inv [DV.l (List.take l0.length (List.drop (0 : Nat) l0)), DV.n n1]
 [DV.n (n2 + (1 : Int)),
 DV.l
 (List.take (l3.length.add (1 : Nat))
 (List.drop (0 : Nat)
 (List.take l3.length (List.drop (0 : Nat) l3) ++ [l0.getD (Nat.add (0 : Nat) n4.toNat) (0 : Int)])))]) (
 reqB (rotLS.mea [DV.l (List.take l0.length (List.drop (0 : Nat) l0)), DV.n n1]
 [DV.n (n2 + (1 : Int)),
 DV.l
 (List.take (l3.length.add (1 : Nat))
 (List.drop (0 : Nat)
 (List.take l3.length (List.drop (0 : Nat) l3) ++ [l0.getD (Nat.add (0 : Nat) n4.toNat) (0 : Int)])))] <
 rotLS.mea [DV.l (List.take l0.length (List.drop (0 : Nat) l0)), DV.n n1]
 [DV.n n2, DV.l l3]) (
 true))))))))) (
 false)))))))))))))) (
 reqB (((0 : Nat) + l3.length) * (1 : Nat) ≤ l3.length.mul (1 : Nat)) (
 reqB (l3.length ≤ (1100 : Nat)) (
 reqB ((List.take l3.length (List.drop (0 : Nat) l3)).length = l3.length) (
 reqB (∀ (y : Int), y ∈ List.take l3.length (List.drop (0 : Nat) l3) → (-1 : Int) ≤ y ∧ y ≤ (1 : Int)) (
 reqB (sigRotd.post [DV.l l0, DV.n n1] [DV.l (List.take l3.length (List.drop (0 : Nat) l3))]) (
 true)))))))))))))))))))))))) := by kernel_rfl
set_option maxHeartbeats 8000000 in
theorem vt_rotd : vcFn Tryd.prog [(28, Ext.ctr (ctOfG gl11 sigTurn))] (fun f p _ => at2 f p 31 58 rotLS (none)) gl11 100 31 sigRotd = true := by
  rw [vc_rotd]
  try simp only [Int.toNat_natCast, List.length_set, List.length_replicate, List.length_take, List.length_drop, List.length_append, List.length_cons, List.length_nil, Nat.min_self, List.take_take, lenCols_i, lenCols_b, List.drop_zero, List.take_length, Nat.add_eq, Nat.mul_eq, Nat.sub_eq, Nat.zero_add, Nat.sub_zero, Nat.mul_one]
  refine all_i fun l0 => ?_
  refine imp_i fun h0 => ?_
  refine imp_i fun h1 => ?_
  refine all_i fun n1 => ?_
  refine imp_i fun h2 => ?_
  refine imp_i fun h3 => ?_
  refine imp_i fun h4 => ?_
  try simp only [sigRotd, cC2, rotPost, List.cons.injEq, DV.b.injEq, and_true, List.length_cons, List.length_nil] at h4
  refine req_i ?_ ?_
  · -- r0
   first | omega | ((try simp only [Nat.mul_eq]); first | done | omega | assumption | grind [getD_set, getD_rep, toNat_succ, cntN_yes, cntN_no])
  refine req_i ?_ ?_
  · -- r1
   first | omega | ((try simp only [Nat.zero_add]); first | done | omega | assumption | grind [getD_set, getD_rep, toNat_succ, cntN_yes, cntN_no])
  refine req_i ?_ ?_
  · -- r2
   first | omega | ((try simp only [List.length_take, List.take_length, List.take_take, Nat.min_self, List.length_drop, List.drop_zero, List.length_cons, List.length_nil]); first | done | omega | assumption | grind [getD_set, getD_rep, toNat_succ, cntN_yes, cntN_no])
  refine req_i ?_ ?_
  · -- r3
   first | assumption | exact rep_bd (by omega) (by omega) | exact set_bd (by assumption) (by omega) (by omega) | exact take_bd (by assumption) | ((try simp only [List.length_take, List.take_length, List.take_take, Nat.min_self, List.length_drop, List.drop_zero, List.length_cons, List.length_nil]); first | assumption | exact rep_bd (by omega) (by omega) | exact set_bd (by assumption) (by omega) (by omega) | exact take_bd (by assumption) | grind [getD_set, getD_rep, toNat_succ, cntN_yes, cntN_no])
  refine req_i ?_ ?_
  · -- r4
   first | omega | assumption | grind
  refine req_i ?_ ?_
  · -- r5
   first | omega | assumption | grind
  refine req_i ?_ ?_
  · -- r6
   exact ⟨by omega, by omega, rfl, fun j hj => by omega⟩
  refine all_i fun n2 => ?_
  refine imp_i fun h5 => ?_
  refine imp_i fun h6 => ?_
  refine all_i fun l3 => ?_
  refine imp_i fun h7 => ?_
  refine imp_i fun h8 => ?_
  refine imp_i fun h9 => ?_
  try simp only [rotLS, cC2, rotInv, meaR1, List.cons.injEq, DV.b.injEq, and_true, List.length_take, List.take_length, List.take_take, Nat.min_self, List.length_drop, List.drop_zero, List.length_cons, List.length_nil] at h9
  refine bR_dec (fun h10 => ?_) (fun h10 => ?_)
  ·
   refine req_i ?_ ?_
   · -- r7
    first | omega | assumption | grind
   refine req_i ?_ ?_
   · -- r8
    first | omega | assumption | grind
   refine req_i ?_ ?_
   · -- r9
    first | omega | ((try simp only [Nat.zero_add]); first | done | omega | assumption | grind [getD_set, getD_rep, toNat_succ, cntN_yes, cntN_no])
   refine req_i ?_ ?_
   · -- r10
    first | omega | ((try simp only [Nat.zero_add]); first | done | omega | assumption | grind [getD_set, getD_rep, toNat_succ, cntN_yes, cntN_no])
   refine req_i ?_ ?_
   · -- r11
    first | trivial | assumption | (simp only [sigTurn, pickGP, List.cons.injEq, DV.b.injEq, and_true, List.length_cons, List.length_nil]; done) | ((try simp only [sigTurn, pickGP, List.cons.injEq, DV.b.injEq, and_true, List.length_cons, List.length_nil]); first | omega | assumption | grind)
   refine all_i fun n4 => ?_
   refine imp_i fun h11 => ?_
   refine imp_i fun h12 => ?_
   refine imp_i fun h13 => ?_
   try simp only [sigTurn, pickGP, List.cons.injEq, DV.b.injEq, and_true, List.length_cons, List.length_nil] at h13
   have m1 := Int.emod_nonneg (n2 + n1) (b := (l0.length : Int)) (by omega)
   have m2 := Int.emod_lt_of_pos (n2 + n1) (b := (l0.length : Int)) (by omega)
   have rn := rot_next (l := l0) (r := l3) (i := n2) (k := n1) (x := l0.getD n4.toNat 0) (by omega) (by omega) h9.2.2.2 (by rw [h13]; rfl)
   have tk := take_snoc (l := l3) (m := l3) (x := l0.getD n4.toNat 0) rfl
   have gb := getD_bd (i := n4.toNat) h1 (by omega) (by omega)
   refine req_i ?_ ?_
   · -- r12
    first | omega | ((try simp only [Int.toNat_natCast, List.length_cons, List.length_nil]); first | done | omega | assumption | grind [getD_set, getD_rep, toNat_succ, cntN_yes, cntN_no])
   refine req_i ?_ ?_
   · -- r13
    first | omega | ((try simp only [Int.toNat_natCast, List.length_cons, List.length_nil, Nat.add_eq, Nat.zero_add]); first | done | omega | assumption | grind [getD_set, getD_rep, toNat_succ, cntN_yes, cntN_no])
   refine req_i ?_ ?_
   · -- r14
    first | omega | ((try simp only [Nat.zero_add]); first | done | omega | assumption | grind [getD_set, getD_rep, toNat_succ, cntN_yes, cntN_no])
   refine req_i ?_ ?_
   · -- r15
    first | omega | ((try simp only [Nat.mul_eq]); first | done | omega | assumption | grind [getD_set, getD_rep, toNat_succ, cntN_yes, cntN_no])
   refine bR_t ?_ ?_
   · -- g0
    first | rfl | (simp only [bR_iff, bR_iff_f, dec_iff, dec_f, beqB_iff', andB_iff', reduceCtorEq, imp_self, false_implies, and_true, true_and, implies_true, and_self]; done) | (simp [bR_iff, dec_iff, beqB_iff', andB_iff']; done) | (simp [bR_iff, dec_iff, beqB_iff', andB_iff']; omega)
   refine req_i ?_ ?_
   · -- r16
    first | omega | assumption | grind
   refine req_i ?_ ?_
   · -- r17
    first | omega | assumption | grind
   refine req_i ?_ ?_
   · -- r18
    first | omega | ((try simp only [Nat.add_eq, Nat.zero_add, Nat.mul_eq]); first | done | omega | assumption | grind [getD_set, getD_rep, toNat_succ, cntN_yes, cntN_no])
   refine req_i ?_ ?_
   · -- r19
    first | omega | ((try simp only [Nat.add_eq, Nat.zero_add]); first | done | omega | assumption | grind [getD_set, getD_rep, toNat_succ, cntN_yes, cntN_no])
   refine req_i ?_ ?_
   · -- r20
    first | omega | ((try simp only [Int.toNat_natCast, List.length_take, List.take_length, List.take_take, Nat.min_self, List.length_drop, List.drop_zero, List.length_append, List.length_cons, List.length_nil, Nat.add_eq, Nat.zero_add]); first | done | omega | assumption | grind [getD_set, getD_rep, toNat_succ, cntN_yes, cntN_no])
   refine req_i ?_ ?_
   · -- r21
    first | assumption | exact rep_bd (by omega) (by omega) | exact set_bd (by assumption) (by omega) (by omega) | exact take_bd (by assumption) | ((try simp only [Int.toNat_natCast, List.length_take, List.take_length, List.take_take, Nat.min_self, List.length_drop, List.drop_zero, List.length_append, List.length_cons, List.length_nil, Nat.add_eq, Nat.zero_add]); first | assumption | exact rep_bd (by omega) (by omega) | exact set_bd (by assumption) (by omega) (by omega) | exact take_bd (by assumption) | grind [getD_set, getD_rep, toNat_succ, cntN_yes, cntN_no])
   refine req_i ?_ ?_
   · -- r22
    simp only [rotLS, rotInv, List.drop_zero, List.take_length, Nat.add_eq, Nat.zero_add, tk]; exact ⟨by omega, by omega, rn.1, rn.2⟩
   refine req_i ?_ ?_
   · -- r23
    first | omega | ((try simp only [rotLS, cC2, rotInv, meaR1, List.cons.injEq, DV.b.injEq, and_true, Int.toNat_natCast, List.length_take, List.take_length, List.take_take, Nat.min_self, List.length_drop, List.drop_zero, List.length_append, List.length_cons, List.length_nil, Nat.add_eq, Nat.zero_add]); first | done | omega | assumption | grind [getD_set, getD_rep, toNat_succ, cntN_yes, cntN_no])
   rfl
  ·
   refine req_i ?_ ?_
   · -- r24
    first | omega | ((try simp only [Nat.mul_eq]); first | done | omega | assumption | grind [getD_set, getD_rep, toNat_succ, cntN_yes, cntN_no])
   refine req_i ?_ ?_
   · -- r25
    first | omega | ((try simp only [Nat.zero_add]); first | done | omega | assumption | grind [getD_set, getD_rep, toNat_succ, cntN_yes, cntN_no])
   refine req_i ?_ ?_
   · -- r26
    first | omega | ((try simp only [List.length_take, List.take_length, List.take_take, Nat.min_self, List.length_drop, List.drop_zero, List.length_cons, List.length_nil]); first | done | omega | assumption | grind [getD_set, getD_rep, toNat_succ, cntN_yes, cntN_no])
   refine req_i ?_ ?_
   · -- r27
    first | assumption | exact rep_bd (by omega) (by omega) | exact set_bd (by assumption) (by omega) (by omega) | exact take_bd (by assumption) | ((try simp only [List.length_take, List.take_length, List.take_take, Nat.min_self, List.length_drop, List.drop_zero, List.length_cons, List.length_nil]); first | assumption | exact rep_bd (by omega) (by omega) | exact set_bd (by assumption) (by omega) (by omega) | exact take_bd (by assumption) | grind [getD_set, getD_rep, toNat_succ, cntN_yes, cntN_no])
   refine req_i ?_ ?_
   · -- r28
    (try simp only [List.drop_zero, List.take_length]); exact rot_done h10 (by omega) (by omega) h9.2.2.2
   rfl
theorem ext_rotd : ∀ p ∈ ([(28, Ext.ctr (ctOfG gl11 sigTurn))] : List (Nat × Ext)), ExtRow Tryd.prog p.1 p.2 := by
  intro p hp
  simp only [List.mem_cons, List.not_mem_nil, or_false] at hp
  rcases hp with rfl
  · trivial
theorem cts_rotd : CtsOk Tryd.prog [(28, Ext.ctr (ctOfG gl11 sigTurn))] := ctsOk_ofG (cs := [(28, sigTurn)])
  (fun p hp => by
    simp only [List.mem_cons, List.not_mem_nil, or_false] at hp
    rcases hp with rfl
    · exact fn_turnG
)
  (fun f c h => by
    simp only [List.lookup_cons] at h
    repeat' split at h
    all_goals first | (cases h; done) | (rename_i e; have e := beq_iff_eq.1 e; subst e; cases h; refine ⟨_, ?_, rfl⟩; simp))
theorem fn_rotd : FnOk Tryd.prog 31 sigRotd gl11 := fn_sound (by kernel_rfl) ext_rotd cts_rotd names vt_rotd
end Go.Proofs.YtblcahackjpnjaaDoor

namespace Go.Proofs.YtblcahackjpnjaaDoor
open Go.Ev Go.Sp
set_option maxRecDepth 100000
theorem vc_bits0 : vcFn Tryd.prog [] noA gl11 200 51 (sigBitsR 5 5 1 1) = (impB ((sigBitsR (5 : Int) (5 : Int) (1 : Int) (1 : Int)).pre [DV.n (5 : Int), DV.n (1 : Int)]) (
reqB ((31 : Nat) ≤ (1100 : Nat)) (
reqB ((bitsL 5 1).length =
 (31 : Nat)) (
reqB (∀ (y : Int),
 y ∈
 (bitsL 5 1) →
 (0 : Int) ≤ y ∧ y ≤ (1 : Int)) (
reqB ((sigBitsR (5 : Int) (5 : Int) (1 : Int) (1 : Int)).post [DV.n (5 : Int), DV.n (1 : Int)]
 [DV.l
 (bitsL 5 1),
 DV.n (0 : Int)]) (
true)))))) := by kernel_rfl
set_option maxHeartbeats 8000000 in
theorem vt_bits0 : vcFn Tryd.prog [] noA gl11 200 51 (sigBitsR 5 5 1 1) = true := by
  rw [vc_bits0]
  try simp only [Int.toNat_natCast, List.length_set, List.length_replicate, List.length_take, List.length_drop, List.length_append, List.length_cons, List.length_nil, Nat.min_self, List.take_take, lenCols_i, lenCols_b, List.drop_zero, List.take_length, Nat.add_eq, Nat.mul_eq, Nat.sub_eq, Nat.zero_add, Nat.sub_zero, Nat.mul_one]
  refine imp_i fun h0 => ?_
  try simp only [sigBitsR, iR, cB, bitsPost, List.cons.injEq, DV.b.injEq, and_true, List.length_cons, List.length_nil] at h0
  refine req_i ?_ ?_
  · -- r0
   first | omega | assumption | grind
  refine req_i ?_ ?_
  · -- r1
   decide +kernel
  refine req_i ?_ ?_
  · -- r2
   exact all01 (by decide +kernel)
  refine req_i ?_ ?_
  · -- r3
   first | exact ⟨rfl, rfl⟩ | exact ⟨rfl, by decide +kernel⟩
  rfl
theorem ext_bits0 : ∀ p ∈ ([] : List (Nat × Ext)), ExtRow Tryd.prog p.1 p.2 := by
  intro p hp
  cases hp
theorem cts_bits0 : CtsOk Tryd.prog [] := fun f c h => by cases h
theorem fn_bits0 : FnOk Tryd.prog 51 (sigBitsR 5 5 1 1) gl11 := fn_sound (by kernel_rfl) ext_bits0 cts_bits0 names vt_bits0
end Go.Proofs.YtblcahackjpnjaaDoor

namespace Go.Proofs.YtblcahackjpnjaaDoor
open Go.Ev Go.Sp
set_option maxRecDepth 100000
theorem vc_bits1 : vcFn Tryd.prog [] noA gl11 200 51 (sigBitsR 5 5 2 2) = (impB ((sigBitsR (5 : Int) (5 : Int) (2 : Int) (2 : Int)).pre [DV.n (5 : Int), DV.n (2 : Int)]) (
reqB ((31 : Nat) ≤ (1100 : Nat)) (
reqB ((bitsL 5 2).length =
 (31 : Nat)) (
reqB (∀ (y : Int),
 y ∈
 (bitsL 5 2) →
 (0 : Int) ≤ y ∧ y ≤ (1 : Int)) (
reqB ((sigBitsR (5 : Int) (5 : Int) (2 : Int) (2 : Int)).post [DV.n (5 : Int), DV.n (2 : Int)]
 [DV.l
 (bitsL 5 2),
 DV.n (0 : Int)]) (
true)))))) := by kernel_rfl
set_option maxHeartbeats 8000000 in
theorem vt_bits1 : vcFn Tryd.prog [] noA gl11 200 51 (sigBitsR 5 5 2 2) = true := by
  rw [vc_bits1]
  try simp only [Int.toNat_natCast, List.length_set, List.length_replicate, List.length_take, List.length_drop, List.length_append, List.length_cons, List.length_nil, Nat.min_self, List.take_take, lenCols_i, lenCols_b, List.drop_zero, List.take_length, Nat.add_eq, Nat.mul_eq, Nat.sub_eq, Nat.zero_add, Nat.sub_zero, Nat.mul_one]
  refine imp_i fun h0 => ?_
  try simp only [sigBitsR, iR, cB, bitsPost, List.cons.injEq, DV.b.injEq, and_true, List.length_cons, List.length_nil] at h0
  refine req_i ?_ ?_
  · -- r0
   first | omega | assumption | grind
  refine req_i ?_ ?_
  · -- r1
   decide +kernel
  refine req_i ?_ ?_
  · -- r2
   exact all01 (by decide +kernel)
  refine req_i ?_ ?_
  · -- r3
   first | exact ⟨rfl, rfl⟩ | exact ⟨rfl, by decide +kernel⟩
  rfl
theorem ext_bits1 : ∀ p ∈ ([] : List (Nat × Ext)), ExtRow Tryd.prog p.1 p.2 := by
  intro p hp
  cases hp
theorem cts_bits1 : CtsOk Tryd.prog [] := fun f c h => by cases h
theorem fn_bits1 : FnOk Tryd.prog 51 (sigBitsR 5 5 2 2) gl11 := fn_sound (by kernel_rfl) ext_bits1 cts_bits1 names vt_bits1
end Go.Proofs.YtblcahackjpnjaaDoor

namespace Go.Proofs.YtblcahackjpnjaaDoor
open Go.Ev Go.Sp
set_option maxRecDepth 100000
theorem vc_bits2 : vcFn Tryd.prog [] noA gl11 400 51 (sigBitsR 6 6 1 1) = (impB ((sigBitsR (6 : Int) (6 : Int) (1 : Int) (1 : Int)).pre [DV.n (6 : Int), DV.n (1 : Int)]) (
reqB ((63 : Nat) ≤ (1100 : Nat)) (
reqB ((bitsL 6 1).length =
 (63 : Nat)) (
reqB (∀ (y : Int),
 y ∈
 (bitsL 6 1) →
 (0 : Int) ≤ y ∧ y ≤ (1 : Int)) (
reqB ((sigBitsR (6 : Int) (6 : Int) (1 : Int) (1 : Int)).post [DV.n (6 : Int), DV.n (1 : Int)]
 [DV.l
 (bitsL 6 1),
 DV.n (0 : Int)]) (
true)))))) := by kernel_rfl
set_option maxHeartbeats 8000000 in
theorem vt_bits2 : vcFn Tryd.prog [] noA gl11 400 51 (sigBitsR 6 6 1 1) = true := by
  rw [vc_bits2]
  try simp only [Int.toNat_natCast, List.length_set, List.length_replicate, List.length_take, List.length_drop, List.length_append, List.length_cons, List.length_nil, Nat.min_self, List.take_take, lenCols_i, lenCols_b, List.drop_zero, List.take_length, Nat.add_eq, Nat.mul_eq, Nat.sub_eq, Nat.zero_add, Nat.sub_zero, Nat.mul_one]
  refine imp_i fun h0 => ?_
  try simp only [sigBitsR, iR, cB, bitsPost, List.cons.injEq, DV.b.injEq, and_true, List.length_cons, List.length_nil] at h0
  refine req_i ?_ ?_
  · -- r0
   first | omega | assumption | grind
  refine req_i ?_ ?_
  · -- r1
   decide +kernel
  refine req_i ?_ ?_
  · -- r2
   exact all01 (by decide +kernel)
  refine req_i ?_ ?_
  · -- r3
   first | exact ⟨rfl, rfl⟩ | exact ⟨rfl, by decide +kernel⟩
  rfl
theorem ext_bits2 : ∀ p ∈ ([] : List (Nat × Ext)), ExtRow Tryd.prog p.1 p.2 := by
  intro p hp
  cases hp
theorem cts_bits2 : CtsOk Tryd.prog [] := fun f c h => by cases h
theorem fn_bits2 : FnOk Tryd.prog 51 (sigBitsR 6 6 1 1) gl11 := fn_sound (by kernel_rfl) ext_bits2 cts_bits2 names vt_bits2
end Go.Proofs.YtblcahackjpnjaaDoor

namespace Go.Proofs.YtblcahackjpnjaaDoor
open Go.Ev Go.Sp
set_option maxRecDepth 100000
theorem vc_bits3 : vcFn Tryd.prog [] noA gl11 400 51 (sigBitsR 6 6 2 2) = (impB ((sigBitsR (6 : Int) (6 : Int) (2 : Int) (2 : Int)).pre [DV.n (6 : Int), DV.n (2 : Int)]) (
reqB ((63 : Nat) ≤ (1100 : Nat)) (
reqB ((bitsL 6 2).length =
 (63 : Nat)) (
reqB (∀ (y : Int),
 y ∈
 (bitsL 6 2) →
 (0 : Int) ≤ y ∧ y ≤ (1 : Int)) (
reqB ((sigBitsR (6 : Int) (6 : Int) (2 : Int) (2 : Int)).post [DV.n (6 : Int), DV.n (2 : Int)]
 [DV.l
 (bitsL 6 2),
 DV.n (0 : Int)]) (
true)))))) := by kernel_rfl
set_option maxHeartbeats 8000000 in
theorem vt_bits3 : vcFn Tryd.prog [] noA gl11 400 51 (sigBitsR 6 6 2 2) = true := by
  rw [vc_bits3]
  try simp only [Int.toNat_natCast, List.length_set, List.length_replicate, List.length_take, List.length_drop, List.length_append, List.length_cons, List.length_nil, Nat.min_self, List.take_take, lenCols_i, lenCols_b, List.drop_zero, List.take_length, Nat.add_eq, Nat.mul_eq, Nat.sub_eq, Nat.zero_add, Nat.sub_zero, Nat.mul_one]
  refine imp_i fun h0 => ?_
  try simp only [sigBitsR, iR, cB, bitsPost, List.cons.injEq, DV.b.injEq, and_true, List.length_cons, List.length_nil] at h0
  refine req_i ?_ ?_
  · -- r0
   first | omega | assumption | grind
  refine req_i ?_ ?_
  · -- r1
   decide +kernel
  refine req_i ?_ ?_
  · -- r2
   exact all01 (by decide +kernel)
  refine req_i ?_ ?_
  · -- r3
   first | exact ⟨rfl, rfl⟩ | exact ⟨rfl, by decide +kernel⟩
  rfl
theorem ext_bits3 : ∀ p ∈ ([] : List (Nat × Ext)), ExtRow Tryd.prog p.1 p.2 := by
  intro p hp
  cases hp
theorem cts_bits3 : CtsOk Tryd.prog [] := fun f c h => by cases h
theorem fn_bits3 : FnOk Tryd.prog 51 (sigBitsR 6 6 2 2) gl11 := fn_sound (by kernel_rfl) ext_bits3 cts_bits3 names vt_bits3
end Go.Proofs.YtblcahackjpnjaaDoor

namespace Go.Proofs.YtblcahackjpnjaaDoor
open Go.Ev Go.Sp
set_option maxRecDepth 100000
theorem vc_bits4 : vcFn Tryd.prog [] noA gl11 1000 51 (sigBitsR 7 7 1 1) = (impB ((sigBitsR (7 : Int) (7 : Int) (1 : Int) (1 : Int)).pre [DV.n (7 : Int), DV.n (1 : Int)]) (
reqB ((127 : Nat) ≤ (1100 : Nat)) (
reqB ((bitsL 7 1).length =
 (127 : Nat)) (
reqB (∀ (y : Int),
 y ∈
 (bitsL 7 1) →
 (0 : Int) ≤ y ∧ y ≤ (1 : Int)) (
reqB ((sigBitsR (7 : Int) (7 : Int) (1 : Int) (1 : Int)).post [DV.n (7 : Int), DV.n (1 : Int)]
 [DV.l
 (bitsL 7 1),
 DV.n (0 : Int)]) (
true)))))) := by kernel_rfl
set_option maxHeartbeats 8000000 in
theorem vt_bits4 : vcFn Tryd.prog [] noA gl11 1000 51 (sigBitsR 7 7 1 1) = true := by
  rw [vc_bits4]
  try simp only [Int.toNat_natCast, List.length_set, List.length_replicate, List.length_take, List.length_drop, List.length_append, List.length_cons, List.length_nil, Nat.min_self, List.take_take, lenCols_i, lenCols_b, List.drop_zero, List.take_length, Nat.add_eq, Nat.mul_eq, Nat.sub_eq, Nat.zero_add, Nat.sub_zero, Nat.mul_one]
  refine imp_i fun h0 => ?_
  try simp only [sigBitsR, iR, cB, bitsPost, List.cons.injEq, DV.b.injEq, and_true, List.length_cons, List.length_nil] at h0
  refine req_i ?_ ?_
  · -- r0
   first | omega | assumption | grind
  refine req_i ?_ ?_
  · -- r1
   decide +kernel
  refine req_i ?_ ?_
  · -- r2
   exact all01 (by decide +kernel)
  refine req_i ?_ ?_
  · -- r3
   first | exact ⟨rfl, rfl⟩ | exact ⟨rfl, by decide +kernel⟩
  rfl
theorem ext_bits4 : ∀ p ∈ ([] : List (Nat × Ext)), ExtRow Tryd.prog p.1 p.2 := by
  intro p hp
  cases hp
theorem cts_bits4 : CtsOk Tryd.prog [] := fun f c h => by cases h
theorem fn_bits4 : FnOk Tryd.prog 51 (sigBitsR 7 7 1 1) gl11 := fn_sound (by kernel_rfl) ext_bits4 cts_bits4 names vt_bits4
end Go.Proofs.YtblcahackjpnjaaDoor

namespace Go.Proofs.YtblcahackjpnjaaDoor
open Go.Ev Go.Sp
set_option maxRecDepth 100000
theorem vc_bits5 : vcFn Tryd.prog [] noA gl11 1000 51 (sigBitsR 7 7 2 2) = (impB ((sigBitsR (7 : Int) (7 : Int) (2 : Int) (2 : Int)).pre [DV.n (7 : Int), DV.n (2 : Int)]) (
reqB ((127 : Nat) ≤ (1100 : Nat)) (
reqB ((bitsL 7 2).length =
 (127 : Nat)) (
reqB (∀ (y : Int),
 y ∈
 (bitsL 7 2) →
 (0 : Int) ≤ y ∧ y ≤ (1 : Int)) (
reqB ((sigBitsR (7 : Int) (7 : Int) (2 : Int) (2 : Int)).post [DV.n (7 : Int), DV.n (2 : Int)]
 [DV.l
 (bitsL 7 2),
 DV.n (0 : Int)]) (
true)))))) := by kernel_rfl
set_option maxHeartbeats 8000000 in
theorem vt_bits5 : vcFn Tryd.prog [] noA gl11 1000 51 (sigBitsR 7 7 2 2) = true := by
  rw [vc_bits5]
  try simp only [Int.toNat_natCast, List.length_set, List.length_replicate, List.length_take, List.length_drop, List.length_append, List.length_cons, List.length_nil, Nat.min_self, List.take_take, lenCols_i, lenCols_b, List.drop_zero, List.take_length, Nat.add_eq, Nat.mul_eq, Nat.sub_eq, Nat.zero_add, Nat.sub_zero, Nat.mul_one]
  refine imp_i fun h0 => ?_
  try simp only [sigBitsR, iR, cB, bitsPost, List.cons.injEq, DV.b.injEq, and_true, List.length_cons, List.length_nil] at h0
  refine req_i ?_ ?_
  · -- r0
   first | omega | assumption | grind
  refine req_i ?_ ?_
  · -- r1
   decide +kernel
  refine req_i ?_ ?_
  · -- r2
   exact all01 (by decide +kernel)
  refine req_i ?_ ?_
  · -- r3
   first | exact ⟨rfl, rfl⟩ | exact ⟨rfl, by decide +kernel⟩
  rfl
theorem ext_bits5 : ∀ p ∈ ([] : List (Nat × Ext)), ExtRow Tryd.prog p.1 p.2 := by
  intro p hp
  cases hp
theorem cts_bits5 : CtsOk Tryd.prog [] := fun f c h => by cases h
theorem fn_bits5 : FnOk Tryd.prog 51 (sigBitsR 7 7 2 2) gl11 := fn_sound (by kernel_rfl) ext_bits5 cts_bits5 names vt_bits5
end Go.Proofs.YtblcahackjpnjaaDoor

namespace Go.Proofs.YtblcahackjpnjaaDoor
open Go.Ev Go.Sp
set_option maxRecDepth 100000
theorem vc_bits6 : vcFn Tryd.prog [] noA gl11 2500 51 (sigBitsR 9 9 1 1) = (impB ((sigBitsR (9 : Int) (9 : Int) (1 : Int) (1 : Int)).pre [DV.n (9 : Int), DV.n (1 : Int)]) (
reqB ((511 : Nat) ≤ (1100 : Nat)) (
reqB ((bitsL 9 1).length =
 (511 : Nat)) (
reqB (∀ (y : Int),
 y ∈
 (bitsL 9 1) →
 (0 : Int) ≤ y ∧ y ≤ (1 : Int)) (
reqB ((sigBitsR (9 : Int) (9 : Int) (1 : Int) (1 : Int)).post [DV.n (9 : Int), DV.n (1 : Int)]
 [DV.l
 (bitsL 9 1),
 DV.n (0 : Int)]) (
true)))))) := by kernel_rfl
set_option maxHeartbeats 8000000 in
theorem vt_bits6 : vcFn Tryd.prog [] noA gl11 2500 51 (sigBitsR 9 9 1 1) = true := by
  rw [vc_bits6]
  try simp only [Int.toNat_natCast, List.length_set, List.length_replicate, List.length_take, List.length_drop, List.length_append, List.length_cons, List.length_nil, Nat.min_self, List.take_take, lenCols_i, lenCols_b, List.drop_zero, List.take_length, Nat.add_eq, Nat.mul_eq, Nat.sub_eq, Nat.zero_add, Nat.sub_zero, Nat.mul_one]
  refine imp_i fun h0 => ?_
  try simp only [sigBitsR, iR, cB, bitsPost, List.cons.injEq, DV.b.injEq, and_true, List.length_cons, List.length_nil] at h0
  refine req_i ?_ ?_
  · -- r0
   first | omega | assumption | grind
  refine req_i ?_ ?_
  · -- r1
   decide +kernel
  refine req_i ?_ ?_
  · -- r2
   exact all01 (by decide +kernel)
  refine req_i ?_ ?_
  · -- r3
   first | exact ⟨rfl, rfl⟩ | exact ⟨rfl, by decide +kernel⟩
  rfl
theorem ext_bits6 : ∀ p ∈ ([] : List (Nat × Ext)), ExtRow Tryd.prog p.1 p.2 := by
  intro p hp
  cases hp
theorem cts_bits6 : CtsOk Tryd.prog [] := fun f c h => by cases h
theorem fn_bits6 : FnOk Tryd.prog 51 (sigBitsR 9 9 1 1) gl11 := fn_sound (by kernel_rfl) ext_bits6 cts_bits6 names vt_bits6
end Go.Proofs.YtblcahackjpnjaaDoor

namespace Go.Proofs.YtblcahackjpnjaaDoor
open Go.Ev Go.Sp
set_option maxRecDepth 100000
theorem vc_bits7 : vcFn Tryd.prog [] noA gl11 2500 51 (sigBitsR 9 9 2 2) = (impB ((sigBitsR (9 : Int) (9 : Int) (2 : Int) (2 : Int)).pre [DV.n (9 : Int), DV.n (2 : Int)]) (
reqB ((511 : Nat) ≤ (1100 : Nat)) (
reqB ((bitsL 9 2).length =
 (511 : Nat)) (
reqB (∀ (y : Int),
 y ∈
 (bitsL 9 2) →
 (0 : Int) ≤ y ∧ y ≤ (1 : Int)) (
reqB ((sigBitsR (9 : Int) (9 : Int) (2 : Int) (2 : Int)).post [DV.n (9 : Int), DV.n (2 : Int)]
 [DV.l
 (bitsL 9 2),
 DV.n (0 : Int)]) (
true)))))) := by kernel_rfl
set_option maxHeartbeats 8000000 in
theorem vt_bits7 : vcFn Tryd.prog [] noA gl11 2500 51 (sigBitsR 9 9 2 2) = true := by
  rw [vc_bits7]
  try simp only [Int.toNat_natCast, List.length_set, List.length_replicate, List.length_take, List.length_drop, List.length_append, List.length_cons, List.length_nil, Nat.min_self, List.take_take, lenCols_i, lenCols_b, List.drop_zero, List.take_length, Nat.add_eq, Nat.mul_eq, Nat.sub_eq, Nat.zero_add, Nat.sub_zero, Nat.mul_one]
  refine imp_i fun h0 => ?_
  try simp only [sigBitsR, iR, cB, bitsPost, List.cons.injEq, DV.b.injEq, and_true, List.length_cons, List.length_nil] at h0
  refine req_i ?_ ?_
  · -- r0
   first | omega | assumption | grind
  refine req_i ?_ ?_
  · -- r1
   decide +kernel
  refine req_i ?_ ?_
  · -- r2
   exact all01 (by decide +kernel)
  refine req_i ?_ ?_
  · -- r3
   first | exact ⟨rfl, rfl⟩ | exact ⟨rfl, by decide +kernel⟩
  rfl
theorem ext_bits7 : ∀ p ∈ ([] : List (Nat × Ext)), ExtRow Tryd.prog p.1 p.2 := by
  intro p hp
  cases hp
theorem cts_bits7 : CtsOk Tryd.prog [] := fun f c h => by cases h
theorem fn_bits7 : FnOk Tryd.prog 51 (sigBitsR 9 9 2 2) gl11 := fn_sound (by kernel_rfl) ext_bits7 cts_bits7 names vt_bits7
end Go.Proofs.YtblcahackjpnjaaDoor

namespace Go.Proofs.YtblcahackjpnjaaDoor
open Go.Ev Go.Sp
set_option maxRecDepth 100000
theorem vc_bits8 : vcFn Tryd.prog [] noA gl11 4000 51 (sigBitsR 10 10 1 1) = (impB ((sigBitsR (10 : Int) (10 : Int) (1 : Int) (1 : Int)).pre [DV.n (10 : Int), DV.n (1 : Int)]) (
reqB ((1023 : Nat) ≤ (1100 : Nat)) (
reqB ((bitsL 10 1).length =
 (1023 : Nat)) (
reqB (∀ (y : Int),
 y ∈
 (bitsL 10 1) →
 (0 : Int) ≤ y ∧ y ≤ (1 : Int)) (
reqB ((sigBitsR (10 : Int) (10 : Int) (1 : Int) (1 : Int)).post [DV.n (10 : Int), DV.n (1 : Int)]
 [DV.l
 (bitsL 10 1),
 DV.n (0 : Int)]) (
true)))))) := by kernel_rfl
set_option maxHeartbeats 8000000 in
theorem vt_bits8 : vcFn Tryd.prog [] noA gl11 4000 51 (sigBitsR 10 10 1 1) = true := by
  rw [vc_bits8]
  try simp only [Int.toNat_natCast, List.length_set, List.length_replicate, List.length_take, List.length_drop, List.length_append, List.length_cons, List.length_nil, Nat.min_self, List.take_take, lenCols_i, lenCols_b, List.drop_zero, List.take_length, Nat.add_eq, Nat.mul_eq, Nat.sub_eq, Nat.zero_add, Nat.sub_zero, Nat.mul_one]
  refine imp_i fun h0 => ?_
  try simp only [sigBitsR, iR, cB, bitsPost, List.cons.injEq, DV.b.injEq, and_true, List.length_cons, List.length_nil] at h0
  refine req_i ?_ ?_
  · -- r0
   first | omega | assumption | grind
  refine req_i ?_ ?_
  · -- r1
   decide +kernel
  refine req_i ?_ ?_
  · -- r2
   exact all01 (by decide +kernel)
  refine req_i ?_ ?_
  · -- r3
   first | exact ⟨rfl, rfl⟩ | exact ⟨rfl, by decide +kernel⟩
  rfl
theorem ext_bits8 : ∀ p ∈ ([] : List (Nat × Ext)), ExtRow Tryd.prog p.1 p.2 := by
  intro p hp
  cases hp
theorem cts_bits8 : CtsOk Tryd.prog [] := fun f c h => by cases h
theorem fn_bits8 : FnOk Tryd.prog 51 (sigBitsR 10 10 1 1) gl11 := fn_sound (by kernel_rfl) ext_bits8 cts_bits8 names vt_bits8
end Go.Proofs.YtblcahackjpnjaaDoor

namespace Go.Proofs.YtblcahackjpnjaaDoor
open Go.Ev Go.Sp
set_option maxRecDepth 100000
theorem vc_bits9 : vcFn Tryd.prog [] noA gl11 4000 51 (sigBitsR 10 10 2 2) = (impB ((sigBitsR (10 : Int) (10 : Int) (2 : Int) (2 : Int)).pre [DV.n (10 : Int), DV.n (2 : Int)]) (
reqB ((1023 : Nat) ≤ (1100 : Nat)) (
reqB ((bitsL 10 2).length =
 (1023 : Nat)) (
reqB (∀ (y : Int),
 y ∈
 (bitsL 10 2) →
 (0 : Int) ≤ y ∧ y ≤ (1 : Int)) (
reqB ((sigBitsR (10 : Int) (10 : Int) (2 : Int) (2 : Int)).post [DV.n (10 : Int), DV.n (2 : Int)]
 [DV.l
 (bitsL 10 2),
 DV.n (0 : Int)]) (
true)))))) := by kernel_rfl
set_option maxHeartbeats 8000000 in
theorem vt_bits9 : vcFn Tryd.prog [] noA gl11 4000 51 (sigBitsR 10 10 2 2) = true := by
  rw [vc_bits9]
  try simp only [Int.toNat_natCast, List.length_set, List.length_replicate, List.length_take, List.length_drop, List.length_append, List.length_cons, List.length_nil, Nat.min_self, List.take_take, lenCols_i, lenCols_b, List.drop_zero, List.take_length, Nat.add_eq, Nat.mul_eq, Nat.sub_eq, Nat.zero_add, Nat.sub_zero, Nat.mul_one]
  refine imp_i fun h0 => ?_
  try simp only [sigBitsR, iR, cB, bitsPost, List.cons.injEq, DV.b.injEq, and_true, List.length_cons, List.length_nil] at h0
  refine req_i ?_ ?_
  · -- r0
   first | omega | assumption | grind
  refine req_i ?_ ?_
  · -- r1
   decide +kernel
  refine req_i ?_ ?_
  · -- r2
   exact all01 (by decide +kernel)
  refine req_i ?_ ?_
  · -- r3
   first | exact ⟨rfl, rfl⟩ | exact ⟨rfl, by decide +kernel⟩
  rfl
theorem ext_bits9 : ∀ p ∈ ([] : List (Nat × Ext)), ExtRow Tryd.prog p.1 p.2 := by
  intro p hp
  cases hp
theorem cts_bits9 : CtsOk Tryd.prog [] := fun f c h => by cases h
theorem fn_bits9 : FnOk Tryd.prog 51 (sigBitsR 10 10 2 2) gl11 := fn_sound (by kernel_rfl) ext_bits9 cts_bits9 names vt_bits9
end Go.Proofs.YtblcahackjpnjaaDoor

namespace Go.Proofs.YtblcahackjpnjaaDoor
open Go.Ev Go.Sp
set_option maxRecDepth 100000
theorem vc_bits10 : vcFn Tryd.prog [] noA gl11 100 51 (sigBitsR (-9223372036854775808) 4 (-9223372036854775808) 9223372036854775807) = (allB fun n0 : Int => 
impB ((-9223372036854775808 : Int) ≤ n0) (
impB (n0 ≤ (4 : Int)) (
allB fun n1 : Int => 
impB ((-9223372036854775808 : Int) ≤ n1) (
impB (n1 ≤ (9223372036854775807 : Int)) (
impB ((sigBitsR (-9223372036854775808 : Int) (4 : Int) (-9223372036854775808 : Int) (9223372036854775807 : Int)).pre
 [DV.n n0, DV.n n1]) (
reqB ((sigBitsR (-9223372036854775808 : Int) (4 : Int) (-9223372036854775808 : Int) (9223372036854775807 : Int)).post
 [DV.n n0, DV.n n1] [DV.l [], DV.n (2 : Int)]) (
true))))))) := by kernel_rfl
set_option maxHeartbeats 8000000 in
theorem vt_bits10 : vcFn Tryd.prog [] noA gl11 100 51 (sigBitsR (-9223372036854775808) 4 (-9223372036854775808) 9223372036854775807) = true := by
  rw [vc_bits10]
  try simp only [Int.toNat_natCast, List.length_set, List.length_replicate, List.length_take, List.length_drop, List.length_append, List.length_cons, List.length_nil, Nat.min_self, List.take_take, lenCols_i, lenCols_b, List.drop_zero, List.take_length, Nat.add_eq, Nat.mul_eq, Nat.sub_eq, Nat.zero_add, Nat.sub_zero, Nat.mul_one]
  refine all_i fun n0 => ?_
  refine imp_i fun h0 => ?_
  refine imp_i fun h1 => ?_
  refine all_i fun n1 => ?_
  refine imp_i fun h2 => ?_
  refine imp_i fun h3 => ?_
  refine imp_i fun h4 => ?_
  try simp only [sigBitsR, iR, cB, bitsPost, List.cons.injEq, DV.b.injEq, and_true, List.length_cons, List.length_nil] at h4
  refine req_i ?_ ?_
  · -- r0
   (simp only [sigBitsR, bitsPost, sigTapsR, tapsPost, sigLenR, lenPost]; exact ite_no (by unfold okD; omega) (by simp))
  rfl
theorem ext_bits10 : ∀ p ∈ ([] : List (Nat × Ext)), ExtRow Tryd.prog p.1 p.2 := by
  intro p hp
  cases hp
theorem cts_bits10 : CtsOk Tryd.prog [] := fun f c h => by cases h
theorem fn_bits10 : FnOk Tryd.prog 51 (sigBitsR (-9223372036854775808) 4 (-9223372036854775808) 9223372036854775807) gl11 := fn_sound (by kernel_rfl) ext_bits10 cts_bits10 names vt_bits10
end Go.Proofs.YtblcahackjpnjaaDoor

namespace Go.Proofs.YtblcahackjpnjaaDoor
open Go.Ev Go.Sp
set_option maxRecDepth 100000
theorem vc_bits11 : vcFn Tryd.prog [] noA gl11 100 51 (sigBitsR 8 8 (-9223372036854775808) 9223372036854775807) = (allB fun n0 : Int => 
impB ((-9223372036854775808 : Int) ≤ n0) (
impB (n0 ≤ (9223372036854775807 : Int)) (
impB ((sigBitsR (8 : Int) (8 : Int) (-9223372036854775808 : Int) (9223372036854775807 : Int)).pre
 [DV.n (8 : Int), DV.n n0]) (
reqB ((sigBitsR (8 : Int) (8 : Int) (-9223372036854775808 : Int) (9223372036854775807 : Int)).post
 [DV.n (8 : Int), DV.n n0] [DV.l [], DV.n (2 : Int)]) (
true))))) := by kernel_rfl
set_option maxHeartbeats 8000000 in
theorem vt_bits11 : vcFn Tryd.prog [] noA gl11 100 51 (sigBitsR 8 8 (-9223372036854775808) 9223372036854775807) = true := by
  rw [vc_bits11]
  try simp only [Int.toNat_natCast, List.length_set, List.length_replicate, List.length_take, List.length_drop, List.length_append, List.length_cons, List.length_nil, Nat.min_self, List.take_take, lenCols_i, lenCols_b, List.drop_zero, List.take_length, Nat.add_eq, Nat.mul_eq, Nat.sub_eq, Nat.zero_add, Nat.sub_zero, Nat.mul_one]
  refine all_i fun n0 => ?_
  refine imp_i fun h0 => ?_
  refine imp_i fun h1 => ?_
  refine imp_i fun h2 => ?_
  try simp only [sigBitsR, iR, cB, bitsPost, List.cons.injEq, DV.b.injEq, and_true, List.length_cons, List.length_nil] at h2
  refine req_i ?_ ?_
  · -- r0
   (simp only [sigBitsR, bitsPost, sigTapsR, tapsPost, sigLenR, lenPost]; exact ite_no (by unfold okD; omega) (by simp))
  rfl
theorem ext_bits11 : ∀ p ∈ ([] : List (Nat × Ext)), ExtRow Tryd.prog p.1 p.2 := by
  intro p hp
  cases hp
theorem cts_bits11 : CtsOk Tryd.prog [] := fun f c h => by cases h
theorem fn_bits11 : FnOk Tryd.prog 51 (sigBitsR 8 8 (-9223372036854775808) 9223372036854775807) gl11 := fn_sound (by kernel_rfl) ext_bits11 cts_bits11 names vt_bits11
end Go.Proofs.YtblcahackjpnjaaDoor

namespace Go.Proofs.YtblcahackjpnjaaDoor
open Go.Ev Go.Sp
set_option maxRecDepth 100000
theorem vc_bits12 : vcFn Tryd.prog [] noA gl11 100 51 (sigBitsR 11 9223372036854775807 (-9223372036854775808) 9223372036854775807) = (allB fun n0 : Int => 
impB ((11 : Int) ≤ n0) (
impB (n0 ≤ (9223372036854775807 : Int)) (
allB fun n1 : Int => 
impB ((-9223372036854775808 : Int) ≤ n1) (
impB (n1 ≤ (9223372036854775807 : Int)) (
impB ((sigBitsR (11 : Int) (9223372036854775807 : Int) (-9223372036854775808 : Int) (9223372036854775807 : Int)).pre
 [DV.n n0, DV.n n1]) (
reqB ((sigBitsR (11 : Int) (9223372036854775807 : Int) (-9223372036854775808 : Int) (9223372036854775807 : Int)).post
 [DV.n n0, DV.n n1] [DV.l [], DV.n (2 : Int)]) (
true))))))) := by kernel_rfl
set_option maxHeartbeats 8000000 in
theorem vt_bits12 : vcFn Tryd.prog [] noA gl11 100 51 (sigBitsR 11 9223372036854775807 (-9223372036854775808) 9223372036854775807) = true := by
  rw [vc_bits12]
  try simp only [Int.toNat_natCast, List.length_set, List.length_replicate, List.length_take, List.length_drop, List.length_append, List.length_cons, List.length_nil, Nat.min_self, List.take_take, lenCols_i, lenCols_b, List.drop_zero, List.take_length, Nat.add_eq, Nat.mul_eq, Nat.sub_eq, Nat.zero_add, Nat.sub_zero, Nat.mul_one]
  refine all_i fun n0 => ?_
  refine imp_i fun h0 => ?_
  refine imp_i fun h1 => ?_
  refine all_i fun n1 => ?_
  refine imp_i fun h2 => ?_
  refine imp_i fun h3 => ?_
  refine imp_i fun h4 => ?_
  try simp only [sigBitsR, iR, cB, bitsPost, List.cons.injEq, DV.b.injEq, and_true, List.length_cons, List.length_nil] at h4
  refine req_i ?_ ?_
  · -- r0
   (simp only [sigBitsR, bitsPost, sigTapsR, tapsPost, sigLenR, lenPost]; exact ite_no (by unfold okD; omega) (by simp))
  rfl
theorem ext_bits12 : ∀ p ∈ ([] : List (Nat × Ext)), ExtRow Tryd.prog p.1 p.2 := by
  intro p hp
  cases hp
theorem cts_bits12 : CtsOk Tryd.prog [] := fun f c h => by cases h
theorem fn_bits12 : FnOk Tryd.prog 51 (sigBitsR 11 9223372036854775807 (-9223372036854775808) 9223372036854775807) gl11 := fn_sound (by kernel_rfl) ext_bits12 cts_bits12 names vt_bits12
end Go.Proofs.YtblcahackjpnjaaDoor

namespace Go.Proofs.YtblcahackjpnjaaDoor
open Go.Ev Go.Sp
set_option maxRecDepth 100000
theorem vc_bits13 : vcFn Tryd.prog [] noA gl11 100 51 (sigBitsR 5 10 (-9223372036854775808) 0) = (allB fun n0 : Int => 
impB ((5 : Int) ≤ n0) (
impB (n0 ≤ (10 : Int)) (
allB fun n1 : Int => 
impB ((-9223372036854775808 : Int) ≤ n1) (
impB (n1 ≤ (0 : Int)) (
impB ((sigBitsR (5 : Int) (10 : Int) (-9223372036854775808 : Int) (0 : Int)).pre [DV.n n0, DV.n n1]) (
bR (dec ((5 : Int) = n0)) (
 reqB ((sigBitsR (5 : Int) (10 : Int) (-9223372036854775808 : Int) (0 : Int)).post [DV.n n0, DV.n n1]
 [DV.l [], DV.n (2 : Int)]) (
 true)) (
 bR (dec ((6 : Int) = n0)) (
 reqB ((sigBitsR (5 : Int) (10 : Int) (-9223372036854775808 : Int) (0 : Int)).post [DV.n n0, DV.n n1]
 [DV.l [], DV.n (2 : Int)]) (
 true)) (
 bR (dec ((7 : Int) = n0)) (
 reqB ((sigBitsR (5 : Int) (10 : Int) (-9223372036854775808 : Int) (0 : Int)).post [DV.n n0, DV.n n1]
 [DV.l [], DV.n (2 : Int)]) (
 true)) (
 bR (dec ((9 : Int) = n0)) (
 reqB ((sigBitsR (5 : Int) (10 : Int) (-9223372036854775808 : Int) (0 : Int)).post [DV.n n0, DV.n n1]
 [DV.l [], DV.n (2 : Int)]) (
 true)) (
 bR (dec ((10 : Int) = n0)) (
 reqB ((sigBitsR (5 : Int) (10 : Int) (-9223372036854775808 : Int) (0 : Int)).post [DV.n n0, DV.n n1]
 [DV.l [], DV.n (2 : Int)]) (
 true)) (
 reqB ((sigBitsR (5 : Int) (10 : Int) (-9223372036854775808 : Int) (0 : Int)).post [DV.n n0, DV.n n1]
 [DV.l [], DV.n (2 : Int)]) (
 true)))))))))))) := by kernel_rfl
set_option maxHeartbeats 8000000 in
theorem vt_bits13 : vcFn Tryd.prog [] noA gl11 100 51 (sigBitsR 5 10 (-9223372036854775808) 0) = true := by
  rw [vc_bits13]
  try simp only [Int.toNat_natCast, List.length_set, List.length_replicate, List.length_take, List.length_drop, List.length_append, List.length_cons, List.length_nil, Nat.min_self, List.take_take, lenCols_i, lenCols_b, List.drop_zero, List.take_length, Nat.add_eq, Nat.mul_eq, Nat.sub_eq, Nat.zero_add, Nat.sub_zero, Nat.mul_one]
  refine all_i fun n0 => ?_
  refine imp_i fun h0 => ?_
  refine imp_i fun h1 => ?_
  refine all_i fun n1 => ?_
  refine imp_i fun h2 => ?_
  refine imp_i fun h3 => ?_
  refine imp_i fun h4 => ?_
  try simp only [sigBitsR, iR, cB, bitsPost, List.cons.injEq, DV.b.injEq, and_true, List.length_cons, List.length_nil] at h4
  refine bR_dec (fun h5 => ?_) (fun h5 => ?_)
  ·
   refine req_i ?_ ?_
   · -- r0
    (simp only [sigBitsR, bitsPost, sigTapsR, tapsPost, sigLenR, lenPost]; exact ite_no (by unfold okD; omega) (by simp))
   rfl
  ·
   refine bR_dec (fun h6 => ?_) (fun h6 => ?_)
   ·
    refine req_i ?_ ?_
    · -- r1
     (simp only [sigBitsR, bitsPost, sigTapsR, tapsPost, sigLenR, lenPost]; exact ite_no (by unfold okD; omega) (by simp))
    rfl
   ·
    refine bR_dec (fun h7 => ?_) (fun h7 => ?_)
    ·
     refine req_i ?_ ?_
     · -- r2
      (simp only [sigBitsR, bitsPost, sigTapsR, tapsPost, sigLenR, lenPost]; exact ite_no (by unfold okD; omega) (by simp))
     rfl
    ·
     refine bR_dec (fun h8 => ?_) (fun h8 => ?_)
     ·
      refine req_i ?_ ?_
      · -- r3
       (simp only [sigBitsR, bitsPost, sigTapsR, tapsPost, sigLenR, lenPost]; exact ite_no (by unfold okD; omega) (by simp))
      rfl
     ·
      refine bR_dec (fun h9 => ?_) (fun h9 => ?_)
      ·
       refine req_i ?_ ?_
       · -- r4
        (simp only [sigBitsR, bitsPost, sigTapsR, tapsPost, sigLenR, lenPost]; exact ite_no (by unfold okD; omega) (by simp))
       rfl
      ·
       refine req_i ?_ ?_
       · -- r5
        (simp only [sigBitsR, bitsPost, sigTapsR, tapsPost, sigLenR, lenPost]; exact ite_no (by unfold okD; omega) (by simp))
       rfl
theorem ext_bits13 : ∀ p ∈ ([] : List (Nat × Ext)), ExtRow Tryd.prog p.1 p.2 := by
  intro p hp
  cases hp
theorem cts_bits13 : CtsOk Tryd.prog [] := fun f c h => by cases h
theorem fn_bits13 : FnOk Tryd.prog 51 (sigBitsR 5 10 (-9223372036854775808) 0) gl11 := fn_sound (by kernel_rfl) ext_bits13 cts_bits13 names vt_bits13
end Go.Proofs.YtblcahackjpnjaaDoor

namespace Go.Proofs.YtblcahackjpnjaaDoor
open Go.Ev Go.Sp
set_option maxRecDepth 100000
theorem vc_bits14 : vcFn Tryd.prog [] noA gl11 100 51 (sigBitsR 5 10 3 9223372036854775807) = (allB fun n0 : Int => 
impB ((5 : Int) ≤ n0) (
impB (n0 ≤ (10 : Int)) (
allB fun n1 : Int => 
impB ((3 : Int) ≤ n1) (
impB (n1 ≤ (9223372036854775807 : Int)) (
impB ((sigBitsR (5 : Int) (10 : Int) (3 : Int) (9223372036854775807 : Int)).pre [DV.n n0, DV.n n1]) (
bR (dec ((5 : Int) = n0)) (
 reqB ((sigBitsR (5 : Int) (10 : Int) (3 : Int) (9223372036854775807 : Int)).post [DV.n n0, DV.n n1]
 [DV.l [], DV.n (2 : Int)]) (
 true)) (
 bR (dec ((6 : Int) = n0)) (
 reqB ((sigBitsR (5 : Int) (10 : Int) (3 : Int) (9223372036854775807 : Int)).post [DV.n n0, DV.n n1]
 [DV.l [], DV.n (2 : Int)]) (
 true)) (
 bR (dec ((7 : Int) = n0)) (
 reqB ((sigBitsR (5 : Int) (10 : Int) (3 : Int) (9223372036854775807 : Int)).post [DV.n n0, DV.n n1]
 [DV.l [], DV.n (2 : Int)]) (
 true)) (
 bR (dec ((9 : Int) = n0)) (
 reqB ((sigBitsR (5 : Int) (10 : Int) (3 : Int) (9223372036854775807 : Int)).post [DV.n n0, DV.n n1]
 [DV.l [], DV.n (2 : Int)]) (
 true)) (
 bR (dec ((10 : Int) = n0)) (
 reqB ((sigBitsR (5 : Int) (10 : Int) (3 : Int) (9223372036854775807 : Int)).post [DV.n n0, DV.n n1]
 [DV.l [], DV.n (2 : Int)]) (
 true)) (
 reqB ((sigBitsR (5 : Int) (10 : Int) (3 : Int) (9223372036854775807 : Int)).post [DV.n n0, DV.n n1]
 [DV.l [], DV.n (2 : Int)]) (
 true)))))))))))) := by kernel_rfl
set_option maxHeartbeats 8000000 in
theorem vt_bits14 : vcFn Tryd.prog [] noA gl11 100 51 (sigBitsR 5 10 3 9223372036854775807) = true := by
  rw [vc_bits14]
  try simp only [Int.toNat_natCast, List.length_set, List.length_replicate, List.length_take, List.length_drop, List.length_append, List.length_cons, List.length_nil, Nat.min_self, List.take_take, lenCols_i, lenCols_b, List.drop_zero, List.take_length, Nat.add_eq, Nat.mul_eq, Nat.sub_eq, Nat.zero_add, Nat.sub_zero, Nat.mul_one]
  refine all_i fun n0 => ?_
  refine imp_i fun h0 => ?_
  refine imp_i fun h1 => ?_
  refine all_i fun n1 => ?_
  refine imp_i fun h2 => ?_
  refine imp_i fun h3 => ?_
  refine imp_i fun h4 => ?_
  try simp only [sigBitsR, iR, cB, bitsPost, List.cons.injEq, DV.b.injEq, and_true, List.length_cons, List.length_nil] at h4
  refine bR_dec (fun h5 => ?_) (fun h5 => ?_)
  ·
   refine req_i ?_ ?_
   · -- r0
    (simp only [sigBitsR, bitsPost, sigTapsR, tapsPost, sigLenR, lenPost]; exact ite_no (by unfold okD; omega) (by simp))
   rfl
  ·
   refine bR_dec (fun h6 => ?_) (fun h6 => ?_)
   ·
    refine req_i ?_ ?_
    · -- r1
     (simp only [sigBitsR, bitsPost, sigTapsR, tapsPost, sigLenR, lenPost]; exact ite_no (by unfold okD; omega) (by simp))
    rfl
   ·
    refine bR_dec (fun h7 => ?_) (fun h7 => ?_)
    ·
     refine req_i ?_ ?_
     · -- r2
      (simp only [sigBitsR, bitsPost, sigTapsR, tapsPost, sigLenR, lenPost]; exact ite_no (by unfold okD; omega) (by simp))
     rfl
    ·
     refine bR_dec (fun h8 => ?_) (fun h8 => ?_)
     ·
      refine req_i ?_ ?_
      · -- r3
       (simp only [sigBitsR, bitsPost, sigTapsR, tapsPost, sigLenR, lenPost]; exact ite_no (by unfold okD; omega) (by simp))
      rfl
     ·
      refine bR_dec (fun h9 => ?_) (fun h9 => ?_)
      ·
       refine req_i ?_ ?_
       · -- r4
        (simp only [sigBitsR, bitsPost, sigTapsR, tapsPost, sigLenR, lenPost]; exact ite_no (by unfold okD; omega) (by simp))
       rfl
      ·
       refine req_i ?_ ?_
       · -- r5
        (simp only [sigBitsR, bitsPost, sigTapsR, tapsPost, sigLenR, lenPost]; exact ite_no (by unfold okD; omega) (by simp))
       rfl
theorem ext_bits14 : ∀ p ∈ ([] : List (Nat × Ext)), ExtRow Tryd.prog p.1 p.2 := by
  intro p hp
  cases hp
theorem cts_bits14 : CtsOk Tryd.prog [] := fun f c h => by cases h
theorem fn_bits14 : FnOk Tryd.prog 51 (sigBitsR 5 10 3 9223372036854775807) gl11 := fn_sound (by kernel_rfl) ext_bits14 cts_bits14 names vt_bits14
end Go.Proofs.YtblcahackjpnjaaDoor

namespace Go.Proofs.YtblcahackjpnjaaDoor
open Go.Ev Go.Sp
theorem fn_bits : FnOk Tryd.prog 51 sigBits gl11 := by
  exact (fn_cover covG covG_ok fun t ht => by
    simp only [covG, List.mem_cons, List.not_mem_nil, or_false] at ht
    rcases ht with rfl | rfl | rfl | rfl | rfl | rfl | rfl | rfl | rfl | rfl | rfl | rfl | rfl | rfl | rfl
    · exact fn_bits0
    · exact fn_bits1
    · exact fn_bits2
    · exact fn_bits3
    · exact fn_bits4
    · exact fn_bits5
    · exact fn_bits6
    · exact fn_bits7
    · exact fn_bits8
    · exact fn_bits9
    · exact fn_bits10
    · exact fn_bits11
    · exact fn_bits12
    · exact fn_bits13
    · exact fn_bits14)
end Go.Proofs.YtblcahackjpnjaaDoor

namespace Go.Proofs.YtblcahackjpnjaaDoor
open Go.Ev Go.Sp
set_option maxRecDepth 100000
theorem vc_codeF : vcFn Tryd.prog [] (fun f p _ => at2 f p 52 58 codeFL (none)) gl11 100 52 sigCodeF = (allB fun l0 : List Int => 
impB (l0.length ≤ (1100 : Nat)) (
impB (∀ (y : Int), y ∈ l0 → (0 : Int) ≤ y ∧ y ≤ (1 : Int)) (
allB fun l1 : List Int => 
impB (l1.length ≤ (1100 : Nat)) (
impB (∀ (y : Int), y ∈ l1 → (0 : Int) ≤ y ∧ y ≤ (1 : Int)) (
allB fun n2 : Int => 
impB ((1 : Int) ≤ n2) (
impB (n2 ≤ (1100 : Int)) (
impB (sigCodeF.pre [DV.l l0, DV.l l1, DV.n n2]) (
reqB ((↑l0.length : Int).toNat ≤ (↑l0.length : Int).toNat) (
reqB ((↑l0.length : Int).toNat ≤ (1000000 : Nat)) (
reqB (((0 : Nat) + l0.length) * (1 : Nat) ≤ l0.length.mul (1 : Nat)) (
reqB (l0.length ≤ (1100 : Nat)) (
reqB ((List.take l0.length (List.drop (0 : Nat) l0)).length = l0.length) (
reqB (∀ (y : Int), y ∈ List.take l0.length (List.drop (0 : Nat) l0) → (0 : Int) ≤ y ∧ y ≤ (1 : Int)) (
reqB (((0 : Nat) + l1.length) * (1 : Nat) ≤ l1.length.mul (1 : Nat)) (
reqB (l1.length ≤ (1100 : Nat)) (
reqB ((List.take l1.length (List.drop (0 : Nat) l1)).length = l1.length) (
reqB (∀ (y : Int), y ∈ List.take l1.length (List.drop (0 : Nat) l1) → (0 : Int) ≤ y ∧ y ≤ (1 : Int)) (
reqB ((1 : Int) ≤ n2) (
reqB (n2 ≤ (1100 : Int)) (
reqB (lenCols
 [Col.i Go.IntKind.i64 (Int.negSucc (9223372036854775807 : Nat)) (Int.ofNat (9223372036854775807 : Nat))
 (List.replicate (↑l0.length : Int).toNat (0 : Int))] ≤
 (1000000 : Nat)) (
reqB ((List.replicate (↑l0.length : Int).toNat (0 : Int)).length =
 lenCols
 [Col.i Go.IntKind.i64 (Int.negSucc (9223372036854775807 : Nat)) (Int.ofNat (9223372036854775807 : Nat))
 (List.replicate (↑l0.length : Int).toNat (0 : Int))]) (
reqB (∀ (y : Int),
 y ∈ List.replicate (↑l0.length : Int).toNat (0 : Int) →
 (-9223372036854775808 : Int) ≤ y ∧ y ≤ (9223372036854775807 : Int)) (
reqB (codeFL.inv
 [DV.l (List.take l0.length (List.drop (0 : Nat) l0)), DV.l (List.take l1.length (List.drop (0 : Nat) l1)),
 DV.n n2]
 [DV.n (0 : Int), DV.l (List.replicate (↑l0.length : Int).toNat (0 : Int))]) (
allB fun n3 : Int => 
impB ((0 : Int) ≤ n3) (
impB (n3 ≤ (1100 : Int)) (
allB fun l4 : List Int => 
impB (l4.length ≤ (1000000 : Nat)) (
impB (∀ (y : Int), y ∈ l4 → (-9223372036854775808 : Int) ≤ y ∧ y ≤ (9223372036854775807 : Int)) (
impB (codeFL.inv
 [DV.l (List.take l0.length (List.drop (0 : Nat) l0)), DV.l (List.take l1.length (List.drop (0 : Nat) l1)),
 DV.n n2]
 [DV.n n3, DV.l l4]) (
bR (dec (n3 < (↑(↑l0.length : Int).toNat : Int))) (
 reqB (n3.toNat < l0.length) (
 reqB (Nat.add (0 : Nat) n3.toNat < l0.length) (
 bR (dec (n2 = (2 : Int))) (
 reqB (n3.toNat < l1.length) (
 reqB (Nat.add (0 : Nat) n3.toNat < l1.length) (
 reqB (n3.toNat < (↑l0.length : Int).toNat) (
 reqB (Nat.add (0 : Nat) n3.toNat < l4.length) (
 bR (bR (bR (dec ((0 : Nat) = (0 : Nat))) (
 dec (l0.length = l0.length)) (
 false)) (
 bR (bR (dec ((0 : Nat) = (0 : Nat))) (
 dec (l1.length = l1.length)) (
 false)) (
 bR (dec (n2 = n2)) (
 bR (bR (dec ((0 : Nat) = (0 : Nat))) (
 dec ((↑l0.length : Int).toNat = (↑l0.length : Int).toNat)) (
 false)) (
 bR (bR (dec ((0 : Nat) = (0 : Nat))) (
 dec ((↑l0.length : Int).toNat = (↑l0.length : Int).toNat)) (
 false)) (
 bR (dec ((↑(↑l0.length : Int).toNat : Int) = (↑(↑l0.length : Int).toNat : Int))) (
 true) (
 false)) (
 false)) (
 false)) (
 false)) (
 false)) (
 false)) (
 reqB ((0 : Int) ≤ n3 + (1 : Int)) (
 reqB (n3 + (1 : Int) ≤ (1100 : Int)) (
 reqB (lenCols
 [Col.i Go.IntKind.i64 (-9223372036854775808 : Int) (9223372036854775807 : Int)
 (l4.set (Nat.add (0 : Nat) n3.toNat)
 ((1 : Int) - (2 : Int) * l1.getD (Nat.add (0 : Nat) n3.toNat) (0 : Int)))] ≤
 (1000000 : Nat)) (
 reqB ((l4.set (Nat.add (0 : Nat) n3.toNat) ((1 : Int) - (2 : Int) * l1.getD (Nat.add (0 : Nat) n3.toNat) (0 : Int))).length =
 lenCols
 [Col.i Go.IntKind.i64 (-9223372036854775808 : Int) (9223372036854775807 : Int)
 (l4.set (Nat.add (0 : Nat) n3.toNat) ((1 : Int) - (2 : Int) * l1.getD (Nat.add (0 : Nat) n3.toNat) (0 : Int)))]) (
 reqB (∀ (y : Int),
 y ∈ l4.set (Nat.add (0 : Nat) n3.toNat) ((1 : Int) - (2 : Int) * l1.getD (Nat.add (0 : Nat) n3.toNat) (0 : Int)) →
 (-9223372036854775808 : Int) ≤ y ∧ y ≤ (9223372036854775807 : Int)) (
 reqB (codeFL.inv
 [DV.l (List.take l0.length (List.drop (0 : Nat) l0)), DV.l (List.take l1.length (List.drop (0 : Nat) l1)),
 DV.n n2]
 [DV.n (n3 + (1 : Int)),
 DV.l
 (l4.set (Nat.add (0 : Nat) n3.toNat) ((1 : Int) - (2 : Int) * l1.getD (Nat.add (0 : Nat) n3.toNat) (0 : Int)))]) (
 reqB (codeFL.mea
 [DV.l (List.take l0.length (List.drop (0 : Nat) l0)),
 DV.l (List.take l1.length (List.drop (0 : Nat) l1)), DV.n n2]
 [DV.n (n3 + (1 : Int)),
 DV.l
 (l4.set (Nat.add (0 : Nat) n3.toNat)
 ((1 : Int) - (2 : Int) * l1.getD (Nat.add (0 : Nat) n3.toNat) (0 : Int)))] <
 codeFL.mea
 [DV.l (List.take l0.length (List.drop (0 : Nat) l0)),
 DV.l (List.take l1.length (List.drop (0 : Nat) l1)), DV.n n2]
 [DV.n n3, DV.l l4]) (
 true)))))))) (
 false)))))) (
 bR (dec ((2 : Int) < n2)) (
 reqB ((↑l1.length : Int) ≠ (0 : Int)) (
 reqB ((0 : Int) ≤ (n3 + n2 - (3 : Int)).tmod (↑l1.length : Int)) (
 reqB (((n3 + n2 - (3 : Int)).tmod (↑l1.length : Int)).toNat < l1.length) (
 reqB (Nat.add (0 : Nat) ((n3 + n2 - (3 : Int)).tmod (↑l1.length : Int)).toNat < l1.length) (
 reqB (n3.toNat < (↑l0.length : Int).toNat) (
 reqB (Nat.add (0 : Nat) n3.toNat < l4.length) (
 bR (bR (bR (dec ((0 : Nat) = (0 : Nat))) (
 dec (l0.length = l0.length)) (
 false)) (
 bR (bR (dec ((0 : Nat) = (0 : Nat))) (
 dec (l1.length = l1.length)) (
 false)) (
 bR (dec (n2 = n2)) (
 bR (bR (dec ((0 : Nat) = (0 : Nat))) (
 dec ((↑l0.length : Int).toNat = (↑l0.length : Int).toNat)) (
 false)) (
 bR (bR (dec ((0 : Nat) = (0 : Nat))) (
 dec ((↑l0.length : Int).toNat = (↑l0.length : Int).toNat)) (
 false)) (
 bR (dec ((↑(↑l0.length : Int).toNat : Int) = (↑(↑l0.length : Int).toNat : Int))) (
 true) (
 false)) (
 false)) (
 false)) (
 false)) (
 false)) (
 false)) (
 reqB ((0 : Int) ≤ n3 + (1 : Int)) (
 reqB (n3 + (1 : Int) ≤ (1100 : Int)) (
 reqB (lenCols
 [Col.i Go.IntKind.i64 (-9223372036854775808 : Int) (9223372036854775807 : Int)
 (l4.set (Nat.add (0 : Nat) n3.toNat)
 ((1 : Int) -
 (2 : Int) *
 opI (SO.xor Go.IntKind.i64) (l0.getD (Nat.add (0 : Nat) n3.toNat) (0 : Int))
 (l1.getD (Nat.add (0 : Nat) ((n3 + n2 - (3 : Int)).tmod (↑l1.length : Int)).toNat) (0 : Int))))] ≤
 (1000000 : Nat)) (
 reqB ((l4.set (Nat.add (0 : Nat) n3.toNat)
 ((1 : Int) -
 (2 : Int) *
 opI (SO.xor Go.IntKind.i64) (l0.getD (Nat.add (0 : Nat) n3.toNat) (0 : Int))
 (l1.getD (Nat.add (0 : Nat) ((n3 + n2 - (3 : Int)).tmod (↑l1.length : Int)).toNat) (0 : Int)))).length =
 lenCols
 [Col.i Go.IntKind.i64 (-9223372036854775808 : Int) (9223372036854775807 : Int)
 (l4.set (Nat.add (0 : Nat) n3.toNat)
 ((1 : Int) -
 (2 : Int) *
 opI (SO.xor Go.IntKind.i64) (l0.getD (Nat.add (0 : Nat) n3.toNat) (0 : Int))
 (l1.getD (Nat.add (0 : Nat) ((n3 + n2 - (3 : Int)).tmod (↑l1.length : Int)).toNat) (0 : Int))))]) (
 reqB (∀ (y : Int),
 y ∈
 l4.set (Nat.add (0 : Nat) n3.toNat)
 ((1 : Int) -
 (2 : Int) *
 opI (SO.xor Go.IntKind.i64) (l0.getD (Nat.add (0 : Nat) n3.toNat) (0 : Int))
 (l1.getD (Nat.add (0 : Nat) ((n3 + n2 - (3 : Int)).tmod (↑l1.length : Int)).toNat) (0 : Int))) →
 (-9223372036854775808 : Int) ≤ y ∧ y ≤ (9223372036854775807 : Int)) (
 reqB (codeFL.inv
 [DV.l (List.take l0.length (List.drop (0 : Nat) l0)), DV.l (List.take l1.length (List.drop (0 : Nat) l1)),
 DV.n n2]
 [DV.n (n3 + (1 : Int)),
 DV.l
 (l4.set (Nat.add (0 : Nat) n3.toNat)
 ((1 : Int) -
 (2 : Int) *
 opI (SO.xor Go.IntKind.i64) (l0.getD (Nat.add (0 : Nat) n3.toNat) (0 : Int))
 (l1.getD (Nat.add (0 : Nat) ((n3 + n2 - (3 : Int)).tmod (↑l1.length : Int)).toNat) (0 : Int))))]) (
 reqB (codeFL.mea
 [DV.l (List.take l0.length (List.drop (0 : Nat) l0)),
 DV.l (List.take l1.length (List.drop (0 : Nat) l1)), DV.n n2]
 [DV.n (n3 + (1 : Int)),
 DV.l
 (l4.set (Nat.add (0 : Nat) n3.toNat)
 ((1 : Int) -
 (2 : Int) *
 opI (SO.xor Go.IntKind.i64) (l0.getD (Nat.add (0 : Nat) n3.toNat) (0 : Int))
 (l1.getD (Nat.add (0 : Nat) ((n3 + n2 - (3 : Int)).tmod (↑l1.length : Int)).toNat) (0 : Int))))] <
 codeFL.mea
 [DV.l (List.take l0.length (List.drop (0 : Nat) l0)),
 DV.l (List.take l1.length (List.drop (0 : Nat) l1)), DV.n n2]
 [DV.n n3, DV.l l4]) (
 true)))))))) (
 false)))))))) (
 reqB (n3.toNat < (↑l0.length : Int).toNat) (
 reqB (Nat.add (0 : Nat) n3.toNat < l4.length) (
 bR (bR (bR (dec ((0 : Nat) = (0 : Nat))) (
 dec (l0.length = l0.length)) (
 false)) (
 bR (bR (dec ((0 : Nat) = (0 : Nat))) (
 dec (l1.length = l1.length)) (
 false)) (
 bR (dec (n2 = n2)) (
 bR (bR (dec ((0 : Nat) = (0 : Nat))) (
 dec ((↑l0.length : Int).toNat = (↑l0.length : Int).toNat)) (
 false)) (
 bR (bR (dec ((0 : Nat) = (0 : Nat))) (
 dec ((↑l0.length : Int).toNat = (↑l0.length : Int).toNat)) (
 false)) (
 bR (dec ((↑(↑l0.length : Int).toNat : Int) = (↑(↑l0.length : Int).toNat : Int))) (
 true) (
 false)) (
 false)) (
 false)) (
 false)) (
 false)) (
 false)) (
 reqB ((0 : Int) ≤ n3 + (1 : Int)) (
 reqB (n3 + (1 : Int) ≤ (1100 : Int)) (
 reqB (lenCols
 [Col.i Go.IntKind.i64 (-9223372036854775808 : Int) (9223372036854775807 : Int)
 (l4.set (Nat.add (0 : Nat) n3.toNat)
 ((1 : Int) - (2 : Int) * l0.getD (Nat.add (0 : Nat) n3.toNat) (0 : Int)))] ≤
 (1000000 : Nat)) (
 reqB ((l4.set (Nat.add (0 : Nat) n3.toNat) ((1 : Int) - (2 : Int) * l0.getD (Nat.add (0 : Nat) n3.toNat) (0 : Int))).length =
 lenCols
 [Col.i Go.IntKind.i64 (-9223372036854775808 : Int) (9223372036854775807 : Int)
 (l4.set (Nat.add (0 : Nat) n3.toNat) ((1 : Int) - (2 : Int) * l0.getD (Nat.add (0 : Nat) n3.toNat) (0 : Int)))]) (
 reqB (∀ (y : Int),
 y ∈ l4.set (Nat.add (0 : Nat) n3.toNat) ((1 : Int) - (2 : Int) * l0.getD (Nat.add (0 : Nat) n3.toNat) (0 : Int)) →
 (-9223372036854775808 : Int) ≤ y ∧ y ≤ (9223372036854775807 : Int)) (
 reqB (codeFL.inv
 [DV.l (List.take l0.length (List.drop (0 : Nat) l0)), DV.l (List.take l1.length (List.drop (0 : Nat) l1)),
 DV.n n2]
 [DV.n (n3 + (1 : Int)),
 DV.l
 (l4.set (Nat.add (0 : Nat) n3.toNat) ((1 : Int) - (2 : Int) * l0.getD (Nat.add (0 : Nat) n3.toNat) (0 : Int)))]) (
 reqB (codeFL.mea
 [DV.l (List.take l0.length (List.drop (0 : Nat) l0)),
 DV.l (List.take l1.length (List.drop (0 : Nat) l1)), DV.n n2]
 [DV.n (n3 + (1 : Int)),
 DV.l
 (l4.set (Nat.add (0 : Nat) n3.toNat)
 ((1 : Int) - (2 : Int) * l0.getD (Nat.add (0 : Nat) n3.toNat) (0 : Int)))] <
 codeFL.mea
 [DV.l (List.take l0.length (List.drop (0 : Nat) l0)),
 DV.l (List.take l1.length (List.drop (0 : Nat) l1)), DV.n n2]
 [DV.n n3, DV.l l4]) (
 true)))))))) (
 false)))))))) (
 reqB (((0 : Nat) + (↑l0.length : Int).toNat) * (1 : Nat) ≤ l4.length.mul (1 : Nat)) (
 reqB ((↑l0.length : Int).toNat ≤ (1100 : Nat)) (
 reqB ((List.take (↑l0.length : Int).toNat (List.drop (0 : Nat) l4)).length = (↑l0.length : Int).toNat) (
 reqB (∀ (y : Int), y ∈ List.take (↑l0.length : Int).toNat (List.drop (0 : Nat) l4) → (-1 : Int) ≤ y ∧ y ≤ (1 : Int)) (
 reqB (sigCodeF.post [DV.l l0, DV.l l1, DV.n n2]
 [DV.l (List.take (↑l0.length : Int).toNat (List.drop (0 : Nat) l4))]) (
 true))))))))))))))))))))))))))))))))))) := by kernel_rfl
set_option maxHeartbeats 8000000 in
theorem vt_codeF : vcFn Tryd.prog [] (fun f p _ => at2 f p 52 58 codeFL (none)) gl11 100 52 sigCodeF = true := by
  rw [vc_codeF]
  try simp only [Int.toNat_natCast, List.length_set, List.length_replicate, List.length_take, List.length_drop, List.length_append, List.length_cons, List.length_nil, Nat.min_self, List.take_take, lenCols_i, lenCols_b, List.drop_zero, List.take_length, Nat.add_eq, Nat.mul_eq, Nat.sub_eq, Nat.zero_add, Nat.sub_zero, Nat.mul_one]
  refine all_i fun l0 => ?_
  refine imp_i fun h0 => ?_
  refine imp_i fun h1 => ?_
  refine all_i fun l1 => ?_
  refine imp_i fun h2 => ?_
  refine imp_i fun h3 => ?_
  refine all_i fun n2 => ?_
  refine imp_i fun h4 => ?_
  refine imp_i fun h5 => ?_
  refine imp_i fun h6 => ?_
  try simp only [sigCodeF, cB, cCh, codeFPre, codeFPost, List.cons.injEq, DV.b.injEq, and_true, List.length_cons, List.length_nil] at h6
  refine req_i ?_ ?_
  · -- r0
   first | omega | ((try simp only [Int.toNat_natCast, List.length_cons, List.length_nil]); first | done | omega | assumption | grind [getD_set, getD_rep, toNat_succ, cntN_yes, cntN_no])
  refine req_i ?_ ?_
  · -- r1
   first | omega | ((try simp only [Int.toNat_natCast, List.length_cons, List.length_nil]); first | done | omega | assumption | grind [getD_set, getD_rep, toNat_succ, cntN_yes, cntN_no])
  refine req_i ?_ ?_
  · -- r2
   first | omega | ((try simp only [Nat.mul_eq]); first | done | omega | assumption | grind [getD_set, getD_rep, toNat_succ, cntN_yes, cntN_no])
  refine req_i ?_ ?_
  · -- r3
   first | omega | ((try simp only [Nat.zero_add]); first | done | omega | assumption | grind [getD_set, getD_rep, toNat_succ, cntN_yes, cntN_no])
  refine req_i ?_ ?_
  · -- r4
   first | omega | ((try simp only [List.length_take, List.take_length, List.take_take, Nat.min_self, List.length_drop, List.drop_zero, List.length_cons, List.length_nil]); first | done | omega | assumption | grind [getD_set, getD_rep, toNat_succ, cntN_yes, cntN_no])
  refine req_i ?_ ?_
  · -- r5
   first | assumption | exact rep_bd (by omega) (by omega) | exact set_bd (by assumption) (by omega) (by omega) | exact take_bd (by assumption) | ((try simp only [List.length_take, List.take_length, List.take_take, Nat.min_self, List.length_drop, List.drop_zero, List.length_cons, List.length_nil]); first | assumption | exact rep_bd (by omega) (by omega) | exact set_bd (by assumption) (by omega) (by omega) | exact take_bd (by assumption) | grind [getD_set, getD_rep, toNat_succ, cntN_yes, cntN_no])
  refine req_i ?_ ?_
  · -- r6
   first | omega | ((try simp only [Nat.mul_eq]); first | done | omega | assumption | grind [getD_set, getD_rep, toNat_succ, cntN_yes, cntN_no])
  refine req_i ?_ ?_
  · -- r7
   first | omega | ((try simp only [Nat.zero_add]); first | done | omega | assumption | grind [getD_set, getD_rep, toNat_succ, cntN_yes, cntN_no])
  refine req_i ?_ ?_
  · -- r8
   first | omega | ((try simp only [List.length_take, List.take_length, List.take_take, Nat.min_self, List.length_drop, List.drop_zero, List.length_cons, List.length_nil]); first | done | omega | assumption | grind [getD_set, getD_rep, toNat_succ, cntN_yes, cntN_no])
  refine req_i ?_ ?_
  · -- r9
   first | assumption | exact rep_bd (by omega) (by omega) | exact set_bd (by assumption) (by omega) (by omega) | exact take_bd (by assumption) | ((try simp only [List.length_take, List.take_length, List.take_take, Nat.min_self, List.length_drop, List.drop_zero, List.length_cons, List.length_nil]); first | assumption | exact rep_bd (by omega) (by omega) | exact set_bd (by assumption) (by omega) (by omega) | exact take_bd (by assumption) | grind [getD_set, getD_rep, toNat_succ, cntN_yes, cntN_no])
  refine req_i ?_ ?_
  · -- r10
   first | omega | assumption | grind
  refine req_i ?_ ?_
  · -- r11
   first | omega | assumption | grind
  refine req_i ?_ ?_
  · -- r12
   first | omega | ((try simp only [Int.toNat_natCast, List.length_replicate, List.length_cons, List.length_nil, lenCols_i, lenCols_b]); first | done | omega | assumption | grind [getD_set, getD_rep, toNat_succ, cntN_yes, cntN_no])
  refine req_i ?_ ?_
  · -- r13
   first | omega | ((try simp only [Int.toNat_natCast, List.length_replicate, List.length_cons, List.length_nil, lenCols_i, lenCols_b]); first | done | omega | assumption | grind [getD_set, getD_rep, toNat_succ, cntN_yes, cntN_no])
  refine req_i ?_ ?_
  · -- r14
   first | assumption | exact rep_bd (by omega) (by omega) | exact set_bd (by assumption) (by omega) (by omega) | exact take_bd (by assumption) | ((try simp only [Int.toNat_natCast, List.length_replicate, List.length_cons, List.length_nil]); first | assumption | exact rep_bd (by omega) (by omega) | exact set_bd (by assumption) (by omega) (by omega) | exact take_bd (by assumption) | grind [getD_set, getD_rep, toNat_succ, cntN_yes, cntN_no])
  refine req_i ?_ ?_
  · -- r15
   first | omega | ((try simp only [codeFL, cB, codeFInv, meaC, List.cons.injEq, DV.b.injEq, and_true, Int.toNat_natCast, List.length_replicate, List.length_take, List.take_length, List.take_take, Nat.min_self, List.length_drop, List.drop_zero, List.length_cons, List.length_nil]); first | done | omega | assumption | grind [getD_set, getD_rep, toNat_succ, cntN_yes, cntN_no])
  refine all_i fun n3 => ?_
  refine imp_i fun h7 => ?_
  refine imp_i fun h8 => ?_
  refine all_i fun l4 => ?_
  refine imp_i fun h9 => ?_
  refine imp_i fun h10 => ?_
  refine imp_i fun h11 => ?_
  try simp only [codeFL, cB, codeFInv, meaC, List.cons.injEq, DV.b.injEq, and_true, List.length_take, List.take_length, List.take_take, Nat.min_self, List.length_drop, List.drop_zero, List.length_cons, List.length_nil] at h11
  refine bR_dec (fun h12 => ?_) (fun h12 => ?_)
  ·
   have a0 := getD_bd (i := n3.toNat) h1 (by omega) (by omega)
   have a1 := getD_bd (i := n3.toNat) h3 (by omega) (by omega)
   refine req_i ?_ ?_
   · -- r16
    first | omega | ((try simp only [Int.toNat_natCast, List.length_cons, List.length_nil]); first | done | omega | assumption | grind [getD_set, getD_rep, toNat_succ, cntN_yes, cntN_no])
   refine req_i ?_ ?_
   · -- r17
    first | omega | ((try simp only [Int.toNat_natCast, List.length_cons, List.length_nil, Nat.add_eq, Nat.zero_add]); first | done | omega | assumption | grind [getD_set, getD_rep, toNat_succ, cntN_yes, cntN_no])
   refine bR_dec (fun h13 => ?_) (fun h13 => ?_)
   ·
    refine req_i ?_ ?_
    · -- r18
     first | omega | ((try simp only [Int.toNat_natCast, List.length_cons, List.length_nil]); first | done | omega | assumption | grind [getD_set, getD_rep, toNat_succ, cntN_yes, cntN_no])
    refine req_i ?_ ?_
    · -- r19
     first | omega | ((try simp only [Int.toNat_natCast, List.length_cons, List.length_nil, Nat.add_eq, Nat.zero_add]); first | done | omega | assumption | grind [getD_set, getD_rep, toNat_succ, cntN_yes, cntN_no])
    refine req_i ?_ ?_
    · -- r20
     first | omega | ((try simp only [Int.toNat_natCast, List.length_cons, List.length_nil]); first | done | omega | assumption | grind [getD_set, getD_rep, toNat_succ, cntN_yes, cntN_no])
    refine req_i ?_ ?_
    · -- r21
     first | omega | ((try simp only [Int.toNat_natCast, List.length_cons, List.length_nil, Nat.add_eq, Nat.zero_add]); first | done | omega | assumption | grind [getD_set, getD_rep, toNat_succ, cntN_yes, cntN_no])
    refine bR_t ?_ ?_
    · -- g0
     first | rfl | (simp only [bR_iff, bR_iff_f, dec_iff, dec_f, beqB_iff', andB_iff', reduceCtorEq, imp_self, false_implies, and_true, true_and, implies_true, and_self]; done) | (simp [bR_iff, dec_iff, beqB_iff', andB_iff']; done) | (simp [bR_iff, dec_iff, beqB_iff', andB_iff']; omega)
    refine req_i ?_ ?_
    · -- r22
     first | omega | assumption | grind
    refine req_i ?_ ?_
    · -- r23
     first | omega | assumption | grind
    refine req_i ?_ ?_
    · -- r24
     first | omega | ((try simp only [Int.toNat_natCast, List.length_set, List.length_cons, List.length_nil, lenCols_i, lenCols_b, Nat.add_eq, Nat.zero_add]); first | done | omega | assumption | grind [getD_set, getD_rep, toNat_succ, cntN_yes, cntN_no])
    refine req_i ?_ ?_
    · -- r25
     first | omega | ((try simp only [Int.toNat_natCast, List.length_set, List.length_cons, List.length_nil, lenCols_i, lenCols_b, Nat.add_eq, Nat.zero_add]); first | done | omega | assumption | grind [getD_set, getD_rep, toNat_succ, cntN_yes, cntN_no])
    refine req_i ?_ ?_
    · -- r26
     first | assumption | exact rep_bd (by omega) (by omega) | exact set_bd (by assumption) (by omega) (by omega) | exact take_bd (by assumption) | ((try simp only [Int.toNat_natCast, List.length_set, List.length_cons, List.length_nil, Nat.add_eq, Nat.zero_add]); first | assumption | exact rep_bd (by omega) (by omega) | exact set_bd (by assumption) (by omega) (by omega) | exact take_bd (by assumption) | grind [getD_set, getD_rep, toNat_succ, cntN_yes, cntN_no])
    refine req_i ?_ ?_
    · -- r27
     simp only [codeFL, codeFInv, List.drop_zero, List.take_length, Nat.add_eq, Nat.zero_add]; exact codeF_step h11.1 (by omega) h11.2.2.1 h11.2.2.2 (by rw [h13, chipB2])
    refine req_i ?_ ?_
    · -- r28
     first | omega | ((try simp only [codeFL, cB, codeFInv, meaC, List.cons.injEq, DV.b.injEq, and_true, Int.toNat_natCast, List.length_set, List.length_take, List.take_length, List.take_take, Nat.min_self, List.length_drop, List.drop_zero, List.length_cons, List.length_nil, Nat.add_eq, Nat.zero_add]); first | done | omega | assumption | grind [getD_set, getD_rep, toNat_succ, cntN_yes, cntN_no])
    rfl
   ·
    refine bR_dec (fun h14 => ?_) (fun h14 => ?_)
    ·
     have a2 := getD_bd (i := ((n3 + n2 - 3).tmod (l1.length : Int)).toNat) h3 (by omega) (by omega)
     have a3 := xor_bit a0.1 a0.2 a2.1 a2.2
     have a4 := tmod_nn (a := n3 + n2 - 3) (b := (l1.length : Int)) (by omega)
     have a5 := Int.emod_nonneg (n3 + n2 - 3) (b := (l1.length : Int)) (by omega)
     have a6 := Int.emod_lt_of_pos (n3 + n2 - 3) (b := (l1.length : Int)) (by omega)
     refine req_i ?_ ?_
     · -- r29
      first | omega | ((try simp only [Nat.zero_add]); first | done | omega | assumption | grind [getD_set, getD_rep, toNat_succ, cntN_yes, cntN_no])
     refine req_i ?_ ?_
     · -- r30
      first | omega | ((try simp only [Nat.zero_add]); first | done | omega | assumption | grind [getD_set, getD_rep, toNat_succ, cntN_yes, cntN_no])
     refine req_i ?_ ?_
     · -- r31
      first | omega | ((try simp only [Int.toNat_natCast, List.length_cons, List.length_nil]); first | done | omega | assumption | grind [getD_set, getD_rep, toNat_succ, cntN_yes, cntN_no])
     refine req_i ?_ ?_
     · -- r32
      first | omega | ((try simp only [Int.toNat_natCast, List.length_cons, List.length_nil, Nat.add_eq, Nat.zero_add]); first | done | omega | assumption | grind [getD_set, getD_rep, toNat_succ, cntN_yes, cntN_no])
     refine req_i ?_ ?_
     · -- r33
      first | omega | ((try simp only [Int.toNat_natCast, List.length_cons, List.length_nil]); first | done | omega | assumption | grind [getD_set, getD_rep, toNat_succ, cntN_yes, cntN_no])
     refine req_i ?_ ?_
     · -- r34
      first | omega | ((try simp only [Int.toNat_natCast, List.length_cons, List.length_nil, Nat.add_eq, Nat.zero_add]); first | done | omega | assumption | grind [getD_set, getD_rep, toNat_succ, cntN_yes, cntN_no])
     refine bR_t ?_ ?_
     · -- g1
      first | rfl | (simp only [bR_iff, bR_iff_f, dec_iff, dec_f, beqB_iff', andB_iff', reduceCtorEq, imp_self, false_implies, and_true, true_and, implies_true, and_self]; done) | (simp [bR_iff, dec_iff, beqB_iff', andB_iff']; done) | (simp [bR_iff, dec_iff, beqB_iff', andB_iff']; omega)
     refine req_i ?_ ?_
     · -- r35
      first | omega | assumption | grind
     refine req_i ?_ ?_
     · -- r36
      first | omega | assumption | grind
     refine req_i ?_ ?_
     · -- r37
      first | omega | ((try simp only [Int.toNat_natCast, List.length_set, List.length_cons, List.length_nil, lenCols_i, lenCols_b, Nat.add_eq, Nat.zero_add]); first | done | omega | assumption | grind [getD_set, getD_rep, toNat_succ, cntN_yes, cntN_no])
     refine req_i ?_ ?_
     · -- r38
      first | omega | ((try simp only [Int.toNat_natCast, List.length_set, List.length_cons, List.length_nil, lenCols_i, lenCols_b, Nat.add_eq, Nat.zero_add]); first | done | omega | assumption | grind [getD_set, getD_rep, toNat_succ, cntN_yes, cntN_no])
     refine req_i ?_ ?_
     · -- r39
      first | assumption | exact rep_bd (by omega) (by omega) | exact set_bd (by assumption) (by omega) (by omega) | exact take_bd (by assumption) | ((try simp only [Int.toNat_natCast, List.length_set, List.length_cons, List.length_nil, Nat.add_eq, Nat.zero_add]); first | assumption | exact rep_bd (by omega) (by omega) | exact set_bd (by assumption) (by omega) (by omega) | exact take_bd (by assumption) | grind [getD_set, getD_rep, toNat_succ, cntN_yes, cntN_no])
     refine req_i ?_ ?_
     · -- r40
      simp only [codeFL, codeFInv, List.drop_zero, List.take_length, Nat.add_eq, Nat.zero_add]; exact codeF_step h11.1 (by omega) h11.2.2.1 h11.2.2.2 (by rw [a3, chipB3 (by omega) (by omega) a4])
     refine req_i ?_ ?_
     · -- r41
      first | omega | ((try simp only [codeFL, cB, codeFInv, meaC, List.cons.injEq, DV.b.injEq, and_true, Int.toNat_natCast, List.length_set, List.length_take, List.take_length, List.take_take, Nat.min_self, List.length_drop, List.drop_zero, List.length_cons, List.length_nil, Nat.add_eq, Nat.zero_add]); first | done | omega | assumption | grind [getD_set, getD_rep, toNat_succ, cntN_yes, cntN_no])
     rfl
    ·
     refine req_i ?_ ?_
     · -- r42
      first | omega | ((try simp only [Int.toNat_natCast, List.length_cons, List.length_nil]); first | done | omega | assumption | grind [getD_set, getD_rep, toNat_succ, cntN_yes, cntN_no])
     refine req_i ?_ ?_
     · -- r43
      first | omega | ((try simp only [Int.toNat_natCast, List.length_cons, List.length_nil, Nat.add_eq, Nat.zero_add]); first | done | omega | assumption | grind [getD_set, getD_rep, toNat_succ, cntN_yes, cntN_no])
     refine bR_t ?_ ?_
     · -- g2
      first | rfl | (simp only [bR_iff, bR_iff_f, dec_iff, dec_f, beqB_iff', andB_iff', reduceCtorEq, imp_self, false_implies, and_true, true_and, implies_true, and_self]; done) | (simp [bR_iff, dec_iff, beqB_iff', andB_iff']; done) | (simp [bR_iff, dec_iff, beqB_iff', andB_iff']; omega)
     refine req_i ?_ ?_
     · -- r44
      first | omega | assumption | grind
     refine req_i ?_ ?_
     · -- r45
      first | omega | assumption | grind
     refine req_i ?_ ?_
     · -- r46
      first | omega | ((try simp only [Int.toNat_natCast, List.length_set, List.length_cons, List.length_nil, lenCols_i, lenCols_b, Nat.add_eq, Nat.zero_add]); first | done | omega | assumption | grind [getD_set, getD_rep, toNat_succ, cntN_yes, cntN_no])
     refine req_i ?_ ?_
     · -- r47
      first | omega | ((try simp only [Int.toNat_natCast, List.length_set, List.length_cons, List.length_nil, lenCols_i, lenCols_b, Nat.add_eq, Nat.zero_add]); first | done | omega | assumption | grind [getD_set, getD_rep, toNat_succ, cntN_yes, cntN_no])
     refine req_i ?_ ?_
     · -- r48
      first | assumption | exact rep_bd (by omega) (by omega) | exact set_bd (by assumption) (by omega) (by omega) | exact take_bd (by assumption) | ((try simp only [Int.toNat_natCast, List.length_set, List.length_cons, List.length_nil, Nat.add_eq, Nat.zero_add]); first | assumption | exact rep_bd (by omega) (by omega) | exact set_bd (by assumption) (by omega) (by omega) | exact take_bd (by assumption) | grind [getD_set, getD_rep, toNat_succ, cntN_yes, cntN_no])
     refine req_i ?_ ?_
     · -- r49
      simp only [codeFL, codeFInv, List.drop_zero, List.take_length, Nat.add_eq, Nat.zero_add]; exact codeF_step h11.1 (by omega) h11.2.2.1 h11.2.2.2 (by rw [show n2 = 1 by omega, chipB1])
     refine req_i ?_ ?_
     · -- r50
      first | omega | ((try simp only [codeFL, cB, codeFInv, meaC, List.cons.injEq, DV.b.injEq, and_true, Int.toNat_natCast, List.length_set, List.length_take, List.take_length, List.take_take, Nat.min_self, List.length_drop, List.drop_zero, List.length_cons, List.length_nil, Nat.add_eq, Nat.zero_add]); first | done | omega | assumption | grind [getD_set, getD_rep, toNat_succ, cntN_yes, cntN_no])
     rfl
  ·
   refine req_i ?_ ?_
   · -- r51
    first | omega | ((try simp only [Int.toNat_natCast, List.length_cons, List.length_nil, Nat.mul_eq]); first | done | omega | assumption | grind [getD_set, getD_rep, toNat_succ, cntN_yes, cntN_no])
   refine req_i ?_ ?_
   · -- r52
    first | omega | ((try simp only [Int.toNat_natCast, List.length_cons, List.length_nil]); first | done | omega | assumption | grind [getD_set, getD_rep, toNat_succ, cntN_yes, cntN_no])
   refine req_i ?_ ?_
   · -- r53
    first | omega | ((try simp only [Int.toNat_natCast, List.length_take, List.take_length, List.take_take, Nat.min_self, List.length_drop, List.drop_zero, List.length_cons, List.length_nil]); first | done | omega | assumption | grind [getD_set, getD_rep, toNat_succ, cntN_yes, cntN_no])
   refine req_i ?_ ?_
   · -- r54
    (try simp only [List.drop_zero, Int.toNat_natCast]); rw [List.take_of_length_le (by omega), chips_of (p := n2) (u := l0) (v := l1) h11.2.2.1 fun j hj => h11.2.2.2 j (by omega)]; exact chips_bd h1 h3
   refine req_i ?_ ?_
   · -- r55
    simp only [sigCodeF, codeFPost, List.drop_zero, Int.toNat_natCast]; rw [List.take_of_length_le (by omega)]; exact chips_of h11.2.2.1 fun j hj => h11.2.2.2 j (by omega)
   rfl
theorem ext_codeF : ∀ p ∈ ([] : List (Nat × Ext)), ExtRow Tryd.prog p.1 p.2 := by
  intro p hp
  cases hp
theorem cts_codeF : CtsOk Tryd.prog [] := fun f c h => by cases h
theorem fn_codeF : FnOk Tryd.prog 52 sigCodeF gl11 := fn_sound (by kernel_rfl) ext_codeF cts_codeF names vt_codeF
end Go.Proofs.YtblcahackjpnjaaDoor

namespace Go.Proofs.YtblcahackjpnjaaDoor
open Go.Ev Go.Sp
set_option maxRecDepth 100000
theorem vc_code : vcFn Tryd.prog [(51, Ext.ctr (ctOfG gl11 sigBits)), (52, Ext.ctr (ctOfG gl11 sigCodeF))] noA gl11 100 39 sigCode = (allB fun n0 : Int => 
impB ((-9223372036854775808 : Int) ≤ n0) (
impB (n0 ≤ (9223372036854775807 : Int)) (
allB fun n1 : Int => 
impB ((-9223372036854775808 : Int) ≤ n1) (
impB (n1 ≤ (9223372036854775807 : Int)) (
impB (sigCode.pre [DV.n n0, DV.n n1]) (
reqB ((-9223372036854775808 : Int) ≤ n0) (
reqB (n0 ≤ (9223372036854775807 : Int)) (
reqB (sigBits.pre [DV.n n0, DV.n (1 : Int)]) (
allB fun l2 : List Int => 
impB (l2.length ≤ (1100 : Nat)) (
impB (∀ (y : Int), y ∈ l2 → (0 : Int) ≤ y ∧ y ≤ (1 : Int)) (
allB fun n3 : Int => 
impB ((0 : Int) ≤ n3) (
impB (n3 ≤ (18 : Int)) (
impB (sigBits.post [DV.n n0, DV.n (1 : Int)] [DV.l l2, DV.n n3]) (
bR (dec (n3 ≠ (0 : Int))) (
 reqB ((0 : Int) ≤ n3) (
 reqB (n3 ≤ (18 : Int)) (
 reqB (sigCode.post [DV.n n0, DV.n n1] [DV.l [], DV.n n3]) (
 true)))) (
 bR (dec (n1 < (1 : Int))) (
 reqB (sigCode.post [DV.n n0, DV.n n1] [DV.l [], DV.n (2 : Int)]) (
 true)) (
 bR (dec ((↑l2.length : Int) + (2 : Int) < n1)) (
 reqB (sigCode.post [DV.n n0, DV.n n1] [DV.l [], DV.n (2 : Int)]) (
 true)) (
 reqB ((-9223372036854775808 : Int) ≤ n0) (
 reqB (n0 ≤ (9223372036854775807 : Int)) (
 reqB (sigBits.pre [DV.n n0, DV.n (2 : Int)]) (
 allB fun l4 : List Int => 
 impB (l4.length ≤ (1100 : Nat)) (
 impB (∀ (y : Int), y ∈ l4 → (0 : Int) ≤ y ∧ y ≤ (1 : Int)) (
 allB fun n5 : Int => 
 impB ((0 : Int) ≤ n5) (
 impB (n5 ≤ (18 : Int)) (
 impB (sigBits.post [DV.n n0, DV.n (2 : Int)] [DV.l l4, DV.n n5]) (
 reqB (((0 : Nat) + l2.length) * (1 : Nat) ≤ l2.length.mul (1 : Nat)) (
 reqB (l2.length ≤ (1100 : Nat)) (
 reqB ((List.take l2.length (List.drop (0 : Nat) l2)).length = l2.length) (
 reqB (∀ (y : Int), y ∈ List.take l2.length (List.drop (0 : Nat) l2) → (0 : Int) ≤ y ∧ y ≤ (1 : Int)) (
 reqB (((0 : Nat) + l4.length) * (1 : Nat) ≤ l4.length.mul (1 : Nat)) (
 reqB (l4.length ≤ (1100 : Nat)) (
 reqB ((List.take l4.length (List.drop (0 : Nat) l4)).length = l4.length) (
 reqB (∀ (y : Int), y ∈ List.take l4.length (List.drop (0 : Nat) l4) → (0 : Int) ≤ y ∧ y ≤ (1 : Int)) (
 reqB ((1 : Int) ≤ n1) (
 reqB (n1 ≤ (1100 : Int)) (
 reqB (sigCodeF.pre
 [DV.l (List.take l2.length (List.drop (0 : Nat) l2)), DV.l (List.take l4.length (List.drop (0 : Nat) l4)),
 DV.n n1]) (
 allB fun l6 : List Int => 
 impB (l6.length ≤ (1100 : Nat)) (
 impB (∀ (y : Int), y ∈ l6 → (-1 : Int) ≤ y ∧ y ≤ (1 : Int)) (
 impB (sigCodeF.post
 [DV.l (List.take l2.length (List.drop (0 : Nat) l2)), DV.l (List.take l4.length (List.drop (0 : Nat) l4)),
 DV.n n1]
 [DV.l l6]) (
 reqB (((0 : Nat) + l6.length) * (1 : Nat) ≤ l6.length.mul (1 : Nat)) (
 reqB (l6.length ≤ (1100 : Nat)) (
 reqB ((List.take l6.length (List.drop (0 : Nat) l6)).length = l6.length) (
 reqB (∀ (y : Int), y ∈ List.take l6.length (List.drop (0 : Nat) l6) → (-1 : Int) ≤ y ∧ y ≤ (1 : Int)) (
 reqB (sigCode.post [DV.n n0, DV.n n1]
 [DV.l (List.take l6.length (List.drop (0 : Nat) l6)), DV.n (0 : Int)]) (
 true)))))))))))))))))))))))))))))))))))))))))))) := by kernel_rfl
set_option maxHeartbeats 8000000 in
theorem vt_code : vcFn Tryd.prog [(51, Ext.ctr (ctOfG gl11 sigBits)), (52, Ext.ctr (ctOfG gl11 sigCodeF))] noA gl11 100 39 sigCode = true := by
  rw [vc_code]
  try simp only [Int.toNat_natCast, List.length_set, List.length_replicate, List.length_take, List.length_drop, List.length_append, List.length_cons, List.length_nil, Nat.min_self, List.take_take, lenCols_i, lenCols_b, List.drop_zero, List.take_length, Nat.add_eq, Nat.mul_eq, Nat.sub_eq, Nat.zero_add, Nat.sub_zero, Nat.mul_one]
  refine all_i fun n0 => ?_
  refine imp_i fun h0 => ?_
  refine imp_i fun h1 => ?_
  refine all_i fun n1 => ?_
  refine imp_i fun h2 => ?_
  refine imp_i fun h3 => ?_
  refine imp_i fun h4 => ?_
  try simp only [sigCode, cCh, codePost, List.cons.injEq, DV.b.injEq, and_true, List.length_cons, List.length_nil] at h4
  refine req_i ?_ ?_
  · -- r0
   first | omega | assumption | grind
  refine req_i ?_ ?_
  · -- r1
   first | omega | assumption | grind
  refine req_i ?_ ?_
  · -- r2
   first | trivial | assumption | (simp only [sigBits, sigBitsR, iR, cB, bitsPost, List.cons.injEq, DV.b.injEq, and_true, List.length_cons, List.length_nil]; done) | ((try simp only [sigBits, sigBitsR, iR, cB, bitsPost, List.cons.injEq, DV.b.injEq, and_true, List.length_cons, List.length_nil]); first | omega | assumption | grind)
  refine all_i fun l2 => ?_
  refine imp_i fun h5 => ?_
  refine imp_i fun h6 => ?_
  refine all_i fun n3 => ?_
  refine imp_i fun h7 => ?_
  refine imp_i fun h8 => ?_
  refine imp_i fun h9 => ?_
  try simp only [Int.toNat_natCast, List.length_set, List.length_replicate, List.length_take, List.length_drop, List.length_append, List.length_cons, List.length_nil, Nat.min_self, List.take_take, lenCols_i, lenCols_b, List.drop_zero, List.take_length, Nat.add_eq, Nat.mul_eq, Nat.sub_eq, Nat.zero_add, Nat.sub_zero, Nat.mul_one] at h9
  have hb := ite_case h9
  have nb := @nG_bd n0
  refine bR_dec (fun h10 => ?_) (fun h10 => ?_)
  ·
   refine req_i ?_ ?_
   · -- r3
    first | omega | assumption | grind
   refine req_i ?_ ?_
   · -- r4
    first | omega | assumption | grind
   refine req_i ?_ ?_
   · -- r5
    obtain ⟨k1, k2, k3⟩ := hb.resolve_left (fun g => h10 g.2.1); exact code_no (fun g => k1 ⟨g.1, .inl rfl⟩) k2
   rfl
  ·
   obtain ⟨⟨ok, _⟩, _, e2⟩ := hb.resolve_right (fun g => h10 (by rw [g.2.1]; decide))
   have bl := bits_len (w := 1) ok (.inl rfl)
   rw [← e2] at bl
   refine bR_dec (fun h11 => ?_) (fun h11 => ?_)
   ·
    refine req_i ?_ ?_
    · -- r6
     exact code_no (fun g => by omega) rfl
    rfl
   ·
    refine bR_dec (fun h12 => ?_) (fun h12 => ?_)
    ·
     refine req_i ?_ ?_
     · -- r7
      exact code_no (fun g => by omega) rfl
     rfl
    ·
     refine req_i ?_ ?_
     · -- r8
      first | omega | assumption | grind
     refine req_i ?_ ?_
     · -- r9
      first | omega | assumption | grind
     refine req_i ?_ ?_
     · -- r10
      first | trivial | assumption | (simp only [sigBits, sigBitsR, iR, cB, bitsPost, List.cons.injEq, DV.b.injEq, and_true, List.length_cons, List.length_nil]; done) | ((try simp only [sigBits, sigBitsR, iR, cB, bitsPost, List.cons.injEq, DV.b.injEq, and_true, List.length_cons, List.length_nil]); first | omega | assumption | grind)
     refine all_i fun l4 => ?_
     refine imp_i fun h13 => ?_
     refine imp_i fun h14 => ?_
     refine all_i fun n5 => ?_
     refine imp_i fun h15 => ?_
     refine imp_i fun h16 => ?_
     refine imp_i fun h17 => ?_
     try simp only [Int.toNat_natCast, List.length_set, List.length_replicate, List.length_take, List.length_drop, List.length_append, List.length_cons, List.length_nil, Nat.min_self, List.take_take, lenCols_i, lenCols_b, List.drop_zero, List.take_length, Nat.add_eq, Nat.mul_eq, Nat.sub_eq, Nat.zero_add, Nat.sub_zero, Nat.mul_one] at h17
     obtain ⟨_, e4⟩ := (ite_case h17).resolve_right (fun g => g.1 ⟨ok, .inr rfl⟩) |>.2
     have bl4 := bits_len (w := 2) ok (.inr rfl)
     rw [← e4] at bl4
     refine req_i ?_ ?_
     · -- r11
      first | omega | ((try simp only [Nat.mul_eq]); first | done | omega | assumption | grind [getD_set, getD_rep, toNat_succ, cntN_yes, cntN_no])
     refine req_i ?_ ?_
     · -- r12
      first | omega | ((try simp only [Nat.zero_add]); first | done | omega | assumption | grind [getD_set, getD_rep, toNat_succ, cntN_yes, cntN_no])
     refine req_i ?_ ?_
     · -- r13
      first | omega | ((try simp only [List.length_take, List.take_length, List.take_take, Nat.min_self, List.length_drop, List.drop_zero, List.length_cons, List.length_nil]); first | done | omega | assumption | grind [getD_set, getD_rep, toNat_succ, cntN_yes, cntN_no])
     refine req_i ?_ ?_
     · -- r14
      first | assumption | exact rep_bd (by omega) (by omega) | exact set_bd (by assumption) (by omega) (by omega) | exact take_bd (by assumption) | ((try simp only [List.length_take, List.take_length, List.take_take, Nat.min_self, List.length_drop, List.drop_zero, List.length_cons, List.length_nil]); first | assumption | exact rep_bd (by omega) (by omega) | exact set_bd (by assumption) (by omega) (by omega) | exact take_bd (by assumption) | grind [getD_set, getD_rep, toNat_succ, cntN_yes, cntN_no])
     refine req_i ?_ ?_
     · -- r15
      first | omega | ((try simp only [Nat.mul_eq]); first | done | omega | assumption | grind [getD_set, getD_rep, toNat_succ, cntN_yes, cntN_no])
     refine req_i ?_ ?_
     · -- r16
      first | omega | ((try simp only [Nat.zero_add]); first | done | omega | assumption | grind [getD_set, getD_rep, toNat_succ, cntN_yes, cntN_no])
     refine req_i ?_ ?_
     · -- r17
      first | omega | ((try simp only [List.length_take, List.take_length, List.take_take, Nat.min_self, List.length_drop, List.drop_zero, List.length_cons, List.length_nil]); first | done | omega | assumption | grind [getD_set, getD_rep, toNat_succ, cntN_yes, cntN_no])
     refine req_i ?_ ?_
     · -- r18
      first | assumption | exact rep_bd (by omega) (by omega) | exact set_bd (by assumption) (by omega) (by omega) | exact take_bd (by assumption) | ((try simp only [List.length_take, List.take_length, List.take_take, Nat.min_self, List.length_drop, List.drop_zero, List.length_cons, List.length_nil]); first | assumption | exact rep_bd (by omega) (by omega) | exact set_bd (by assumption) (by omega) (by omega) | exact take_bd (by assumption) | grind [getD_set, getD_rep, toNat_succ, cntN_yes, cntN_no])
     refine req_i ?_ ?_
     · -- r19
      first | omega | assumption | grind
     refine req_i ?_ ?_
     · -- r20
      first | omega | assumption | grind
     refine req_i ?_ ?_
     · -- r21
      simp only [sigCodeF, codeFPre, List.drop_zero, List.take_length]; omega
     refine all_i fun l6 => ?_
     refine imp_i fun h18 => ?_
     refine imp_i fun h19 => ?_
     refine imp_i fun h20 => ?_
     try simp only [sigCodeF, cB, cCh, codeFPre, codeFPost, List.cons.injEq, DV.b.injEq, and_true, List.length_take, List.take_length, List.take_take, Nat.min_self, List.length_drop, List.drop_zero, List.length_cons, List.length_nil] at h20
     refine req_i ?_ ?_
     · -- r22
      first | omega | ((try simp only [Nat.mul_eq]); first | done | omega | assumption | grind [getD_set, getD_rep, toNat_succ, cntN_yes, cntN_no])
     refine req_i ?_ ?_
     · -- r23
      first | omega | ((try simp only [Nat.zero_add]); first | done | omega | assumption | grind [getD_set, getD_rep, toNat_succ, cntN_yes, cntN_no])
     refine req_i ?_ ?_
     · -- r24
      first | omega | ((try simp only [List.length_take, List.take_length, List.take_take, Nat.min_self, List.length_drop, List.drop_zero, List.length_cons, List.length_nil]); first | done | omega | assumption | grind [getD_set, getD_rep, toNat_succ, cntN_yes, cntN_no])
     refine req_i ?_ ?_
     · -- r25
      first | assumption | exact rep_bd (by omega) (by omega) | exact set_bd (by assumption) (by omega) (by omega) | exact take_bd (by assumption) | ((try simp only [List.length_take, List.take_length, List.take_take, Nat.min_self, List.length_drop, List.drop_zero, List.length_cons, List.length_nil]); first | assumption | exact rep_bd (by omega) (by omega) | exact set_bd (by assumption) (by omega) (by omega) | exact take_bd (by assumption) | grind [getD_set, getD_rep, toNat_succ, cntN_yes, cntN_no])
     refine req_i ?_ ?_
     · -- r26
      (try simp only [List.drop_zero, List.take_length]); exact code_yes ⟨ok, by omega, by omega⟩ rfl (by rw [h20, e2, e4]; rfl)
     rfl
theorem ext_code : ∀ p ∈ ([(51, Ext.ctr (ctOfG gl11 sigBits)), (52, Ext.ctr (ctOfG gl11 sigCodeF))] : List (Nat × Ext)), ExtRow Tryd.prog p.1 p.2 := by
  intro p hp
  simp only [List.mem_cons, List.not_mem_nil, or_false] at hp
  rcases hp with rfl | rfl
  · trivial
  · trivial
theorem cts_code : CtsOk Tryd.prog [(51, Ext.ctr (ctOfG gl11 sigBits)), (52, Ext.ctr (ctOfG gl11 sigCodeF))] := ctsOk_ofG (cs := [(51, sigBits), (52, sigCodeF)])
  (fun p hp => by
    simp only [List.mem_cons, List.not_mem_nil, or_false] at hp
    rcases hp with rfl | rfl
    · exact fn_bits
    · exact fn_codeF
)
  (fun f c h => by
    simp only [List.lookup_cons] at h
    repeat' split at h
    all_goals first | (cases h; done) | (rename_i e; have e := beq_iff_eq.1 e; subst e; cases h; refine ⟨_, ?_, rfl⟩; simp))
theorem fn_code : FnOk Tryd.prog 39 sigCode gl11 := fn_sound (by kernel_rfl) ext_code cts_code names vt_code
end Go.Proofs.YtblcahackjpnjaaDoor

namespace Go.Proofs.YtblcahackjpnjaaDoor
open Go.Ev Go.Sp
set_option maxRecDepth 100000
theorem vc_len0 : vcFn Tryd.prog [] noA gl11 100 57 (sigLenR 5 5) = (impB ((sigLenR (5 : Int) (5 : Int)).pre [DV.n (5 : Int)]) (
reqB ((sigLenR (5 : Int) (5 : Int)).post [DV.n (5 : Int)]
 [DV.n (Int.ofNat (31 : Nat)), DV.n (0 : Int)]) (
true))) := by kernel_rfl
set_option maxHeartbeats 8000000 in
theorem vt_len0 : vcFn Tryd.prog [] noA gl11 100 57 (sigLenR 5 5) = true := by
  rw [vc_len0]
  try simp only [Int.toNat_natCast, List.length_set, List.length_replicate, List.length_take, List.length_drop, List.length_append, List.length_cons, List.length_nil, Nat.min_self, List.take_take, lenCols_i, lenCols_b, List.drop_zero, List.take_length, Nat.add_eq, Nat.mul_eq, Nat.sub_eq, Nat.zero_add, Nat.sub_zero, Nat.mul_one]
  refine imp_i fun h0 => ?_
  try simp only [sigLenR, iR, lenPost, List.cons.injEq, DV.b.injEq, and_true, List.length_cons, List.length_nil] at h0
  refine req_i ?_ ?_
  · -- r0
   first | exact ⟨rfl, rfl⟩ | exact ⟨rfl, by decide +kernel⟩
  rfl
theorem ext_len0 : ∀ p ∈ ([] : List (Nat × Ext)), ExtRow Tryd.prog p.1 p.2 := by
  intro p hp
  cases hp
theorem cts_len0 : CtsOk Tryd.prog [] := fun f c h => by cases h
theorem fn_len0 : FnOk Tryd.prog 57 (sigLenR 5 5) gl11 := fn_sound (by kernel_rfl) ext_len0 cts_len0 names vt_len0
end Go.Proofs.YtblcahackjpnjaaDoor

namespace Go.Proofs.YtblcahackjpnjaaDoor
open Go.Ev Go.Sp
set_option maxRecDepth 100000
theorem vc_len1 : vcFn Tryd.prog [] noA gl11 100 57 (sigLenR 6 6) = (impB ((sigLenR (6 : Int) (6 : Int)).pre [DV.n (6 : Int)]) (
reqB ((sigLenR (6 : Int) (6 : Int)).post [DV.n (6 : Int)]
 [DV.n (Int.ofNat (63 : Nat)), DV.n (0 : Int)]) (
true))) := by kernel_rfl
set_option maxHeartbeats 8000000 in
theorem vt_len1 : vcFn Tryd.prog [] noA gl11 100 57 (sigLenR 6 6) = true := by
  rw [vc_len1]
  try simp only [Int.toNat_natCast, List.length_set, List.length_replicate, List.length_take, List.length_drop, List.length_append, List.length_cons, List.length_nil, Nat.min_self, List.take_take, lenCols_i, lenCols_b, List.drop_zero, List.take_length, Nat.add_eq, Nat.mul_eq, Nat.sub_eq, Nat.zero_add, Nat.sub_zero, Nat.mul_one]
  refine imp_i fun h0 => ?_
  try simp only [sigLenR, iR, lenPost, List.cons.injEq, DV.b.injEq, and_true, List.length_cons, List.length_nil] at h0
  refine req_i ?_ ?_
  · -- r0
   first | exact ⟨rfl, rfl⟩ | exact ⟨rfl, by decide +kernel⟩
  rfl
theorem ext_len1 : ∀ p ∈ ([] : List (Nat × Ext)), ExtRow Tryd.prog p.1 p.2 := by
  intro p hp
  cases hp
theorem cts_len1 : CtsOk Tryd.prog [] := fun f c h => by cases h
theorem fn_len1 : FnOk Tryd.prog 57 (sigLenR 6 6) gl11 := fn_sound (by kernel_rfl) ext_len1 cts_len1 names vt_len1
end Go.Proofs.YtblcahackjpnjaaDoor

namespace Go.Proofs.YtblcahackjpnjaaDoor
open Go.Ev Go.Sp
set_option maxRecDepth 100000
theorem vc_len2 : vcFn Tryd.prog [] noA gl11 100 57 (sigLenR 7 7) = (impB ((sigLenR (7 : Int) (7 : Int)).pre [DV.n (7 : Int)]) (
reqB ((sigLenR (7 : Int) (7 : Int)).post [DV.n (7 : Int)]
 [DV.n (Int.ofNat (127 : Nat)), DV.n (0 : Int)]) (
true))) := by kernel_rfl
set_option maxHeartbeats 8000000 in
theorem vt_len2 : vcFn Tryd.prog [] noA gl11 100 57 (sigLenR 7 7) = true := by
  rw [vc_len2]
  try simp only [Int.toNat_natCast, List.length_set, List.length_replicate, List.length_take, List.length_drop, List.length_append, List.length_cons, List.length_nil, Nat.min_self, List.take_take, lenCols_i, lenCols_b, List.drop_zero, List.take_length, Nat.add_eq, Nat.mul_eq, Nat.sub_eq, Nat.zero_add, Nat.sub_zero, Nat.mul_one]
  refine imp_i fun h0 => ?_
  try simp only [sigLenR, iR, lenPost, List.cons.injEq, DV.b.injEq, and_true, List.length_cons, List.length_nil] at h0
  refine req_i ?_ ?_
  · -- r0
   first | exact ⟨rfl, rfl⟩ | exact ⟨rfl, by decide +kernel⟩
  rfl
theorem ext_len2 : ∀ p ∈ ([] : List (Nat × Ext)), ExtRow Tryd.prog p.1 p.2 := by
  intro p hp
  cases hp
theorem cts_len2 : CtsOk Tryd.prog [] := fun f c h => by cases h
theorem fn_len2 : FnOk Tryd.prog 57 (sigLenR 7 7) gl11 := fn_sound (by kernel_rfl) ext_len2 cts_len2 names vt_len2
end Go.Proofs.YtblcahackjpnjaaDoor

namespace Go.Proofs.YtblcahackjpnjaaDoor
open Go.Ev Go.Sp
set_option maxRecDepth 100000
theorem vc_len3 : vcFn Tryd.prog [] noA gl11 100 57 (sigLenR 9 9) = (impB ((sigLenR (9 : Int) (9 : Int)).pre [DV.n (9 : Int)]) (
reqB ((sigLenR (9 : Int) (9 : Int)).post [DV.n (9 : Int)]
 [DV.n (Int.ofNat (511 : Nat)), DV.n (0 : Int)]) (
true))) := by kernel_rfl
set_option maxHeartbeats 8000000 in
theorem vt_len3 : vcFn Tryd.prog [] noA gl11 100 57 (sigLenR 9 9) = true := by
  rw [vc_len3]
  try simp only [Int.toNat_natCast, List.length_set, List.length_replicate, List.length_take, List.length_drop, List.length_append, List.length_cons, List.length_nil, Nat.min_self, List.take_take, lenCols_i, lenCols_b, List.drop_zero, List.take_length, Nat.add_eq, Nat.mul_eq, Nat.sub_eq, Nat.zero_add, Nat.sub_zero, Nat.mul_one]
  refine imp_i fun h0 => ?_
  try simp only [sigLenR, iR, lenPost, List.cons.injEq, DV.b.injEq, and_true, List.length_cons, List.length_nil] at h0
  refine req_i ?_ ?_
  · -- r0
   first | exact ⟨rfl, rfl⟩ | exact ⟨rfl, by decide +kernel⟩
  rfl
theorem ext_len3 : ∀ p ∈ ([] : List (Nat × Ext)), ExtRow Tryd.prog p.1 p.2 := by
  intro p hp
  cases hp
theorem cts_len3 : CtsOk Tryd.prog [] := fun f c h => by cases h
theorem fn_len3 : FnOk Tryd.prog 57 (sigLenR 9 9) gl11 := fn_sound (by kernel_rfl) ext_len3 cts_len3 names vt_len3
end Go.Proofs.YtblcahackjpnjaaDoor

namespace Go.Proofs.YtblcahackjpnjaaDoor
open Go.Ev Go.Sp
set_option maxRecDepth 100000
theorem vc_len4 : vcFn Tryd.prog [] noA gl11 100 57 (sigLenR 10 10) = (impB ((sigLenR (10 : Int) (10 : Int)).pre [DV.n (10 : Int)]) (
reqB ((sigLenR (10 : Int) (10 : Int)).post [DV.n (10 : Int)]
 [DV.n (Int.ofNat (1023 : Nat)), DV.n (0 : Int)]) (
true))) := by kernel_rfl
set_option maxHeartbeats 8000000 in
theorem vt_len4 : vcFn Tryd.prog [] noA gl11 100 57 (sigLenR 10 10) = true := by
  rw [vc_len4]
  try simp only [Int.toNat_natCast, List.length_set, List.length_replicate, List.length_take, List.length_drop, List.length_append, List.length_cons, List.length_nil, Nat.min_self, List.take_take, lenCols_i, lenCols_b, List.drop_zero, List.take_length, Nat.add_eq, Nat.mul_eq, Nat.sub_eq, Nat.zero_add, Nat.sub_zero, Nat.mul_one]
  refine imp_i fun h0 => ?_
  try simp only [sigLenR, iR, lenPost, List.cons.injEq, DV.b.injEq, and_true, List.length_cons, List.length_nil] at h0
  refine req_i ?_ ?_
  · -- r0
   first | exact ⟨rfl, rfl⟩ | exact ⟨rfl, by decide +kernel⟩
  rfl
theorem ext_len4 : ∀ p ∈ ([] : List (Nat × Ext)), ExtRow Tryd.prog p.1 p.2 := by
  intro p hp
  cases hp
theorem cts_len4 : CtsOk Tryd.prog [] := fun f c h => by cases h
theorem fn_len4 : FnOk Tryd.prog 57 (sigLenR 10 10) gl11 := fn_sound (by kernel_rfl) ext_len4 cts_len4 names vt_len4
end Go.Proofs.YtblcahackjpnjaaDoor

namespace Go.Proofs.YtblcahackjpnjaaDoor
open Go.Ev Go.Sp
set_option maxRecDepth 100000
theorem vc_len5 : vcFn Tryd.prog [] noA gl11 100 57 (sigLenR (-9223372036854775808) 4) = (allB fun n0 : Int => 
impB ((-9223372036854775808 : Int) ≤ n0) (
impB (n0 ≤ (4 : Int)) (
impB ((sigLenR (-9223372036854775808 : Int) (4 : Int)).pre [DV.n n0]) (
reqB ((sigLenR (-9223372036854775808 : Int) (4 : Int)).post [DV.n n0] [DV.n (0 : Int), DV.n (2 : Int)]) (
true))))) := by kernel_rfl
set_option maxHeartbeats 8000000 in
theorem vt_len5 : vcFn Tryd.prog [] noA gl11 100 57 (sigLenR (-9223372036854775808) 4) = true := by
  rw [vc_len5]
  try simp only [Int.toNat_natCast, List.length_set, List.length_replicate, List.length_take, List.length_drop, List.length_append, List.length_cons, List.length_nil, Nat.min_self, List.take_take, lenCols_i, lenCols_b, List.drop_zero, List.take_length, Nat.add_eq, Nat.mul_eq, Nat.sub_eq, Nat.zero_add, Nat.sub_zero, Nat.mul_one]
  refine all_i fun n0 => ?_
  refine imp_i fun h0 => ?_
  refine imp_i fun h1 => ?_
  refine imp_i fun h2 => ?_
  try simp only [sigLenR, iR, lenPost, List.cons.injEq, DV.b.injEq, and_true, List.length_cons, List.length_nil] at h2
  refine req_i ?_ ?_
  · -- r0
   (simp only [sigBitsR, bitsPost, sigTapsR, tapsPost, sigLenR, lenPost]; exact ite_no (by unfold okD; omega) (by simp))
  rfl
theorem ext_len5 : ∀ p ∈ ([] : List (Nat × Ext)), ExtRow Tryd.prog p.1 p.2 := by
  intro p hp
  cases hp
theorem cts_len5 : CtsOk Tryd.prog [] := fun f c h => by cases h
theorem fn_len5 : FnOk Tryd.prog 57 (sigLenR (-9223372036854775808) 4) gl11 := fn_sound (by kernel_rfl) ext_len5 cts_len5 names vt_len5
end Go.Proofs.YtblcahackjpnjaaDoor

namespace Go.Proofs.YtblcahackjpnjaaDoor
open Go.Ev Go.Sp
set_option maxRecDepth 100000
theorem vc_len6 : vcFn Tryd.prog [] noA gl11 100 57 (sigLenR 8 8) = (impB ((sigLenR (8 : Int) (8 : Int)).pre [DV.n (8 : Int)]) (
reqB ((sigLenR (8 : Int) (8 : Int)).post [DV.n (8 : Int)] [DV.n (0 : Int), DV.n (2 : Int)]) (
true))) := by kernel_rfl
set_option maxHeartbeats 8000000 in
theorem vt_len6 : vcFn Tryd.prog [] noA gl11 100 57 (sigLenR 8 8) = true := by
  rw [vc_len6]
  try simp only [Int.toNat_natCast, List.length_set, List.length_replicate, List.length_take, List.length_drop, List.length_append, List.length_cons, List.length_nil, Nat.min_self, List.take_take, lenCols_i, lenCols_b, List.drop_zero, List.take_length, Nat.add_eq, Nat.mul_eq, Nat.sub_eq, Nat.zero_add, Nat.sub_zero, Nat.mul_one]
  refine imp_i fun h0 => ?_
  try simp only [sigLenR, iR, lenPost, List.cons.injEq, DV.b.injEq, and_true, List.length_cons, List.length_nil] at h0
  refine req_i ?_ ?_
  · -- r0
   (simp only [sigBitsR, bitsPost, sigTapsR, tapsPost, sigLenR, lenPost]; exact ite_no (by unfold okD; omega) (by simp))
  rfl
theorem ext_len6 : ∀ p ∈ ([] : List (Nat × Ext)), ExtRow Tryd.prog p.1 p.2 := by
  intro p hp
  cases hp
theorem cts_len6 : CtsOk Tryd.prog [] := fun f c h => by cases h
theorem fn_len6 : FnOk Tryd.prog 57 (sigLenR 8 8) gl11 := fn_sound (by kernel_rfl) ext_len6 cts_len6 names vt_len6
end Go.Proofs.YtblcahackjpnjaaDoor

namespace Go.Proofs.YtblcahackjpnjaaDoor
open Go.Ev Go.Sp
set_option maxRecDepth 100000
theorem vc_len7 : vcFn Tryd.prog [] noA gl11 100 57 (sigLenR 11 9223372036854775807) = (allB fun n0 : Int => 
impB ((11 : Int) ≤ n0) (
impB (n0 ≤ (9223372036854775807 : Int)) (
impB ((sigLenR (11 : Int) (9223372036854775807 : Int)).pre [DV.n n0]) (
reqB ((sigLenR (11 : Int) (9223372036854775807 : Int)).post [DV.n n0] [DV.n (0 : Int), DV.n (2 : Int)]) (
true))))) := by kernel_rfl
set_option maxHeartbeats 8000000 in
theorem vt_len7 : vcFn Tryd.prog [] noA gl11 100 57 (sigLenR 11 9223372036854775807) = true := by
  rw [vc_len7]
  try simp only [Int.toNat_natCast, List.length_set, List.length_replicate, List.length_take, List.length_drop, List.length_append, List.length_cons, List.length_nil, Nat.min_self, List.take_take, lenCols_i, lenCols_b, List.drop_zero, List.take_length, Nat.add_eq, Nat.mul_eq, Nat.sub_eq, Nat.zero_add, Nat.sub_zero, Nat.mul_one]
  refine all_i fun n0 => ?_
  refine imp_i fun h0 => ?_
  refine imp_i fun h1 => ?_
  refine imp_i fun h2 => ?_
  try simp only [sigLenR, iR, lenPost, List.cons.injEq, DV.b.injEq, and_true, List.length_cons, List.length_nil] at h2
  refine req_i ?_ ?_
  · -- r0
   (simp only [sigBitsR, bitsPost, sigTapsR, tapsPost, sigLenR, lenPost]; exact ite_no (by unfold okD; omega) (by simp))
  rfl
theorem ext_len7 : ∀ p ∈ ([] : List (Nat × Ext)), ExtRow Tryd.prog p.1 p.2 := by
  intro p hp
  cases hp
theorem cts_len7 : CtsOk Tryd.prog [] := fun f c h => by cases h
theorem fn_len7 : FnOk Tryd.prog 57 (sigLenR 11 9223372036854775807) gl11 := fn_sound (by kernel_rfl) ext_len7 cts_len7 names vt_len7
end Go.Proofs.YtblcahackjpnjaaDoor

namespace Go.Proofs.YtblcahackjpnjaaDoor
open Go.Ev Go.Sp
theorem fn_len : FnOk Tryd.prog 57 sigLen gl11 := by
  exact (fn_cover1 covD covD_ok fun t ht => by
    simp only [covD, List.mem_cons, List.not_mem_nil, or_false] at ht
    rcases ht with rfl | rfl | rfl | rfl | rfl | rfl | rfl | rfl
    · exact fn_len0
    · exact fn_len1
    · exact fn_len2
    · exact fn_len3
    · exact fn_len4
    · exact fn_len5
    · exact fn_len6
    · exact fn_len7)
end Go.Proofs.YtblcahackjpnjaaDoor

namespace Go.Proofs.YtblcahackjpnjaaDoor
open Go.Ev Go.Sp
set_option maxRecDepth 100000
theorem vc_samp : vcFn Tryd.prog [(39, Ext.ctr (ctOfG gl11 sigCode)), (57, Ext.ctr (ctOfG gl11 sigLen))] (fun f p _ => at2 f p 45 1025658 sampAL (at2 f p 45 262568550 sampBL (none))) gl11 100 30 sigSampC = (allB fun n0 : Int => 
impB ((-9223372036854775808 : Int) ≤ n0) (
impB (n0 ≤ (9223372036854775807 : Int)) (
allB fun n1 : Int => 
impB ((-9223372036854775808 : Int) ≤ n1) (
impB (n1 ≤ (9223372036854775807 : Int)) (
allB fun n2 : Int => 
impB ((-9223372036854775808 : Int) ≤ n2) (
impB (n2 ≤ (9223372036854775807 : Int)) (
impB (sigSampC.pre [DV.n n0, DV.n n1, DV.n n2]) (
reqB ((-9223372036854775808 : Int) ≤ n0) (
reqB (n0 ≤ (9223372036854775807 : Int)) (
reqB (sigLen.pre [DV.n n0]) (
allB fun n3 : Int => 
impB ((0 : Int) ≤ n3) (
impB (n3 ≤ (1023 : Int)) (
allB fun n4 : Int => 
impB ((0 : Int) ≤ n4) (
impB (n4 ≤ (18 : Int)) (
impB (sigLen.post [DV.n n0] [DV.n n3, DV.n n4]) (
bR (dec (n4 ≠ (0 : Int))) (
 bR (dec (n4 ≠ (0 : Int))) (
 reqB ((0 : Int) ≤ n4) (
 reqB (n4 ≤ (18 : Int)) (
 reqB (sigSampC.post [DV.n n0, DV.n n1, DV.n n2] [DV.l [], DV.n n4]) (
 true)))) (
 false)) (
 bR (dec (n1 < (1 : Int))) (
 reqB (sigSampC.post [DV.n n0, DV.n n1, DV.n n2] [DV.l [], DV.n (2 : Int)]) (
 true)) (
 bR (dec ((8 : Int) < n1)) (
 reqB (sigSampC.post [DV.n n0, DV.n n1, DV.n n2] [DV.l [], DV.n (2 : Int)]) (
 true)) (
 reqB ((-9223372036854775808 : Int) ≤ n0) (
 reqB (n0 ≤ (9223372036854775807 : Int)) (
 reqB ((-9223372036854775808 : Int) ≤ n2) (
 reqB (n2 ≤ (9223372036854775807 : Int)) (
 reqB (sigCode.pre [DV.n n0, DV.n n2]) (
 allB fun l5 : List Int => 
 impB (l5.length ≤ (1100 : Nat)) (
 impB (∀ (y : Int), y ∈ l5 → (-1 : Int) ≤ y ∧ y ≤ (1 : Int)) (
 allB fun n6 : Int => 
 impB ((0 : Int) ≤ n6) (
 impB (n6 ≤ (18 : Int)) (
 impB (sigCode.post [DV.n n0, DV.n n2] [DV.l l5, DV.n n6]) (
 bR (dec (n6 ≠ (0 : Int))) (
 bR (dec (n6 ≠ (0 : Int))) (
 reqB ((0 : Int) ≤ n6) (
 reqB (n6 ≤ (18 : Int)) (
 reqB (sigSampC.post [DV.n n0, DV.n n1, DV.n n2] [DV.l [], DV.n n6]) (
 true)))) (
 false)) (
 allB fun n7 : Int => 
 impB (n7 = Go.IntKind.i64.wrap ((↑l5.length : Int) * n1)) (
 impB (Int.negSucc (9223372036854775807 : Nat) ≤ n7) (
 impB (n7 ≤ Int.ofNat (9223372036854775807 : Nat)) (
 reqB ((0 : Int) ≤ n7) (
 reqB ((0 : Nat) ≤ n7.toNat) (
 reqB (n7.toNat ≤ (1000000 : Nat)) (
 reqB (((0 : Nat) + l5.length) * (1 : Nat) ≤ l5.length.mul (1 : Nat)) (
 reqB (l5.length ≤ (1100 : Nat)) (
 reqB ((List.take l5.length (List.drop (0 : Nat) l5)).length = l5.length) (
 reqB (∀ (y : Int), y ∈ List.take l5.length (List.drop (0 : Nat) l5) → (-1 : Int) ≤ y ∧ y ≤ (1 : Int)) (
 reqB ((1 : Int) ≤ n1) (
 reqB (n1 ≤ (8 : Int)) (
 reqB (((0 : Nat) + (0 : Nat)) * (1 : Nat) ≤ (0 : Nat)) (
 reqB ((0 : Nat) ≤ (600 : Nat)) (
 reqB ((List.take (0 : Nat) (List.drop (0 : Nat) (List.replicate (0 : Nat) (0 : Int)))).length = (0 : Nat)) (
 reqB (∀ (y : Int),
 y ∈ List.take (0 : Nat) (List.drop (0 : Nat) (List.replicate (0 : Nat) (0 : Int))) → (-1 : Int) ≤ y ∧ y ≤ (1 : Int)) (
 reqB (sampAL.inv [DV.l (List.take l5.length (List.drop (0 : Nat) l5)), DV.n n1]
 [DV.n (0 : Int), DV.l (List.take (0 : Nat) (List.drop (0 : Nat) (List.replicate (0 : Nat) (0 : Int))))]) (
 allB fun n8 : Int => 
 impB ((0 : Int) ≤ n8) (
 impB (n8 ≤ (1100 : Int)) (
 allB fun l9 : List Int => 
 impB (l9.length ≤ (600 : Nat)) (
 impB (∀ (y : Int), y ∈ l9 → (-1 : Int) ≤ y ∧ y ≤ (1 : Int)) (
 impB (sampAL.inv [DV.l (List.take l5.length (List.drop (0 : Nat) l5)), DV.n n1]
 [DV.n n8, DV.l l9]) (
 bR (dec (n8 < (↑l5.length : Int))) (
 reqB (n8.toNat < l5.length) (
 reqB (Nat.add (0 : Nat) n8.toNat < l5.length) (
 reqB (((0 : Nat) + l5.length) * (1 : Nat) ≤ l5.length.mul (1 : Nat)) (
 reqB (l5.length ≤ (1100 : Nat)) (
 reqB ((List.take l5.length (List.drop (0 : Nat) l5)).length = l5.length) (
 reqB (∀ (y : Int), y ∈ List.take l5.length (List.drop (0 : Nat) l5) → (-1 : Int) ≤ y ∧ y ≤ (1 : Int)) (
 reqB ((1 : Int) ≤ n1) (
 reqB (n1 ≤ (8 : Int)) (
 reqB ((0 : Int) ≤ n8) (
 reqB (n8 ≤ (1100 : Int)) (
 reqB ((-1 : Int) ≤ l5.getD (Nat.add (0 : Nat) n8.toNat) (0 : Int)) (
 reqB (l5.getD (Nat.add (0 : Nat) n8.toNat) (0 : Int) ≤ (1 : Int)) (
 reqB (((0 : Nat) + l9.length) * (1 : Nat) ≤ l9.length.mul (1 : Nat)) (
 reqB (l9.length ≤ (600 : Nat)) (
 reqB ((List.take l9.length (List.drop (0 : Nat) l9)).length = l9.length) (
 reqB (∀ (y : Int), y ∈ List.take l9.length (List.drop (0 : Nat) l9) → (-1 : Int) ≤ y ∧ y ≤ (1 : Int)) (
 reqB (sampBL.inv
 [DV.l (List.take l5.length (List.drop (0 : Nat) l5)), DV.n n1, DV.n n8,
 DV.n (l5.getD (Nat.add (0 : Nat) n8.toNat) (0 : Int))]
 [DV.n (0 : Int), DV.l (List.take l9.length (List.drop (0 : Nat) l9))]) (
 allB fun n10 : Int => 
 impB ((0 : Int) ≤ n10) (
 impB (n10 ≤ (8 : Int)) (
 allB fun l11 : List Int => 
 impB (l11.length ≤ (600 : Nat)) (
 impB (∀ (y : Int), y ∈ l11 → (-1 : Int) ≤ y ∧ y ≤ (1 : Int)) (
 impB (sampBL.inv
 [DV.l (List.take l5.length (List.drop (0 : Nat) l5)), DV.n n1, DV.n n8,
 DV.n (l5.getD (Nat.add (0 : Nat) n8.toNat) (0 : Int))]
 [DV.n n10, DV.l l11]) (
 bR (dec (n10 < n1)) (
 reqB (l11.length + (1 : Nat) ≤ (1000000 : Nat)) (
 reqB (((0 : Nat) + l11.length) * (0 + (1 : Nat)) ≤ l11.length.mul (1 : Nat)) (
 bR (bR (dec (n0 = n0)) (
 bR (dec (n1 = n1)) (
 bR (bR (dec ((0 : Nat) = (0 : Nat))) (
 dec (l5.length = l5.length)) (
 false)) (
 bR (dec (l5.getD (Nat.add (0 : Nat) n8.toNat) (0 : Int) = l5.getD (Nat.add (0 : Nat) n8.toNat) (0 : Int))) (
 bR (bR (dec ((0 : Nat) = (0 : Nat))) (
 dec (l5.length = l5.length)) (
 false)) (
 bR (dec ((↑l5.length : Int) = (↑l5.length : Int))) (
 bR (dec (n8 = n8)) (
 bR (dec (n1 = n1)) (
 true) (
 false)) (
 false)) (
 false)) (
 false)) (
 false)) (
 false)) (
 false)) (
 false)) (
 bR (bR (bR (dec (n2 = n2)) (
 true) (
 false)) (
 bR (bR (dec (l5.length.mul (1 : Nat) = l5.length.mul (1 : Nat))) (
 dec ([Col.i Go.IntKind.i64 (-1 : Int) (1 : Int) l5] = [Col.i Go.IntKind.i64 (-1 : Int) (1 : Int) l5])) (
 false)) (
 bR (bR (bR (dec ((0 : Nat) = (0 : Nat))) (
 dec (l5.length = l5.length)) (
 false)) (
 bR (dec (n1 = n1)) (
 true) (
 false)) (
 false)) (
 true) (
 false)) (
 false)) (
 false)) (
 reqB ((0 : Int) ≤ n10 + (1 : Int)) (
 reqB (n10 + (1 : Int) ≤ (8 : Int)) (
 reqB (((0 : Nat) + l11.length.add (1 : Nat)) * (1 : Nat) ≤ (l11.length.add (1 : Nat)).mul (0 + (1 : Nat))) (
 reqB (l11.length.add (1 : Nat) ≤ (600 : Nat)) (
 reqB ((List.take (l11.length.add (1 : Nat))
 (List.drop (0 : Nat)
 (List.take l11.length (List.drop (0 : Nat) l11) ++ [l5.getD (Nat.add (0 : Nat) n8.toNat) (0 : Int)]))).length =
 l11.length.add (1 : Nat)) (
 reqB (∀ (y : Int),
 y ∈
 List.take (l11.length.add (1 : Nat))
 (List.drop (0 : Nat)
 (List.take l11.length (List.drop (0 : Nat) l11) ++ [l5.getD (Nat.add (0 : Nat) n8.toNat) (0 : Int)])) →
 (-1 : Int) ≤ y ∧ y ≤ (1 : Int)) (
 reqB (sampBL.inv
 [DV.l (List.take l5.length (List.drop (0 : Nat) l5)), DV.n n1, DV.n n8,
 DV.n (l5.getD (Nat.add (0 : Nat) n8.toNat) (0 : Int))]
 [DV.n (n10 + (1 : Int)),
 DV.l
 (List.take (l11.length.add (1 : Nat))
 (List.drop (0 : Nat)
 (List.take l11.length (List.drop (0 : Nat) l11) ++ [l5.getD (Nat.add (0 : Nat) n8.toNat) (0 : Int)])))]) (
 reqB (sampBL.mea
 [DV.l (List.take l5.length (List.drop (0 : Nat) l5)), DV.n n1, DV.n n8,
 DV.n (l5.getD (Nat.add (0 : Nat) n8.toNat) (0 : Int))]
 [DV.n (n10 + (1 : Int)),
 DV.l
 (List.take (l11.length.add (1 : Nat))
 (List.drop (0 : Nat)
 (List.take l11.length (List.drop (0 : Nat) l11) ++ [l5.getD (Nat.add (0 : Nat) n8.toNat) (0 : Int)])))] <
 sampBL.mea
 [DV.l (List.take l5.length (List.drop (0 : Nat) l5)), DV.n n1, DV.n n8,
 DV.n (l5.getD (Nat.add (0 : Nat) n8.toNat) (0 : Int))]
 [DV.n n10, DV.l l11]) (
 true))))))))) (
 false)) (
 false)))) (
 bR (bR (dec (n0 = n0)) (
 bR (dec (n1 = n1)) (
 bR (bR (dec ((0 : Nat) = (0 : Nat))) (
 dec (l5.length = l5.length)) (
 false)) (
 bR (bR (dec ((0 : Nat) = (0 : Nat))) (
 dec (l5.length = l5.length)) (
 false)) (
 bR (dec ((↑l5.length : Int) = (↑l5.length : Int))) (
 true) (
 false)) (
 false)) (
 false)) (
 false)) (
 false)) (
 bR (bR (bR (dec (n2 = n2)) (
 true) (
 false)) (
 bR (bR (dec (l5.length.mul (1 : Nat) = l5.length.mul (1 : Nat))) (
 dec ([Col.i Go.IntKind.i64 (-1 : Int) (1 : Int) l5] = [Col.i Go.IntKind.i64 (-1 : Int) (1 : Int) l5])) (
 false)) (
 bR (bR (bR (dec ((0 : Nat) = (0 : Nat))) (
 dec (l5.length = l5.length)) (
 false)) (
 bR (dec (n1 = n1)) (
 true) (
 false)) (
 false)) (
 true) (
 false)) (
 false)) (
 false)) (
 reqB ((0 : Int) ≤ n8 + (1 : Int)) (
 reqB (n8 + (1 : Int) ≤ (1100 : Int)) (
 reqB (((0 : Nat) + l11.length) * (1 : Nat) ≤ l11.length.mul (1 : Nat)) (
 reqB (l11.length ≤ (600 : Nat)) (
 reqB ((List.take l11.length (List.drop (0 : Nat) l11)).length = l11.length) (
 reqB (∀ (y : Int), y ∈ List.take l11.length (List.drop (0 : Nat) l11) → (-1 : Int) ≤ y ∧ y ≤ (1 : Int)) (
 reqB (sampAL.inv [DV.l (List.take l5.length (List.drop (0 : Nat) l5)), DV.n n1]
 [DV.n (n8 + (1 : Int)), DV.l (List.take l11.length (List.drop (0 : Nat) l11))]) (
 reqB (sampAL.mea [DV.l (List.take l5.length (List.drop (0 : Nat) l5)), DV.n n1]
 [DV.n (n8 + (1 : Int)), DV.l (List.take l11.length (List.drop (0 : Nat) l11))] <
 sampAL.mea [DV.l (List.take l5.length (List.drop (0 : Nat) l5)), DV.n n1]
 [DV.n n8, DV.l l9]) (
 true))))))))) (
 false)) (
 false))))))))))))))))))))))))) (
 reqB (((0 : Nat) + l9.length) * (1 : Nat) ≤ l9.length.mul (1 : Nat)) (
 reqB (l9.length ≤ (600 : Nat)) (
 reqB ((List.take l9.length (List.drop (0 : Nat) l9)).length = l9.length) (
 reqB (∀ (y : Int), y ∈ List.take l9.length (List.drop (0 : Nat) l9) → (-1 : Int) ≤ y ∧ y ≤ (1 : Int)) (
 reqB (sigSampC.post [DV.n n0, DV.n n1, DV.n n2]
 [DV.l (List.take l9.length (List.drop (0 : Nat) l9)), DV.n (0 : Int)]) (
 true)))))))))))))))))))))))))))))))))))))))))))))))))))))))))) := by kernel_rfl
set_option maxHeartbeats 8000000 in
theorem vt_samp : vcFn Tryd.prog [(39, Ext.ctr (ctOfG gl11 sigCode)), (57, Ext.ctr (ctOfG gl11 sigLen))] (fun f p _ => at2 f p 45 1025658 sampAL (at2 f p 45 262568550 sampBL (none))) gl11 100 30 sigSampC = true := by
  rw [vc_samp]
  try simp only [Int.toNat_natCast, List.length_set, List.length_replicate, List.length_take, List.length_drop, List.length_append, List.length_cons, List.length_nil, Nat.min_self, List.take_take, lenCols_i, lenCols_b, List.drop_zero, List.take_length, Nat.add_eq, Nat.mul_eq, Nat.sub_eq, Nat.zero_add, Nat.sub_zero, Nat.mul_one]
  refine all_i fun n0 => ?_
  refine imp_i fun h0 => ?_
  refine imp_i fun h1 => ?_
  refine all_i fun n1 => ?_
  refine imp_i fun h2 => ?_
  refine imp_i fun h3 => ?_
  refine all_i fun n2 => ?_
  refine imp_i fun h4 => ?_
  refine imp_i fun h5 => ?_
  refine imp_i fun h6 => ?_
  try simp only [sigSampC, cChL, sampPre, sampPost, List.cons.injEq, DV.b.injEq, and_true, List.length_cons, List.length_nil] at h6
  refine req_i ?_ ?_
  · -- r0
   first | omega | assumption | grind
  refine req_i ?_ ?_
  · -- r1
   first | omega | assumption | grind
  refine req_i ?_ ?_
  · -- r2
   first | trivial | assumption | (simp only [sigLen, sigLenR, iR, lenPost, List.cons.injEq, DV.b.injEq, and_true, List.length_cons, List.length_nil]; done) | ((try simp only [sigLen, sigLenR, iR, lenPost, List.cons.injEq, DV.b.injEq, and_true, List.length_cons, List.length_nil]); first | omega | assumption | grind)
  refine all_i fun n3 => ?_
  refine imp_i fun h7 => ?_
  refine imp_i fun h8 => ?_
  refine all_i fun n4 => ?_
  refine imp_i fun h9 => ?_
  refine imp_i fun h10 => ?_
  refine imp_i fun h11 => ?_
  try simp only [Int.toNat_natCast, List.length_set, List.length_replicate, List.length_take, List.length_drop, List.length_append, List.length_cons, List.length_nil, Nat.min_self, List.take_take, lenCols_i, lenCols_b, List.drop_zero, List.take_length, Nat.add_eq, Nat.mul_eq, Nat.sub_eq, Nat.zero_add, Nat.sub_zero, Nat.mul_one] at h11
  have hb := ite_case h11
  have nb := @nG_bd n0
  refine bR_dec (fun h12 => ?_) (fun h12 => ?_)
  ·
   refine bR_t ?_ ?_
   · -- g0
    first | rfl | (simp only [bR_iff, bR_iff_f, dec_iff, dec_f, beqB_iff', andB_iff', reduceCtorEq, imp_self, false_implies, and_true, true_and, implies_true, and_self]; done) | (simp [bR_iff, dec_iff, beqB_iff', andB_iff']; done) | (simp [bR_iff, dec_iff, beqB_iff', andB_iff']; omega)
   refine req_i ?_ ?_
   · -- r3
    first | omega | assumption | grind
   refine req_i ?_ ?_
   · -- r4
    first | omega | assumption | grind
   refine req_i ?_ ?_
   · -- r5
    obtain ⟨k1, k2, k3⟩ := hb.resolve_left (fun g => h12 g.2.1); exact samp_no (fun g => k1 g.1) k2
   rfl
  ·
   obtain ⟨okd, _, e3⟩ := hb.resolve_right (fun g => h12 (by rw [g.2.1]; decide))
   refine bR_dec (fun h13 => ?_) (fun h13 => ?_)
   ·
    refine req_i ?_ ?_
    · -- r6
     exact samp_no (fun g => by omega) rfl
    rfl
   ·
    refine bR_dec (fun h14 => ?_) (fun h14 => ?_)
    ·
     refine req_i ?_ ?_
     · -- r7
      exact samp_no (fun g => by omega) rfl
     rfl
    ·
     refine req_i ?_ ?_
     · -- r8
      first | omega | assumption | grind
     refine req_i ?_ ?_
     · -- r9
      first | omega | assumption | grind
     refine req_i ?_ ?_
     · -- r10
      first | omega | assumption | grind
     refine req_i ?_ ?_
     · -- r11
      first | omega | assumption | grind
     refine req_i ?_ ?_
     · -- r12
      first | trivial | assumption | (simp only [sigCode, cCh, codePost, List.cons.injEq, DV.b.injEq, and_true, List.length_cons, List.length_nil]; done) | ((try simp only [sigCode, cCh, codePost, List.cons.injEq, DV.b.injEq, and_true, List.length_cons, List.length_nil]); first | omega | assumption | grind)
     refine all_i fun l5 => ?_
     refine imp_i fun h15 => ?_
     refine imp_i fun h16 => ?_
     refine all_i fun n6 => ?_
     refine imp_i fun h17 => ?_
     refine imp_i fun h18 => ?_
     refine imp_i fun h19 => ?_
     try simp only [Int.toNat_natCast, List.length_set, List.length_replicate, List.length_take, List.length_drop, List.length_append, List.length_cons, List.length_nil, Nat.min_self, List.take_take, lenCols_i, lenCols_b, List.drop_zero, List.take_length, Nat.add_eq, Nat.mul_eq, Nat.sub_eq, Nat.zero_add, Nat.sub_zero, Nat.mul_one] at h19
     have hc := ite_case h19
     refine bR_dec (fun h20 => ?_) (fun h20 => ?_)
     ·
      refine bR_t ?_ ?_
      · -- g1
       first | rfl | (simp only [bR_iff, bR_iff_f, dec_iff, dec_f, beqB_iff', andB_iff', reduceCtorEq, imp_self, false_implies, and_true, true_and, implies_true, and_self]; done) | (simp [bR_iff, dec_iff, beqB_iff', andB_iff']; done) | (simp [bR_iff, dec_iff, beqB_iff', andB_iff']; omega)
      refine req_i ?_ ?_
      · -- r13
       first | omega | assumption | grind
      refine req_i ?_ ?_
      · -- r14
       first | omega | assumption | grind
      refine req_i ?_ ?_
      · -- r15
       obtain ⟨k1, k2, k3⟩ := hc.resolve_left (fun g => h20 g.2.1); exact samp_no (fun g => k1 ⟨g.1, g.2.2⟩) k2
      rfl
     ·
      obtain ⟨okc, _, c5⟩ := hc.resolve_right (fun g => h20 (by rw [g.2.1]; decide))
      have k5 : (l5.length : Int) = nG n0 := by rw [c5, codeL, chips_len]; exact bits_len okd (.inl rfl)
      have pb := h6 okd (by omega) (by omega)
      rw [← k5] at pb
      refine all_i fun n7 => ?_
      refine imp_i fun h21 => ?_
      simp only [wrap_i64] at h21
      have p0 := Int.mul_nonneg (show 0 ≤ (l5.length : Int) by omega) (show 0 ≤ n1 by omega)
      replace h21 : n7 = (l5.length : Int) * n1 := by omega
      refine imp_i fun h22 => ?_
      refine imp_i fun h23 => ?_
      refine req_i ?_ ?_
      · -- r16
       first | omega | assumption | grind
      refine req_i ?_ ?_
      · -- r17
       first | omega | assumption | grind
      refine req_i ?_ ?_
      · -- r18
       first | omega | assumption | grind
      refine req_i ?_ ?_
      · -- r19
       first | omega | ((try simp only [Nat.mul_eq]); first | done | omega | assumption | grind [getD_set, getD_rep, toNat_succ, cntN_yes, cntN_no])
      refine req_i ?_ ?_
      · -- r20
       first | omega | ((try simp only [Nat.zero_add]); first | done | omega | assumption | grind [getD_set, getD_rep, toNat_succ, cntN_yes, cntN_no])
      refine req_i ?_ ?_
      · -- r21
       first | omega | ((try simp only [List.length_take, List.take_length, List.take_take, Nat.min_self, List.length_drop, List.drop_zero, List.length_cons, List.length_nil]); first | done | omega | assumption | grind [getD_set, getD_rep, toNat_succ, cntN_yes, cntN_no])
      refine req_i ?_ ?_
      · -- r22
       first | assumption | exact rep_bd (by omega) (by omega) | exact set_bd (by assumption) (by omega) (by omega) | exact take_bd (by assumption) | ((try simp only [List.length_take, List.take_length, List.take_take, Nat.min_self, List.length_drop, List.drop_zero, List.length_cons, List.length_nil]); first | assumption | exact rep_bd (by omega) (by omega) | exact set_bd (by assumption) (by omega) (by omega) | exact take_bd (by assumption) | grind [getD_set, getD_rep, toNat_succ, cntN_yes, cntN_no])
      refine req_i ?_ ?_
      · -- r23
       first | omega | assumption | grind
      refine req_i ?_ ?_
      · -- r24
       first | omega | assumption | grind
      refine req_i ?_ ?_
      · -- r25
       first | omega | assumption | grind
      refine req_i ?_ ?_
      · -- r26
       first | omega | assumption | grind
      refine req_i ?_ ?_
      · -- r27
       first | omega | ((try simp only [List.length_replicate, List.length_take, List.take_length, List.take_take, Nat.min_self, List.length_drop, List.drop_zero, List.length_cons, List.length_nil]); first | done | omega | assumption | grind [getD_set, getD_rep, toNat_succ, cntN_yes, cntN_no])
      refine req_i ?_ ?_
      · -- r28
       first | assumption | exact rep_bd (by omega) (by omega) | exact set_bd (by assumption) (by omega) (by omega) | exact take_bd (by assumption) | ((try simp only [List.length_replicate, List.length_take, List.take_length, List.take_take, Nat.min_self, List.length_drop, List.drop_zero, List.length_cons, List.length_nil]); first | assumption | exact rep_bd (by omega) (by omega) | exact set_bd (by assumption) (by omega) (by omega) | exact take_bd (by assumption) | grind [getD_set, getD_rep, toNat_succ, cntN_yes, cntN_no])
      refine req_i ?_ ?_
      · -- r29
       exact ⟨by omega, by omega, by simp, fun j hj => by omega⟩
      refine all_i fun n8 => ?_
      refine imp_i fun h24 => ?_
      refine imp_i fun h25 => ?_
      refine all_i fun l9 => ?_
      refine imp_i fun h26 => ?_
      refine imp_i fun h27 => ?_
      refine imp_i fun h28 => ?_
      try simp only [sampAL, cChL, cCh, sampAInv, meaC, List.cons.injEq, DV.b.injEq, and_true, List.length_take, List.take_length, List.take_take, Nat.min_self, List.length_drop, List.drop_zero, List.length_cons, List.length_nil] at h28
      refine bR_dec (fun h29 => ?_) (fun h29 => ?_)
      ·
       have gb := getD_bd (i := n8.toNat) h16 (by omega) (by omega)
       have z1 : n8 * n1 + 0 = n8 * n1 := by omega
       refine req_i ?_ ?_
       · -- r30
        first | omega | ((try simp only [Int.toNat_natCast, List.length_cons, List.length_nil]); first | done | omega | assumption | grind [getD_set, getD_rep, toNat_succ, cntN_yes, cntN_no])
       refine req_i ?_ ?_
       · -- r31
        first | omega | ((try simp only [Int.toNat_natCast, List.length_cons, List.length_nil, Nat.add_eq, Nat.zero_add]); first | done | omega | assumption | grind [getD_set, getD_rep, toNat_succ, cntN_yes, cntN_no])
       refine req_i ?_ ?_
       · -- r32
        first | omega | ((try simp only [Nat.mul_eq]); first | done | omega | assumption | grind [getD_set, getD_rep, toNat_succ, cntN_yes, cntN_no])
       refine req_i ?_ ?_
       · -- r33
        first | omega | ((try simp only [Nat.zero_add]); first | done | omega | assumption | grind [getD_set, getD_rep, toNat_succ, cntN_yes, cntN_no])
       refine req_i ?_ ?_
       · -- r34
        first | omega | ((try simp only [List.length_take, List.take_length, List.take_take, Nat.min_self, List.length_drop, List.drop_zero, List.length_cons, List.length_nil]); first | done | omega | assumption | grind [getD_set, getD_rep, toNat_succ, cntN_yes, cntN_no])
       refine req_i ?_ ?_
       · -- r35
        first | assumption | exact rep_bd (by omega) (by omega) | exact set_bd (by assumption) (by omega) (by omega) | exact take_bd (by assumption) | ((try simp only [List.length_take, List.take_length, List.take_take, Nat.min_self, List.length_drop, List.drop_zero, List.length_cons, List.length_nil]); first | assumption | exact rep_bd (by omega) (by omega) | exact set_bd (by assumption) (by omega) (by omega) | exact take_bd (by assumption) | grind [getD_set, getD_rep, toNat_succ, cntN_yes, cntN_no])
       refine req_i ?_ ?_
       · -- r36
        first | omega | assumption | grind
       refine req_i ?_ ?_
       · -- r37
        first | omega | assumption | grind
       refine req_i ?_ ?_
       · -- r38
        first | omega | assumption | grind
       refine req_i ?_ ?_
       · -- r39
        first | omega | assumption | grind
       refine req_i ?_ ?_
       · -- r40
        first | omega | assumption | grind
       refine req_i ?_ ?_
       · -- r41
        first | omega | assumption | grind
       refine req_i ?_ ?_
       · -- r42
        first | omega | ((try simp only [Nat.mul_eq]); first | done | omega | assumption | grind [getD_set, getD_rep, toNat_succ, cntN_yes, cntN_no])
       refine req_i ?_ ?_
       · -- r43
        first | omega | ((try simp only [Nat.zero_add]); first | done | omega | assumption | grind [getD_set, getD_rep, toNat_succ, cntN_yes, cntN_no])
       refine req_i ?_ ?_
       · -- r44
        first | omega | ((try simp only [List.length_take, List.take_length, List.take_take, Nat.min_self, List.length_drop, List.drop_zero, List.length_cons, List.length_nil]); first | done | omega | assumption | grind [getD_set, getD_rep, toNat_succ, cntN_yes, cntN_no])
       refine req_i ?_ ?_
       · -- r45
        first | assumption | exact rep_bd (by omega) (by omega) | exact set_bd (by assumption) (by omega) (by omega) | exact take_bd (by assumption) | ((try simp only [List.length_take, List.take_length, List.take_take, Nat.min_self, List.length_drop, List.drop_zero, List.length_cons, List.length_nil]); first | assumption | exact rep_bd (by omega) (by omega) | exact set_bd (by assumption) (by omega) (by omega) | exact take_bd (by assumption) | grind [getD_set, getD_rep, toNat_succ, cntN_yes, cntN_no])
       refine req_i ?_ ?_
       · -- r46
        (simp only [sampBL, sampBInv, List.drop_zero, List.take_length, Nat.add_eq, Nat.zero_add]); exact ⟨by omega, by omega, by omega, by omega, trivial, by omega, fun j hj => h28.2.2.2 j (by omega)⟩
       refine all_i fun n10 => ?_
       refine imp_i fun h30 => ?_
       refine imp_i fun h31 => ?_
       refine all_i fun l11 => ?_
       refine imp_i fun h32 => ?_
       refine imp_i fun h33 => ?_
       refine imp_i fun h34 => ?_
       try simp only [sampBL, cChL, cCh, sampBInv, meaB, List.cons.injEq, DV.b.injEq, and_true, Int.toNat_natCast, List.length_take, List.take_length, List.take_take, Nat.min_self, List.length_drop, List.drop_zero, List.length_cons, List.length_nil, Nat.add_eq, Nat.zero_add] at h34
       refine bR_dec (fun h35 => ?_) (fun h35 => ?_)
       ·
        have sn := sampB_next (c := l5) (x := l11) (o := n1) (i := n8) (m := n10) (e := l5.getD n8.toNat 0) (by omega) (by omega) (by omega) (by omega) rfl h34.2.2.2.2.2.1 h34.2.2.2.2.2.2
        have sb := samp_bd (n := (l5.length : Int)) (i := n8) (o := n1) (m := n10 + 1) (by omega) (by omega) (by omega) (by omega) pb
        have tk := take_snoc (l := l11) (m := l11) (x := l5.getD n8.toNat 0) rfl
        refine req_i ?_ ?_
        · -- r47
         first | omega | ((try simp only [Nat.zero_add]); first | done | omega | assumption | grind [getD_set, getD_rep, toNat_succ, cntN_yes, cntN_no])
        refine req_i ?_ ?_
        · -- r48
         first | omega | ((try simp only [Nat.mul_eq]); first | done | omega | assumption | grind [getD_set, getD_rep, toNat_succ, cntN_yes, cntN_no])
        refine bR_t ?_ ?_
        · -- g2
         first | rfl | (simp only [bR_iff, bR_iff_f, dec_iff, dec_f, beqB_iff', andB_iff', reduceCtorEq, imp_self, false_implies, and_true, true_and, implies_true, and_self]; done) | (simp [bR_iff, dec_iff, beqB_iff', andB_iff']; done) | (simp [bR_iff, dec_iff, beqB_iff', andB_iff']; omega)
        refine bR_t ?_ ?_
        · -- g3
         first | rfl | (simp only [bR_iff, bR_iff_f, dec_iff, dec_f, beqB_iff', andB_iff', reduceCtorEq, imp_self, false_implies, and_true, true_and, implies_true, and_self]; done) | (simp [bR_iff, dec_iff, beqB_iff', andB_iff']; done) | (simp [bR_iff, dec_iff, beqB_iff', andB_iff']; omega)
        refine req_i ?_ ?_
        · -- r49
         first | omega | assumption | grind
        refine req_i ?_ ?_
        · -- r50
         first | omega | assumption | grind
        refine req_i ?_ ?_
        · -- r51
         first | omega | ((try simp only [Nat.add_eq, Nat.zero_add, Nat.mul_eq]); first | done | omega | assumption | grind [getD_set, getD_rep, toNat_succ, cntN_yes, cntN_no])
        refine req_i ?_ ?_
        · -- r52
         first | omega | ((try simp only [Nat.add_eq, Nat.zero_add]); first | done | omega | assumption | grind [getD_set, getD_rep, toNat_succ, cntN_yes, cntN_no])
        refine req_i ?_ ?_
        · -- r53
         first | omega | ((try simp only [Int.toNat_natCast, List.length_take, List.take_length, List.take_take, Nat.min_self, List.length_drop, List.drop_zero, List.length_append, List.length_cons, List.length_nil, Nat.add_eq, Nat.zero_add]); first | done | omega | assumption | grind [getD_set, getD_rep, toNat_succ, cntN_yes, cntN_no])
        refine req_i ?_ ?_
        · -- r54
         (try simp only [List.drop_zero, List.take_length, Nat.add_eq, Nat.zero_add, tk]); exact app_bd h33 (one_bd (by omega) (by omega))
        refine req_i ?_ ?_
        · -- r55
         simp only [sampBL, sampBInv, List.drop_zero, List.take_length, Nat.add_eq, Nat.zero_add, tk]; exact ⟨by omega, by omega, by omega, by omega, trivial, sn.1, sn.2⟩
        refine req_i ?_ ?_
        · -- r56
         first | omega | ((try simp only [sampBL, cChL, cCh, sampBInv, meaB, List.cons.injEq, DV.b.injEq, and_true, Int.toNat_natCast, List.length_take, List.take_length, List.take_take, Nat.min_self, List.length_drop, List.drop_zero, List.length_append, List.length_cons, List.length_nil, Nat.add_eq, Nat.zero_add]); first | done | omega | assumption | grind [getD_set, getD_rep, toNat_succ, cntN_yes, cntN_no])
        rfl
       ·
        have an := sampA_next (i := n8) (show n10 = n1 by omega)
        refine bR_t ?_ ?_
        · -- g4
         first | rfl | (simp only [bR_iff, bR_iff_f, dec_iff, dec_f, beqB_iff', andB_iff', reduceCtorEq, imp_self, false_implies, and_true, true_and, implies_true, and_self]; done) | (simp [bR_iff, dec_iff, beqB_iff', andB_iff']; done) | (simp [bR_iff, dec_iff, beqB_iff', andB_iff']; omega)
        refine bR_t ?_ ?_
        · -- g5
         first | rfl | (simp only [bR_iff, bR_iff_f, dec_iff, dec_f, beqB_iff', andB_iff', reduceCtorEq, imp_self, false_implies, and_true, true_and, implies_true, and_self]; done) | (simp [bR_iff, dec_iff, beqB_iff', andB_iff']; done) | (simp [bR_iff, dec_iff, beqB_iff', andB_iff']; omega)
        refine req_i ?_ ?_
        · -- r57
         first | omega | assumption | grind
        refine req_i ?_ ?_
        · -- r58
         first | omega | assumption | grind
        refine req_i ?_ ?_
        · -- r59
         first | omega | ((try simp only [Nat.mul_eq]); first | done | omega | assumption | grind [getD_set, getD_rep, toNat_succ, cntN_yes, cntN_no])
        refine req_i ?_ ?_
        · -- r60
         first | omega | ((try simp only [Nat.zero_add]); first | done | omega | assumption | grind [getD_set, getD_rep, toNat_succ, cntN_yes, cntN_no])
        refine req_i ?_ ?_
        · -- r61
         first | omega | ((try simp only [List.length_take, List.take_length, List.take_take, Nat.min_self, List.length_drop, List.drop_zero, List.length_cons, List.length_nil]); first | done | omega | assumption | grind [getD_set, getD_rep, toNat_succ, cntN_yes, cntN_no])
        refine req_i ?_ ?_
        · -- r62
         first | assumption | exact rep_bd (by omega) (by omega) | exact set_bd (by assumption) (by omega) (by omega) | exact take_bd (by assumption) | ((try simp only [List.length_take, List.take_length, List.take_take, Nat.min_self, List.length_drop, List.drop_zero, List.length_cons, List.length_nil]); first | assumption | exact rep_bd (by omega) (by omega) | exact set_bd (by assumption) (by omega) (by omega) | exact take_bd (by assumption) | grind [getD_set, getD_rep, toNat_succ, cntN_yes, cntN_no])
        refine req_i ?_ ?_
        · -- r63
         simp only [sampAL, sampAInv, List.drop_zero, List.take_length, Nat.add_eq, Nat.zero_add]; exact ⟨by omega, by omega, by rw [← an]; exact h34.2.2.2.2.2.1, fun j hj => h34.2.2.2.2.2.2 j (by rw [an]; exact hj)⟩
        refine req_i ?_ ?_
        · -- r64
         first | omega | ((try simp only [sampAL, cChL, cCh, sampAInv, meaC, List.cons.injEq, DV.b.injEq, and_true, List.length_take, List.take_length, List.take_take, Nat.min_self, List.length_drop, List.drop_zero, List.length_cons, List.length_nil]); first | done | omega | assumption | grind [getD_set, getD_rep, toNat_succ, cntN_yes, cntN_no])
        rfl
      ·
       refine req_i ?_ ?_
       · -- r65
        first | omega | ((try simp only [Nat.mul_eq]); first | done | omega | assumption | grind [getD_set, getD_rep, toNat_succ, cntN_yes, cntN_no])
       refine req_i ?_ ?_
       · -- r66
        first | omega | ((try simp only [Nat.zero_add]); first | done | omega | assumption | grind [getD_set, getD_rep, toNat_succ, cntN_yes, cntN_no])
       refine req_i ?_ ?_
       · -- r67
        first | omega | ((try simp only [List.length_take, List.take_length, List.take_take, Nat.min_self, List.length_drop, List.drop_zero, List.length_cons, List.length_nil]); first | done | omega | assumption | grind [getD_set, getD_rep, toNat_succ, cntN_yes, cntN_no])
       refine req_i ?_ ?_
       · -- r68
        first | assumption | exact rep_bd (by omega) (by omega) | exact set_bd (by assumption) (by omega) (by omega) | exact take_bd (by assumption) | ((try simp only [List.length_take, List.take_length, List.take_take, Nat.min_self, List.length_drop, List.drop_zero, List.length_cons, List.length_nil]); first | assumption | exact rep_bd (by omega) (by omega) | exact set_bd (by assumption) (by omega) (by omega) | exact take_bd (by assumption) | grind [getD_set, getD_rep, toNat_succ, cntN_yes, cntN_no])
       refine req_i ?_ ?_
       · -- r69
        (try simp only [List.drop_zero, List.take_length]); exact samp_yes ⟨okd, ⟨by omega, by omega⟩, okc.2⟩ rfl (by rw [← c5]; exact sampL_of (by omega) (by omega) h28.2.2.1 h28.2.2.2)
       rfl
theorem ext_samp : ∀ p ∈ ([(39, Ext.ctr (ctOfG gl11 sigCode)), (57, Ext.ctr (ctOfG gl11 sigLen))] : List (Nat × Ext)), ExtRow Tryd.prog p.1 p.2 := by
  intro p hp
  simp only [List.mem_cons, List.not_mem_nil, or_false] at hp
  rcases hp with rfl | rfl
  · trivial
  · trivial
theorem cts_samp : CtsOk Tryd.prog [(39, Ext.ctr (ctOfG gl11 sigCode)), (57, Ext.ctr (ctOfG gl11 sigLen))] := ctsOk_ofG (cs := [(39, sigCode), (57, sigLen)])
  (fun p hp => by
    simp only [List.mem_cons, List.not_mem_nil, or_false] at hp
    rcases hp with rfl | rfl
    · exact fn_code
    · exact fn_len
)
  (fun f c h => by
    simp only [List.lookup_cons] at h
    repeat' split at h
    all_goals first | (cases h; done) | (rename_i e; have e := beq_iff_eq.1 e; subst e; cases h; refine ⟨_, ?_, rfl⟩; simp))
theorem fn_samp : FnOk Tryd.prog 30 sigSampC gl11 := fn_sound (by kernel_rfl) ext_samp cts_samp names vt_samp
end Go.Proofs.YtblcahackjpnjaaDoor

namespace Go.Proofs.YtblcahackjpnjaaDoor
open Go.Ev Go.Sp
set_option maxRecDepth 100000
theorem vc_chips : vcFn Tryd.prog [(39, Ext.ctr (ctOfG gl11 sigCode))] (fun f p _ => at2 f p 17 506 chL (none)) gl11 100 17 sigChips = (allB fun n0 : Int => 
impB ((-9223372036854775808 : Int) ≤ n0) (
impB (n0 ≤ (9223372036854775807 : Int)) (
allB fun n1 : Int => 
impB ((-9223372036854775808 : Int) ≤ n1) (
impB (n1 ≤ (9223372036854775807 : Int)) (
allB fun n2 : Int => 
impB ((-9223372036854775808 : Int) ≤ n2) (
impB (n2 ≤ (9223372036854775807 : Int)) (
allB fun n3 : Int => 
impB ((-9223372036854775808 : Int) ≤ n3) (
impB (n3 ≤ (9223372036854775807 : Int)) (
allB fun n4 : Int => 
impB ((-9223372036854775808 : Int) ≤ n4) (
impB (n4 ≤ (9223372036854775807 : Int)) (
impB (sigChips.pre [DV.n n0, DV.n n1, DV.n n2, DV.n n3, DV.n n4]) (
reqB ((-9223372036854775808 : Int) ≤ n0) (
reqB (n0 ≤ (9223372036854775807 : Int)) (
reqB ((-9223372036854775808 : Int) ≤ n1) (
reqB (n1 ≤ (9223372036854775807 : Int)) (
reqB (sigCode.pre [DV.n n0, DV.n n1]) (
allB fun l5 : List Int => 
impB (l5.length ≤ (1100 : Nat)) (
impB (∀ (y : Int), y ∈ l5 → (-1 : Int) ≤ y ∧ y ≤ (1 : Int)) (
allB fun n6 : Int => 
impB ((0 : Int) ≤ n6) (
impB (n6 ≤ (18 : Int)) (
impB (sigCode.post [DV.n n0, DV.n n1] [DV.l l5, DV.n n6]) (
bR (dec (n6 ≠ (0 : Int))) (
 reqB ((0 : Int) ≤ n6) (
 reqB (n6 ≤ (18 : Int)) (
 reqB (sigChips.post [DV.n n0, DV.n n1, DV.n n2, DV.n n3, DV.n n4]
 [DV.l [], DV.n n6]) (
 true)))) (
 bR (dec (n2 < (-1099511627776 : Int))) (
 reqB (sigChips.post [DV.n n0, DV.n n1, DV.n n2, DV.n n3, DV.n n4]
 [DV.l [], DV.n (2 : Int)]) (
 true)) (
 bR (dec ((1099511627776 : Int) < n2)) (
 reqB (sigChips.post [DV.n n0, DV.n n1, DV.n n2, DV.n n3, DV.n n4]
 [DV.l [], DV.n (2 : Int)]) (
 true)) (
 bR (dec (n3 < (-1048576 : Int))) (
 reqB (sigChips.post [DV.n n0, DV.n n1, DV.n n2, DV.n n3, DV.n n4]
 [DV.l [], DV.n (2 : Int)]) (
 true)) (
 bR (dec ((1048576 : Int) < n3)) (
 reqB (sigChips.post [DV.n n0, DV.n n1, DV.n n2, DV.n n3, DV.n n4]
 [DV.l [], DV.n (2 : Int)]) (
 true)) (
 bR (dec (n4 < (0 : Int))) (
 reqB (sigChips.post [DV.n n0, DV.n n1, DV.n n2, DV.n n3, DV.n n4]
 [DV.l [], DV.n (2 : Int)]) (
 true)) (
 bR (dec ((100000 : Int) < n4)) (
 reqB (sigChips.post [DV.n n0, DV.n n1, DV.n n2, DV.n n3, DV.n n4]
 [DV.l [], DV.n (2 : Int)]) (
 true)) (
 reqB ((0 : Int) ≤ n4) (
 reqB ((0 : Int) ≤ n4) (
 reqB (n4.toNat ≤ n4.toNat) (
 reqB (n4.toNat ≤ (1000000 : Nat)) (
 reqB (((0 : Nat) + l5.length) * (1 : Nat) ≤ l5.length.mul (1 : Nat)) (
 reqB (l5.length ≤ (1100 : Nat)) (
 reqB ((List.take l5.length (List.drop (0 : Nat) l5)).length = l5.length) (
 reqB (∀ (y : Int), y ∈ List.take l5.length (List.drop (0 : Nat) l5) → (-1 : Int) ≤ y ∧ y ≤ (1 : Int)) (
 reqB ((-1099511627776 : Int) ≤ n2) (
 reqB (n2 ≤ (1099511627776 : Int)) (
 reqB ((-1048576 : Int) ≤ n3) (
 reqB (n3 ≤ (1048576 : Int)) (
 reqB ((0 : Int) ≤ n4) (
 reqB (n4 ≤ (600 : Int)) (
 reqB (lenCols
 [Col.i Go.IntKind.i64 (Int.negSucc (9223372036854775807 : Nat)) (Int.ofNat (9223372036854775807 : Nat))
 (List.replicate n4.toNat (0 : Int))] ≤
 (1000000 : Nat)) (
 reqB ((List.replicate n4.toNat (0 : Int)).length =
 lenCols
 [Col.i Go.IntKind.i64 (Int.negSucc (9223372036854775807 : Nat)) (Int.ofNat (9223372036854775807 : Nat))
 (List.replicate n4.toNat (0 : Int))]) (
 reqB (∀ (y : Int), y ∈ List.replicate n4.toNat (0 : Int) → (-9223372036854775808 : Int) ≤ y ∧ y ≤ (9223372036854775807 : Int)) (
 reqB (chL.inv [DV.l (List.take l5.length (List.drop (0 : Nat) l5)), DV.n n2, DV.n n3, DV.n n4]
 [DV.n (0 : Int), DV.l (List.replicate n4.toNat (0 : Int))]) (
 allB fun n7 : Int => 
 impB ((0 : Int) ≤ n7) (
 impB (n7 ≤ (600 : Int)) (
 allB fun l8 : List Int => 
 impB (l8.length ≤ (1000000 : Nat)) (
 impB (∀ (y : Int), y ∈ l8 → (-9223372036854775808 : Int) ≤ y ∧ y ≤ (9223372036854775807 : Int)) (
 impB (chL.inv [DV.l (List.take l5.length (List.drop (0 : Nat) l5)), DV.n n2, DV.n n3, DV.n n4]
 [DV.n n7, DV.l l8]) (
 bR (dec (n7 < n4)) (
 allB fun n9 : Int => 
 impB (n9 = Go.IntKind.i64.wrap (n7 * n3)) (
 impB (Int.negSucc (9223372036854775807 : Nat) ≤ n9) (
 impB (n9 ≤ Int.ofNat (9223372036854775807 : Nat)) (
 allB fun n10 : Int => 
 impB (n10 = Go.IntKind.i64.wrap (n2 + n9)) (
 impB (Int.negSucc (9223372036854775807 : Nat) ≤ n10) (
 impB (n10 ≤ Int.ofNat (9223372036854775807 : Nat)) (
 reqB ((↑l5.length : Int) ≠ (0 : Int)) (
 reqB ((↑l5.length : Int) ≠ (0 : Int)) (
 reqB ((0 : Int) ≤ ((n10 / Int.ofNat (65536 : Nat)).tmod (↑l5.length : Int) + (↑l5.length : Int)).tmod (↑l5.length : Int)) (
 reqB ((((n10 / Int.ofNat (65536 : Nat)).tmod (↑l5.length : Int) + (↑l5.length : Int)).tmod (↑l5.length : Int)).toNat <
 l5.length) (
 reqB (Nat.add (0 : Nat)
 (((n10 / Int.ofNat (65536 : Nat)).tmod (↑l5.length : Int) + (↑l5.length : Int)).tmod (↑l5.length : Int)).toNat <
 l5.length) (
 reqB (n7.toNat < n4.toNat) (
 reqB (Nat.add (0 : Nat) n7.toNat < l8.length) (
 bR (bR (dec (n2 = n2)) (
 bR (dec (n3 = n3)) (
 bR (bR (dec ((0 : Nat) = (0 : Nat))) (
 dec (l5.length = l5.length)) (
 false)) (
 bR (bR (dec ((0 : Nat) = (0 : Nat))) (
 dec (n4.toNat = n4.toNat)) (
 false)) (
 bR (dec (n4 = n4)) (
 true) (
 false)) (
 false)) (
 false)) (
 false)) (
 false)) (
 bR (bR (bR (dec (l5.length.mul (1 : Nat) = l5.length.mul (1 : Nat))) (
 dec ([Col.i Go.IntKind.i64 (-1 : Int) (1 : Int) l5] = [Col.i Go.IntKind.i64 (-1 : Int) (1 : Int) l5])) (
 false)) (
 true) (
 false)) (
 reqB ((0 : Int) ≤ n7 + (1 : Int)) (
 reqB (n7 + (1 : Int) ≤ (600 : Int)) (
 reqB (lenCols
 [Col.i Go.IntKind.i64 (-9223372036854775808 : Int) (9223372036854775807 : Int)
 (l8.set (Nat.add (0 : Nat) n7.toNat)
 (l5.getD
 (Nat.add (0 : Nat)
 (((n10 / Int.ofNat (65536 : Nat)).tmod (↑l5.length : Int) + (↑l5.length : Int)).tmod
 (↑l5.length : Int)).toNat)
 (0 : Int)))] ≤
 (1000000 : Nat)) (
 reqB ((l8.set (Nat.add (0 : Nat) n7.toNat)
 (l5.getD
 (Nat.add (0 : Nat)
 (((n10 / Int.ofNat (65536 : Nat)).tmod (↑l5.length : Int) + (↑l5.length : Int)).tmod
 (↑l5.length : Int)).toNat)
 (0 : Int))).length =
 lenCols
 [Col.i Go.IntKind.i64 (-9223372036854775808 : Int) (9223372036854775807 : Int)
 (l8.set (Nat.add (0 : Nat) n7.toNat)
 (l5.getD
 (Nat.add (0 : Nat)
 (((n10 / Int.ofNat (65536 : Nat)).tmod (↑l5.length : Int) + (↑l5.length : Int)).tmod
 (↑l5.length : Int)).toNat)
 (0 : Int)))]) (
 reqB (∀ (y : Int),
 y ∈
 l8.set (Nat.add (0 : Nat) n7.toNat)
 (l5.getD
 (Nat.add (0 : Nat)
 (((n10 / Int.ofNat (65536 : Nat)).tmod (↑l5.length : Int) + (↑l5.length : Int)).tmod
 (↑l5.length : Int)).toNat)
 (0 : Int)) →
 (-9223372036854775808 : Int) ≤ y ∧ y ≤ (9223372036854775807 : Int)) (
 reqB (chL.inv [DV.l (List.take l5.length (List.drop (0 : Nat) l5)), DV.n n2, DV.n n3, DV.n n4]
 [DV.n (n7 + (1 : Int)),
 DV.l
 (l8.set (Nat.add (0 : Nat) n7.toNat)
 (l5.getD
 (Nat.add (0 : Nat)
 (((n10 / Int.ofNat (65536 : Nat)).tmod (↑l5.length : Int) + (↑l5.length : Int)).tmod
 (↑l5.length : Int)).toNat)
 (0 : Int)))]) (
 reqB (chL.mea [DV.l (List.take l5.length (List.drop (0 : Nat) l5)), DV.n n2, DV.n n3, DV.n n4]
 [DV.n (n7 + (1 : Int)),
 DV.l
 (l8.set (Nat.add (0 : Nat) n7.toNat)
 (l5.getD
 (Nat.add (0 : Nat)
 (((n10 / Int.ofNat (65536 : Nat)).tmod (↑l5.length : Int) + (↑l5.length : Int)).tmod
 (↑l5.length : Int)).toNat)
 (0 : Int)))] <
 chL.mea [DV.l (List.take l5.length (List.drop (0 : Nat) l5)), DV.n n2, DV.n n3, DV.n n4]
 [DV.n n7, DV.l l8]) (
 true)))))))) (
 false)) (
 false))))))))))))))) (
 reqB (((0 : Nat) + n4.toNat) * (1 : Nat) ≤ l8.length.mul (1 : Nat)) (
 reqB (n4.toNat ≤ (600 : Nat)) (
 reqB ((List.take n4.toNat (List.drop (0 : Nat) l8)).length = n4.toNat) (
 reqB (∀ (y : Int), y ∈ List.take n4.toNat (List.drop (0 : Nat) l8) → (-1 : Int) ≤ y ∧ y ≤ (1 : Int)) (
 reqB (sigChips.post [DV.n n0, DV.n n1, DV.n n2, DV.n n3, DV.n n4]
 [DV.l (List.take n4.toNat (List.drop (0 : Nat) l8)), DV.n (0 : Int)]) (
 true)))))))))))))))))))))))))))))))))))))))))))))))))))))))))) := by kernel_rfl
set_option maxHeartbeats 8000000 in
theorem vt_chips : vcFn Tryd.prog [(39, Ext.ctr (ctOfG gl11 sigCode))] (fun f p _ => at2 f p 17 506 chL (none)) gl11 100 17 sigChips = true := by
  rw [vc_chips]
  try simp only [Int.toNat_natCast, List.length_set, List.length_replicate, List.length_take, List.length_drop, List.length_append, List.length_cons, List.length_nil, Nat.min_self, List.take_take, lenCols_i, lenCols_b, List.drop_zero, List.take_length, Nat.add_eq, Nat.mul_eq, Nat.sub_eq, Nat.zero_add, Nat.sub_zero, Nat.mul_one]
  try simp only [show (Int.ofNat 65536 : Int) = 65536 from rfl, show (Int.ofNat 9223372036854775807 : Int) = 9223372036854775807 from rfl, show (Int.negSucc 9223372036854775807 : Int) = -9223372036854775808 from rfl]
  refine all_i fun n0 => ?_
  refine imp_i fun h0 => ?_
  refine imp_i fun h1 => ?_
  refine all_i fun n1 => ?_
  refine imp_i fun h2 => ?_
  refine imp_i fun h3 => ?_
  refine all_i fun n2 => ?_
  refine imp_i fun h4 => ?_
  refine imp_i fun h5 => ?_
  refine all_i fun n3 => ?_
  refine imp_i fun h6 => ?_
  refine imp_i fun h7 => ?_
  refine all_i fun n4 => ?_
  refine imp_i fun h8 => ?_
  refine imp_i fun h9 => ?_
  refine imp_i fun h10 => ?_
  try simp only [sigChips, cChL, chipsPre, chipsPost, List.cons.injEq, DV.b.injEq, and_true, List.length_cons, List.length_nil] at h10
  refine req_i ?_ ?_
  · -- r0
   first | omega | assumption | grind
  refine req_i ?_ ?_
  · -- r1
   first | omega | assumption | grind
  refine req_i ?_ ?_
  · -- r2
   first | omega | assumption | grind
  refine req_i ?_ ?_
  · -- r3
   first | omega | assumption | grind
  refine req_i ?_ ?_
  · -- r4
   first | trivial | assumption | (simp only [sigCode, cCh, codePost, List.cons.injEq, DV.b.injEq, and_true, List.length_cons, List.length_nil]; done) | ((try simp only [sigCode, cCh, codePost, List.cons.injEq, DV.b.injEq, and_true, List.length_cons, List.length_nil]); first | omega | assumption | grind)
  refine all_i fun l5 => ?_
  refine imp_i fun h11 => ?_
  refine imp_i fun h12 => ?_
  refine all_i fun n6 => ?_
  refine imp_i fun h13 => ?_
  refine imp_i fun h14 => ?_
  refine imp_i fun h15 => ?_
  try simp only [Int.toNat_natCast, List.length_set, List.length_replicate, List.length_take, List.length_drop, List.length_append, List.length_cons, List.length_nil, Nat.min_self, List.take_take, lenCols_i, lenCols_b, List.drop_zero, List.take_length, Nat.add_eq, Nat.mul_eq, Nat.sub_eq, Nat.zero_add, Nat.sub_zero, Nat.mul_one] at h15
  have hb := ite_case h15
  have nb := @nG_bd n0
  refine bR_dec (fun h16 => ?_) (fun h16 => ?_)
  ·
   refine req_i ?_ ?_
   · -- r5
    first | omega | assumption | grind
   refine req_i ?_ ?_
   · -- r6
    first | omega | assumption | grind
   refine req_i ?_ ?_
   · -- r7
    obtain ⟨k1, k2, k3⟩ := hb.resolve_left (fun g => h16 g.2.1); exact chips_no (fun g => k1 g.1) k2
   rfl
  ·
   obtain ⟨ok, _, c5⟩ := hb.resolve_right (fun g => h16 (by rw [g.2.1]; decide))
   have k5 : (l5.length : Int) = nG n0 := by rw [c5, codeL, chips_len]; exact bits_len ok.1 (.inl rfl)
   refine bR_dec (fun h17 => ?_) (fun h17 => ?_)
   ·
    refine req_i ?_ ?_
    · -- r8
     exact chips_no (fun g => by obtain ⟨_, g⟩ := g; omega) rfl
    rfl
   ·
    refine bR_dec (fun h18 => ?_) (fun h18 => ?_)
    ·
     refine req_i ?_ ?_
     · -- r9
      exact chips_no (fun g => by obtain ⟨_, g⟩ := g; omega) rfl
     rfl
    ·
     refine bR_dec (fun h19 => ?_) (fun h19 => ?_)
     ·
      refine req_i ?_ ?_
      · -- r10
       exact chips_no (fun g => by obtain ⟨_, g⟩ := g; omega) rfl
      rfl
     ·
      refine bR_dec (fun h20 => ?_) (fun h20 => ?_)
      ·
       refine req_i ?_ ?_
       · -- r11
        exact chips_no (fun g => by obtain ⟨_, g⟩ := g; omega) rfl
       rfl
      ·
       refine bR_dec (fun h21 => ?_) (fun h21 => ?_)
       ·
        refine req_i ?_ ?_
        · -- r12
         exact chips_no (fun g => by obtain ⟨_, g⟩ := g; omega) rfl
        rfl
       ·
        refine bR_dec (fun h22 => ?_) (fun h22 => ?_)
        ·
         refine req_i ?_ ?_
         · -- r13
          exact chips_no (fun g => by obtain ⟨_, g⟩ := g; omega) rfl
         rfl
        ·
         refine req_i ?_ ?_
         · -- r14
          first | omega | assumption | grind
         refine req_i ?_ ?_
         · -- r15
          first | omega | assumption | grind
         refine req_i ?_ ?_
         · -- r16
          first | omega | assumption | grind
         refine req_i ?_ ?_
         · -- r17
          first | omega | assumption | grind
         refine req_i ?_ ?_
         · -- r18
          first | omega | ((try simp only [Nat.mul_eq]); first | done | omega | assumption | grind [getD_set, getD_rep, toNat_succ, cntN_yes, cntN_no])
         refine req_i ?_ ?_
         · -- r19
          first | omega | ((try simp only [Nat.zero_add]); first | done | omega | assumption | grind [getD_set, getD_rep, toNat_succ, cntN_yes, cntN_no])
         refine req_i ?_ ?_
         · -- r20
          first | omega | ((try simp only [List.length_take, List.take_length, List.take_take, Nat.min_self, List.length_drop, List.drop_zero, List.length_cons, List.length_nil]); first | done | omega | assumption | grind [getD_set, getD_rep, toNat_succ, cntN_yes, cntN_no])
         refine req_i ?_ ?_
         · -- r21
          first | assumption | exact rep_bd (by omega) (by omega) | exact set_bd (by assumption) (by omega) (by omega) | exact take_bd (by assumption) | ((try simp only [List.length_take, List.take_length, List.take_take, Nat.min_self, List.length_drop, List.drop_zero, List.length_cons, List.length_nil]); first | assumption | exact rep_bd (by omega) (by omega) | exact set_bd (by assumption) (by omega) (by omega) | exact take_bd (by assumption) | grind [getD_set, getD_rep, toNat_succ, cntN_yes, cntN_no])
         refine req_i ?_ ?_
         · -- r22
          first | omega | assumption | grind
         refine req_i ?_ ?_
         · -- r23
          first | omega | assumption | grind
         refine req_i ?_ ?_
         · -- r24
          first | omega | assumption | grind
         refine req_i ?_ ?_
         · -- r25
          first | omega | assumption | grind
         refine req_i ?_ ?_
         · -- r26
          first | omega | assumption | grind
         refine req_i ?_ ?_
         · -- r27
          first | omega | assumption | grind
         refine req_i ?_ ?_
         · -- r28
          first | omega | ((try simp only [Int.toNat_natCast, List.length_replicate, List.length_cons, List.length_nil, lenCols_i, lenCols_b]); first | done | omega | assumption | grind [getD_set, getD_rep, toNat_succ, cntN_yes, cntN_no])
         refine req_i ?_ ?_
         · -- r29
          first | omega | ((try simp only [Int.toNat_natCast, List.length_replicate, List.length_cons, List.length_nil, lenCols_i, lenCols_b]); first | done | omega | assumption | grind [getD_set, getD_rep, toNat_succ, cntN_yes, cntN_no])
         refine req_i ?_ ?_
         · -- r30
          first | assumption | exact rep_bd (by omega) (by omega) | exact set_bd (by assumption) (by omega) (by omega) | exact take_bd (by assumption) | ((try simp only [Int.toNat_natCast, List.length_replicate, List.length_cons, List.length_nil]); first | assumption | exact rep_bd (by omega) (by omega) | exact set_bd (by assumption) (by omega) (by omega) | exact take_bd (by assumption) | grind [getD_set, getD_rep, toNat_succ, cntN_yes, cntN_no])
         refine req_i ?_ ?_
         · -- r31
          first | omega | ((try simp only [chL, cCh, chInv, meaCh, List.cons.injEq, DV.b.injEq, and_true, Int.toNat_natCast, List.length_replicate, List.length_take, List.take_length, List.take_take, Nat.min_self, List.length_drop, List.drop_zero, List.length_cons, List.length_nil]); first | done | omega | assumption | grind [getD_set, getD_rep, toNat_succ, cntN_yes, cntN_no])
         refine all_i fun n7 => ?_
         refine imp_i fun h23 => ?_
         refine imp_i fun h24 => ?_
         refine all_i fun l8 => ?_
         refine imp_i fun h25 => ?_
         refine imp_i fun h26 => ?_
         refine imp_i fun h27 => ?_
         try simp only [chL, cCh, chInv, meaCh, List.cons.injEq, DV.b.injEq, and_true, List.length_take, List.take_length, List.take_take, Nat.min_self, List.length_drop, List.drop_zero, List.length_cons, List.length_nil] at h27
         refine bR_dec (fun h28 => ?_) (fun h28 => ?_)
         ·
          refine all_i fun n9 => ?_
          refine imp_i fun h29 => ?_
          simp only [wrap_i64] at h29
          have mb := mul_bd3 (i := n7) (r := n3) (by omega) (by omega) (by omega) (by omega)
          replace h29 : n9 = n7 * n3 := by omega
          refine imp_i fun h30 => ?_
          refine imp_i fun h31 => ?_
          refine all_i fun n10 => ?_
          refine imp_i fun h32 => ?_
          simp only [wrap_i64] at h32
          replace h32 : n10 = n2 + n9 := by omega
          have T := tmod_add (a := n10 / 65536) (L := (l5.length : Int)) (by omega)
          have q1 := Int.emod_nonneg (n10 / 65536) (b := (l5.length : Int)) (by omega)
          have q2 := Int.emod_lt_of_pos (n10 / 65536) (b := (l5.length : Int)) (by omega)
          have E := ch_e (c := l5) (a := n2) (r := n3) (i := n7) (m := (n10 / 65536) % (l5.length : Int)) (by omega) (by rw [h32, h29])
          have eb := chE_bd (c := l5) (a := n2) (r := n3) (j := n7.toNat) h12
          refine imp_i fun h33 => ?_
          refine imp_i fun h34 => ?_
          refine req_i ?_ ?_
          · -- r32
           first | omega | ((try simp only [Nat.zero_add]); first | done | omega | assumption | grind [getD_set, getD_rep, toNat_succ, cntN_yes, cntN_no])
          refine req_i ?_ ?_
          · -- r33
           first | omega | ((try simp only [Nat.zero_add]); first | done | omega | assumption | grind [getD_set, getD_rep, toNat_succ, cntN_yes, cntN_no])
          refine req_i ?_ ?_
          · -- r34
           first | omega | ((try simp only [Nat.zero_add]); first | done | omega | assumption | grind [getD_set, getD_rep, toNat_succ, cntN_yes, cntN_no])
          refine req_i ?_ ?_
          · -- r35
           first | omega | ((try simp only [Int.toNat_natCast, List.length_cons, List.length_nil]); first | done | omega | assumption | grind [getD_set, getD_rep, toNat_succ, cntN_yes, cntN_no])
          refine req_i ?_ ?_
          · -- r36
           first | omega | ((try simp only [Int.toNat_natCast, List.length_cons, List.length_nil, Nat.add_eq, Nat.zero_add]); first | done | omega | assumption | grind [getD_set, getD_rep, toNat_succ, cntN_yes, cntN_no])
          refine req_i ?_ ?_
          · -- r37
           first | omega | assumption | grind
          refine req_i ?_ ?_
          · -- r38
           first | omega | ((try simp only [Int.toNat_natCast, List.length_cons, List.length_nil, Nat.add_eq, Nat.zero_add]); first | done | omega | assumption | grind [getD_set, getD_rep, toNat_succ, cntN_yes, cntN_no])
          refine bR_t ?_ ?_
          · -- g0
           first | rfl | (simp only [bR_iff, bR_iff_f, dec_iff, dec_f, beqB_iff', andB_iff', reduceCtorEq, imp_self, false_implies, and_true, true_and, implies_true, and_self]; done) | (simp [bR_iff, dec_iff, beqB_iff', andB_iff']; done) | (simp [bR_iff, dec_iff, beqB_iff', andB_iff']; omega)
          refine bR_t ?_ ?_
          · -- g1
           first | rfl | (simp only [bR_iff, bR_iff_f, dec_iff, dec_f, beqB_iff', andB_iff', reduceCtorEq, imp_self, false_implies, and_true, true_and, implies_true, and_self]; done) | (simp [bR_iff, dec_iff, beqB_iff', andB_iff']; done) | (simp [bR_iff, dec_iff, beqB_iff', andB_iff']; omega)
          refine req_i ?_ ?_
          · -- r39
           first | omega | assumption | grind
          refine req_i ?_ ?_
          · -- r40
           first | omega | assumption | grind
          refine req_i ?_ ?_
          · -- r41
           first | omega | ((try simp only [Int.toNat_natCast, List.length_set, List.length_cons, List.length_nil, lenCols_i, lenCols_b, Nat.add_eq, Nat.zero_add]); first | done | omega | assumption | grind [getD_set, getD_rep, toNat_succ, cntN_yes, cntN_no])
          refine req_i ?_ ?_
          · -- r42
           first | omega | ((try simp only [Int.toNat_natCast, List.length_set, List.length_cons, List.length_nil, lenCols_i, lenCols_b, Nat.add_eq, Nat.zero_add]); first | done | omega | assumption | grind [getD_set, getD_rep, toNat_succ, cntN_yes, cntN_no])
          refine req_i ?_ ?_
          · -- r43
           (try simp only [Nat.add_eq, Nat.zero_add]); rw [T.2.2.2.1, E]; exact set_bd h26 (by omega) (by omega)
          refine req_i ?_ ?_
          · -- r44
           simp only [chL, chInv, List.drop_zero, List.take_length, Nat.add_eq, Nat.zero_add, T.2.2.2.1, E]; exact ⟨by omega, by omega, by rw [List.length_set]; omega, set_next (by omega) (by omega) h27.2.2.2 rfl⟩
          refine req_i ?_ ?_
          · -- r45
           first | omega | ((try simp only [chL, cCh, chInv, meaCh, List.cons.injEq, DV.b.injEq, and_true, Int.toNat_natCast, List.length_set, List.length_take, List.take_length, List.take_take, Nat.min_self, List.length_drop, List.drop_zero, List.length_cons, List.length_nil, Nat.add_eq, Nat.zero_add]); first | done | omega | assumption | grind [getD_set, getD_rep, toNat_succ, cntN_yes, cntN_no])
          rfl
         ·
          refine req_i ?_ ?_
          · -- r46
           first | omega | ((try simp only [Int.toNat_natCast, List.length_cons, List.length_nil, Nat.mul_eq]); first | done | omega | assumption | grind [getD_set, getD_rep, toNat_succ, cntN_yes, cntN_no])
          refine req_i ?_ ?_
          · -- r47
           first | omega | assumption | grind
          refine req_i ?_ ?_
          · -- r48
           first | omega | ((try simp only [Int.toNat_natCast, List.length_take, List.take_length, List.take_take, Nat.min_self, List.length_drop, List.drop_zero, List.length_cons, List.length_nil]); first | done | omega | assumption | grind [getD_set, getD_rep, toNat_succ, cntN_yes, cntN_no])
          refine req_i ?_ ?_
          · -- r49
           (try simp only [List.drop_zero]); rw [List.take_of_length_le (by omega), chipsL_of h27.2.2.1 (fun j hj => h27.2.2.2 j (by omega))]; exact chipsL_bd h12
          refine req_i ?_ ?_
          · -- r50
           (try simp only [List.drop_zero]); rw [List.take_of_length_le (by omega)]; exact chips_yes ⟨ok, by omega, by omega, by omega, by omega, by omega, by omega⟩ rfl (by rw [← c5]; exact chipsL_of h27.2.2.1 (fun j hj => h27.2.2.2 j (by omega)))
          rfl
theorem ext_chips : ∀ p ∈ ([(39, Ext.ctr (ctOfG gl11 sigCode))] : List (Nat × Ext)), ExtRow Tryd.prog p.1 p.2 := by
  intro p hp
  simp only [List.mem_cons, List.not_mem_nil, or_false] at hp
  rcases hp with rfl
  · trivial
theorem cts_chips : CtsOk Tryd.prog [(39, Ext.ctr (ctOfG gl11 sigCode))] := ctsOk_ofG (cs := [(39, sigCode)])
  (fun p hp => by
    simp only [List.mem_cons, List.not_mem_nil, or_false] at hp
    rcases hp with rfl
    · exact fn_code
)
  (fun f c h => by
    simp only [List.lookup_cons] at h
    repeat' split at h
    all_goals first | (cases h; done) | (rename_i e; have e := beq_iff_eq.1 e; subst e; cases h; refine ⟨_, ?_, rfl⟩; simp))
theorem fn_chips : FnOk Tryd.prog 17 sigChips gl11 := fn_sound (by kernel_rfl) ext_chips cts_chips names vt_chips
end Go.Proofs.YtblcahackjpnjaaDoor

namespace Go.Proofs.YtblcahackjpnjaaDoor
open Go.Ev Go.Sp
set_option maxRecDepth 100000
theorem vc_equ : vcFn Tryd.prog [] (fun f p _ => at2 f p 19 58 equGL (none)) gl11 100 19 sigEquG = (allB fun l0 : List Int => 
impB (l0.length ≤ (1100 : Nat)) (
impB (∀ (y : Int), y ∈ l0 → (-9223372036854775808 : Int) ≤ y ∧ y ≤ (9223372036854775807 : Int)) (
allB fun l1 : List Int => 
impB (l1.length ≤ (1100 : Nat)) (
impB (∀ (y : Int), y ∈ l1 → (-9223372036854775808 : Int) ≤ y ∧ y ≤ (9223372036854775807 : Int)) (
impB (sigEquG.pre [DV.l l0, DV.l l1]) (
bR (dec ((↑l0.length : Int) ≠ (↑l1.length : Int))) (
 reqB (sigEquG.post [DV.l l0, DV.l l1] [DV.b Bool.false]) (
 true)) (
 reqB (((0 : Nat) + l0.length) * (1 : Nat) ≤ l0.length.mul (1 : Nat)) (
 reqB (l0.length ≤ (1100 : Nat)) (
 reqB ((List.take l0.length (List.drop (0 : Nat) l0)).length = l0.length) (
 reqB (∀ (y : Int),
 y ∈ List.take l0.length (List.drop (0 : Nat) l0) → (-9223372036854775808 : Int) ≤ y ∧ y ≤ (9223372036854775807 : Int)) (
 reqB (((0 : Nat) + l1.length) * (1 : Nat) ≤ l1.length.mul (1 : Nat)) (
 reqB (l1.length ≤ (1100 : Nat)) (
 reqB ((List.take l1.length (List.drop (0 : Nat) l1)).length = l1.length) (
 reqB (∀ (y : Int),
 y ∈ List.take l1.length (List.drop (0 : Nat) l1) → (-9223372036854775808 : Int) ≤ y ∧ y ≤ (9223372036854775807 : Int)) (
 reqB (equGL.inv
 [DV.l (List.take l0.length (List.drop (0 : Nat) l0)), DV.l (List.take l1.length (List.drop (0 : Nat) l1))]
 [DV.n (0 : Int)]) (
 allB fun n2 : Int => 
 impB ((0 : Int) ≤ n2) (
 impB (n2 ≤ (1100 : Int)) (
 impB (equGL.inv
 [DV.l (List.take l0.length (List.drop (0 : Nat) l0)), DV.l (List.take l1.length (List.drop (0 : Nat) l1))]
 [DV.n n2]) (
 bR (dec (n2 < (↑l0.length : Int))) (
 reqB (n2.toNat < l0.length) (
 reqB (Nat.add (0 : Nat) n2.toNat < l0.length) (
 reqB (n2.toNat < l1.length) (
 reqB (Nat.add (0 : Nat) n2.toNat < l1.length) (
 bR (dec (l0.getD (Nat.add (0 : Nat) n2.toNat) (0 : Int) ≠ l1.getD (Nat.add (0 : Nat) n2.toNat) (0 : Int))) (
 reqB (sigEquG.post [DV.l l0, DV.l l1] [DV.b Bool.false]) (
 true)) (
 bR (bR (bR (dec ((0 : Nat) = (0 : Nat))) (
 dec (l0.length = l0.length)) (
 false)) (
 bR (bR (dec ((0 : Nat) = (0 : Nat))) (
 dec (l1.length = l1.length)) (
 false)) (
 true) (
 false)) (
 false)) (
 reqB ((0 : Int) ≤ n2 + (1 : Int)) (
 reqB (n2 + (1 : Int) ≤ (1100 : Int)) (
 reqB (equGL.inv
 [DV.l (List.take l0.length (List.drop (0 : Nat) l0)), DV.l (List.take l1.length (List.drop (0 : Nat) l1))]
 [DV.n (n2 + (1 : Int))]) (
 reqB (equGL.mea
 [DV.l (List.take l0.length (List.drop (0 : Nat) l0)),
 DV.l (List.take l1.length (List.drop (0 : Nat) l1))]
 [DV.n (n2 + (1 : Int))] <
 equGL.mea
 [DV.l (List.take l0.length (List.drop (0 : Nat) l0)),
 DV.l (List.take l1.length (List.drop (0 : Nat) l1))]
 [DV.n n2]) (
 true))))) (
 false))))))) (
 reqB (sigEquG.post [DV.l l0, DV.l l1] [DV.b Bool.true]) (
 true))))))))))))))))))))) := by kernel_rfl
set_option maxHeartbeats 8000000 in
theorem vt_equ : vcFn Tryd.prog [] (fun f p _ => at2 f p 19 58 equGL (none)) gl11 100 19 sigEquG = true := by
  rw [vc_equ]
  try simp only [Int.toNat_natCast, List.length_set, List.length_replicate, List.length_take, List.length_drop, List.length_append, List.length_cons, List.length_nil, Nat.min_self, List.take_take, lenCols_i, lenCols_b, List.drop_zero, List.take_length, Nat.add_eq, Nat.mul_eq, Nat.sub_eq, Nat.zero_add, Nat.sub_zero, Nat.mul_one]
  refine all_i fun l0 => ?_
  refine imp_i fun h0 => ?_
  refine imp_i fun h1 => ?_
  refine all_i fun l1 => ?_
  refine imp_i fun h2 => ?_
  refine imp_i fun h3 => ?_
  refine imp_i fun h4 => ?_
  try simp only [sigEquG, cW, equGP, List.cons.injEq, DV.b.injEq, and_true, List.length_cons, List.length_nil] at h4
  refine bR_dec (fun h5 => ?_) (fun h5 => ?_)
  ·
   refine req_i ?_ ?_
   · -- r0
    first | omega | ((try simp only [sigEquG, cW, equGP, List.cons.injEq, DV.b.injEq, and_true, List.length_cons, List.length_nil]); first | done | omega | assumption | grind [getD_set, getD_rep, toNat_succ, cntN_yes, cntN_no])
   rfl
  ·
   refine req_i ?_ ?_
   · -- r1
    first | omega | ((try simp only [Nat.mul_eq]); first | done | omega | assumption | grind [getD_set, getD_rep, toNat_succ, cntN_yes, cntN_no])
   refine req_i ?_ ?_
   · -- r2
    first | omega | ((try simp only [Nat.zero_add]); first | done | omega | assumption | grind [getD_set, getD_rep, toNat_succ, cntN_yes, cntN_no])
   refine req_i ?_ ?_
   · -- r3
    first | omega | ((try simp only [List.length_take, List.take_length, List.take_take, Nat.min_self, List.length_drop, List.drop_zero, List.length_cons, List.length_nil]); first | done | omega | assumption | grind [getD_set, getD_rep, toNat_succ, cntN_yes, cntN_no])
   refine req_i ?_ ?_
   · -- r4
    first | assumption | exact rep_bd (by omega) (by omega) | exact set_bd (by assumption) (by omega) (by omega) | exact take_bd (by assumption) | ((try simp only [List.length_take, List.take_length, List.take_take, Nat.min_self, List.length_drop, List.drop_zero, List.length_cons, List.length_nil]); first | assumption | exact rep_bd (by omega) (by omega) | exact set_bd (by assumption) (by omega) (by omega) | exact take_bd (by assumption) | grind [getD_set, getD_rep, toNat_succ, cntN_yes, cntN_no])
   refine req_i ?_ ?_
   · -- r5
    first | omega | ((try simp only [Nat.mul_eq]); first | done | omega | assumption | grind [getD_set, getD_rep, toNat_succ, cntN_yes, cntN_no])
   refine req_i ?_ ?_
   · -- r6
    first | omega | ((try simp only [Nat.zero_add]); first | done | omega | assumption | grind [getD_set, getD_rep, toNat_succ, cntN_yes, cntN_no])
   refine req_i ?_ ?_
   · -- r7
    first | omega | ((try simp only [List.length_take, List.take_length, List.take_take, Nat.min_self, List.length_drop, List.drop_zero, List.length_cons, List.length_nil]); first | done | omega | assumption | grind [getD_set, getD_rep, toNat_succ, cntN_yes, cntN_no])
   refine req_i ?_ ?_
   · -- r8
    first | assumption | exact rep_bd (by omega) (by omega) | exact set_bd (by assumption) (by omega) (by omega) | exact take_bd (by assumption) | ((try simp only [List.length_take, List.take_length, List.take_take, Nat.min_self, List.length_drop, List.drop_zero, List.length_cons, List.length_nil]); first | assumption | exact rep_bd (by omega) (by omega) | exact set_bd (by assumption) (by omega) (by omega) | exact take_bd (by assumption) | grind [getD_set, getD_rep, toNat_succ, cntN_yes, cntN_no])
   refine req_i ?_ ?_
   · -- r9
    first | omega | ((try simp only [equGL, cW, equGInv, meaC, List.cons.injEq, DV.b.injEq, and_true, List.length_take, List.take_length, List.take_take, Nat.min_self, List.length_drop, List.drop_zero, List.length_cons, List.length_nil]); first | done | omega | assumption | grind [getD_set, getD_rep, toNat_succ, cntN_yes, cntN_no])
   refine all_i fun n2 => ?_
   refine imp_i fun h6 => ?_
   refine imp_i fun h7 => ?_
   refine imp_i fun h8 => ?_
   try simp only [equGL, cW, equGInv, meaC, List.cons.injEq, DV.b.injEq, and_true, List.length_take, List.take_length, List.take_take, Nat.min_self, List.length_drop, List.drop_zero, List.length_cons, List.length_nil] at h8
   refine bR_dec (fun h9 => ?_) (fun h9 => ?_)
   ·
    refine req_i ?_ ?_
    · -- r10
     first | omega | ((try simp only [Int.toNat_natCast, List.length_cons, List.length_nil]); first | done | omega | assumption | grind [getD_set, getD_rep, toNat_succ, cntN_yes, cntN_no])
    refine req_i ?_ ?_
    · -- r11
     first | omega | ((try simp only [Int.toNat_natCast, List.length_cons, List.length_nil, Nat.add_eq, Nat.zero_add]); first | done | omega | assumption | grind [getD_set, getD_rep, toNat_succ, cntN_yes, cntN_no])
    refine req_i ?_ ?_
    · -- r12
     first | omega | ((try simp only [Int.toNat_natCast, List.length_cons, List.length_nil]); first | done | omega | assumption | grind [getD_set, getD_rep, toNat_succ, cntN_yes, cntN_no])
    refine req_i ?_ ?_
    · -- r13
     first | omega | ((try simp only [Int.toNat_natCast, List.length_cons, List.length_nil, Nat.add_eq, Nat.zero_add]); first | done | omega | assumption | grind [getD_set, getD_rep, toNat_succ, cntN_yes, cntN_no])
    refine bR_dec (fun h10 => ?_) (fun h10 => ?_)
    ·
     refine req_i ?_ ?_
     · -- r14
      first | omega | ((try simp only [sigEquG, cW, equGP, List.cons.injEq, DV.b.injEq, and_true, List.length_cons, List.length_nil]); first | done | omega | assumption | grind [getD_set, getD_rep, toNat_succ, cntN_yes, cntN_no])
     rfl
    ·
     refine bR_t ?_ ?_
     · -- g0
      first | rfl | (simp only [bR_iff, bR_iff_f, dec_iff, dec_f, beqB_iff', andB_iff', reduceCtorEq, imp_self, false_implies, and_true, true_and, implies_true, and_self]; done) | (simp [bR_iff, dec_iff, beqB_iff', andB_iff']; done) | (simp [bR_iff, dec_iff, beqB_iff', andB_iff']; omega)
     refine req_i ?_ ?_
     · -- r15
      first | omega | assumption | grind
     refine req_i ?_ ?_
     · -- r16
      first | omega | assumption | grind
     refine req_i ?_ ?_
     · -- r17
      first | omega | ((try simp only [equGL, cW, equGInv, meaC, List.cons.injEq, DV.b.injEq, and_true, List.length_take, List.take_length, List.take_take, Nat.min_self, List.length_drop, List.drop_zero, List.length_cons, List.length_nil]); first | done | omega | assumption | grind [getD_set, getD_rep, toNat_succ, cntN_yes, cntN_no])
     refine req_i ?_ ?_
     · -- r18
      first | omega | ((try simp only [equGL, cW, equGInv, meaC, List.cons.injEq, DV.b.injEq, and_true, List.length_take, List.take_length, List.take_take, Nat.min_self, List.length_drop, List.drop_zero, List.length_cons, List.length_nil]); first | done | omega | assumption | grind [getD_set, getD_rep, toNat_succ, cntN_yes, cntN_no])
     rfl
   ·
    have e1 := equG_of (a := l0) (b := l1) h8.2.1 h9 h8.2.2.2
    refine req_i ?_ ?_
    · -- r19
     first | omega | ((try simp only [sigEquG, cW, equGP, List.cons.injEq, DV.b.injEq, and_true, List.length_cons, List.length_nil]); first | done | omega | assumption | grind [getD_set, getD_rep, toNat_succ, cntN_yes, cntN_no])
    rfl
theorem ext_equ : ∀ p ∈ ([] : List (Nat × Ext)), ExtRow Tryd.prog p.1 p.2 := by
  intro p hp
  cases hp
theorem cts_equ : CtsOk Tryd.prog [] := fun f c h => by cases h
theorem fn_equ : FnOk Tryd.prog 19 sigEquG gl11 := fn_sound (by kernel_rfl) ext_equ cts_equ names vt_equ
end Go.Proofs.YtblcahackjpnjaaDoor

namespace Go.Proofs.YtblcahackjpnjaaDoor
open Go.Ev Go.Sp
set_option maxRecDepth 100000
theorem vc_NcoCodes : vcFn Tryd.prog [(3, Ext.ctr (ctOfG gl11 sigTrue0)), (28, Ext.ctr (ctOfG gl11 sigTurn)), (31, Ext.ctr (ctOfG gl11 sigRotd)), (30, Ext.ctr (ctOfG gl11 sigSampC)), (17, Ext.ctr (ctOfG gl11 sigChips)), (19, Ext.ctr (ctOfG gl11 sigEquG))] noA gl11 100 10 sigNG4 = (allB fun n0 : Int => 
impB ((-9223372036854775808 : Int) ≤ n0) (
impB (n0 ≤ (9223372036854775807 : Int)) (
allB fun n1 : Int => 
impB ((-9223372036854775808 : Int) ≤ n1) (
impB (n1 ≤ (9223372036854775807 : Int)) (
allB fun n2 : Int => 
impB ((-9223372036854775808 : Int) ≤ n2) (
impB (n2 ≤ (9223372036854775807 : Int)) (
allB fun n3 : Int => 
impB ((-9223372036854775808 : Int) ≤ n3) (
impB (n3 ≤ (9223372036854775807 : Int)) (
impB (sigNG4.pre [DV.n n0, DV.n n1, DV.n n2, DV.n n3]) (
reqB (sigTrue0.pre []) (
allB fun b4 : Bool => 
impB (sigTrue0.post [] [DV.b b4]) (
reqB ((-9223372036854775808 : Int) ≤ n0) (
reqB (n0 ≤ (9223372036854775807 : Int)) (
reqB (sigTurn.pre [DV.n n0, DV.n (2 : Int)]) (
allB fun n5 : Int => 
impB ((0 : Int) ≤ n5) (
impB (n5 ≤ (4000000000 : Int)) (
impB (sigTurn.post [DV.n n0, DV.n (2 : Int)] [DV.n n5]) (
reqB ((-9223372036854775808 : Int) ≤ n2) (
reqB (n2 ≤ (9223372036854775807 : Int)) (
reqB (sigTurn.pre [DV.n n2, DV.n (4 : Int)]) (
allB fun n6 : Int => 
impB ((0 : Int) ≤ n6) (
impB (n6 ≤ (4000000000 : Int)) (
impB (sigTurn.post [DV.n n2, DV.n (4 : Int)] [DV.n n6]) (
allB fun n7 : Int => 
impB (n7 = Go.IntKind.i64.wrap (opI (SO.shl Go.IntKind.i64) (1 : Int) ((5 : Int) + n5) - (1 : Int))) (
impB (Int.negSucc (9223372036854775807 : Nat) ≤ n7) (
impB (n7 ≤ Int.ofNat (9223372036854775807 : Nat)) (
allB fun n8 : Int => 
impB (n8 = Go.IntKind.i64.wrap (n7 + (2 : Int))) (
impB (Int.negSucc (9223372036854775807 : Nat) ≤ n8) (
impB (n8 ≤ Int.ofNat (9223372036854775807 : Nat)) (
reqB ((-9223372036854775808 : Int) ≤ n1) (
reqB (n1 ≤ (9223372036854775807 : Int)) (
reqB ((1 : Int) ≤ n8) (
reqB (n8 ≤ (4000000000 : Int)) (
reqB (sigTurn.pre [DV.n n1, DV.n n8]) (
allB fun n9 : Int => 
impB ((0 : Int) ≤ n9) (
impB (n9 ≤ (4000000000 : Int)) (
impB (sigTurn.post [DV.n n1, DV.n n8] [DV.n n9]) (
reqB ((-9223372036854775808 : Int) ≤ n3) (
reqB (n3 ≤ (9223372036854775807 : Int)) (
reqB (sigTurn.pre [DV.n n3, DV.n (401 : Int)]) (
allB fun n10 : Int => 
impB ((0 : Int) ≤ n10) (
impB (n10 ≤ (4000000000 : Int)) (
impB (sigTurn.post [DV.n n3, DV.n (401 : Int)] [DV.n n10]) (
allB fun n11 : Int => 
impB (n11 = Go.IntKind.i64.wrap (n7 * opI (SO.shl Go.IntKind.i64) (1 : Int) n6)) (
impB (Int.negSucc (9223372036854775807 : Nat) ≤ n11) (
impB (n11 ≤ Int.ofNat (9223372036854775807 : Nat)) (
reqB ((-9223372036854775808 : Int) ≤ (5 : Int) + n5) (
reqB ((5 : Int) + n5 ≤ (9223372036854775807 : Int)) (
reqB ((-9223372036854775808 : Int) ≤ opI (SO.shl Go.IntKind.i64) (1 : Int) n6) (
reqB (opI (SO.shl Go.IntKind.i64) (1 : Int) n6 ≤ (9223372036854775807 : Int)) (
reqB ((-9223372036854775808 : Int) ≤ (1 : Int) + n9) (
reqB ((1 : Int) + n9 ≤ (9223372036854775807 : Int)) (
reqB (sigSampC.pre
 [DV.n ((5 : Int) + n5), DV.n (opI (SO.shl Go.IntKind.i64) (1 : Int) n6),
 DV.n ((1 : Int) + n9)]) (
allB fun l12 : List Int => 
impB (l12.length ≤ (600 : Nat)) (
impB (∀ (y : Int), y ∈ l12 → (-1 : Int) ≤ y ∧ y ≤ (1 : Int)) (
allB fun n13 : Int => 
impB ((0 : Int) ≤ n13) (
impB (n13 ≤ (18 : Int)) (
impB (sigSampC.post
 [DV.n ((5 : Int) + n5), DV.n (opI (SO.shl Go.IntKind.i64) (1 : Int) n6),
 DV.n ((1 : Int) + n9)]
 [DV.l l12, DV.n n13]) (
allB fun n14 : Int => 
impB (n14 = Go.IntKind.i64.wrap (n11 + (5 : Int))) (
impB (Int.negSucc (9223372036854775807 : Nat) ≤ n14) (
impB (n14 ≤ Int.ofNat (9223372036854775807 : Nat)) (
reqB ((-9223372036854775808 : Int) ≤ (5 : Int) + n5) (
reqB ((5 : Int) + n5 ≤ (9223372036854775807 : Int)) (
reqB ((-9223372036854775808 : Int) ≤ (1 : Int) + n9) (
reqB ((1 : Int) + n9 ≤ (9223372036854775807 : Int)) (
reqB ((-9223372036854775808 : Int) ≤ opI (SO.shr Go.IntKind.i64) (65536 : Int) n6) (
reqB (opI (SO.shr Go.IntKind.i64) (65536 : Int) n6 ≤ (9223372036854775807 : Int)) (
reqB ((-9223372036854775808 : Int) ≤ n14) (
reqB (n14 ≤ (9223372036854775807 : Int)) (
reqB (sigChips.pre
 [DV.n ((5 : Int) + n5), DV.n ((1 : Int) + n9), DV.n (0 : Int),
 DV.n (opI (SO.shr Go.IntKind.i64) (65536 : Int) n6), DV.n n14]) (
allB fun l15 : List Int => 
impB (l15.length ≤ (600 : Nat)) (
impB (∀ (y : Int), y ∈ l15 → (-1 : Int) ≤ y ∧ y ≤ (1 : Int)) (
allB fun n16 : Int => 
impB ((0 : Int) ≤ n16) (
impB (n16 ≤ (18 : Int)) (
impB (sigChips.post
 [DV.n ((5 : Int) + n5), DV.n ((1 : Int) + n9), DV.n (0 : Int),
 DV.n (opI (SO.shr Go.IntKind.i64) (65536 : Int) n6), DV.n n14]
 [DV.l l15, DV.n n16]) (
reqB ((-9223372036854775808 : Int) ≤ (5 : Int) + n5) (
reqB ((5 : Int) + n5 ≤ (9223372036854775807 : Int)) (
reqB ((-9223372036854775808 : Int) ≤ (1 : Int) + n9) (
reqB ((1 : Int) + n9 ≤ (9223372036854775807 : Int)) (
reqB ((-9223372036854775808 : Int) ≤ (n10 - (200 : Int)) * (65536 : Int)) (
reqB ((n10 - (200 : Int)) * (65536 : Int) ≤ (9223372036854775807 : Int)) (
reqB ((-9223372036854775808 : Int) ≤ opI (SO.shr Go.IntKind.i64) (65536 : Int) n6) (
reqB (opI (SO.shr Go.IntKind.i64) (65536 : Int) n6 ≤ (9223372036854775807 : Int)) (
reqB ((-9223372036854775808 : Int) ≤ n11) (
reqB (n11 ≤ (9223372036854775807 : Int)) (
reqB (sigChips.pre
 [DV.n ((5 : Int) + n5), DV.n ((1 : Int) + n9), DV.n ((n10 - (200 : Int)) * (65536 : Int)),
 DV.n (opI (SO.shr Go.IntKind.i64) (65536 : Int) n6), DV.n n11]) (
allB fun l17 : List Int => 
impB (l17.length ≤ (600 : Nat)) (
impB (∀ (y : Int), y ∈ l17 → (-1 : Int) ≤ y ∧ y ≤ (1 : Int)) (
allB fun n18 : Int => 
impB ((0 : Int) ≤ n18) (
impB (n18 ≤ (18 : Int)) (
impB (sigChips.post
 [DV.n ((5 : Int) + n5), DV.n ((1 : Int) + n9), DV.n ((n10 - (200 : Int)) * (65536 : Int)),
 DV.n (opI (SO.shr Go.IntKind.i64) (65536 : Int) n6), DV.n n11]
 [DV.l l17, DV.n n18]) (
bR (dec (n13 ≠ (0 : Int))) (
 reqB (sigNG4.post [DV.n n0, DV.n n1, DV.n n2, DV.n n3] [DV.b Bool.false]) (
 true)) (
 bR (dec (n16 ≠ (0 : Int))) (
 reqB (sigNG4.post [DV.n n0, DV.n n1, DV.n n2, DV.n n3] [DV.b Bool.false]) (
 true)) (
 bR (dec (n18 ≠ (0 : Int))) (
 reqB (sigNG4.post [DV.n n0, DV.n n1, DV.n n2, DV.n n3] [DV.b Bool.false]) (
 true)) (
 bR (dec ((↑l12.length : Int) ≠ n11)) (
 reqB (sigNG4.post [DV.n n0, DV.n n1, DV.n n2, DV.n n3] [DV.b Bool.false]) (
 true)) (
 allB fun n19 : Int => 
 impB (n19 = Go.IntKind.i64.wrap (n11 + (5 : Int))) (
 impB (Int.negSucc (9223372036854775807 : Nat) ≤ n19) (
 impB (n19 ≤ Int.ofNat (9223372036854775807 : Nat)) (
 bR (dec ((↑l15.length : Int) ≠ n19)) (
 reqB (sigNG4.post [DV.n n0, DV.n n1, DV.n n2, DV.n n3] [DV.b Bool.false]) (
 true)) (
 bR (dec ((↑l17.length : Int) ≠ n11)) (
 reqB (sigNG4.post [DV.n n0, DV.n n1, DV.n n2, DV.n n3] [DV.b Bool.false]) (
 true)) (
 bR (b4) (
 reqB ((0 : Int) ≤ n11) (
 reqB ((0 : Nat) ≤ n11.toNat) (
 reqB (n11.toNat ≤ l15.length) (
 reqB (((0 : Nat) + n11.toNat.sub (0 : Nat)) * (1 : Nat) ≤ l15.length.mul (1 : Nat)) (
 reqB (n11.toNat.sub (0 : Nat) ≤ (1100 : Nat)) (
 reqB ((List.take (n11.toNat.sub (0 : Nat)) (List.drop (0 : Nat) l15)).length = n11.toNat.sub (0 : Nat)) (
 reqB (∀ (y : Int),
 y ∈ List.take (n11.toNat.sub (0 : Nat)) (List.drop (0 : Nat) l15) →
 (-9223372036854775808 : Int) ≤ y ∧ y ≤ (9223372036854775807 : Int)) (
 reqB (((0 : Nat) + l12.length) * (1 : Nat) ≤ l12.length.mul (1 : Nat)) (
 reqB (l12.length ≤ (1100 : Nat)) (
 reqB ((List.take l12.length (List.drop (0 : Nat) l12)).length = l12.length) (
 reqB (∀ (y : Int),
 y ∈ List.take l12.length (List.drop (0 : Nat) l12) →
 (-9223372036854775808 : Int) ≤ y ∧ y ≤ (9223372036854775807 : Int)) (
 reqB (sigEquG.pre
 [DV.l (List.take (n11.toNat.sub (0 : Nat)) (List.drop (0 : Nat) l15)),
 DV.l (List.take l12.length (List.drop (0 : Nat) l12))]) (
 allB fun b20 : Bool => 
 impB (sigEquG.post
 [DV.l (List.take (n11.toNat.sub (0 : Nat)) (List.drop (0 : Nat) l15)),
 DV.l (List.take l12.length (List.drop (0 : Nat) l12))]
 [DV.b b20]) (
 bR (b20) (
 reqB ((0 : Int) ≤ n11) (
 reqB (n11.toNat ≤ l15.length) (
 reqB (l15.length ≤ l15.length) (
 reqB ((0 : Nat) ≤ (5 : Nat)) (
 reqB ((5 : Nat) ≤ l12.length) (
 reqB ((Nat.add (0 : Nat) n11.toNat + l15.length.sub n11.toNat) * (1 : Nat) ≤ l15.length.mul (1 : Nat)) (
 reqB (l15.length.sub n11.toNat ≤ (1100 : Nat)) (
 reqB ((List.take (l15.length.sub n11.toNat) (List.drop (Nat.add (0 : Nat) n11.toNat) l15)).length = l15.length.sub n11.toNat) (
 reqB (∀ (y : Int),
 y ∈ List.take (l15.length.sub n11.toNat) (List.drop (Nat.add (0 : Nat) n11.toNat) l15) →
 (-9223372036854775808 : Int) ≤ y ∧ y ≤ (9223372036854775807 : Int)) (
 reqB (((0 : Nat) + (5 : Nat)) * (1 : Nat) ≤ l12.length.mul (1 : Nat)) (
 reqB ((5 : Nat) ≤ (1100 : Nat)) (
 reqB ((List.take (5 : Nat) (List.drop (0 : Nat) l12)).length = (5 : Nat)) (
 reqB (∀ (y : Int),
 y ∈ List.take (5 : Nat) (List.drop (0 : Nat) l12) → (-9223372036854775808 : Int) ≤ y ∧ y ≤ (9223372036854775807 : Int)) (
 reqB (sigEquG.pre
 [DV.l (List.take (l15.length.sub n11.toNat) (List.drop (Nat.add (0 : Nat) n11.toNat) l15)),
 DV.l (List.take (5 : Nat) (List.drop (0 : Nat) l12))]) (
 allB fun b21 : Bool => 
 impB (sigEquG.post
 [DV.l (List.take (l15.length.sub n11.toNat) (List.drop (Nat.add (0 : Nat) n11.toNat) l15)),
 DV.l (List.take (5 : Nat) (List.drop (0 : Nat) l12))]
 [DV.b b21]) (
 bR (b21) (
 reqB ((-9223372036854775808 : Int) ≤ n10 - (200 : Int)) (
 reqB (n10 - (200 : Int) ≤ (9223372036854775807 : Int)) (
 reqB ((1 : Int) ≤ n7) (
 reqB (n7 ≤ (4000000000 : Int)) (
 reqB (sigTurn.pre [DV.n (n10 - (200 : Int)), DV.n n7]) (
 allB fun n22 : Int => 
 impB ((0 : Int) ≤ n22) (
 impB (n22 ≤ (4000000000 : Int)) (
 impB (sigTurn.post [DV.n (n10 - (200 : Int)), DV.n n7] [DV.n n22]) (
 allB fun n23 : Int => 
 impB (n23 = Go.IntKind.i64.wrap (n22 * opI (SO.shl Go.IntKind.i64) (1 : Int) n6)) (
 impB (Int.negSucc (9223372036854775807 : Nat) ≤ n23) (
 impB (n23 ≤ Int.ofNat (9223372036854775807 : Nat)) (
 reqB (((0 : Nat) + l12.length) * (1 : Nat) ≤ l12.length.mul (1 : Nat)) (
 reqB (l12.length ≤ (1100 : Nat)) (
 reqB ((List.take l12.length (List.drop (0 : Nat) l12)).length = l12.length) (
 reqB (∀ (y : Int), y ∈ List.take l12.length (List.drop (0 : Nat) l12) → (-1 : Int) ≤ y ∧ y ≤ (1 : Int)) (
 reqB ((0 : Int) ≤ n23) (
 reqB (n23 ≤ (2000 : Int)) (
 reqB (sigRotd.pre [DV.l (List.take l12.length (List.drop (0 : Nat) l12)), DV.n n23]) (
 allB fun l24 : List Int => 
 impB (l24.length ≤ (1100 : Nat)) (
 impB (∀ (y : Int), y ∈ l24 → (-1 : Int) ≤ y ∧ y ≤ (1 : Int)) (
 impB (sigRotd.post [DV.l (List.take l12.length (List.drop (0 : Nat) l12)), DV.n n23] [DV.l l24]) (
 reqB (((0 : Nat) + l17.length) * (1 : Nat) ≤ l17.length.mul (1 : Nat)) (
 reqB (l17.length ≤ (1100 : Nat)) (
 reqB ((List.take l17.length (List.drop (0 : Nat) l17)).length = l17.length) (
 reqB (∀ (y : Int),
 y ∈ List.take l17.length (List.drop (0 : Nat) l17) →
 (-9223372036854775808 : Int) ≤ y ∧ y ≤ (9223372036854775807 : Int)) (
 reqB (((0 : Nat) + l24.length) * (1 : Nat) ≤ l24.length.mul (1 : Nat)) (
 reqB (l24.length ≤ (1100 : Nat)) (
 reqB ((List.take l24.length (List.drop (0 : Nat) l24)).length = l24.length) (
 reqB (∀ (y : Int),
 y ∈ List.take l24.length (List.drop (0 : Nat) l24) →
 (-9223372036854775808 : Int) ≤ y ∧ y ≤ (9223372036854775807 : Int)) (
 reqB (sigEquG.pre
 [DV.l (List.take l17.length (List.drop (0 : Nat) l17)),
 DV.l (List.take l24.length (List.drop (0 : Nat) l24))]) (
 allB fun b25 : Bool => 
 impB (sigEquG.post
 [DV.l (List.take l17.length (List.drop (0 : Nat) l17)),
 DV.l (List.take l24.length (List.drop (0 : Nat) l24))]
 [DV.b b25]) (
 reqB (sigNG4.post [DV.n n0, DV.n n1, DV.n n2, DV.n n3] [DV.b b25]) (
 true))))))))))))))))))))))))))))))))) (
 reqB (sigNG4.post [DV.n n0, DV.n n1, DV.n n2, DV.n n3] [DV.b Bool.false]) (
 true)))))))))))))))))) (
 reqB (sigNG4.post [DV.n n0, DV.n n1, DV.n n2, DV.n n3] [DV.b Bool.false]) (
 true)))))))))))))))) (
 reqB (sigNG4.post [DV.n n0, DV.n n1, DV.n n2, DV.n n3] [DV.b Bool.false]) (
 true))))))))))))))))))))))))))))))))))))))))))))))))))))))))))))))))))))))))))))))))))))))))))))))))))))))) := by kernel_rfl
set_option maxHeartbeats 8000000 in
theorem vt_NcoCodes : vcFn Tryd.prog [(3, Ext.ctr (ctOfG gl11 sigTrue0)), (28, Ext.ctr (ctOfG gl11 sigTurn)), (31, Ext.ctr (ctOfG gl11 sigRotd)), (30, Ext.ctr (ctOfG gl11 sigSampC)), (17, Ext.ctr (ctOfG gl11 sigChips)), (19, Ext.ctr (ctOfG gl11 sigEquG))] noA gl11 100 10 sigNG4 = true := by
  rw [vc_NcoCodes]
  try simp only [Int.toNat_natCast, List.length_set, List.length_replicate, List.length_take, List.length_drop, List.length_append, List.length_cons, List.length_nil, Nat.min_self, List.take_take, lenCols_i, lenCols_b, List.drop_zero, List.take_length, Nat.add_eq, Nat.mul_eq, Nat.sub_eq, Nat.zero_add, Nat.sub_zero, Nat.mul_one]
  refine all_i fun n0 => ?_
  refine imp_i fun h0 => ?_
  refine imp_i fun h1 => ?_
  refine all_i fun n1 => ?_
  refine imp_i fun h2 => ?_
  refine imp_i fun h3 => ?_
  refine all_i fun n2 => ?_
  refine imp_i fun h4 => ?_
  refine imp_i fun h5 => ?_
  refine all_i fun n3 => ?_
  refine imp_i fun h6 => ?_
  refine imp_i fun h7 => ?_
  refine imp_i fun h8 => ?_
  try simp only [sigNG4, sigNG, List.cons.injEq, DV.b.injEq, and_true, List.length_cons, List.length_nil] at h8
  refine req_i ?_ ?_
  · -- r0
   first | omega | assumption | grind
  refine all_i fun b4 => ?_
  refine imp_i fun h9 => ?_
  try simp only [sigTrue0, List.cons.injEq, DV.b.injEq, and_true, List.length_cons, List.length_nil] at h9
  refine req_i ?_ ?_
  · -- r1
   first | omega | assumption | grind
  refine req_i ?_ ?_
  · -- r2
   first | omega | assumption | grind
  refine req_i ?_ ?_
  · -- r3
   first | trivial | assumption | (simp only [sigTurn, pickGP, List.cons.injEq, DV.b.injEq, and_true, List.length_cons, List.length_nil]; done) | ((try simp only [sigTurn, pickGP, List.cons.injEq, DV.b.injEq, and_true, List.length_cons, List.length_nil]); first | omega | assumption | grind)
  refine all_i fun n5 => ?_
  refine imp_i fun h10 => ?_
  refine imp_i fun h11 => ?_
  refine imp_i fun h12 => ?_
  try simp only [sigTurn, pickGP, List.cons.injEq, DV.b.injEq, and_true, List.length_cons, List.length_nil] at h12
  refine req_i ?_ ?_
  · -- r4
   first | omega | assumption | grind
  refine req_i ?_ ?_
  · -- r5
   first | omega | assumption | grind
  refine req_i ?_ ?_
  · -- r6
   first | trivial | assumption | (simp only [sigTurn, pickGP, List.cons.injEq, DV.b.injEq, and_true, List.length_cons, List.length_nil]; done) | ((try simp only [sigTurn, pickGP, List.cons.injEq, DV.b.injEq, and_true, List.length_cons, List.length_nil]); first | omega | assumption | grind)
  refine all_i fun n6 => ?_
  refine imp_i fun h13 => ?_
  refine imp_i fun h14 => ?_
  refine imp_i fun h15 => ?_
  try simp only [sigTurn, pickGP, List.cons.injEq, DV.b.injEq, and_true, List.length_cons, List.length_nil] at h15
  have hD : okD (5 + n5) := by unfold okD; omega
  have hn : nG (5 + n5) = 31 ∨ nG (5 + n5) = 63 := by rcases (by omega : n5 = 0 ∨ n5 = 1) with e | e <;> rw [e] <;> decide
  have hs : opI (.shl .i64) 1 (5 + n5) = nG (5 + n5) + 1 := by rcases (by omega : n5 = 0 ∨ n5 = 1) with e | e <;> rw [e] <;> decide
  have hr : (opI (.shr .i64) 65536 n6 = 65536 ∧ opI (.shl .i64) 1 n6 = 1) ∨ (opI (.shr .i64) 65536 n6 = 32768 ∧ opI (.shl .i64) 1 n6 = 2) ∨ (opI (.shr .i64) 65536 n6 = 16384 ∧ opI (.shl .i64) 1 n6 = 4) ∨ (opI (.shr .i64) 65536 n6 = 8192 ∧ opI (.shl .i64) 1 n6 = 8) := by rcases (by omega : n6 = 0 ∨ n6 = 1 ∨ n6 = 2 ∨ n6 = 3) with e | e | e | e <;> rw [e] <;> decide
  have ho : opI (.shl .i64) 1 n6 = 1 ∨ opI (.shl .i64) 1 n6 = 2 ∨ opI (.shl .i64) 1 n6 = 4 ∨ opI (.shl .i64) 1 n6 = 8 := by omega
  have hr2 : opI (.shr .i64) 65536 n6 = 65536 / opI (.shl .i64) 1 n6 := by rcases hr with ⟨a, b⟩ | ⟨a, b⟩ | ⟨a, b⟩ | ⟨a, b⟩ <;> rw [a, b] <;> decide
  have pb := codes_pb hn ho
  refine all_i fun n7 => ?_
  refine imp_i fun h16 => ?_
  simp only [wrap_i64] at h16
  replace h16 : n7 = nG (5 + n5) := by omega
  refine imp_i fun h17 => ?_
  refine imp_i fun h18 => ?_
  refine all_i fun n8 => ?_
  refine imp_i fun h19 => ?_
  simp only [wrap_i64] at h19
  replace h19 : n8 = nG (5 + n5) + 2 := by omega
  refine imp_i fun h20 => ?_
  refine imp_i fun h21 => ?_
  refine req_i ?_ ?_
  · -- r7
   first | omega | assumption | grind
  refine req_i ?_ ?_
  · -- r8
   first | omega | assumption | grind
  refine req_i ?_ ?_
  · -- r9
   first | omega | assumption | grind
  refine req_i ?_ ?_
  · -- r10
   first | omega | assumption | grind
  refine req_i ?_ ?_
  · -- r11
   first | trivial | assumption | (simp only [sigTurn, pickGP, List.cons.injEq, DV.b.injEq, and_true, List.length_cons, List.length_nil]; done) | ((try simp only [sigTurn, pickGP, List.cons.injEq, DV.b.injEq, and_true, List.length_cons, List.length_nil]); first | omega | assumption | grind)
  refine all_i fun n9 => ?_
  refine imp_i fun h22 => ?_
  refine imp_i fun h23 => ?_
  refine imp_i fun h24 => ?_
  try simp only [sigTurn, pickGP, List.cons.injEq, DV.b.injEq, and_true, List.length_cons, List.length_nil] at h24
  have a9 := Int.emod_nonneg n1 (b := n8) (by omega)
  have b9 := Int.emod_lt_of_pos n1 (b := n8) (by omega)
  refine req_i ?_ ?_
  · -- r12
   first | omega | assumption | grind
  refine req_i ?_ ?_
  · -- r13
   first | omega | assumption | grind
  refine req_i ?_ ?_
  · -- r14
   first | trivial | assumption | (simp only [sigTurn, pickGP, List.cons.injEq, DV.b.injEq, and_true, List.length_cons, List.length_nil]; done) | ((try simp only [sigTurn, pickGP, List.cons.injEq, DV.b.injEq, and_true, List.length_cons, List.length_nil]); first | omega | assumption | grind)
  refine all_i fun n10 => ?_
  refine imp_i fun h25 => ?_
  refine imp_i fun h26 => ?_
  refine imp_i fun h27 => ?_
  try simp only [sigTurn, pickGP, List.cons.injEq, DV.b.injEq, and_true, List.length_cons, List.length_nil] at h27
  refine all_i fun n11 => ?_
  refine imp_i fun h28 => ?_
  simp only [wrap_i64] at h28
  rw [h16] at h28
  replace h28 : n11 = nG (5 + n5) * opI (.shl .i64) 1 n6 := by omega
  refine imp_i fun h29 => ?_
  refine imp_i fun h30 => ?_
  refine req_i ?_ ?_
  · -- r15
   first | omega | assumption | grind
  refine req_i ?_ ?_
  · -- r16
   first | omega | assumption | grind
  refine req_i ?_ ?_
  · -- r17
   first | omega | assumption | grind
  refine req_i ?_ ?_
  · -- r18
   first | omega | assumption | grind
  refine req_i ?_ ?_
  · -- r19
   first | omega | assumption | grind
  refine req_i ?_ ?_
  · -- r20
   first | omega | assumption | grind
  refine req_i ?_ ?_
  · -- r21
   exact fun _ _ _ => by omega
  refine all_i fun l12 => ?_
  refine imp_i fun h31 => ?_
  refine imp_i fun h32 => ?_
  refine all_i fun n13 => ?_
  refine imp_i fun h33 => ?_
  refine imp_i fun h34 => ?_
  refine imp_i fun h35 => ?_
  try simp only [Int.toNat_natCast, List.length_set, List.length_replicate, List.length_take, List.length_drop, List.length_append, List.length_cons, List.length_nil, Nat.min_self, List.take_take, lenCols_i, lenCols_b, List.drop_zero, List.take_length, Nat.add_eq, Nat.mul_eq, Nat.sub_eq, Nat.zero_add, Nat.sub_zero, Nat.mul_one] at h35
  obtain ⟨_, e13, s12⟩ := (ite_case h35).resolve_right (fun g => g.1 ⟨hD, ⟨by omega, by omega⟩, by omega, by omega⟩)
  have kc : ((codeL (5 + n5) (1 + n9)).length : Int) = nG (5 + n5) := by rw [codeL, chips_len]; exact bits_len hD (.inl rfl)
  have k12 : (l12.length : Int) = nG (5 + n5) * opI (.shl .i64) 1 n6 := by rw [s12, sampL_len (by omega), kc]
  refine all_i fun n14 => ?_
  refine imp_i fun h36 => ?_
  simp only [wrap_i64] at h36
  replace h36 : n14 = n11 + 5 := by omega
  refine imp_i fun h37 => ?_
  refine imp_i fun h38 => ?_
  refine req_i ?_ ?_
  · -- r22
   first | omega | assumption | grind
  refine req_i ?_ ?_
  · -- r23
   first | omega | assumption | grind
  refine req_i ?_ ?_
  · -- r24
   first | omega | assumption | grind
  refine req_i ?_ ?_
  · -- r25
   first | omega | assumption | grind
  refine req_i ?_ ?_
  · -- r26
   first | omega | assumption | grind
  refine req_i ?_ ?_
  · -- r27
   first | omega | assumption | grind
  refine req_i ?_ ?_
  · -- r28
   first | omega | assumption | grind
  refine req_i ?_ ?_
  · -- r29
   first | omega | assumption | grind
  refine req_i ?_ ?_
  · -- r30
   first | omega | ((try simp only [sigChips, cChL, chipsPre, chipsPost, List.cons.injEq, DV.b.injEq, and_true, List.length_cons, List.length_nil]); first | done | omega | assumption | grind [getD_set, getD_rep, toNat_succ, cntN_yes, cntN_no])
  refine all_i fun l15 => ?_
  refine imp_i fun h39 => ?_
  refine imp_i fun h40 => ?_
  refine all_i fun n16 => ?_
  refine imp_i fun h41 => ?_
  refine imp_i fun h42 => ?_
  refine imp_i fun h43 => ?_
  try simp only [Int.toNat_natCast, List.length_set, List.length_replicate, List.length_take, List.length_drop, List.length_append, List.length_cons, List.length_nil, Nat.min_self, List.take_take, lenCols_i, lenCols_b, List.drop_zero, List.take_length, Nat.add_eq, Nat.mul_eq, Nat.sub_eq, Nat.zero_add, Nat.sub_zero, Nat.mul_one] at h43
  obtain ⟨_, e16, s15⟩ := (ite_case h43).resolve_right (fun g => g.1 ⟨⟨hD, by omega, by omega⟩, by omega, by omega, by omega, by omega, by omega, by omega⟩)
  have k15 : l15.length = n14.toNat := by rw [s15, chipsL_len]
  refine req_i ?_ ?_
  · -- r31
   first | omega | assumption | grind
  refine req_i ?_ ?_
  · -- r32
   first | omega | assumption | grind
  refine req_i ?_ ?_
  · -- r33
   first | omega | assumption | grind
  refine req_i ?_ ?_
  · -- r34
   first | omega | assumption | grind
  refine req_i ?_ ?_
  · -- r35
   first | omega | assumption | grind
  refine req_i ?_ ?_
  · -- r36
   first | omega | assumption | grind
  refine req_i ?_ ?_
  · -- r37
   first | omega | assumption | grind
  refine req_i ?_ ?_
  · -- r38
   first | omega | assumption | grind
  refine req_i ?_ ?_
  · -- r39
   first | omega | assumption | grind
  refine req_i ?_ ?_
  · -- r40
   first | omega | assumption | grind
  refine req_i ?_ ?_
  · -- r41
   first | omega | ((try simp only [sigChips, cChL, chipsPre, chipsPost, List.cons.injEq, DV.b.injEq, and_true, List.length_cons, List.length_nil]); first | done | omega | assumption | grind [getD_set, getD_rep, toNat_succ, cntN_yes, cntN_no])
  refine all_i fun l17 => ?_
  refine imp_i fun h44 => ?_
  refine imp_i fun h45 => ?_
  refine all_i fun n18 => ?_
  refine imp_i fun h46 => ?_
  refine imp_i fun h47 => ?_
  refine imp_i fun h48 => ?_
  try simp only [Int.toNat_natCast, List.length_set, List.length_replicate, List.length_take, List.length_drop, List.length_append, List.length_cons, List.length_nil, Nat.min_self, List.take_take, lenCols_i, lenCols_b, List.drop_zero, List.take_length, Nat.add_eq, Nat.mul_eq, Nat.sub_eq, Nat.zero_add, Nat.sub_zero, Nat.mul_one] at h48
  obtain ⟨_, e18, s17⟩ := (ite_case h48).resolve_right (fun g => g.1 ⟨⟨hD, by omega, by omega⟩, by omega, by omega, by omega, by omega, by omega, by omega⟩)
  have k17 : l17.length = n11.toNat := by rw [s17, chipsL_len]
  refine bR_dec (fun h49 => ?_) (fun h49 => ?_)
  ·
   refine req_i ?_ ?_
   · -- r42
    first | omega | ((try simp only [sigNG4, sigNG, List.cons.injEq, DV.b.injEq, and_true, List.length_cons, List.length_nil]); first | done | omega | assumption | grind [getD_set, getD_rep, toNat_succ, cntN_yes, cntN_no])
   rfl
  ·
   refine bR_dec (fun h50 => ?_) (fun h50 => ?_)
   ·
    refine req_i ?_ ?_
    · -- r43
     first | omega | ((try simp only [sigNG4, sigNG, List.cons.injEq, DV.b.injEq, and_true, List.length_cons, List.length_nil]); first | done | omega | assumption | grind [getD_set, getD_rep, toNat_succ, cntN_yes, cntN_no])
    rfl
   ·
    refine bR_dec (fun h51 => ?_) (fun h51 => ?_)
    ·
     refine req_i ?_ ?_
     · -- r44
      first | omega | ((try simp only [sigNG4, sigNG, List.cons.injEq, DV.b.injEq, and_true, List.length_cons, List.length_nil]); first | done | omega | assumption | grind [getD_set, getD_rep, toNat_succ, cntN_yes, cntN_no])
     rfl
    ·
     refine bR_dec (fun h52 => ?_) (fun h52 => ?_)
     ·
      refine req_i ?_ ?_
      · -- r45
       first | omega | ((try simp only [sigNG4, sigNG, List.cons.injEq, DV.b.injEq, and_true, List.length_cons, List.length_nil]); first | done | omega | assumption | grind [getD_set, getD_rep, toNat_succ, cntN_yes, cntN_no])
      rfl
     ·
      refine all_i fun n19 => ?_
      refine imp_i fun h53 => ?_
      simp only [wrap_i64] at h53
      replace h53 : n19 = n11 + 5 := by omega
      refine imp_i fun h54 => ?_
      refine imp_i fun h55 => ?_
      refine bR_dec (fun h56 => ?_) (fun h56 => ?_)
      ·
       refine req_i ?_ ?_
       · -- r46
        first | omega | ((try simp only [sigNG4, sigNG, List.cons.injEq, DV.b.injEq, and_true, List.length_cons, List.length_nil]); first | done | omega | assumption | grind [getD_set, getD_rep, toNat_succ, cntN_yes, cntN_no])
       rfl
      ·
       refine bR_dec (fun h57 => ?_) (fun h57 => ?_)
       ·
        refine req_i ?_ ?_
        · -- r47
         first | omega | ((try simp only [sigNG4, sigNG, List.cons.injEq, DV.b.injEq, and_true, List.length_cons, List.length_nil]); first | done | omega | assumption | grind [getD_set, getD_rep, toNat_succ, cntN_yes, cntN_no])
        rfl
       ·
        refine bR_i (fun h58 => ?_) (fun h58 => ?_)
        ·
         have E1 := codes_E1 (c := codeL (5 + n5) (1 + n9)) (m := n14) hn ho hr2 kc (by omega)
         have E2 := codes_E2 (c := codeL (5 + n5) (1 + n9)) (m := n14) hn ho hr2 kc (by omega)
         have E3 := codes_E3 (c := codeL (5 + n5) (1 + n9)) (k := n10 - 200) hn ho hr2 kc
         rw [← s15, ← s12, ← h28] at E1 E2
         rw [← h28, ← s17, ← s12] at E3
         refine req_i ?_ ?_
         · -- r48
          first | omega | assumption | grind
         refine req_i ?_ ?_
         · -- r49
          first | omega | assumption | grind
         refine req_i ?_ ?_
         · -- r50
          first | omega | ((try simp only [Int.toNat_natCast, List.length_cons, List.length_nil]); first | done | omega | assumption | grind [getD_set, getD_rep, toNat_succ, cntN_yes, cntN_no])
         refine req_i ?_ ?_
         · -- r51
          first | omega | ((try simp only [Int.toNat_natCast, List.length_cons, List.length_nil, Nat.mul_eq, Nat.sub_eq, Nat.sub_zero]); first | done | omega | assumption | grind [getD_set, getD_rep, toNat_succ, cntN_yes, cntN_no])
         refine req_i ?_ ?_
         · -- r52
          first | omega | assumption | grind
         refine req_i ?_ ?_
         · -- r53
          first | omega | ((try simp only [Int.toNat_natCast, List.length_take, List.take_length, List.take_take, Nat.min_self, List.length_drop, List.drop_zero, List.length_cons, List.length_nil, Nat.sub_eq, Nat.sub_zero]); first | done | omega | assumption | grind [getD_set, getD_rep, toNat_succ, cntN_yes, cntN_no])
         refine req_i ?_ ?_
         · -- r54
          first | assumption | exact rep_bd (by omega) (by omega) | exact set_bd (by assumption) (by omega) (by omega) | exact take_bd (by assumption) | ((try simp only [Int.toNat_natCast, List.length_take, List.take_length, List.take_take, Nat.min_self, List.length_drop, List.drop_zero, List.length_cons, List.length_nil, Nat.sub_eq, Nat.sub_zero]); first | assumption | exact rep_bd (by omega) (by omega) | exact set_bd (by assumption) (by omega) (by omega) | exact take_bd (by assumption) | grind [getD_set, getD_rep, toNat_succ, cntN_yes, cntN_no])
         refine req_i ?_ ?_
         · -- r55
          first | omega | ((try simp only [Nat.mul_eq]); first | done | omega | assumption | grind [getD_set, getD_rep, toNat_succ, cntN_yes, cntN_no])
         refine req_i ?_ ?_
         · -- r56
          first | omega | ((try simp only [Nat.zero_add]); first | done | omega | assumption | grind [getD_set, getD_rep, toNat_succ, cntN_yes, cntN_no])
         refine req_i ?_ ?_
         · -- r57
          first | omega | ((try simp only [List.length_take, List.take_length, List.take_take, Nat.min_self, List.length_drop, List.drop_zero, List.length_cons, List.length_nil]); first | done | omega | assumption | grind [getD_set, getD_rep, toNat_succ, cntN_yes, cntN_no])
         refine req_i ?_ ?_
         · -- r58
          first | assumption | exact rep_bd (by omega) (by omega) | exact set_bd (by assumption) (by omega) (by omega) | exact take_bd (by assumption) | ((try simp only [List.length_take, List.take_length, List.take_take, Nat.min_self, List.length_drop, List.drop_zero, List.length_cons, List.length_nil]); first | assumption | exact rep_bd (by omega) (by omega) | exact set_bd (by assumption) (by omega) (by omega) | exact take_bd (by assumption) | grind [getD_set, getD_rep, toNat_succ, cntN_yes, cntN_no])
         refine req_i ?_ ?_
         · -- r59
          first | omega | ((try simp only [sigEquG, cW, equGP, List.cons.injEq, DV.b.injEq, and_true, Int.toNat_natCast, List.length_take, List.take_length, List.take_take, Nat.min_self, List.length_drop, List.drop_zero, List.length_cons, List.length_nil, Nat.sub_eq, Nat.sub_zero]); first | done | omega | assumption | grind [getD_set, getD_rep, toNat_succ, cntN_yes, cntN_no])
         refine all_i fun b20 => ?_
         refine imp_i fun h59 => ?_
         try simp only [sigEquG, cW, equGP, List.cons.injEq, DV.b.injEq, and_true, Int.toNat_natCast, List.length_take, List.take_length, List.take_take, Nat.min_self, List.length_drop, List.drop_zero, List.length_cons, List.length_nil, Nat.sub_eq, Nat.sub_zero] at h59
         have B1 : b20 = true := by
           rw [h59]; simpa using E1
         refine bR_i (fun h60 => ?_) (fun h60 => ?_)
         ·
          refine req_i ?_ ?_
          · -- r60
           first | omega | assumption | grind
          refine req_i ?_ ?_
          · -- r61
           first | omega | ((try simp only [Int.toNat_natCast, List.length_cons, List.length_nil]); first | done | omega | assumption | grind [getD_set, getD_rep, toNat_succ, cntN_yes, cntN_no])
          refine req_i ?_ ?_
          · -- r62
           first | omega | ((try simp only [Nat.zero_add]); first | done | omega | assumption | grind [getD_set, getD_rep, toNat_succ, cntN_yes, cntN_no])
          refine req_i ?_ ?_
          · -- r63
           first | omega | assumption | grind
          refine req_i ?_ ?_
          · -- r64
           first | omega | ((try simp only [Nat.zero_add]); first | done | omega | assumption | grind [getD_set, getD_rep, toNat_succ, cntN_yes, cntN_no])
          refine req_i ?_ ?_
          · -- r65
           first | omega | ((try simp only [Int.toNat_natCast, List.length_cons, List.length_nil, Nat.add_eq, Nat.zero_add, Nat.mul_eq, Nat.sub_eq, Nat.sub_zero]); first | done | omega | assumption | grind [getD_set, getD_rep, toNat_succ, cntN_yes, cntN_no])
          refine req_i ?_ ?_
          · -- r66
           first | omega | ((try simp only [Int.toNat_natCast, List.length_cons, List.length_nil, Nat.sub_eq, Nat.sub_zero]); first | done | omega | assumption | grind [getD_set, getD_rep, toNat_succ, cntN_yes, cntN_no])
          refine req_i ?_ ?_
          · -- r67
           first | omega | ((try simp only [Int.toNat_natCast, List.length_take, List.take_length, List.take_take, Nat.min_self, List.length_drop, List.drop_zero, List.length_cons, List.length_nil, Nat.add_eq, Nat.zero_add, Nat.sub_eq, Nat.sub_zero]); first | done | omega | assumption | grind [getD_set, getD_rep, toNat_succ, cntN_yes, cntN_no])
          refine req_i ?_ ?_
          · -- r68
           first | assumption | exact rep_bd (by omega) (by omega) | exact set_bd (by assumption) (by omega) (by omega) | exact take_bd (by assumption) | ((try simp only [Int.toNat_natCast, List.length_take, List.take_length, List.take_take, Nat.min_self, List.length_drop, List.drop_zero, List.length_cons, List.length_nil, Nat.add_eq, Nat.zero_add, Nat.sub_eq, Nat.sub_zero]); first | assumption | exact rep_bd (by omega) (by omega) | exact set_bd (by assumption) (by omega) (by omega) | exact take_bd (by assumption) | grind [getD_set, getD_rep, toNat_succ, cntN_yes, cntN_no])
          refine req_i ?_ ?_
          · -- r69
           first | omega | ((try simp only [Nat.mul_eq]); first | done | omega | assumption | grind [getD_set, getD_rep, toNat_succ, cntN_yes, cntN_no])
          refine req_i ?_ ?_
          · -- r70
           first | omega | assumption | grind
          refine req_i ?_ ?_
          · -- r71
           first | omega | ((try simp only [List.length_take, List.take_length, List.take_take, Nat.min_self, List.length_drop, List.drop_zero, List.length_cons, List.length_nil]); first | done | omega | assumption | grind [getD_set, getD_rep, toNat_succ, cntN_yes, cntN_no])
          refine req_i ?_ ?_
          · -- r72
           first | assumption | exact rep_bd (by omega) (by omega) | exact set_bd (by assumption) (by omega) (by omega) | exact take_bd (by assumption) | ((try simp only [List.length_take, List.take_length, List.take_take, Nat.min_self, List.length_drop, List.drop_zero, List.length_cons, List.length_nil]); first | assumption | exact rep_bd (by omega) (by omega) | exact set_bd (by assumption) (by omega) (by omega) | exact take_bd (by assumption) | grind [getD_set, getD_rep, toNat_succ, cntN_yes, cntN_no])
          refine req_i ?_ ?_
          · -- r73
           first | omega | ((try simp only [sigEquG, cW, equGP, List.cons.injEq, DV.b.injEq, and_true, Int.toNat_natCast, List.length_take, List.take_length, List.take_take, Nat.min_self, List.length_drop, List.drop_zero, List.length_cons, List.length_nil, Nat.add_eq, Nat.zero_add, Nat.sub_eq, Nat.sub_zero]); first | done | omega | assumption | grind [getD_set, getD_rep, toNat_succ, cntN_yes, cntN_no])
          refine all_i fun b21 => ?_
          refine imp_i fun h61 => ?_
          try simp only [sigEquG, cW, equGP, List.cons.injEq, DV.b.injEq, and_true, Int.toNat_natCast, List.length_take, List.take_length, List.take_take, Nat.min_self, List.length_drop, List.drop_zero, List.length_cons, List.length_nil, Nat.add_eq, Nat.zero_add, Nat.sub_eq, Nat.sub_zero] at h61
          have B2 : b21 = true := by
            rw [h61, ← E2]; (try simp only [Nat.zero_add, Nat.add_eq, Nat.sub_eq, List.drop_zero]); exact List.take_of_length_le (by rw [List.length_drop]; exact Nat.le_refl _)
          refine bR_i (fun h62 => ?_) (fun h62 => ?_)
          ·
           refine req_i ?_ ?_
           · -- r74
            first | omega | assumption | grind
           refine req_i ?_ ?_
           · -- r75
            first | omega | assumption | grind
           refine req_i ?_ ?_
           · -- r76
            first | omega | assumption | grind
           refine req_i ?_ ?_
           · -- r77
            first | omega | assumption | grind
           refine req_i ?_ ?_
           · -- r78
            first | trivial | assumption | (simp only [sigTurn, pickGP, List.cons.injEq, DV.b.injEq, and_true, List.length_cons, List.length_nil]; done) | ((try simp only [sigTurn, pickGP, List.cons.injEq, DV.b.injEq, and_true, List.length_cons, List.length_nil]); first | omega | assumption | grind)
           refine all_i fun n22 => ?_
           refine imp_i fun h63 => ?_
           refine imp_i fun h64 => ?_
           refine imp_i fun h65 => ?_
           try simp only [sigTurn, pickGP, List.cons.injEq, DV.b.injEq, and_true, List.length_cons, List.length_nil] at h65
           refine all_i fun n23 => ?_
           refine imp_i fun h66 => ?_
           simp only [wrap_i64] at h66
           have kb := codes_kb (k := n10 - 200) hn ho
           rw [h65, h16] at h66
           replace h66 : n23 = (n10 - 200) % nG (5 + n5) * opI (.shl .i64) 1 n6 := by omega
           refine imp_i fun h67 => ?_
           refine imp_i fun h68 => ?_
           refine req_i ?_ ?_
           · -- r79
            first | omega | ((try simp only [Nat.mul_eq]); first | done | omega | assumption | grind [getD_set, getD_rep, toNat_succ, cntN_yes, cntN_no])
           refine req_i ?_ ?_
           · -- r80
            first | omega | ((try simp only [Nat.zero_add]); first | done | omega | assumption | grind [getD_set, getD_rep, toNat_succ, cntN_yes, cntN_no])
           refine req_i ?_ ?_
           · -- r81
            first | omega | ((try simp only [List.length_take, List.take_length, List.take_take, Nat.min_self, List.length_drop, List.drop_zero, List.length_cons, List.length_nil]); first | done | omega | assumption | grind [getD_set, getD_rep, toNat_succ, cntN_yes, cntN_no])
           refine req_i ?_ ?_
           · -- r82
            first | assumption | exact rep_bd (by omega) (by omega) | exact set_bd (by assumption) (by omega) (by omega) | exact take_bd (by assumption) | ((try simp only [List.length_take, List.take_length, List.take_take, Nat.min_self, List.length_drop, List.drop_zero, List.length_cons, List.length_nil]); first | assumption | exact rep_bd (by omega) (by omega) | exact set_bd (by assumption) (by omega) (by omega) | exact take_bd (by assumption) | grind [getD_set, getD_rep, toNat_succ, cntN_yes, cntN_no])
           refine req_i ?_ ?_
           · -- r83
            first | omega | assumption | grind
           refine req_i ?_ ?_
           · -- r84
            first | omega | assumption | grind
           refine req_i ?_ ?_
           · -- r85
            first | trivial | assumption | (simp only [sigRotd, cC2, rotPost, List.cons.injEq, DV.b.injEq, and_true, List.length_take, List.take_length, List.take_take, Nat.min_self, List.length_drop, List.drop_zero, List.length_cons, List.length_nil]; done) | ((try simp only [sigRotd, cC2, rotPost, List.cons.injEq, DV.b.injEq, and_true, List.length_take, List.take_length, List.take_take, Nat.min_self, List.length_drop, List.drop_zero, List.length_cons, List.length_nil]); first | omega | assumption | grind)
           refine all_i fun l24 => ?_
           refine imp_i fun h69 => ?_
           refine imp_i fun h70 => ?_
           refine imp_i fun h71 => ?_
           try simp only [sigRotd, cC2, rotPost, List.cons.injEq, DV.b.injEq, and_true, List.length_take, List.take_length, List.take_take, Nat.min_self, List.length_drop, List.drop_zero, List.length_cons, List.length_nil] at h71
           rw [h66, ← E3] at h71
           refine req_i ?_ ?_
           · -- r86
            first | omega | ((try simp only [Nat.mul_eq]); first | done | omega | assumption | grind [getD_set, getD_rep, toNat_succ, cntN_yes, cntN_no])
           refine req_i ?_ ?_
           · -- r87
            first | omega | ((try simp only [Nat.zero_add]); first | done | omega | assumption | grind [getD_set, getD_rep, toNat_succ, cntN_yes, cntN_no])
           refine req_i ?_ ?_
           · -- r88
            first | omega | ((try simp only [List.length_take, List.take_length, List.take_take, Nat.min_self, List.length_drop, List.drop_zero, List.length_cons, List.length_nil]); first | done | omega | assumption | grind [getD_set, getD_rep, toNat_succ, cntN_yes, cntN_no])
           refine req_i ?_ ?_
           · -- r89
            first | assumption | exact rep_bd (by omega) (by omega) | exact set_bd (by assumption) (by omega) (by omega) | exact take_bd (by assumption) | ((try simp only [List.length_take, List.take_length, List.take_take, Nat.min_self, List.length_drop, List.drop_zero, List.length_cons, List.length_nil]); first | assumption | exact rep_bd (by omega) (by omega) | exact set_bd (by assumption) (by omega) (by omega) | exact take_bd (by assumption) | grind [getD_set, getD_rep, toNat_succ, cntN_yes, cntN_no])
           refine req_i ?_ ?_
           · -- r90
            first | omega | ((try simp only [Nat.mul_eq]); first | done | omega | assumption | grind [getD_set, getD_rep, toNat_succ, cntN_yes, cntN_no])
           refine req_i ?_ ?_
           · -- r91
            first | omega | ((try simp only [Nat.zero_add]); first | done | omega | assumption | grind [getD_set, getD_rep, toNat_succ, cntN_yes, cntN_no])
           refine req_i ?_ ?_
           · -- r92
            first | omega | ((try simp only [List.length_take, List.take_length, List.take_take, Nat.min_self, List.length_drop, List.drop_zero, List.length_cons, List.length_nil]); first | done | omega | assumption | grind [getD_set, getD_rep, toNat_succ, cntN_yes, cntN_no])
           refine req_i ?_ ?_
           · -- r93
            first | assumption | exact rep_bd (by omega) (by omega) | exact set_bd (by assumption) (by omega) (by omega) | exact take_bd (by assumption) | ((try simp only [List.length_take, List.take_length, List.take_take, Nat.min_self, List.length_drop, List.drop_zero, List.length_cons, List.length_nil]); first | assumption | exact rep_bd (by omega) (by omega) | exact set_bd (by assumption) (by omega) (by omega) | exact take_bd (by assumption) | grind [getD_set, getD_rep, toNat_succ, cntN_yes, cntN_no])
           refine req_i ?_ ?_
           · -- r94
            first | omega | ((try simp only [sigEquG, cW, equGP, List.cons.injEq, DV.b.injEq, and_true, List.length_take, List.take_length, List.take_take, Nat.min_self, List.length_drop, List.drop_zero, List.length_cons, List.length_nil]); first | done | omega | assumption | grind [getD_set, getD_rep, toNat_succ, cntN_yes, cntN_no])
           refine all_i fun b25 => ?_
           refine imp_i fun h72 => ?_
           try simp only [sigEquG, cW, equGP, List.cons.injEq, DV.b.injEq, and_true, List.length_take, List.take_length, List.take_take, Nat.min_self, List.length_drop, List.drop_zero, List.length_cons, List.length_nil] at h72
           refine req_i ?_ ?_
           · -- r95
            first | omega | ((try simp only [sigNG4, sigNG, List.cons.injEq, DV.b.injEq, and_true, List.length_cons, List.length_nil]); first | done | omega | assumption | grind [getD_set, getD_rep, toNat_succ, cntN_yes, cntN_no])
           rfl
          ·
           refine req_i ?_ ?_
           · -- r96
            first | omega | ((try simp only [sigNG4, sigNG, List.cons.injEq, DV.b.injEq, and_true, List.length_cons, List.length_nil]); first | done | omega | assumption | grind [getD_set, getD_rep, toNat_succ, cntN_yes, cntN_no])
           rfl
         ·
          refine req_i ?_ ?_
          · -- r97
           first | omega | ((try simp only [sigNG4, sigNG, List.cons.injEq, DV.b.injEq, and_true, List.length_cons, List.length_nil]); first | done | omega | assumption | grind [getD_set, getD_rep, toNat_succ, cntN_yes, cntN_no])
          rfl
        ·
         refine req_i ?_ ?_
         · -- r98
          first | omega | ((try simp only [sigNG4, sigNG, List.cons.injEq, DV.b.injEq, and_true, List.length_cons, List.length_nil]); first | done | omega | assumption | grind [getD_set, getD_rep, toNat_succ, cntN_yes, cntN_no])
         rfl
theorem ext_NcoCodes : ∀ p ∈ ([(3, Ext.ctr (ctOfG gl11 sigTrue0)), (28, Ext.ctr (ctOfG gl11 sigTurn)), (31, Ext.ctr (ctOfG gl11 sigRotd)), (30, Ext.ctr (ctOfG gl11 sigSampC)), (17, Ext.ctr (ctOfG gl11 sigChips)), (19, Ext.ctr (ctOfG gl11 sigEquG))] : List (Nat × Ext)), ExtRow Tryd.prog p.1 p.2 := by
  intro p hp
  simp only [List.mem_cons, List.not_mem_nil, or_false] at hp
  rcases hp with rfl | rfl | rfl | rfl | rfl | rfl
  · trivial
  · trivial
  · trivial
  · trivial
  · trivial
  · trivial
theorem cts_NcoCodes : CtsOk Tryd.prog [(3, Ext.ctr (ctOfG gl11 sigTrue0)), (28, Ext.ctr (ctOfG gl11 sigTurn)), (31, Ext.ctr (ctOfG gl11 sigRotd)), (30, Ext.ctr (ctOfG gl11 sigSampC)), (17, Ext.ctr (ctOfG gl11 sigChips)), (19, Ext.ctr (ctOfG gl11 sigEquG))] := ctsOk_ofG (cs := [(3, sigTrue0), (28, sigTurn), (31, sigRotd), (30, sigSampC), (17, sigChips), (19, sigEquG)])
  (fun p hp => by
    simp only [List.mem_cons, List.not_mem_nil, or_false] at hp
    rcases hp with rfl | rfl | rfl | rfl | rfl | rfl
    · exact fn_known
    · exact fn_turnG
    · exact fn_rotd
    · exact fn_samp
    · exact fn_chips
    · exact fn_equ
)
  (fun f c h => by
    simp only [List.lookup_cons] at h
    repeat' split at h
    all_goals first | (cases h; done) | (rename_i e; have e := beq_iff_eq.1 e; subst e; cases h; refine ⟨_, ?_, rfl⟩; simp))
theorem fn_NcoCodes : FnOk Tryd.prog 10 sigNG4 gl11 := fn_sound (by kernel_rfl) ext_NcoCodes cts_NcoCodes names vt_NcoCodes
end Go.Proofs.YtblcahackjpnjaaDoor

