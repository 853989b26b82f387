import Derived.Test.YtemcaojbhfgpgaaSpec13e
import Derived.Test.YtemcaojbhfgpgaaRows
import Derived.Test.YtemcaojbhfgpgaaFnames
import Derived.Test.YtemcaojbhfgpgaaFchkG
import Derived.Test.YtemcaojbhfgpgaaFchkS
namespace Go.Proofs.Ytemcaojbhfgpgaa
open Go.Ev Go.Sp
set_option maxRecDepth 100000
theorem vc_chkA : vcFn Try.prog [(21, Ext.ctr (ctOf sigChkG)), (34, Ext.ctr (ctOf sigChkS))] tab [] 100 31 sigChkA = (allB fun l0 : List Int => 
impB (l0.length ≤ (9223372036854775807 : Nat)) (
impB (∀ (y : Int), y ∈ l0 → (-9223372036854775808 : Int) ≤ y ∧ y ≤ (9223372036854775807 : Int)) (
allB fun l1 : List Int => 
impB (l1.length = l0.length) (
impB (∀ (y : Int), y ∈ l1 → (-9223372036854775808 : Int) ≤ y ∧ y ≤ (9223372036854775807 : Int)) (
allB fun n2 : Int => 
impB ((-9223372036854775808 : Int) ≤ n2) (
impB (n2 ≤ (9223372036854775807 : Int)) (
allB fun n3 : Int => 
impB ((-9223372036854775808 : Int) ≤ n3) (
impB (n3 ≤ (9223372036854775807 : Int)) (
impB (sigChkA.pre [DV.l l0, DV.l l1, DV.n n2, DV.n n3]) (
reqB ((-9223372036854775808 : Int) ≤ n2) (
reqB (n2 ≤ (9223372036854775807 : Int)) (
reqB ((-9223372036854775808 : Int) ≤ n3) (
reqB (n3 ≤ (9223372036854775807 : Int)) (
reqB (sigChkG.pre [DV.n n2, DV.n n3]) (
allB fun n4 : Int => 
impB ((0 : Int) ≤ n4) (
impB (n4 ≤ (18 : Int)) (
impB (sigChkG.post [DV.n n2, DV.n n3] [DV.n n4]) (
bR (dec (n4 ≠ (0 : Int))) (
 reqB ((0 : Int) ≤ n4) (
 reqB (n4 ≤ (18 : Int)) (
 reqB (sigChkA.post [DV.l l0, DV.l l1, DV.n n2, DV.n n3] [DV.n n4]) (
 true)))) (
 reqB (((0 : Nat) + l0.length) * (2 : Nat) ≤ l0.length.mul (2 : Nat)) (
 reqB (l0.length ≤ (9223372036854775807 : Nat)) (
 reqB ((List.take l0.length (List.drop (0 : Nat) l0)).length = l0.length) (
 reqB (∀ (y : Int),
  y ∈ List.take l0.length (List.drop (0 : Nat) l0) → (-9223372036854775808 : Int) ≤ y ∧ y ≤ (9223372036854775807 : Int)) (
 reqB ((List.take l0.length (List.drop (0 : Nat) l1)).length = l0.length) (
 reqB (∀ (y : Int),
  y ∈ List.take l0.length (List.drop (0 : Nat) l1) → (-9223372036854775808 : Int) ≤ y ∧ y ≤ (9223372036854775807 : Int)) (
 reqB (sigChkS.pre
  [DV.l (List.take l0.length (List.drop (0 : Nat) l0)), DV.l (List.take l0.length (List.drop (0 : Nat) l1)),
    DV.n (70368744177664 : Int)]) (
 allB fun n5 : Int => 
 impB ((0 : Int) ≤ n5) (
 impB (n5 ≤ (18 : Int)) (
 impB (sigChkS.post
  [DV.l (List.take l0.length (List.drop (0 : Nat) l0)), DV.l (List.take l0.length (List.drop (0 : Nat) l1)),
    DV.n (70368744177664 : Int)]
  [DV.n n5]) (
 reqB ((0 : Int) ≤ n5) (
 reqB (n5 ≤ (18 : Int)) (
 reqB (sigChkA.post [DV.l l0, DV.l l1, DV.n n2, DV.n n3] [DV.n n5]) (
 true)))))))))))))))))))))))))))))))) := by kernel_rfl
set_option maxHeartbeats 8000000 in
theorem vt_chkA : vcFn Try.prog [(21, Ext.ctr (ctOf sigChkG)), (34, Ext.ctr (ctOf sigChkS))] tab [] 100 31 sigChkA = true := by
  rw [vc_chkA]
  try simp only [Int.toNat_natCast, List.length_set, List.length_replicate, List.length_take, List.length_drop, List.length_append, List.length_cons, List.length_nil, Nat.min_self, List.take_take, lenCols_i, lenCols_b, List.drop_zero, List.take_length, Nat.add_eq, Nat.mul_eq, Nat.sub_eq, Nat.zero_add, Nat.sub_zero, Nat.mul_one]
  refine all_i fun l0 => ?_
  refine imp_i fun h0 => ?_
  refine imp_i fun h1 => ?_
  refine all_i fun l1 => ?_
  refine imp_i fun h2 => ?_
  have tkl1 := take_eq h2
  try simp only [tkl1]
  refine imp_i fun h3 => ?_
  refine all_i fun n2 => ?_
  refine imp_i fun h4 => ?_
  refine imp_i fun h5 => ?_
  refine all_i fun n3 => ?_
  refine imp_i fun h6 => ?_
  refine imp_i fun h7 => ?_
  refine imp_i fun h8 => ?_
  try simp only [sigChkA, chkAPost, List.cons.injEq, DV.b.injEq, and_true, List.length_cons, List.length_nil] at h8
  refine req_i ?_ ?_
  · -- r0
    first | omega | assumption | grind
  refine req_i ?_ ?_
  · -- r1
    first | omega | assumption | grind
  refine req_i ?_ ?_
  · -- r2
    first | omega | assumption | grind
  refine req_i ?_ ?_
  · -- r3
    first | omega | assumption | grind
  refine req_i ?_ ?_
  · -- r4
    first | trivial | assumption | (simp only [sigChkG, chkGPost, List.cons.injEq, DV.b.injEq, and_true, List.length_cons, List.length_nil]; done) | ((try simp only [sigChkG, chkGPost, List.cons.injEq, DV.b.injEq, and_true, List.length_cons, List.length_nil]); first | omega | assumption | grind)
  refine all_i fun n4 => ?_
  refine imp_i fun h9 => ?_
  refine imp_i fun h10 => ?_
  refine imp_i fun h11 => ?_
  try simp only [sigChkG, chkGPost, List.cons.injEq, DV.b.injEq, and_true, List.length_cons, List.length_nil] at h11
  refine bR_dec (fun h12 => ?_) (fun h12 => ?_)
  ·
    refine req_i ?_ ?_
    · -- r5
      first | omega | assumption | grind
    refine req_i ?_ ?_
    · -- r6
      first | omega | assumption | grind
    refine req_i ?_ ?_
    · -- r7
      simp only [sigChkA, chkAPost, errS]; rw [if_neg (by omega)]; exact h11
    rfl
  ·
    refine req_i ?_ ?_
    · -- r8
      first | omega | ((try simp only [Nat.mul_eq]); first | done | omega | assumption | grind [getD_set, getD_rep, toNat_succ, cntN_yes, cntN_no])
    refine req_i ?_ ?_
    · -- r9
      first | omega | ((try simp only [Nat.zero_add]); first | done | omega | assumption | grind [getD_set, getD_rep, toNat_succ, cntN_yes, cntN_no])
    refine req_i ?_ ?_
    · -- r10
      first | omega | ((try simp only [List.length_take, List.take_length, List.take_take, Nat.min_self, List.length_drop, List.drop_zero, List.length_cons, List.length_nil]); first | done | omega | assumption | grind [getD_set, getD_rep, toNat_succ, cntN_yes, cntN_no])
    refine req_i ?_ ?_
    · -- r11
      first | assumption | exact rep_bd (by omega) (by omega) | exact set_bd (by assumption) (by omega) (by omega) | exact take_bd (by assumption) | ((try simp only [List.length_take, List.take_length, List.take_take, Nat.min_self, List.length_drop, List.drop_zero, List.length_cons, List.length_nil]); first | assumption | exact rep_bd (by omega) (by omega) | exact set_bd (by assumption) (by omega) (by omega) | exact take_bd (by assumption) | grind [getD_set, getD_rep, toNat_succ, cntN_yes, cntN_no])
    refine req_i ?_ ?_
    · -- r12
      first | omega | ((try simp only [List.length_take, List.take_length, List.take_take, Nat.min_self, List.length_drop, List.drop_zero, List.length_cons, List.length_nil]); first | done | omega | assumption | grind [getD_set, getD_rep, toNat_succ, cntN_yes, cntN_no])
    refine req_i ?_ ?_
    · -- r13
      first | assumption | exact rep_bd (by omega) (by omega) | exact set_bd (by assumption) (by omega) (by omega) | exact take_bd (by assumption) | ((try simp only [List.length_take, List.take_length, List.take_take, Nat.min_self, List.length_drop, List.drop_zero, List.length_cons, List.length_nil]); first | assumption | exact rep_bd (by omega) (by omega) | exact set_bd (by assumption) (by omega) (by omega) | exact take_bd (by assumption) | grind [getD_set, getD_rep, toNat_succ, cntN_yes, cntN_no])
    refine req_i ?_ ?_
    · -- r14
      first | omega | ((try simp only [sigChkS, chkSPost, List.cons.injEq, DV.b.injEq, and_true, List.length_take, List.take_length, List.take_take, Nat.min_self, List.length_drop, List.drop_zero, List.length_cons, List.length_nil]); first | done | omega | assumption | grind [getD_set, getD_rep, toNat_succ, cntN_yes, cntN_no])
    refine all_i fun n5 => ?_
    refine imp_i fun h13 => ?_
    refine imp_i fun h14 => ?_
    refine imp_i fun h15 => ?_
    try simp only [sigChkS, chkSPost, List.cons.injEq, DV.b.injEq, and_true, List.length_take, List.take_length, List.take_take, Nat.min_self, List.length_drop, List.drop_zero, List.length_cons, List.length_nil] at h15
    refine req_i ?_ ?_
    · -- r15
      first | omega | assumption | grind
    refine req_i ?_ ?_
    · -- r16
      first | omega | assumption | grind
    refine req_i ?_ ?_
    · -- r17
      simp only [sigChkA, chkAPost, errS]; rw [if_pos (by omega)]; exact h15
    rfl
theorem ext_chkA : ∀ p ∈ ([(21, Ext.ctr (ctOf sigChkG)), (34, Ext.ctr (ctOf sigChkS))] : List (Nat × Ext)), ExtRow Try.prog p.1 p.2 := by
  intro p hp
  simp only [List.mem_cons, List.not_mem_nil, or_false] at hp
  rcases hp with rfl | rfl <;> trivial
theorem cts_chkA : CtsOk Try.prog [(21, Ext.ctr (ctOf sigChkG)), (34, Ext.ctr (ctOf sigChkS))] := ctsOk_of (cs := [(21, sigChkG), (34, sigChkS)])
  (fun p hp => by
    simp only [List.mem_cons, List.not_mem_nil, or_false] at hp
    rcases hp with rfl | rfl
    · exact fn_chkG
    · exact fn_chkS
)
  (fun f c h => by
    simp only [List.lookup_cons] at h
    repeat' split at h
    all_goals first | (cases h; done) | (rename_i e; have e := beq_iff_eq.1 e; subst e; cases h; exact ⟨_, by simp, rfl⟩))
theorem fn_chkA : FnOk Try.prog 31 sigChkA [] := fn_sound (by kernel_rfl) ext_chkA cts_chkA names vt_chkA
end Go.Proofs.Ytemcaojbhfgpgaa
