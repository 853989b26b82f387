import Derived.Test.YtemcaojbhfgpgaaSpec13e
import Derived.Test.YtemcaojbhfgpgaaRows
import Derived.Test.YtemcaojbhfgpgaaFnames
import Derived.Test.YtemcaojbhfgpgaaFchkA
import Derived.Test.YtemcaojbhfgpgaaFlev
import Derived.Test.YtemcaojbhfgpgaaFlost
namespace Go.Proofs.Ytemcaojbhfgpgaa
open Go.Ev Go.Sp
set_option maxRecDepth 100000
theorem vc_level : vcFn Try.prog [(31, Ext.ctr (ctOf sigChkA)), (32, Ext.ctr (ctOf sigLev)), (33, Ext.ctr (ctOf sigLost))] tab [] 100 10 sigLevel = (allB fun n0 : Int => 
impB ((2 : Int) ≤ n0) (
impB (n0 ≤ (8 : Int)) (
allB fun n1 : Int => 
impB ((0 : Int) ≤ n1) (
impB (n1 ≤ (30 : Int)) (
allB fun n2 : Int => 
impB ((-70368744177664 : Int) ≤ n2) (
impB (n2 ≤ (70368744177664 : Int)) (
impB (sigLevel.pre [DV.n n0, DV.n n1, DV.n n2]) (
reqB ((1 : Nat) ≤ (9223372036854775807 : Nat)) (
reqB ([n2].length = (1 : Nat)) (
reqB (∀ (y : Int), y ∈ [n2] → (-9223372036854775808 : Int) ≤ y ∧ y ≤ (9223372036854775807 : Int)) (
reqB ([(0 : Int)].length = (1 : Nat)) (
reqB (∀ (y : Int), y ∈ [(0 : Int)] → (-9223372036854775808 : Int) ≤ y ∧ y ≤ (9223372036854775807 : Int)) (
reqB ((-9223372036854775808 : Int) ≤ n0) (
reqB (n0 ≤ (9223372036854775807 : Int)) (
reqB ((-9223372036854775808 : Int) ≤ n1) (
reqB (n1 ≤ (9223372036854775807 : Int)) (
reqB (sigChkA.pre [DV.l [n2], DV.l [(0 : Int)], DV.n n0, DV.n n1]) (
allB fun n3 : Int => 
impB ((0 : Int) ≤ n3) (
impB (n3 ≤ (18 : Int)) (
impB (sigChkA.post [DV.l [n2], DV.l [(0 : Int)], DV.n n0, DV.n n1] [DV.n n3]) (
bR (dec (n3 ≠ (0 : Int))) (
 reqB ((0 : Int) ≤ n3) (
 reqB (n3 ≤ (18 : Int)) (
 reqB (sigLevel.post [DV.n n0, DV.n n1, DV.n n2]
  [DV.n (0 : Int), DV.b Bool.false, DV.n n3]) (
 true)))) (
 reqB ((2 : Int) ≤ n0) (
 reqB (n0 ≤ (8 : Int)) (
 reqB ((0 : Int) ≤ n1) (
 reqB (n1 ≤ (30 : Int)) (
 reqB ((-70368744177664 : Int) ≤ n2) (
 reqB (n2 ≤ (70368744177664 : Int)) (
 reqB (sigLev.pre [DV.n n0, DV.n n1, DV.n n2]) (
 allB fun n4 : Int => 
 impB ((-127 : Int) ≤ n4) (
 impB (n4 ≤ (127 : Int)) (
 impB (sigLev.post [DV.n n0, DV.n n1, DV.n n2] [DV.n n4]) (
 reqB ((2 : Int) ≤ n0) (
 reqB (n0 ≤ (8 : Int)) (
 reqB ((0 : Int) ≤ n1) (
 reqB (n1 ≤ (30 : Int)) (
 reqB ((-70368744177664 : Int) ≤ n2) (
 reqB (n2 ≤ (70368744177664 : Int)) (
 reqB (sigLost.pre [DV.n n0, DV.n n1, DV.n n2]) (
 allB fun b5 : Bool => 
 impB (sigLost.post [DV.n n0, DV.n n1, DV.n n2] [DV.b b5]) (
 reqB ((-127 : Int) ≤ n4) (
 reqB (n4 ≤ (127 : Int)) (
 reqB (sigLevel.post [DV.n n0, DV.n n1, DV.n n2] [DV.n n4, DV.b b5, DV.n (0 : Int)]) (
 true))))))))))))))))))))))))))))))))))))))))))) := by kernel_rfl
set_option maxHeartbeats 8000000 in
theorem vt_level : vcFn Try.prog [(31, Ext.ctr (ctOf sigChkA)), (32, Ext.ctr (ctOf sigLev)), (33, Ext.ctr (ctOf sigLost))] tab [] 100 10 sigLevel = true := by
  rw [vc_level]
  try simp only [Int.toNat_natCast, List.length_set, List.length_replicate, List.length_take, List.length_drop, List.length_append, List.length_cons, List.length_nil, Nat.min_self, List.take_take, lenCols_i, lenCols_b, List.drop_zero, List.take_length, Nat.add_eq, Nat.mul_eq, Nat.sub_eq, Nat.zero_add, Nat.sub_zero, Nat.mul_one]
  refine all_i fun n0 => ?_
  refine imp_i fun h0 => ?_
  refine imp_i fun h1 => ?_
  refine all_i fun n1 => ?_
  refine imp_i fun h2 => ?_
  refine imp_i fun h3 => ?_
  refine all_i fun n2 => ?_
  refine imp_i fun h4 => ?_
  refine imp_i fun h5 => ?_
  refine imp_i fun h6 => ?_
  try simp only [sigLevel, levelPost, List.cons.injEq, DV.b.injEq, and_true, List.length_cons, List.length_nil] at h6
  refine req_i ?_ ?_
  · -- r0
    first | omega | assumption | grind
  refine req_i ?_ ?_
  · -- r1
    first | omega | ((try simp only [List.length_cons, List.length_nil]); first | done | omega | assumption | grind [getD_set, getD_rep, toNat_succ, cntN_yes, cntN_no])
  refine req_i ?_ ?_
  · -- r2
    first | assumption | exact rep_bd (by omega) (by omega) | exact set_bd (by assumption) (by omega) (by omega) | exact take_bd (by assumption) | ((try simp only [List.length_cons, List.length_nil]); first | assumption | exact rep_bd (by omega) (by omega) | exact set_bd (by assumption) (by omega) (by omega) | exact take_bd (by assumption) | grind [getD_set, getD_rep, toNat_succ, cntN_yes, cntN_no])
  refine req_i ?_ ?_
  · -- r3
    first | omega | ((try simp only [List.length_cons, List.length_nil]); first | done | omega | assumption | grind [getD_set, getD_rep, toNat_succ, cntN_yes, cntN_no])
  refine req_i ?_ ?_
  · -- r4
    first | assumption | exact rep_bd (by omega) (by omega) | exact set_bd (by assumption) (by omega) (by omega) | exact take_bd (by assumption) | ((try simp only [List.length_cons, List.length_nil]); first | assumption | exact rep_bd (by omega) (by omega) | exact set_bd (by assumption) (by omega) (by omega) | exact take_bd (by assumption) | grind [getD_set, getD_rep, toNat_succ, cntN_yes, cntN_no])
  refine req_i ?_ ?_
  · -- r5
    first | omega | assumption | grind
  refine req_i ?_ ?_
  · -- r6
    first | omega | assumption | grind
  refine req_i ?_ ?_
  · -- r7
    first | omega | assumption | grind
  refine req_i ?_ ?_
  · -- r8
    first | omega | assumption | grind
  refine req_i ?_ ?_
  · -- r9
    first | trivial | assumption | (simp only [sigChkA, chkAPost, List.cons.injEq, DV.b.injEq, and_true, List.length_cons, List.length_nil]; done) | ((try simp only [sigChkA, chkAPost, List.cons.injEq, DV.b.injEq, and_true, List.length_cons, List.length_nil]); first | omega | assumption | grind)
  refine all_i fun n3 => ?_
  refine imp_i fun h7 => ?_
  refine imp_i fun h8 => ?_
  refine imp_i fun h9 => ?_
  try simp only [sigChkA, chkAPost, List.cons.injEq, DV.b.injEq, and_true, List.length_cons, List.length_nil] at h9
  rw [errS, if_pos (errG_0 (by omega)), errL_0 (by simp) (inS1 (by omega) (by omega) (by omega) (by omega))] at h9
  refine bR_dec (fun h10 => ?_) (fun h10 => ?_)
  ·
    refine req_i ?_ ?_
    · -- r10
      first | omega | assumption | grind
    refine req_i ?_ ?_
    · -- r11
      first | omega | assumption | grind
    refine req_i ?_ ?_
    · -- r12
      first | omega | ((try simp only [sigLevel, levelPost, List.cons.injEq, DV.b.injEq, and_true, List.length_cons, List.length_nil]); first | done | omega | assumption | grind [getD_set, getD_rep, toNat_succ, cntN_yes, cntN_no])
    rfl
  ·
    refine req_i ?_ ?_
    · -- r13
      first | omega | assumption | grind
    refine req_i ?_ ?_
    · -- r14
      first | omega | assumption | grind
    refine req_i ?_ ?_
    · -- r15
      first | omega | assumption | grind
    refine req_i ?_ ?_
    · -- r16
      first | omega | assumption | grind
    refine req_i ?_ ?_
    · -- r17
      first | omega | assumption | grind
    refine req_i ?_ ?_
    · -- r18
      first | omega | assumption | grind
    refine req_i ?_ ?_
    · -- r19
      first | trivial | assumption | (simp only [sigLev, levPost, List.cons.injEq, DV.b.injEq, and_true, List.length_cons, List.length_nil]; done) | ((try simp only [sigLev, levPost, List.cons.injEq, DV.b.injEq, and_true, List.length_cons, List.length_nil]); first | omega | assumption | grind)
    refine all_i fun n4 => ?_
    refine imp_i fun h11 => ?_
    refine imp_i fun h12 => ?_
    refine imp_i fun h13 => ?_
    try simp only [sigLev, levPost, List.cons.injEq, DV.b.injEq, and_true, List.length_cons, List.length_nil] at h13
    refine req_i ?_ ?_
    · -- r20
      first | omega | assumption | grind
    refine req_i ?_ ?_
    · -- r21
      first | omega | assumption | grind
    refine req_i ?_ ?_
    · -- r22
      first | omega | assumption | grind
    refine req_i ?_ ?_
    · -- r23
      first | omega | assumption | grind
    refine req_i ?_ ?_
    · -- r24
      first | omega | assumption | grind
    refine req_i ?_ ?_
    · -- r25
      first | omega | assumption | grind
    refine req_i ?_ ?_
    · -- r26
      first | trivial | assumption | (simp only [sigLost, lostPost, List.cons.injEq, DV.b.injEq, and_true, List.length_cons, List.length_nil]; done) | ((try simp only [sigLost, lostPost, List.cons.injEq, DV.b.injEq, and_true, List.length_cons, List.length_nil]); first | omega | assumption | grind)
    refine all_i fun b5 => ?_
    refine imp_i fun h14 => ?_
    try simp only [sigLost, lostPost, List.cons.injEq, DV.b.injEq, and_true, List.length_cons, List.length_nil] at h14
    refine req_i ?_ ?_
    · -- r27
      first | omega | assumption | grind
    refine req_i ?_ ?_
    · -- r28
      first | omega | assumption | grind
    refine req_i ?_ ?_
    · -- r29
      first | omega | ((try simp only [sigLevel, levelPost, List.cons.injEq, DV.b.injEq, and_true, List.length_cons, List.length_nil]); first | done | omega | assumption | grind [getD_set, getD_rep, toNat_succ, cntN_yes, cntN_no])
    rfl
theorem ext_level : ∀ p ∈ ([(31, Ext.ctr (ctOf sigChkA)), (32, Ext.ctr (ctOf sigLev)), (33, Ext.ctr (ctOf sigLost))] : List (Nat × Ext)), ExtRow Try.prog p.1 p.2 := by
  intro p hp
  simp only [List.mem_cons, List.not_mem_nil, or_false] at hp
  rcases hp with rfl | rfl | rfl <;> trivial
theorem cts_level : CtsOk Try.prog [(31, Ext.ctr (ctOf sigChkA)), (32, Ext.ctr (ctOf sigLev)), (33, Ext.ctr (ctOf sigLost))] := ctsOk_of (cs := [(31, sigChkA), (32, sigLev), (33, sigLost)])
  (fun p hp => by
    simp only [List.mem_cons, List.not_mem_nil, or_false] at hp
    rcases hp with rfl | rfl | rfl
    · exact fn_chkA
    · exact fn_lev
    · exact fn_lost
)
  (fun f c h => by
    simp only [List.lookup_cons] at h
    repeat' split at h
    all_goals first | (cases h; done) | (rename_i e; have e := beq_iff_eq.1 e; subst e; cases h; exact ⟨_, by simp, rfl⟩))
theorem fn_level : FnOk Try.prog 10 sigLevel [] := fn_sound (by kernel_rfl) ext_level cts_level names vt_level
end Go.Proofs.Ytemcaojbhfgpgaa
