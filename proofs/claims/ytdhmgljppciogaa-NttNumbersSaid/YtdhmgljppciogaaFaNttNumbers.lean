import Derived.Test.YtdhmgljppciogaaSpec10e
import Derived.Test.YtdhmgljppciogaaRows
import Derived.Test.YtdhmgljppciogaaFnames
namespace Go.Proofs.Ytdhmgljppciogaa
open Go.Ev Go.Sp
set_option maxRecDepth 100000
theorem vc_awake : vcFn Try.prog [] noA [] 1000 18 sigTrue0 = (impB (sigTrue0.pre []) (
reqB (sigTrue0.post [] [DV.b Bool.true]) (
true))) := by kernel_rfl
set_option maxHeartbeats 8000000 in
theorem vt_awake : vcFn Try.prog [] noA [] 1000 18 sigTrue0 = true := by
  rw [vc_awake]
  try simp only [bR_same, dec_same, bR_true, bR_false]
  simp only [allB_iff, impB_iff, reqB_iff, bR_iff, bR_iff_f, dec_iff, dec_f, reduceCtorEq, imp_false, Classical.not_not, implies_true, true_and, and_true]
  intro _
  first | rfl | trivial | simp [sigTrue0]
theorem ext_awake : ∀ p ∈ ([] : List (Nat × Ext)), ExtRow Try.prog p.1 p.2 := by
  intro p hp
  cases hp
theorem cts_awake : CtsOk Try.prog [] := fun f c h => by cases h
theorem fn_awake : FnOk Try.prog 18 sigTrue0 [] := fn_sound (by kernel_rfl) ext_awake cts_awake names vt_awake
end Go.Proofs.Ytdhmgljppciogaa

namespace Go.Proofs.Ytdhmgljppciogaa
open Go.Ev Go.Sp
set_option maxRecDepth 100000
theorem vc_power : vcFn Try.prog [] tab [] 100 30 sigPw = (allB fun n0 : Int => 
impB ((0 : Int) ≤ n0) (
impB (n0 ≤ (998244352 : Int)) (
allB fun n1 : Int => 
impB ((0 : Int) ≤ n1) (
impB (n1 ≤ (9223372036854775807 : Int)) (
impB (sigPw.pre [DV.n n0, DV.n n1]) (
reqB ((0 : Int) ≤ n0) (
reqB (n0 ≤ (998244352 : Int)) (
reqB ((0 : Int) ≤ n1) (
reqB (n1 ≤ (9223372036854775807 : Int)) (
reqB ((0 : Int) ≤ n0) (
reqB (n0 ≤ (998244352 : Int)) (
reqB ((0 : Int) ≤ n1) (
reqB (n1 ≤ (9223372036854775807 : Int)) (
reqB (pwL.inv [DV.n n0, DV.n n1] [DV.n (1 : Int), DV.n n0, DV.n n1]) (
allB fun n2 : Int => 
impB ((0 : Int) ≤ n2) (
impB (n2 ≤ (998244352 : Int)) (
allB fun n3 : Int => 
impB ((0 : Int) ≤ n3) (
impB (n3 ≤ (998244352 : Int)) (
allB fun n4 : Int => 
impB ((0 : Int) ≤ n4) (
impB (n4 ≤ (9223372036854775807 : Int)) (
impB (pwL.inv [DV.n n0, DV.n n1] [DV.n n2, DV.n n3, DV.n n4]) (
bR (dec ((0 : Int) < n4)) (
 bR (dec (n4.tmod (2 : Int) = (1 : Int))) (
  reqB ((0 : Int) ≤ (n2 * n3).tmod (998244353 : Int)) (
  reqB ((n2 * n3).tmod (998244353 : Int) ≤ (998244352 : Int)) (
  reqB ((0 : Int) ≤ (n3 * n3).tmod (998244353 : Int)) (
  reqB ((n3 * n3).tmod (998244353 : Int) ≤ (998244352 : Int)) (
  reqB ((0 : Int) ≤ n4.tdiv (2 : Int)) (
  reqB (n4.tdiv (2 : Int) ≤ (9223372036854775807 : Int)) (
  reqB (pwL.inv [DV.n n0, DV.n n1]
  [DV.n ((n2 * n3).tmod (998244353 : Int)), DV.n ((n3 * n3).tmod (998244353 : Int)),
    DV.n (n4.tdiv (2 : Int))]) (
  reqB (pwL.mea [DV.n n0, DV.n n1]
    [DV.n ((n2 * n3).tmod (998244353 : Int)), DV.n ((n3 * n3).tmod (998244353 : Int)),
      DV.n (n4.tdiv (2 : Int))] <
  pwL.mea [DV.n n0, DV.n n1] [DV.n n2, DV.n n3, DV.n n4]) (
  true))))))))) (
  reqB ((0 : Int) ≤ n2) (
  reqB (n2 ≤ (998244352 : Int)) (
  reqB ((0 : Int) ≤ (n3 * n3).tmod (998244353 : Int)) (
  reqB ((n3 * n3).tmod (998244353 : Int) ≤ (998244352 : Int)) (
  reqB ((0 : Int) ≤ n4.tdiv (2 : Int)) (
  reqB (n4.tdiv (2 : Int) ≤ (9223372036854775807 : Int)) (
  reqB (pwL.inv [DV.n n0, DV.n n1]
  [DV.n n2, DV.n ((n3 * n3).tmod (998244353 : Int)), DV.n (n4.tdiv (2 : Int))]) (
  reqB (pwL.mea [DV.n n0, DV.n n1]
    [DV.n n2, DV.n ((n3 * n3).tmod (998244353 : Int)), DV.n (n4.tdiv (2 : Int))] <
  pwL.mea [DV.n n0, DV.n n1] [DV.n n2, DV.n n3, DV.n n4]) (
  true)))))))))) (
 reqB ((0 : Int) ≤ n2) (
 reqB (n2 ≤ (998244352 : Int)) (
 reqB (sigPw.post [DV.n n0, DV.n n1] [DV.n n2]) (
 true)))))))))))))))))))))))))) := by kernel_rfl
set_option maxHeartbeats 8000000 in
theorem vt_power : vcFn Try.prog [] tab [] 100 30 sigPw = true := by
  rw [vc_power]
  try simp only [Int.toNat_natCast, List.length_set, List.length_replicate, List.length_take, List.length_drop, List.length_append, List.length_cons, List.length_nil, Nat.min_self, List.take_take, lenCols_i, lenCols_b, List.drop_zero, List.take_length, Nat.add_eq, Nat.mul_eq, Nat.sub_eq, Nat.zero_add, Nat.sub_zero, Nat.mul_one]
  refine all_i fun n0 => ?_
  refine imp_i fun h0 => ?_
  refine imp_i fun h1 => ?_
  refine all_i fun n1 => ?_
  refine imp_i fun h2 => ?_
  refine imp_i fun h3 => ?_
  refine imp_i fun h4 => ?_
  try simp only [sigPw, pwPost, List.cons.injEq, DV.b.injEq, and_true, List.length_cons, List.length_nil] at h4
  refine req_i ?_ ?_
  · -- r0
    first | omega | assumption | grind
  refine req_i ?_ ?_
  · -- r1
    first | omega | assumption | grind
  refine req_i ?_ ?_
  · -- r2
    first | omega | assumption | grind
  refine req_i ?_ ?_
  · -- r3
    first | omega | assumption | grind
  refine req_i ?_ ?_
  · -- r4
    first | omega | assumption | grind
  refine req_i ?_ ?_
  · -- r5
    first | omega | assumption | grind
  refine req_i ?_ ?_
  · -- r6
    first | omega | assumption | grind
  refine req_i ?_ ?_
  · -- r7
    first | omega | assumption | grind
  refine req_i ?_ ?_
  · -- r8
    first | omega | ((try simp only [pwL, pwInv, pwMea, List.cons.injEq, DV.b.injEq, and_true, List.length_cons, List.length_nil]); first | done | omega | assumption | grind [getD_set, getD_rep, toNat_succ, cntN_yes, cntN_no])
  refine all_i fun n2 => ?_
  refine imp_i fun h5 => ?_
  refine imp_i fun h6 => ?_
  refine all_i fun n3 => ?_
  refine imp_i fun h7 => ?_
  refine imp_i fun h8 => ?_
  refine all_i fun n4 => ?_
  refine imp_i fun h9 => ?_
  refine imp_i fun h10 => ?_
  refine imp_i fun h11 => ?_
  try simp only [pwL, pwInv, pwMea, List.cons.injEq, DV.b.injEq, and_true, List.length_cons, List.length_nil] at h11
  have b1 := pw_bd (p := n2) (a := n3) (by omega) (by omega) (by omega) (by omega)
  have b2 := pw_bd (p := n3) (a := n3) (by omega) (by omega) (by omega) (by omega)
  simp only [tmod_nn b1.1, tmod_nn b2.1, tmod_nn (show 0 ≤ n4 by omega), tdiv_nn (show 0 ≤ n4 by omega)]
  refine bR_dec (fun h12 => ?_) (fun h12 => ?_)
  ·
    refine bR_dec (fun h13 => ?_) (fun h13 => ?_)
    ·
      have po := pwR_odd (p := n2) (a := n3) (n := n4) (by omega) h13
      refine req_i ?_ ?_
      · -- r9
        first | omega | assumption | grind
      refine req_i ?_ ?_
      · -- r10
        first | omega | assumption | grind
      refine req_i ?_ ?_
      · -- r11
        first | omega | assumption | grind
      refine req_i ?_ ?_
      · -- r12
        first | omega | assumption | grind
      refine req_i ?_ ?_
      · -- r13
        first | omega | assumption | grind
      refine req_i ?_ ?_
      · -- r14
        first | omega | assumption | grind
      refine req_i ?_ ?_
      · -- r15
        first | omega | ((try simp only [pwL, pwInv, pwMea, List.cons.injEq, DV.b.injEq, and_true, List.length_cons, List.length_nil]); first | done | omega | assumption | grind [getD_set, getD_rep, toNat_succ, cntN_yes, cntN_no])
      refine req_i ?_ ?_
      · -- r16
        first | omega | ((try simp only [pwL, pwInv, pwMea, List.cons.injEq, DV.b.injEq, and_true, List.length_cons, List.length_nil]); first | done | omega | assumption | grind [getD_set, getD_rep, toNat_succ, cntN_yes, cntN_no])
      rfl
    ·
      have po := pwR_even (p := n2) (a := n3) (n := n4) (by omega) h13
      refine req_i ?_ ?_
      · -- r17
        first | omega | assumption | grind
      refine req_i ?_ ?_
      · -- r18
        first | omega | assumption | grind
      refine req_i ?_ ?_
      · -- r19
        first | omega | assumption | grind
      refine req_i ?_ ?_
      · -- r20
        first | omega | assumption | grind
      refine req_i ?_ ?_
      · -- r21
        first | omega | assumption | grind
      refine req_i ?_ ?_
      · -- r22
        first | omega | assumption | grind
      refine req_i ?_ ?_
      · -- r23
        first | omega | ((try simp only [pwL, pwInv, pwMea, List.cons.injEq, DV.b.injEq, and_true, List.length_cons, List.length_nil]); first | done | omega | assumption | grind [getD_set, getD_rep, toNat_succ, cntN_yes, cntN_no])
      refine req_i ?_ ?_
      · -- r24
        first | omega | ((try simp only [pwL, pwInv, pwMea, List.cons.injEq, DV.b.injEq, and_true, List.length_cons, List.length_nil]); first | done | omega | assumption | grind [getD_set, getD_rep, toNat_succ, cntN_yes, cntN_no])
      rfl
  ·
    have e4 : n4.toNat = 0 := by omega
    rw [e4, pwR_0] at h11
    refine req_i ?_ ?_
    · -- r25
      first | omega | assumption | grind
    refine req_i ?_ ?_
    · -- r26
      first | omega | assumption | grind
    refine req_i ?_ ?_
    · -- r27
      first | omega | ((try simp only [sigPw, pwPost, List.cons.injEq, DV.b.injEq, and_true, List.length_cons, List.length_nil]); first | done | omega | assumption | grind [getD_set, getD_rep, toNat_succ, cntN_yes, cntN_no])
    rfl
theorem ext_power : ∀ p ∈ ([] : List (Nat × Ext)), ExtRow Try.prog p.1 p.2 := by
  intro p hp
  cases hp
theorem cts_power : CtsOk Try.prog [] := fun f c h => by cases h
theorem fn_power : FnOk Try.prog 30 sigPw [] := fn_sound (by kernel_rfl) ext_power cts_power names vt_power
end Go.Proofs.Ytdhmgljppciogaa

namespace Go.Proofs.Ytdhmgljppciogaa
open Go.Ev Go.Sp
set_option maxRecDepth 100000
theorem vc_root : vcFn Try.prog [(30, Ext.ctr (ctOf sigPw))] tab [] 100 10 sigRoot = (allB fun n0 : Int => 
impB ((-9223372036854775808 : Int) ≤ n0) (
impB (n0 ≤ (9223372036854775807 : Int)) (
impB (sigRoot.pre [DV.n n0]) (
bR (dec ((1 : Int) ≤ n0)) (
 bR (dec (n0 ≤ (32768 : Int))) (
  allB fun n1 : Int => 
  impB (n1 = Go.IntKind.i64.wrap (n0 - (1 : Int))) (
  impB (Int.negSucc (9223372036854775807 : Nat) ≤ n1) (
  impB (n1 ≤ Int.ofNat (9223372036854775807 : Nat)) (
  bR (bR (dec (opI (SO.and Go.IntKind.i64) n0 n1 = (0 : Int))) (
   false) (
   true)) (
   reqB (sigRoot.post [DV.n n0] [DV.n (0 : Int), DV.n (3 : Int)]) (
   true)) (
   reqB (n0 ≠ (0 : Int)) (
   allB fun n2 : Int => 
   impB (n2 = Go.IntKind.i64.wrap (Int.tdiv (998244352 : Int) n0)) (
   impB (Int.negSucc (9223372036854775807 : Nat) ≤ n2) (
   impB (n2 ≤ Int.ofNat (9223372036854775807 : Nat)) (
   reqB ((0 : Int) ≤ n2) (
   reqB (n2 ≤ (9223372036854775807 : Int)) (
   reqB (sigPw.pre [DV.n (3 : Int), DV.n n2]) (
   allB fun n3 : Int => 
   impB ((0 : Int) ≤ n3) (
   impB (n3 ≤ (998244352 : Int)) (
   impB (sigPw.post [DV.n (3 : Int), DV.n n2] [DV.n n3]) (
   reqB ((0 : Int) ≤ n3) (
   reqB (n3 ≤ (998244352 : Int)) (
   reqB (sigRoot.post [DV.n n0] [DV.n n3, DV.n (0 : Int)]) (
   true)))))))))))))))))) (
  reqB (sigRoot.post [DV.n n0] [DV.n (0 : Int), DV.n (3 : Int)]) (
  true))) (
 reqB (sigRoot.post [DV.n n0] [DV.n (0 : Int), DV.n (3 : Int)]) (
 true)))))) := by kernel_rfl
set_option maxHeartbeats 8000000 in
theorem vt_root : vcFn Try.prog [(30, Ext.ctr (ctOf sigPw))] tab [] 100 10 sigRoot = true := by
  rw [vc_root]
  try simp only [Int.toNat_natCast, List.length_set, List.length_replicate, List.length_take, List.length_drop, List.length_append, List.length_cons, List.length_nil, Nat.min_self, List.take_take, lenCols_i, lenCols_b, List.drop_zero, List.take_length, Nat.add_eq, Nat.mul_eq, Nat.sub_eq, Nat.zero_add, Nat.sub_zero, Nat.mul_one]
  refine all_i fun n0 => ?_
  refine imp_i fun h0 => ?_
  refine imp_i fun h1 => ?_
  refine imp_i fun h2 => ?_
  try simp only [sigRoot, rootPost, isL, List.cons.injEq, DV.b.injEq, and_true, List.length_cons, List.length_nil] at h2
  refine bR_dec (fun h3 => ?_) (fun h3 => ?_)
  ·
    refine bR_dec (fun h4 => ?_) (fun h4 => ?_)
    ·
      refine all_i fun n1 => ?_
      refine imp_i fun h5 => ?_
      simp only [wrap_i64] at h5
      have e1 : n1 = n0 - 1 := by omega
      subst e1
      refine imp_i fun h6 => ?_
      refine imp_i fun h7 => ?_
      refine bR_i (fun h8 => ?_) (fun h8 => ?_)
      ·
        simp only [bR_iff, bR_iff_f, dec_iff, dec_f, Bool.false_eq_true, Bool.true_eq_false, false_implies, imp_false, and_true, true_and, implies_true, Classical.not_not] at h8
        refine req_i ?_ ?_
        · -- r0
          first | omega | ((try simp only [sigRoot, rootPost, isL, List.cons.injEq, DV.b.injEq, and_true, List.length_cons, List.length_nil]); first | done | omega | assumption | grind [getD_set, getD_rep, toNat_succ, cntN_yes, cntN_no])
        rfl
      ·
        simp only [bR_iff, bR_iff_f, dec_iff, dec_f, Bool.false_eq_true, Bool.true_eq_false, false_implies, imp_false, and_true, true_and, implies_true, Classical.not_not] at h8
        refine req_i ?_ ?_
        · -- r1
          first | omega | assumption | grind
        refine all_i fun n2 => ?_
        refine imp_i fun h9 => ?_
        simp only [wrap_i64] at h9
        have d1 := Int.ediv_nonneg (a := 998244352) (b := n0) (by omega) (by omega)
        have d2 := Int.ediv_le_self (a := 998244352) n0 (by omega)
        rw [tdiv_nn (by omega)] at h9
        have e2 : n2 = 998244352 / n0 := by omega
        subst e2
        refine imp_i fun h10 => ?_
        refine imp_i fun h11 => ?_
        refine req_i ?_ ?_
        · -- r2
          first | omega | assumption | grind
        refine req_i ?_ ?_
        · -- r3
          first | omega | assumption | grind
        refine req_i ?_ ?_
        · -- r4
          first | trivial | assumption | (simp only [sigPw, pwPost, List.cons.injEq, DV.b.injEq, and_true, List.length_cons, List.length_nil]; done) | ((try simp only [sigPw, pwPost, List.cons.injEq, DV.b.injEq, and_true, List.length_cons, List.length_nil]); first | omega | assumption | grind)
        refine all_i fun n3 => ?_
        refine imp_i fun h12 => ?_
        refine imp_i fun h13 => ?_
        refine imp_i fun h14 => ?_
        try simp only [sigPw, pwPost, List.cons.injEq, DV.b.injEq, and_true, List.length_cons, List.length_nil] at h14
        refine req_i ?_ ?_
        · -- r5
          first | omega | assumption | grind
        refine req_i ?_ ?_
        · -- r6
          first | omega | assumption | grind
        refine req_i ?_ ?_
        · -- r7
          first | omega | ((try simp only [sigRoot, rootPost, isL, List.cons.injEq, DV.b.injEq, and_true, List.length_cons, List.length_nil]); first | done | omega | assumption | grind [getD_set, getD_rep, toNat_succ, cntN_yes, cntN_no])
        rfl
    ·
      refine req_i ?_ ?_
      · -- r8
        first | omega | ((try simp only [sigRoot, rootPost, isL, List.cons.injEq, DV.b.injEq, and_true, List.length_cons, List.length_nil]); first | done | omega | assumption | grind [getD_set, getD_rep, toNat_succ, cntN_yes, cntN_no])
      rfl
  ·
    refine req_i ?_ ?_
    · -- r9
      first | omega | ((try simp only [sigRoot, rootPost, isL, List.cons.injEq, DV.b.injEq, and_true, List.length_cons, List.length_nil]); first | done | omega | assumption | grind [getD_set, getD_rep, toNat_succ, cntN_yes, cntN_no])
    rfl
theorem ext_root : ∀ p ∈ ([(30, Ext.ctr (ctOf sigPw))] : List (Nat × Ext)), ExtRow Try.prog p.1 p.2 := by
  intro p hp
  simp only [List.mem_cons, List.not_mem_nil, or_false] at hp
  rcases hp with rfl
  · trivial
theorem cts_root : CtsOk Try.prog [(30, Ext.ctr (ctOf sigPw))] := ctsOk_of (cs := [(30, sigPw)])
  (fun p hp => by
    simp only [List.mem_cons, List.not_mem_nil, or_false] at hp
    rcases hp with rfl
    · exact fn_power
)
  (fun f c h => by
    simp only [List.lookup_cons] at h
    repeat' split at h
    all_goals first | (cases h; done) | (rename_i e; have e := beq_iff_eq.1 e; subst e; cases h; exact ⟨_, by simp, rfl⟩))
theorem fn_root : FnOk Try.prog 10 sigRoot [] := fn_sound (by kernel_rfl) ext_root cts_root names vt_root
end Go.Proofs.Ytdhmgljppciogaa

namespace Go.Proofs.Ytdhmgljppciogaa
open Go.Ev Go.Sp
set_option maxRecDepth 100000
theorem vc_powerR : vcFn Try.prog [] tab [] 100 41 sigPw = (allB fun n0 : Int => 
impB ((0 : Int) ≤ n0) (
impB (n0 ≤ (998244352 : Int)) (
allB fun n1 : Int => 
impB ((0 : Int) ≤ n1) (
impB (n1 ≤ (9223372036854775807 : Int)) (
impB (sigPw.pre [DV.n n0, DV.n n1]) (
reqB ((0 : Int) ≤ n0) (
reqB (n0 ≤ (998244352 : Int)) (
reqB ((0 : Int) ≤ n1) (
reqB (n1 ≤ (9223372036854775807 : Int)) (
reqB ((0 : Int) ≤ n0) (
reqB (n0 ≤ (998244352 : Int)) (
reqB ((0 : Int) ≤ n1) (
reqB (n1 ≤ (9223372036854775807 : Int)) (
reqB (pwL.inv [DV.n n0, DV.n n1] [DV.n (1 : Int), DV.n n0, DV.n n1]) (
allB fun n2 : Int => 
impB ((0 : Int) ≤ n2) (
impB (n2 ≤ (998244352 : Int)) (
allB fun n3 : Int => 
impB ((0 : Int) ≤ n3) (
impB (n3 ≤ (998244352 : Int)) (
allB fun n4 : Int => 
impB ((0 : Int) ≤ n4) (
impB (n4 ≤ (9223372036854775807 : Int)) (
impB (pwL.inv [DV.n n0, DV.n n1] [DV.n n2, DV.n n3, DV.n n4]) (
bR (dec ((0 : Int) < n4)) (
 bR (dec (n4.tmod (2 : Int) = (1 : Int))) (
  reqB ((0 : Int) ≤ (n2 * n3).tmod (998244353 : Int)) (
  reqB ((n2 * n3).tmod (998244353 : Int) ≤ (998244352 : Int)) (
  reqB ((0 : Int) ≤ (n3 * n3).tmod (998244353 : Int)) (
  reqB ((n3 * n3).tmod (998244353 : Int) ≤ (998244352 : Int)) (
  reqB ((0 : Int) ≤ n4.tdiv (2 : Int)) (
  reqB (n4.tdiv (2 : Int) ≤ (9223372036854775807 : Int)) (
  reqB (pwL.inv [DV.n n0, DV.n n1]
  [DV.n ((n2 * n3).tmod (998244353 : Int)), DV.n ((n3 * n3).tmod (998244353 : Int)),
    DV.n (n4.tdiv (2 : Int))]) (
  reqB (pwL.mea [DV.n n0, DV.n n1]
    [DV.n ((n2 * n3).tmod (998244353 : Int)), DV.n ((n3 * n3).tmod (998244353 : Int)),
      DV.n (n4.tdiv (2 : Int))] <
  pwL.mea [DV.n n0, DV.n n1] [DV.n n2, DV.n n3, DV.n n4]) (
  true))))))))) (
  reqB ((0 : Int) ≤ n2) (
  reqB (n2 ≤ (998244352 : Int)) (
  reqB ((0 : Int) ≤ (n3 * n3).tmod (998244353 : Int)) (
  reqB ((n3 * n3).tmod (998244353 : Int) ≤ (998244352 : Int)) (
  reqB ((0 : Int) ≤ n4.tdiv (2 : Int)) (
  reqB (n4.tdiv (2 : Int) ≤ (9223372036854775807 : Int)) (
  reqB (pwL.inv [DV.n n0, DV.n n1]
  [DV.n n2, DV.n ((n3 * n3).tmod (998244353 : Int)), DV.n (n4.tdiv (2 : Int))]) (
  reqB (pwL.mea [DV.n n0, DV.n n1]
    [DV.n n2, DV.n ((n3 * n3).tmod (998244353 : Int)), DV.n (n4.tdiv (2 : Int))] <
  pwL.mea [DV.n n0, DV.n n1] [DV.n n2, DV.n n3, DV.n n4]) (
  true)))))))))) (
 reqB ((0 : Int) ≤ n2) (
 reqB (n2 ≤ (998244352 : Int)) (
 reqB (sigPw.post [DV.n n0, DV.n n1] [DV.n n2]) (
 true)))))))))))))))))))))))))) := by kernel_rfl
set_option maxHeartbeats 8000000 in
theorem vt_powerR : vcFn Try.prog [] tab [] 100 41 sigPw = true := by
  rw [vc_powerR]
  try simp only [Int.toNat_natCast, List.length_set, List.length_replicate, List.length_take, List.length_drop, List.length_append, List.length_cons, List.length_nil, Nat.min_self, List.take_take, lenCols_i, lenCols_b, List.drop_zero, List.take_length, Nat.add_eq, Nat.mul_eq, Nat.sub_eq, Nat.zero_add, Nat.sub_zero, Nat.mul_one]
  refine all_i fun n0 => ?_
  refine imp_i fun h0 => ?_
  refine imp_i fun h1 => ?_
  refine all_i fun n1 => ?_
  refine imp_i fun h2 => ?_
  refine imp_i fun h3 => ?_
  refine imp_i fun h4 => ?_
  try simp only [sigPw, pwPost, List.cons.injEq, DV.b.injEq, and_true, List.length_cons, List.length_nil] at h4
  refine req_i ?_ ?_
  · -- r0
    first | omega | assumption | grind
  refine req_i ?_ ?_
  · -- r1
    first | omega | assumption | grind
  refine req_i ?_ ?_
  · -- r2
    first | omega | assumption | grind
  refine req_i ?_ ?_
  · -- r3
    first | omega | assumption | grind
  refine req_i ?_ ?_
  · -- r4
    first | omega | assumption | grind
  refine req_i ?_ ?_
  · -- r5
    first | omega | assumption | grind
  refine req_i ?_ ?_
  · -- r6
    first | omega | assumption | grind
  refine req_i ?_ ?_
  · -- r7
    first | omega | assumption | grind
  refine req_i ?_ ?_
  · -- r8
    first | omega | ((try simp only [pwL, pwInv, pwMea, List.cons.injEq, DV.b.injEq, and_true, List.length_cons, List.length_nil]); first | done | omega | assumption | grind [getD_set, getD_rep, toNat_succ, cntN_yes, cntN_no])
  refine all_i fun n2 => ?_
  refine imp_i fun h5 => ?_
  refine imp_i fun h6 => ?_
  refine all_i fun n3 => ?_
  refine imp_i fun h7 => ?_
  refine imp_i fun h8 => ?_
  refine all_i fun n4 => ?_
  refine imp_i fun h9 => ?_
  refine imp_i fun h10 => ?_
  refine imp_i fun h11 => ?_
  try simp only [pwL, pwInv, pwMea, List.cons.injEq, DV.b.injEq, and_true, List.length_cons, List.length_nil] at h11
  have b1 := pw_bd (p := n2) (a := n3) (by omega) (by omega) (by omega) (by omega)
  have b2 := pw_bd (p := n3) (a := n3) (by omega) (by omega) (by omega) (by omega)
  simp only [tmod_nn b1.1, tmod_nn b2.1, tmod_nn (show 0 ≤ n4 by omega), tdiv_nn (show 0 ≤ n4 by omega)]
  refine bR_dec (fun h12 => ?_) (fun h12 => ?_)
  ·
    refine bR_dec (fun h13 => ?_) (fun h13 => ?_)
    ·
      have po := pwR_odd (p := n2) (a := n3) (n := n4) (by omega) h13
      refine req_i ?_ ?_
      · -- r9
        first | omega | assumption | grind
      refine req_i ?_ ?_
      · -- r10
        first | omega | assumption | grind
      refine req_i ?_ ?_
      · -- r11
        first | omega | assumption | grind
      refine req_i ?_ ?_
      · -- r12
        first | omega | assumption | grind
      refine req_i ?_ ?_
      · -- r13
        first | omega | assumption | grind
      refine req_i ?_ ?_
      · -- r14
        first | omega | assumption | grind
      refine req_i ?_ ?_
      · -- r15
        first | omega | ((try simp only [pwL, pwInv, pwMea, List.cons.injEq, DV.b.injEq, and_true, List.length_cons, List.length_nil]); first | done | omega | assumption | grind [getD_set, getD_rep, toNat_succ, cntN_yes, cntN_no])
      refine req_i ?_ ?_
      · -- r16
        first | omega | ((try simp only [pwL, pwInv, pwMea, List.cons.injEq, DV.b.injEq, and_true, List.length_cons, List.length_nil]); first | done | omega | assumption | grind [getD_set, getD_rep, toNat_succ, cntN_yes, cntN_no])
      rfl
    ·
      have po := pwR_even (p := n2) (a := n3) (n := n4) (by omega) h13
      refine req_i ?_ ?_
      · -- r17
        first | omega | assumption | grind
      refine req_i ?_ ?_
      · -- r18
        first | omega | assumption | grind
      refine req_i ?_ ?_
      · -- r19
        first | omega | assumption | grind
      refine req_i ?_ ?_
      · -- r20
        first | omega | assumption | grind
      refine req_i ?_ ?_
      · -- r21
        first | omega | assumption | grind
      refine req_i ?_ ?_
      · -- r22
        first | omega | assumption | grind
      refine req_i ?_ ?_
      · -- r23
        first | omega | ((try simp only [pwL, pwInv, pwMea, List.cons.injEq, DV.b.injEq, and_true, List.length_cons, List.length_nil]); first | done | omega | assumption | grind [getD_set, getD_rep, toNat_succ, cntN_yes, cntN_no])
      refine req_i ?_ ?_
      · -- r24
        first | omega | ((try simp only [pwL, pwInv, pwMea, List.cons.injEq, DV.b.injEq, and_true, List.length_cons, List.length_nil]); first | done | omega | assumption | grind [getD_set, getD_rep, toNat_succ, cntN_yes, cntN_no])
      rfl
  ·
    have e4 : n4.toNat = 0 := by omega
    rw [e4, pwR_0] at h11
    refine req_i ?_ ?_
    · -- r25
      first | omega | assumption | grind
    refine req_i ?_ ?_
    · -- r26
      first | omega | assumption | grind
    refine req_i ?_ ?_
    · -- r27
      first | omega | ((try simp only [sigPw, pwPost, List.cons.injEq, DV.b.injEq, and_true, List.length_cons, List.length_nil]); first | done | omega | assumption | grind [getD_set, getD_rep, toNat_succ, cntN_yes, cntN_no])
    rfl
theorem ext_powerR : ∀ p ∈ ([] : List (Nat × Ext)), ExtRow Try.prog p.1 p.2 := by
  intro p hp
  cases hp
theorem cts_powerR : CtsOk Try.prog [] := fun f c h => by cases h
theorem fn_powerR : FnOk Try.prog 41 sigPw [] := fn_sound (by kernel_rfl) ext_powerR cts_powerR names vt_powerR
end Go.Proofs.Ytdhmgljppciogaa

namespace Go.Proofs.Ytdhmgljppciogaa
open Go.Ev Go.Sp
set_option maxRecDepth 100000
theorem vc_rootR : vcFn Try.prog [(41, Ext.ctr (ctOf sigPw))] tab [] 100 19 sigRoot = (allB fun n0 : Int => 
impB ((-9223372036854775808 : Int) ≤ n0) (
impB (n0 ≤ (9223372036854775807 : Int)) (
impB (sigRoot.pre [DV.n n0]) (
bR (dec ((1 : Int) ≤ n0)) (
 bR (dec (n0 ≤ (32768 : Int))) (
  allB fun n1 : Int => 
  impB (n1 = Go.IntKind.i64.wrap (n0 - (1 : Int))) (
  impB (Int.negSucc (9223372036854775807 : Nat) ≤ n1) (
  impB (n1 ≤ Int.ofNat (9223372036854775807 : Nat)) (
  bR (bR (dec (opI (SO.and Go.IntKind.i64) n0 n1 = (0 : Int))) (
   false) (
   true)) (
   reqB (sigRoot.post [DV.n n0] [DV.n (0 : Int), DV.n (3 : Int)]) (
   true)) (
   reqB (n0 ≠ (0 : Int)) (
   allB fun n2 : Int => 
   impB (n2 = Go.IntKind.i64.wrap (Int.tdiv (998244352 : Int) n0)) (
   impB (Int.negSucc (9223372036854775807 : Nat) ≤ n2) (
   impB (n2 ≤ Int.ofNat (9223372036854775807 : Nat)) (
   reqB ((0 : Int) ≤ n2) (
   reqB (n2 ≤ (9223372036854775807 : Int)) (
   reqB (sigPw.pre [DV.n (3 : Int), DV.n n2]) (
   allB fun n3 : Int => 
   impB ((0 : Int) ≤ n3) (
   impB (n3 ≤ (998244352 : Int)) (
   impB (sigPw.post [DV.n (3 : Int), DV.n n2] [DV.n n3]) (
   reqB ((0 : Int) ≤ n3) (
   reqB (n3 ≤ (998244352 : Int)) (
   reqB (sigRoot.post [DV.n n0] [DV.n n3, DV.n (0 : Int)]) (
   true)))))))))))))))))) (
  reqB (sigRoot.post [DV.n n0] [DV.n (0 : Int), DV.n (3 : Int)]) (
  true))) (
 reqB (sigRoot.post [DV.n n0] [DV.n (0 : Int), DV.n (3 : Int)]) (
 true)))))) := by kernel_rfl
set_option maxHeartbeats 8000000 in
theorem vt_rootR : vcFn Try.prog [(41, Ext.ctr (ctOf sigPw))] tab [] 100 19 sigRoot = true := by
  rw [vc_rootR]
  try simp only [Int.toNat_natCast, List.length_set, List.length_replicate, List.length_take, List.length_drop, List.length_append, List.length_cons, List.length_nil, Nat.min_self, List.take_take, lenCols_i, lenCols_b, List.drop_zero, List.take_length, Nat.add_eq, Nat.mul_eq, Nat.sub_eq, Nat.zero_add, Nat.sub_zero, Nat.mul_one]
  refine all_i fun n0 => ?_
  refine imp_i fun h0 => ?_
  refine imp_i fun h1 => ?_
  refine imp_i fun h2 => ?_
  try simp only [sigRoot, rootPost, isL, List.cons.injEq, DV.b.injEq, and_true, List.length_cons, List.length_nil] at h2
  refine bR_dec (fun h3 => ?_) (fun h3 => ?_)
  ·
    refine bR_dec (fun h4 => ?_) (fun h4 => ?_)
    ·
      refine all_i fun n1 => ?_
      refine imp_i fun h5 => ?_
      simp only [wrap_i64] at h5
      have e1 : n1 = n0 - 1 := by omega
      subst e1
      refine imp_i fun h6 => ?_
      refine imp_i fun h7 => ?_
      refine bR_i (fun h8 => ?_) (fun h8 => ?_)
      ·
        simp only [bR_iff, bR_iff_f, dec_iff, dec_f, Bool.false_eq_true, Bool.true_eq_false, false_implies, imp_false, and_true, true_and, implies_true, Classical.not_not] at h8
        refine req_i ?_ ?_
        · -- r0
          first | omega | ((try simp only [sigRoot, rootPost, isL, List.cons.injEq, DV.b.injEq, and_true, List.length_cons, List.length_nil]); first | done | omega | assumption | grind [getD_set, getD_rep, toNat_succ, cntN_yes, cntN_no])
        rfl
      ·
        simp only [bR_iff, bR_iff_f, dec_iff, dec_f, Bool.false_eq_true, Bool.true_eq_false, false_implies, imp_false, and_true, true_and, implies_true, Classical.not_not] at h8
        refine req_i ?_ ?_
        · -- r1
          first | omega | assumption | grind
        refine all_i fun n2 => ?_
        refine imp_i fun h9 => ?_
        simp only [wrap_i64] at h9
        have d1 := Int.ediv_nonneg (a := 998244352) (b := n0) (by omega) (by omega)
        have d2 := Int.ediv_le_self (a := 998244352) n0 (by omega)
        rw [tdiv_nn (by omega)] at h9
        have e2 : n2 = 998244352 / n0 := by omega
        subst e2
        refine imp_i fun h10 => ?_
        refine imp_i fun h11 => ?_
        refine req_i ?_ ?_
        · -- r2
          first | omega | assumption | grind
        refine req_i ?_ ?_
        · -- r3
          first | omega | assumption | grind
        refine req_i ?_ ?_
        · -- r4
          first | trivial | assumption | (simp only [sigPw, pwPost, List.cons.injEq, DV.b.injEq, and_true, List.length_cons, List.length_nil]; done) | ((try simp only [sigPw, pwPost, List.cons.injEq, DV.b.injEq, and_true, List.length_cons, List.length_nil]); first | omega | assumption | grind)
        refine all_i fun n3 => ?_
        refine imp_i fun h12 => ?_
        refine imp_i fun h13 => ?_
        refine imp_i fun h14 => ?_
        try simp only [sigPw, pwPost, List.cons.injEq, DV.b.injEq, and_true, List.length_cons, List.length_nil] at h14
        refine req_i ?_ ?_
        · -- r5
          first | omega | assumption | grind
        refine req_i ?_ ?_
        · -- r6
          first | omega | assumption | grind
        refine req_i ?_ ?_
        · -- r7
          first | omega | ((try simp only [sigRoot, rootPost, isL, List.cons.injEq, DV.b.injEq, and_true, List.length_cons, List.length_nil]); first | done | omega | assumption | grind [getD_set, getD_rep, toNat_succ, cntN_yes, cntN_no])
        rfl
    ·
      refine req_i ?_ ?_
      · -- r8
        first | omega | ((try simp only [sigRoot, rootPost, isL, List.cons.injEq, DV.b.injEq, and_true, List.length_cons, List.length_nil]); first | done | omega | assumption | grind [getD_set, getD_rep, toNat_succ, cntN_yes, cntN_no])
      rfl
  ·
    refine req_i ?_ ?_
    · -- r9
      first | omega | ((try simp only [sigRoot, rootPost, isL, List.cons.injEq, DV.b.injEq, and_true, List.length_cons, List.length_nil]); first | done | omega | assumption | grind [getD_set, getD_rep, toNat_succ, cntN_yes, cntN_no])
    rfl
theorem ext_rootR : ∀ p ∈ ([(41, Ext.ctr (ctOf sigPw))] : List (Nat × Ext)), ExtRow Try.prog p.1 p.2 := by
  intro p hp
  simp only [List.mem_cons, List.not_mem_nil, or_false] at hp
  rcases hp with rfl
  · trivial
theorem cts_rootR : CtsOk Try.prog [(41, Ext.ctr (ctOf sigPw))] := ctsOk_of (cs := [(41, sigPw)])
  (fun p hp => by
    simp only [List.mem_cons, List.not_mem_nil, or_false] at hp
    rcases hp with rfl
    · exact fn_powerR
)
  (fun f c h => by
    simp only [List.lookup_cons] at h
    repeat' split at h
    all_goals first | (cases h; done) | (rename_i e; have e := beq_iff_eq.1 e; subst e; cases h; exact ⟨_, by simp, rfl⟩))
theorem fn_rootR : FnOk Try.prog 19 sigRoot [] := fn_sound (by kernel_rfl) ext_rootR cts_rootR names vt_rootR
end Go.Proofs.Ytdhmgljppciogaa

namespace Go.Proofs.Ytdhmgljppciogaa
open Go.Ev Go.Sp
set_option maxRecDepth 100000
theorem vc_pow : vcFn Try.prog [(30, Ext.ctr (ctOf sigPw))] tab [] 100 11 sigPow = (allB fun n0 : Int => 
impB ((-9223372036854775808 : Int) ≤ n0) (
impB (n0 ≤ (9223372036854775807 : Int)) (
allB fun n1 : Int => 
impB ((-9223372036854775808 : Int) ≤ n1) (
impB (n1 ≤ (9223372036854775807 : Int)) (
impB (sigPow.pre [DV.n n0, DV.n n1]) (
bR (dec ((0 : Int) ≤ n0)) (
 bR (bR (dec (n0 < (998244353 : Int))) (
  false) (
  true)) (
  reqB (sigPow.post [DV.n n0, DV.n n1] [DV.n (0 : Int), DV.n (2 : Int)]) (
  true)) (
  bR (dec (n1 < (0 : Int))) (
   reqB (sigPow.post [DV.n n0, DV.n n1] [DV.n (0 : Int), DV.n (2 : Int)]) (
   true)) (
   reqB ((0 : Int) ≤ n0) (
   reqB (n0 ≤ (998244352 : Int)) (
   reqB ((0 : Int) ≤ n1) (
   reqB (n1 ≤ (9223372036854775807 : Int)) (
   reqB (sigPw.pre [DV.n n0, DV.n n1]) (
   allB fun n2 : Int => 
   impB ((0 : Int) ≤ n2) (
   impB (n2 ≤ (998244352 : Int)) (
   impB (sigPw.post [DV.n n0, DV.n n1] [DV.n n2]) (
   reqB ((0 : Int) ≤ n2) (
   reqB (n2 ≤ (998244352 : Int)) (
   reqB (sigPow.post [DV.n n0, DV.n n1] [DV.n n2, DV.n (0 : Int)]) (
   true)))))))))))))) (
 reqB (sigPow.post [DV.n n0, DV.n n1] [DV.n (0 : Int), DV.n (2 : Int)]) (
 true)))))))) := by kernel_rfl
set_option maxHeartbeats 8000000 in
theorem vt_pow : vcFn Try.prog [(30, Ext.ctr (ctOf sigPw))] tab [] 100 11 sigPow = true := by
  rw [vc_pow]
  try simp only [Int.toNat_natCast, List.length_set, List.length_replicate, List.length_take, List.length_drop, List.length_append, List.length_cons, List.length_nil, Nat.min_self, List.take_take, lenCols_i, lenCols_b, List.drop_zero, List.take_length, Nat.add_eq, Nat.mul_eq, Nat.sub_eq, Nat.zero_add, Nat.sub_zero, Nat.mul_one]
  refine all_i fun n0 => ?_
  refine imp_i fun h0 => ?_
  refine imp_i fun h1 => ?_
  refine all_i fun n1 => ?_
  refine imp_i fun h2 => ?_
  refine imp_i fun h3 => ?_
  refine imp_i fun h4 => ?_
  try simp only [sigPow, powPost, List.cons.injEq, DV.b.injEq, and_true, List.length_cons, List.length_nil] at h4
  refine bR_dec (fun h5 => ?_) (fun h5 => ?_)
  ·
    refine bR_i (fun h6 => ?_) (fun h6 => ?_)
    ·
      simp only [bR_iff, bR_iff_f, dec_iff, dec_f, Bool.false_eq_true, Bool.true_eq_false, false_implies, imp_false, and_true, true_and, implies_true, Classical.not_not] at h6
      refine req_i ?_ ?_
      · -- r0
        first | omega | ((try simp only [sigPow, powPost, List.cons.injEq, DV.b.injEq, and_true, List.length_cons, List.length_nil]); first | done | omega | assumption | grind [getD_set, getD_rep, toNat_succ, cntN_yes, cntN_no])
      rfl
    ·
      simp only [bR_iff, bR_iff_f, dec_iff, dec_f, Bool.false_eq_true, Bool.true_eq_false, false_implies, imp_false, and_true, true_and, implies_true, Classical.not_not] at h6
      refine bR_dec (fun h7 => ?_) (fun h7 => ?_)
      ·
        refine req_i ?_ ?_
        · -- r1
          first | omega | ((try simp only [sigPow, powPost, List.cons.injEq, DV.b.injEq, and_true, List.length_cons, List.length_nil]); first | done | omega | assumption | grind [getD_set, getD_rep, toNat_succ, cntN_yes, cntN_no])
        rfl
      ·
        refine req_i ?_ ?_
        · -- r2
          first | omega | assumption | grind
        refine req_i ?_ ?_
        · -- r3
          first | omega | assumption | grind
        refine req_i ?_ ?_
        · -- r4
          first | omega | assumption | grind
        refine req_i ?_ ?_
        · -- r5
          first | omega | assumption | grind
        refine req_i ?_ ?_
        · -- r6
          first | trivial | assumption | (simp only [sigPw, pwPost, List.cons.injEq, DV.b.injEq, and_true, List.length_cons, List.length_nil]; done) | ((try simp only [sigPw, pwPost, List.cons.injEq, DV.b.injEq, and_true, List.length_cons, List.length_nil]); first | omega | assumption | grind)
        refine all_i fun n2 => ?_
        refine imp_i fun h8 => ?_
        refine imp_i fun h9 => ?_
        refine imp_i fun h10 => ?_
        try simp only [sigPw, pwPost, List.cons.injEq, DV.b.injEq, and_true, List.length_cons, List.length_nil] at h10
        refine req_i ?_ ?_
        · -- r7
          first | omega | assumption | grind
        refine req_i ?_ ?_
        · -- r8
          first | omega | assumption | grind
        refine req_i ?_ ?_
        · -- r9
          first | omega | ((try simp only [sigPow, powPost, List.cons.injEq, DV.b.injEq, and_true, List.length_cons, List.length_nil]); first | done | omega | assumption | grind [getD_set, getD_rep, toNat_succ, cntN_yes, cntN_no])
        rfl
  ·
    refine req_i ?_ ?_
    · -- r10
      first | omega | ((try simp only [sigPow, powPost, List.cons.injEq, DV.b.injEq, and_true, List.length_cons, List.length_nil]); first | done | omega | assumption | grind [getD_set, getD_rep, toNat_succ, cntN_yes, cntN_no])
    rfl
theorem ext_pow : ∀ p ∈ ([(30, Ext.ctr (ctOf sigPw))] : List (Nat × Ext)), ExtRow Try.prog p.1 p.2 := by
  intro p hp
  simp only [List.mem_cons, List.not_mem_nil, or_false] at hp
  rcases hp with rfl
  · trivial
theorem cts_pow : CtsOk Try.prog [(30, Ext.ctr (ctOf sigPw))] := ctsOk_of (cs := [(30, sigPw)])
  (fun p hp => by
    simp only [List.mem_cons, List.not_mem_nil, or_false] at hp
    rcases hp with rfl
    · exact fn_power
)
  (fun f c h => by
    simp only [List.lookup_cons] at h
    repeat' split at h
    all_goals first | (cases h; done) | (rename_i e; have e := beq_iff_eq.1 e; subst e; cases h; exact ⟨_, by simp, rfl⟩))
theorem fn_pow : FnOk Try.prog 11 sigPow [] := fn_sound (by kernel_rfl) ext_pow cts_pow names vt_pow
end Go.Proofs.Ytdhmgljppciogaa

namespace Go.Proofs.Ytdhmgljppciogaa
open Go.Ev Go.Sp
set_option maxRecDepth 100000
theorem vc_powR : vcFn Try.prog [(41, Ext.ctr (ctOf sigPw))] tab [] 100 20 sigPow = (allB fun n0 : Int => 
impB ((-9223372036854775808 : Int) ≤ n0) (
impB (n0 ≤ (9223372036854775807 : Int)) (
allB fun n1 : Int => 
impB ((-9223372036854775808 : Int) ≤ n1) (
impB (n1 ≤ (9223372036854775807 : Int)) (
impB (sigPow.pre [DV.n n0, DV.n n1]) (
bR (dec (n0 < (0 : Int))) (
 reqB (sigPow.post [DV.n n0, DV.n n1] [DV.n (0 : Int), DV.n (2 : Int)]) (
 true)) (
 bR (dec ((998244353 : Int) ≤ n0)) (
  reqB (sigPow.post [DV.n n0, DV.n n1] [DV.n (0 : Int), DV.n (2 : Int)]) (
  true)) (
  bR (dec (n1 < (0 : Int))) (
   reqB (sigPow.post [DV.n n0, DV.n n1] [DV.n (0 : Int), DV.n (2 : Int)]) (
   true)) (
   reqB ((0 : Int) ≤ n0) (
   reqB (n0 ≤ (998244352 : Int)) (
   reqB ((0 : Int) ≤ n1) (
   reqB (n1 ≤ (9223372036854775807 : Int)) (
   reqB (sigPw.pre [DV.n n0, DV.n n1]) (
   allB fun n2 : Int => 
   impB ((0 : Int) ≤ n2) (
   impB (n2 ≤ (998244352 : Int)) (
   impB (sigPw.post [DV.n n0, DV.n n1] [DV.n n2]) (
   reqB ((0 : Int) ≤ n2) (
   reqB (n2 ≤ (998244352 : Int)) (
   reqB (sigPow.post [DV.n n0, DV.n n1] [DV.n n2, DV.n (0 : Int)]) (
   true)))))))))))))))))))) := by kernel_rfl
set_option maxHeartbeats 8000000 in
theorem vt_powR : vcFn Try.prog [(41, Ext.ctr (ctOf sigPw))] tab [] 100 20 sigPow = true := by
  rw [vc_powR]
  try simp only [Int.toNat_natCast, List.length_set, List.length_replicate, List.length_take, List.length_drop, List.length_append, List.length_cons, List.length_nil, Nat.min_self, List.take_take, lenCols_i, lenCols_b, List.drop_zero, List.take_length, Nat.add_eq, Nat.mul_eq, Nat.sub_eq, Nat.zero_add, Nat.sub_zero, Nat.mul_one]
  refine all_i fun n0 => ?_
  refine imp_i fun h0 => ?_
  refine imp_i fun h1 => ?_
  refine all_i fun n1 => ?_
  refine imp_i fun h2 => ?_
  refine imp_i fun h3 => ?_
  refine imp_i fun h4 => ?_
  try simp only [sigPow, powPost, List.cons.injEq, DV.b.injEq, and_true, List.length_cons, List.length_nil] at h4
  refine bR_dec (fun h5 => ?_) (fun h5 => ?_)
  ·
    refine req_i ?_ ?_
    · -- r0
      first | omega | ((try simp only [sigPow, powPost, List.cons.injEq, DV.b.injEq, and_true, List.length_cons, List.length_nil]); first | done | omega | assumption | grind [getD_set, getD_rep, toNat_succ, cntN_yes, cntN_no])
    rfl
  ·
    refine bR_dec (fun h6 => ?_) (fun h6 => ?_)
    ·
      refine req_i ?_ ?_
      · -- r1
        first | omega | ((try simp only [sigPow, powPost, List.cons.injEq, DV.b.injEq, and_true, List.length_cons, List.length_nil]); first | done | omega | assumption | grind [getD_set, getD_rep, toNat_succ, cntN_yes, cntN_no])
      rfl
    ·
      refine bR_dec (fun h7 => ?_) (fun h7 => ?_)
      ·
        refine req_i ?_ ?_
        · -- r2
          first | omega | ((try simp only [sigPow, powPost, List.cons.injEq, DV.b.injEq, and_true, List.length_cons, List.length_nil]); first | done | omega | assumption | grind [getD_set, getD_rep, toNat_succ, cntN_yes, cntN_no])
        rfl
      ·
        refine req_i ?_ ?_
        · -- r3
          first | omega | assumption | grind
        refine req_i ?_ ?_
        · -- r4
          first | omega | assumption | grind
        refine req_i ?_ ?_
        · -- r5
          first | omega | assumption | grind
        refine req_i ?_ ?_
        · -- r6
          first | omega | assumption | grind
        refine req_i ?_ ?_
        · -- r7
          first | trivial | assumption | (simp only [sigPw, pwPost, List.cons.injEq, DV.b.injEq, and_true, List.length_cons, List.length_nil]; done) | ((try simp only [sigPw, pwPost, List.cons.injEq, DV.b.injEq, and_true, List.length_cons, List.length_nil]); first | omega | assumption | grind)
        refine all_i fun n2 => ?_
        refine imp_i fun h8 => ?_
        refine imp_i fun h9 => ?_
        refine imp_i fun h10 => ?_
        try simp only [sigPw, pwPost, List.cons.injEq, DV.b.injEq, and_true, List.length_cons, List.length_nil] at h10
        refine req_i ?_ ?_
        · -- r8
          first | omega | assumption | grind
        refine req_i ?_ ?_
        · -- r9
          first | omega | assumption | grind
        refine req_i ?_ ?_
        · -- r10
          first | omega | ((try simp only [sigPow, powPost, List.cons.injEq, DV.b.injEq, and_true, List.length_cons, List.length_nil]); first | done | omega | assumption | grind [getD_set, getD_rep, toNat_succ, cntN_yes, cntN_no])
        rfl
theorem ext_powR : ∀ p ∈ ([(41, Ext.ctr (ctOf sigPw))] : List (Nat × Ext)), ExtRow Try.prog p.1 p.2 := by
  intro p hp
  simp only [List.mem_cons, List.not_mem_nil, or_false] at hp
  rcases hp with rfl
  · trivial
theorem cts_powR : CtsOk Try.prog [(41, Ext.ctr (ctOf sigPw))] := ctsOk_of (cs := [(41, sigPw)])
  (fun p hp => by
    simp only [List.mem_cons, List.not_mem_nil, or_false] at hp
    rcases hp with rfl
    · exact fn_powerR
)
  (fun f c h => by
    simp only [List.lookup_cons] at h
    repeat' split at h
    all_goals first | (cases h; done) | (rename_i e; have e := beq_iff_eq.1 e; subst e; cases h; exact ⟨_, by simp, rfl⟩))
theorem fn_powR : FnOk Try.prog 20 sigPow [] := fn_sound (by kernel_rfl) ext_powR cts_powR names vt_powR
end Go.Proofs.Ytdhmgljppciogaa

namespace Go.Proofs.Ytdhmgljppciogaa
open Go.Ev Go.Sp
set_option maxRecDepth 100000
theorem vc_sgd : vcFn Try.prog [] tab [] 100 15 sigSgd = (allB fun n0 : Int => 
impB ((-9223372036854775808 : Int) ≤ n0) (
impB (n0 ≤ (9223372036854775807 : Int)) (
impB (sigSgd.pre [DV.n n0]) (
bR (dec ((0 : Int) ≤ n0)) (
 bR (bR (dec (n0 < (998244353 : Int))) (
  false) (
  true)) (
  reqB (sigSgd.post [DV.n n0] [DV.n (0 : Int), DV.n (2 : Int)]) (
  true)) (
  bR (dec ((499122176 : Int) < n0)) (
   allB fun n1 : Int => 
   impB (n1 = Go.IntKind.i64.wrap (n0 - (998244353 : Int))) (
   impB (Int.negSucc (9223372036854775807 : Nat) ≤ n1) (
   impB (n1 ≤ Int.ofNat (9223372036854775807 : Nat)) (
   reqB ((-9223372036854775808 : Int) ≤ n1) (
   reqB (n1 ≤ (9223372036854775807 : Int)) (
   reqB (sigSgd.post [DV.n n0] [DV.n n1, DV.n (0 : Int)]) (
   true))))))) (
   reqB ((-9223372036854775808 : Int) ≤ n0) (
   reqB (n0 ≤ (9223372036854775807 : Int)) (
   reqB (sigSgd.post [DV.n n0] [DV.n n0, DV.n (0 : Int)]) (
   true)))))) (
 reqB (sigSgd.post [DV.n n0] [DV.n (0 : Int), DV.n (2 : Int)]) (
 true)))))) := by kernel_rfl
set_option maxHeartbeats 8000000 in
theorem vt_sgd : vcFn Try.prog [] tab [] 100 15 sigSgd = true := by
  rw [vc_sgd]
  try simp only [Int.toNat_natCast, List.length_set, List.length_replicate, List.length_take, List.length_drop, List.length_append, List.length_cons, List.length_nil, Nat.min_self, List.take_take, lenCols_i, lenCols_b, List.drop_zero, List.take_length, Nat.add_eq, Nat.mul_eq, Nat.sub_eq, Nat.zero_add, Nat.sub_zero, Nat.mul_one]
  refine all_i fun n0 => ?_
  refine imp_i fun h0 => ?_
  refine imp_i fun h1 => ?_
  refine imp_i fun h2 => ?_
  try simp only [sigSgd, sgdPost, List.cons.injEq, DV.b.injEq, and_true, List.length_cons, List.length_nil] at h2
  refine bR_dec (fun h3 => ?_) (fun h3 => ?_)
  ·
    refine bR_i (fun h4 => ?_) (fun h4 => ?_)
    ·
      simp only [bR_iff, bR_iff_f, dec_iff, dec_f, Bool.false_eq_true, Bool.true_eq_false, false_implies, imp_false, and_true, true_and, implies_true, Classical.not_not] at h4
      refine req_i ?_ ?_
      · -- r0
        first | omega | ((try simp only [sigSgd, sgdPost, List.cons.injEq, DV.b.injEq, and_true, List.length_cons, List.length_nil]); first | done | omega | assumption | grind [getD_set, getD_rep, toNat_succ, cntN_yes, cntN_no])
      rfl
    ·
      simp only [bR_iff, bR_iff_f, dec_iff, dec_f, Bool.false_eq_true, Bool.true_eq_false, false_implies, imp_false, and_true, true_and, implies_true, Classical.not_not] at h4
      refine bR_dec (fun h5 => ?_) (fun h5 => ?_)
      ·
        refine all_i fun n1 => ?_
        refine imp_i fun h6 => ?_
        simp only [wrap_i64] at h6
        refine imp_i fun h7 => ?_
        refine imp_i fun h8 => ?_
        refine req_i ?_ ?_
        · -- r1
          first | omega | assumption | grind
        refine req_i ?_ ?_
        · -- r2
          first | omega | assumption | grind
        refine req_i ?_ ?_
        · -- r3
          first | omega | ((try simp only [sigSgd, sgdPost, List.cons.injEq, DV.b.injEq, and_true, List.length_cons, List.length_nil]); first | done | omega | assumption | grind [getD_set, getD_rep, toNat_succ, cntN_yes, cntN_no])
        rfl
      ·
        refine req_i ?_ ?_
        · -- r4
          first | omega | assumption | grind
        refine req_i ?_ ?_
        · -- r5
          first | omega | assumption | grind
        refine req_i ?_ ?_
        · -- r6
          first | omega | ((try simp only [sigSgd, sgdPost, List.cons.injEq, DV.b.injEq, and_true, List.length_cons, List.length_nil]); first | done | omega | assumption | grind [getD_set, getD_rep, toNat_succ, cntN_yes, cntN_no])
        rfl
  ·
    refine req_i ?_ ?_
    · -- r7
      first | omega | ((try simp only [sigSgd, sgdPost, List.cons.injEq, DV.b.injEq, and_true, List.length_cons, List.length_nil]); first | done | omega | assumption | grind [getD_set, getD_rep, toNat_succ, cntN_yes, cntN_no])
    rfl
theorem ext_sgd : ∀ p ∈ ([] : List (Nat × Ext)), ExtRow Try.prog p.1 p.2 := by
  intro p hp
  cases hp
theorem cts_sgd : CtsOk Try.prog [] := fun f c h => by cases h
theorem fn_sgd : FnOk Try.prog 15 sigSgd [] := fn_sound (by kernel_rfl) ext_sgd cts_sgd names vt_sgd
end Go.Proofs.Ytdhmgljppciogaa

namespace Go.Proofs.Ytdhmgljppciogaa
open Go.Ev Go.Sp
set_option maxRecDepth 100000
theorem vc_sgdR : vcFn Try.prog [] tab [] 100 21 sigSgd = (allB fun n0 : Int => 
impB ((-9223372036854775808 : Int) ≤ n0) (
impB (n0 ≤ (9223372036854775807 : Int)) (
impB (sigSgd.pre [DV.n n0]) (
bR (dec (n0 < (0 : Int))) (
 reqB (sigSgd.post [DV.n n0] [DV.n (0 : Int), DV.n (2 : Int)]) (
 true)) (
 bR (dec ((998244353 : Int) ≤ n0)) (
  reqB (sigSgd.post [DV.n n0] [DV.n (0 : Int), DV.n (2 : Int)]) (
  true)) (
  bR (dec ((499122176 : Int) < n0)) (
   allB fun n1 : Int => 
   impB (n1 = Go.IntKind.i64.wrap (n0 - (998244353 : Int))) (
   impB (Int.negSucc (9223372036854775807 : Nat) ≤ n1) (
   impB (n1 ≤ Int.ofNat (9223372036854775807 : Nat)) (
   reqB ((-9223372036854775808 : Int) ≤ n1) (
   reqB (n1 ≤ (9223372036854775807 : Int)) (
   reqB (sigSgd.post [DV.n n0] [DV.n n1, DV.n (0 : Int)]) (
   true))))))) (
   reqB ((-9223372036854775808 : Int) ≤ n0) (
   reqB (n0 ≤ (9223372036854775807 : Int)) (
   reqB (sigSgd.post [DV.n n0] [DV.n n0, DV.n (0 : Int)]) (
   true)))))))))) := by kernel_rfl
set_option maxHeartbeats 8000000 in
theorem vt_sgdR : vcFn Try.prog [] tab [] 100 21 sigSgd = true := by
  rw [vc_sgdR]
  try simp only [Int.toNat_natCast, List.length_set, List.length_replicate, List.length_take, List.length_drop, List.length_append, List.length_cons, List.length_nil, Nat.min_self, List.take_take, lenCols_i, lenCols_b, List.drop_zero, List.take_length, Nat.add_eq, Nat.mul_eq, Nat.sub_eq, Nat.zero_add, Nat.sub_zero, Nat.mul_one]
  refine all_i fun n0 => ?_
  refine imp_i fun h0 => ?_
  refine imp_i fun h1 => ?_
  refine imp_i fun h2 => ?_
  try simp only [sigSgd, sgdPost, List.cons.injEq, DV.b.injEq, and_true, List.length_cons, List.length_nil] at h2
  refine bR_dec (fun h3 => ?_) (fun h3 => ?_)
  ·
    refine req_i ?_ ?_
    · -- r0
      first | omega | ((try simp only [sigSgd, sgdPost, List.cons.injEq, DV.b.injEq, and_true, List.length_cons, List.length_nil]); first | done | omega | assumption | grind [getD_set, getD_rep, toNat_succ, cntN_yes, cntN_no])
    rfl
  ·
    refine bR_dec (fun h4 => ?_) (fun h4 => ?_)
    ·
      refine req_i ?_ ?_
      · -- r1
        first | omega | ((try simp only [sigSgd, sgdPost, List.cons.injEq, DV.b.injEq, and_true, List.length_cons, List.length_nil]); first | done | omega | assumption | grind [getD_set, getD_rep, toNat_succ, cntN_yes, cntN_no])
      rfl
    ·
      refine bR_dec (fun h5 => ?_) (fun h5 => ?_)
      ·
        refine all_i fun n1 => ?_
        refine imp_i fun h6 => ?_
        simp only [wrap_i64] at h6
        refine imp_i fun h7 => ?_
        refine imp_i fun h8 => ?_
        refine req_i ?_ ?_
        · -- r2
          first | omega | assumption | grind
        refine req_i ?_ ?_
        · -- r3
          first | omega | assumption | grind
        refine req_i ?_ ?_
        · -- r4
          first | omega | ((try simp only [sigSgd, sgdPost, List.cons.injEq, DV.b.injEq, and_true, List.length_cons, List.length_nil]); first | done | omega | assumption | grind [getD_set, getD_rep, toNat_succ, cntN_yes, cntN_no])
        rfl
      ·
        refine req_i ?_ ?_
        · -- r5
          first | omega | assumption | grind
        refine req_i ?_ ?_
        · -- r6
          first | omega | assumption | grind
        refine req_i ?_ ?_
        · -- r7
          first | omega | ((try simp only [sigSgd, sgdPost, List.cons.injEq, DV.b.injEq, and_true, List.length_cons, List.length_nil]); first | done | omega | assumption | grind [getD_set, getD_rep, toNat_succ, cntN_yes, cntN_no])
        rfl
theorem ext_sgdR : ∀ p ∈ ([] : List (Nat × Ext)), ExtRow Try.prog p.1 p.2 := by
  intro p hp
  cases hp
theorem cts_sgdR : CtsOk Try.prog [] := fun f c h => by cases h
theorem fn_sgdR : FnOk Try.prog 21 sigSgd [] := fn_sound (by kernel_rfl) ext_sgdR cts_sgdR names vt_sgdR
end Go.Proofs.Ytdhmgljppciogaa

namespace Go.Proofs.Ytdhmgljppciogaa
open Go.Ev Go.Sp
set_option maxRecDepth 100000
theorem vc_NttNumbers : vcFn Try.prog [(18, Ext.ctr (ctOf sigTrue0)), (10, Ext.ctr (ctOf sigRoot)), (19, Ext.ctr (ctOf sigRoot)), (11, Ext.ctr (ctOf sigPow)), (20, Ext.ctr (ctOf sigPow)), (15, Ext.ctr (ctOf sigSgd)), (21, Ext.ctr (ctOf sigSgd))] tab [] 100 4 sigL2 = (allB fun n0 : Int => 
impB ((-9223372036854775808 : Int) ≤ n0) (
impB (n0 ≤ (9223372036854775807 : Int)) (
allB fun n1 : Int => 
impB ((-9223372036854775808 : Int) ≤ n1) (
impB (n1 ≤ (9223372036854775807 : Int)) (
impB (sigL2.pre [DV.n n0, DV.n n1]) (
reqB ((-9223372036854775808 : Int) ≤ n1) (
reqB (n1 ≤ (9223372036854775807 : Int)) (
reqB (sigRoot.pre [DV.n n1]) (
allB fun n2 : Int => 
impB ((0 : Int) ≤ n2) (
impB (n2 ≤ (998244352 : Int)) (
allB fun n3 : Int => 
impB ((0 : Int) ≤ n3) (
impB (n3 ≤ (18 : Int)) (
impB (sigRoot.post [DV.n n1] [DV.n n2, DV.n n3]) (
reqB ((-9223372036854775808 : Int) ≤ n1) (
reqB (n1 ≤ (9223372036854775807 : Int)) (
reqB (sigRoot.pre [DV.n n1]) (
allB fun n4 : Int => 
impB ((0 : Int) ≤ n4) (
impB (n4 ≤ (998244352 : Int)) (
allB fun n5 : Int => 
impB ((0 : Int) ≤ n5) (
impB (n5 ≤ (18 : Int)) (
impB (sigRoot.post [DV.n n1] [DV.n n4, DV.n n5]) (
reqB ((-9223372036854775808 : Int) ≤ n0) (
reqB (n0 ≤ (9223372036854775807 : Int)) (
reqB ((-9223372036854775808 : Int) ≤ n1) (
reqB (n1 ≤ (9223372036854775807 : Int)) (
reqB (sigPow.pre [DV.n n0, DV.n n1]) (
allB fun n6 : Int => 
impB ((0 : Int) ≤ n6) (
impB (n6 ≤ (998244352 : Int)) (
allB fun n7 : Int => 
impB ((0 : Int) ≤ n7) (
impB (n7 ≤ (18 : Int)) (
impB (sigPow.post [DV.n n0, DV.n n1] [DV.n n6, DV.n n7]) (
reqB ((-9223372036854775808 : Int) ≤ n0) (
reqB (n0 ≤ (9223372036854775807 : Int)) (
reqB ((-9223372036854775808 : Int) ≤ n1) (
reqB (n1 ≤ (9223372036854775807 : Int)) (
reqB (sigPow.pre [DV.n n0, DV.n n1]) (
allB fun n8 : Int => 
impB ((0 : Int) ≤ n8) (
impB (n8 ≤ (998244352 : Int)) (
allB fun n9 : Int => 
impB ((0 : Int) ≤ n9) (
impB (n9 ≤ (18 : Int)) (
impB (sigPow.post [DV.n n0, DV.n n1] [DV.n n8, DV.n n9]) (
reqB ((-9223372036854775808 : Int) ≤ n0) (
reqB (n0 ≤ (9223372036854775807 : Int)) (
reqB (sigSgd.pre [DV.n n0]) (
allB fun n10 : Int => 
impB ((-9223372036854775808 : Int) ≤ n10) (
impB (n10 ≤ (9223372036854775807 : Int)) (
allB fun n11 : Int => 
impB ((0 : Int) ≤ n11) (
impB (n11 ≤ (18 : Int)) (
impB (sigSgd.post [DV.n n0] [DV.n n10, DV.n n11]) (
reqB ((-9223372036854775808 : Int) ≤ n0) (
reqB (n0 ≤ (9223372036854775807 : Int)) (
reqB (sigSgd.pre [DV.n n0]) (
allB fun n12 : Int => 
impB ((-9223372036854775808 : Int) ≤ n12) (
impB (n12 ≤ (9223372036854775807 : Int)) (
allB fun n13 : Int => 
impB ((0 : Int) ≤ n13) (
impB (n13 ≤ (18 : Int)) (
impB (sigSgd.post [DV.n n0] [DV.n n12, DV.n n13]) (
bR (dec (n2 = n4)) (
 bR (dec (n3 = n5)) (
  bR (dec (n6 = n8)) (
   bR (dec (n7 = n9)) (
    bR (dec (n10 = n12)) (
     bR (dec (n11 = n13)) (
      reqB (sigTrue0.pre []) (
      allB fun b14 : Bool => 
      impB (sigTrue0.post [] [DV.b b14]) (
      reqB (sigL2.post [DV.n n0, DV.n n1] [DV.b b14]) (
      true)))) (
      reqB (sigL2.post [DV.n n0, DV.n n1] [DV.b Bool.false]) (
      true))) (
     reqB (sigL2.post [DV.n n0, DV.n n1] [DV.b Bool.false]) (
     true))) (
    reqB (sigL2.post [DV.n n0, DV.n n1] [DV.b Bool.false]) (
    true))) (
   reqB (sigL2.post [DV.n n0, DV.n n1] [DV.b Bool.false]) (
   true))) (
  reqB (sigL2.post [DV.n n0, DV.n n1] [DV.b Bool.false]) (
  true))) (
 reqB (sigL2.post [DV.n n0, DV.n n1] [DV.b Bool.false]) (
 true)))))))))))))))))))))))))))))))))))))))))))))))))))))))))))) := by kernel_rfl
set_option maxHeartbeats 8000000 in
theorem vt_NttNumbers : vcFn Try.prog [(18, Ext.ctr (ctOf sigTrue0)), (10, Ext.ctr (ctOf sigRoot)), (19, Ext.ctr (ctOf sigRoot)), (11, Ext.ctr (ctOf sigPow)), (20, Ext.ctr (ctOf sigPow)), (15, Ext.ctr (ctOf sigSgd)), (21, Ext.ctr (ctOf sigSgd))] tab [] 100 4 sigL2 = true := by
  rw [vc_NttNumbers]
  try simp only [Int.toNat_natCast, List.length_set, List.length_replicate, List.length_take, List.length_drop, List.length_append, List.length_cons, List.length_nil, Nat.min_self, List.take_take, lenCols_i, lenCols_b, List.drop_zero, List.take_length, Nat.add_eq, Nat.mul_eq, Nat.sub_eq, Nat.zero_add, Nat.sub_zero, Nat.mul_one]
  refine all_i fun n0 => ?_
  refine imp_i fun h0 => ?_
  refine imp_i fun h1 => ?_
  refine all_i fun n1 => ?_
  refine imp_i fun h2 => ?_
  refine imp_i fun h3 => ?_
  refine imp_i fun h4 => ?_
  try simp only [sigL2, List.cons.injEq, DV.b.injEq, and_true, List.length_cons, List.length_nil] at h4
  refine req_i ?_ ?_
  · -- r0
    first | omega | assumption | grind
  refine req_i ?_ ?_
  · -- r1
    first | omega | assumption | grind
  refine req_i ?_ ?_
  · -- r2
    first | trivial | assumption | (simp only [sigRoot, rootPost, isL, List.cons.injEq, DV.b.injEq, and_true, List.length_cons, List.length_nil]; done) | ((try simp only [sigRoot, rootPost, isL, List.cons.injEq, DV.b.injEq, and_true, List.length_cons, List.length_nil]); first | omega | assumption | grind)
  refine all_i fun n2 => ?_
  refine imp_i fun h5 => ?_
  refine imp_i fun h6 => ?_
  refine all_i fun n3 => ?_
  refine imp_i fun h7 => ?_
  refine imp_i fun h8 => ?_
  refine imp_i fun h9 => ?_
  try simp only [sigRoot, rootPost, isL, List.cons.injEq, DV.b.injEq, and_true, List.length_cons, List.length_nil] at h9
  refine req_i ?_ ?_
  · -- r3
    first | omega | assumption | grind
  refine req_i ?_ ?_
  · -- r4
    first | omega | assumption | grind
  refine req_i ?_ ?_
  · -- r5
    first | trivial | assumption | (simp only [sigRoot, rootPost, isL, List.cons.injEq, DV.b.injEq, and_true, List.length_cons, List.length_nil]; done) | ((try simp only [sigRoot, rootPost, isL, List.cons.injEq, DV.b.injEq, and_true, List.length_cons, List.length_nil]); first | omega | assumption | grind)
  refine all_i fun n4 => ?_
  refine imp_i fun h10 => ?_
  refine imp_i fun h11 => ?_
  refine all_i fun n5 => ?_
  refine imp_i fun h12 => ?_
  refine imp_i fun h13 => ?_
  refine imp_i fun h14 => ?_
  try simp only [sigRoot, rootPost, isL, List.cons.injEq, DV.b.injEq, and_true, List.length_cons, List.length_nil] at h14
  refine req_i ?_ ?_
  · -- r6
    first | omega | assumption | grind
  refine req_i ?_ ?_
  · -- r7
    first | omega | assumption | grind
  refine req_i ?_ ?_
  · -- r8
    first | omega | assumption | grind
  refine req_i ?_ ?_
  · -- r9
    first | omega | assumption | grind
  refine req_i ?_ ?_
  · -- r10
    first | trivial | assumption | (simp only [sigPow, powPost, List.cons.injEq, DV.b.injEq, and_true, List.length_cons, List.length_nil]; done) | ((try simp only [sigPow, powPost, List.cons.injEq, DV.b.injEq, and_true, List.length_cons, List.length_nil]); first | omega | assumption | grind)
  refine all_i fun n6 => ?_
  refine imp_i fun h15 => ?_
  refine imp_i fun h16 => ?_
  refine all_i fun n7 => ?_
  refine imp_i fun h17 => ?_
  refine imp_i fun h18 => ?_
  refine imp_i fun h19 => ?_
  try simp only [sigPow, powPost, List.cons.injEq, DV.b.injEq, and_true, List.length_cons, List.length_nil] at h19
  refine req_i ?_ ?_
  · -- r11
    first | omega | assumption | grind
  refine req_i ?_ ?_
  · -- r12
    first | omega | assumption | grind
  refine req_i ?_ ?_
  · -- r13
    first | omega | assumption | grind
  refine req_i ?_ ?_
  · -- r14
    first | omega | assumption | grind
  refine req_i ?_ ?_
  · -- r15
    first | trivial | assumption | (simp only [sigPow, powPost, List.cons.injEq, DV.b.injEq, and_true, List.length_cons, List.length_nil]; done) | ((try simp only [sigPow, powPost, List.cons.injEq, DV.b.injEq, and_true, List.length_cons, List.length_nil]); first | omega | assumption | grind)
  refine all_i fun n8 => ?_
  refine imp_i fun h20 => ?_
  refine imp_i fun h21 => ?_
  refine all_i fun n9 => ?_
  refine imp_i fun h22 => ?_
  refine imp_i fun h23 => ?_
  refine imp_i fun h24 => ?_
  try simp only [sigPow, powPost, List.cons.injEq, DV.b.injEq, and_true, List.length_cons, List.length_nil] at h24
  refine req_i ?_ ?_
  · -- r16
    first | omega | assumption | grind
  refine req_i ?_ ?_
  · -- r17
    first | omega | assumption | grind
  refine req_i ?_ ?_
  · -- r18
    first | trivial | assumption | (simp only [sigSgd, sgdPost, List.cons.injEq, DV.b.injEq, and_true, List.length_cons, List.length_nil]; done) | ((try simp only [sigSgd, sgdPost, List.cons.injEq, DV.b.injEq, and_true, List.length_cons, List.length_nil]); first | omega | assumption | grind)
  refine all_i fun n10 => ?_
  refine imp_i fun h25 => ?_
  refine imp_i fun h26 => ?_
  refine all_i fun n11 => ?_
  refine imp_i fun h27 => ?_
  refine imp_i fun h28 => ?_
  refine imp_i fun h29 => ?_
  try simp only [sigSgd, sgdPost, List.cons.injEq, DV.b.injEq, and_true, List.length_cons, List.length_nil] at h29
  refine req_i ?_ ?_
  · -- r19
    first | omega | assumption | grind
  refine req_i ?_ ?_
  · -- r20
    first | omega | assumption | grind
  refine req_i ?_ ?_
  · -- r21
    first | trivial | assumption | (simp only [sigSgd, sgdPost, List.cons.injEq, DV.b.injEq, and_true, List.length_cons, List.length_nil]; done) | ((try simp only [sigSgd, sgdPost, List.cons.injEq, DV.b.injEq, and_true, List.length_cons, List.length_nil]); first | omega | assumption | grind)
  refine all_i fun n12 => ?_
  refine imp_i fun h30 => ?_
  refine imp_i fun h31 => ?_
  refine all_i fun n13 => ?_
  refine imp_i fun h32 => ?_
  refine imp_i fun h33 => ?_
  refine imp_i fun h34 => ?_
  try simp only [sigSgd, sgdPost, List.cons.injEq, DV.b.injEq, and_true, List.length_cons, List.length_nil] at h34
  refine bR_dec (fun h35 => ?_) (fun h35 => ?_)
  ·
    refine bR_dec (fun h36 => ?_) (fun h36 => ?_)
    ·
      refine bR_dec (fun h37 => ?_) (fun h37 => ?_)
      ·
        refine bR_dec (fun h38 => ?_) (fun h38 => ?_)
        ·
          refine bR_dec (fun h39 => ?_) (fun h39 => ?_)
          ·
            refine bR_dec (fun h40 => ?_) (fun h40 => ?_)
            ·
              refine req_i ?_ ?_
              · -- r22
                first | omega | assumption | grind
              refine all_i fun b14 => ?_
              refine imp_i fun h41 => ?_
              try simp only [sigTrue0, List.cons.injEq, DV.b.injEq, and_true, List.length_cons, List.length_nil] at h41
              refine req_i ?_ ?_
              · -- r23
                first | omega | ((try simp only [sigL2, List.cons.injEq, DV.b.injEq, and_true, List.length_cons, List.length_nil]); first | done | omega | assumption | grind [getD_set, getD_rep, toNat_succ, cntN_yes, cntN_no])
              rfl
            ·
              refine req_i ?_ ?_
              · -- r24
                first | omega | ((try simp only [sigL2, List.cons.injEq, DV.b.injEq, and_true, List.length_cons, List.length_nil]); first | done | omega | assumption | grind [getD_set, getD_rep, toNat_succ, cntN_yes, cntN_no])
              rfl
          ·
            refine req_i ?_ ?_
            · -- r25
              first | omega | ((try simp only [sigL2, List.cons.injEq, DV.b.injEq, and_true, List.length_cons, List.length_nil]); first | done | omega | assumption | grind [getD_set, getD_rep, toNat_succ, cntN_yes, cntN_no])
            rfl
        ·
          refine req_i ?_ ?_
          · -- r26
            first | omega | ((try simp only [sigL2, List.cons.injEq, DV.b.injEq, and_true, List.length_cons, List.length_nil]); first | done | omega | assumption | grind [getD_set, getD_rep, toNat_succ, cntN_yes, cntN_no])
          rfl
      ·
        refine req_i ?_ ?_
        · -- r27
          first | omega | ((try simp only [sigL2, List.cons.injEq, DV.b.injEq, and_true, List.length_cons, List.length_nil]); first | done | omega | assumption | grind [getD_set, getD_rep, toNat_succ, cntN_yes, cntN_no])
        rfl
    ·
      refine req_i ?_ ?_
      · -- r28
        first | omega | ((try simp only [sigL2, List.cons.injEq, DV.b.injEq, and_true, List.length_cons, List.length_nil]); first | done | omega | assumption | grind [getD_set, getD_rep, toNat_succ, cntN_yes, cntN_no])
      rfl
  ·
    refine req_i ?_ ?_
    · -- r29
      first | omega | ((try simp only [sigL2, List.cons.injEq, DV.b.injEq, and_true, List.length_cons, List.length_nil]); first | done | omega | assumption | grind [getD_set, getD_rep, toNat_succ, cntN_yes, cntN_no])
    rfl
theorem ext_NttNumbers : ∀ p ∈ ([(18, Ext.ctr (ctOf sigTrue0)), (10, Ext.ctr (ctOf sigRoot)), (19, Ext.ctr (ctOf sigRoot)), (11, Ext.ctr (ctOf sigPow)), (20, Ext.ctr (ctOf sigPow)), (15, Ext.ctr (ctOf sigSgd)), (21, Ext.ctr (ctOf sigSgd))] : List (Nat × Ext)), ExtRow Try.prog p.1 p.2 := by
  intro p hp
  simp only [List.mem_cons, List.not_mem_nil, or_false] at hp
  rcases hp with rfl | rfl | rfl | rfl | rfl | rfl | rfl
  · trivial
  · trivial
  · trivial
  · trivial
  · trivial
  · trivial
  · trivial
theorem cts_NttNumbers : CtsOk Try.prog [(18, Ext.ctr (ctOf sigTrue0)), (10, Ext.ctr (ctOf sigRoot)), (19, Ext.ctr (ctOf sigRoot)), (11, Ext.ctr (ctOf sigPow)), (20, Ext.ctr (ctOf sigPow)), (15, Ext.ctr (ctOf sigSgd)), (21, Ext.ctr (ctOf sigSgd))] := ctsOk_of (cs := [(18, sigTrue0), (10, sigRoot), (19, sigRoot), (11, sigPow), (20, sigPow), (15, sigSgd), (21, sigSgd)])
  (fun p hp => by
    simp only [List.mem_cons, List.not_mem_nil, or_false] at hp
    rcases hp with rfl | rfl | rfl | rfl | rfl | rfl | rfl
    · exact fn_awake
    · exact fn_root
    · exact fn_rootR
    · exact fn_pow
    · exact fn_powR
    · exact fn_sgd
    · exact fn_sgdR
)
  (fun f c h => by
    simp only [List.lookup_cons] at h
    repeat' split at h
    all_goals first | (cases h; done) | (rename_i e; have e := beq_iff_eq.1 e; subst e; cases h; exact ⟨_, by simp, rfl⟩))
theorem fn_NttNumbers : FnOk Try.prog 4 sigL2 [] := fn_sound (by kernel_rfl) ext_NttNumbers cts_NttNumbers names vt_NttNumbers
end Go.Proofs.Ytdhmgljppciogaa

