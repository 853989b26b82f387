import Derived.Test.YtlhcjklfcpbcaaaSpec
import Derived.Test.YtlhcjklfcpbcaaaRows
import Derived.Test.YtlhcjklfcpbcaaaFnames
namespace Go.Proofs.Ytlhcjklfcpbcaaa
open Go.Ev Go.Sp
set_option maxRecDepth 100000
theorem vc_pick : vcFn Try.prog [] tab [] 100 21 sigPick = (allB fun n0 : Int => 
impB ((-9223372036854775808 : Int) ≤ n0) (
impB (n0 ≤ (9223372036854775807 : Int)) (
allB fun n1 : Int => 
impB ((1 : Int) ≤ n1) (
impB (n1 ≤ (1000000 : Int)) (
impB (sigPick.pre [DV.n n0, DV.n n1]) (
bR (dec (n0.tmod n1 < (0 : Int))) (
 reqB ((0 : Int) ≤ n0.tmod n1 + n1) (
 reqB (n0.tmod n1 + n1 ≤ (1000000 : Int)) (
 reqB (sigPick.post [DV.n n0, DV.n n1] [DV.n (n0.tmod n1 + n1)]) (
 true)))) (
 reqB ((0 : Int) ≤ n0.tmod n1) (
 reqB (n0.tmod n1 ≤ (1000000 : Int)) (
 reqB (sigPick.post [DV.n n0, DV.n n1] [DV.n (n0.tmod n1)]) (
 true)))))))))) := by kernel_rfl
set_option maxHeartbeats 8000000 in
theorem vt_pick : vcFn Try.prog [] tab [] 100 21 sigPick = true := by
  rw [vc_pick]
  try simp only [bR_same, dec_same, bR_true, bR_false]
  simp only [allB_iff, impB_iff, reqB_iff, bR_iff, bR_iff_f, dec_iff, dec_f, reduceCtorEq, imp_false, Classical.not_not, implies_true, true_and, and_true]
  simp only [sigPick, pickPost, wrap_i64]
  intro x h1 h2 n h3 h4 _
  have T := tmod_of (x := x) (n := n) (by omega)
  generalize x.tmod n = t at T ⊢
  generalize x % n = e at T ⊢
  obtain ⟨t1, t2, t3, t4⟩ := T
  repeat' (first | intro _ | apply And.intro)
  all_goals first | omega | (have := t1 (by assumption); omega) | (have := t2 (by assumption); omega)
theorem ext_pick : ∀ p ∈ ([] : List (Nat × Ext)), ExtRow Try.prog p.1 p.2 := by
  intro p hp
  cases hp
theorem cts_pick : CtsOk Try.prog [] := fun f c h => by cases h
theorem fn_pick : FnOk Try.prog 21 sigPick [] := fn_sound (by kernel_rfl) ext_pick cts_pick names vt_pick
end Go.Proofs.Ytlhcjklfcpbcaaa
