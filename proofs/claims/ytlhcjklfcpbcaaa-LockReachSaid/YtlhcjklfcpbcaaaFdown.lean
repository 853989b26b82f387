import Derived.Test.YtlhcjklfcpbcaaaSpec
import Derived.Test.YtlhcjklfcpbcaaaRows
import Derived.Test.YtlhcjklfcpbcaaaFnames
namespace Go.Proofs.Ytlhcjklfcpbcaaa
open Go.Ev Go.Sp
set_option maxRecDepth 100000
theorem vc_down : vcFn Try.prog [] tab [] 100 22 sigDown = (allB fun n0 : Int => 
impB ((-1000000 : Int) ≤ n0) (
impB (n0 ≤ (1000000 : Int)) (
impB (sigDown.pre [DV.n n0]) (
bR (dec (n0 < (0 : Int))) (
 reqB ((-1000000 : Int) ≤ (0 : Int) - ((0 : Int) - n0 + (1023 : Int)).tdiv (1024 : Int)) (
 reqB ((0 : Int) - ((0 : Int) - n0 + (1023 : Int)).tdiv (1024 : Int) ≤ (1000000 : Int)) (
 reqB (sigDown.post [DV.n n0] [DV.n ((0 : Int) - ((0 : Int) - n0 + (1023 : Int)).tdiv (1024 : Int))]) (
 true)))) (
 reqB ((-1000000 : Int) ≤ n0.tdiv (1024 : Int)) (
 reqB (n0.tdiv (1024 : Int) ≤ (1000000 : Int)) (
 reqB (sigDown.post [DV.n n0] [DV.n (n0.tdiv (1024 : Int))]) (
 true)))))))) := by kernel_rfl
set_option maxHeartbeats 8000000 in
theorem vt_down : vcFn Try.prog [] tab [] 100 22 sigDown = true := by
  rw [vc_down]
  try simp only [bR_same, dec_same, bR_true, bR_false]
  simp only [allB_iff, impB_iff, reqB_iff, bR_iff, bR_iff_f, dec_iff, dec_f, reduceCtorEq, imp_false, Classical.not_not, implies_true, true_and, and_true]
  simp only [sigDown, downPost, wrap_i64]
  repeat' (first | intro _ | apply And.intro)
  all_goals first | omega | (rw [Int.tdiv_eq_ediv_of_nonneg (by omega)]; omega) | grind
theorem ext_down : ∀ p ∈ ([] : List (Nat × Ext)), ExtRow Try.prog p.1 p.2 := by
  intro p hp
  cases hp
theorem cts_down : CtsOk Try.prog [] := fun f c h => by cases h
theorem fn_down : FnOk Try.prog 22 sigDown [] := fn_sound (by kernel_rfl) ext_down cts_down names vt_down
end Go.Proofs.Ytlhcjklfcpbcaaa
