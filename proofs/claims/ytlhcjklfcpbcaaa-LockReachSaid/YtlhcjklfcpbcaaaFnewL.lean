import Derived.Test.YtlhcjklfcpbcaaaSpec
import Derived.Test.YtlhcjklfcpbcaaaRows
import Derived.Test.YtlhcjklfcpbcaaaFnames
namespace Go.Proofs.Ytlhcjklfcpbcaaa
open Go.Ev Go.Sp
set_option maxRecDepth 100000
theorem vc_newL : vcFn Try.prog [] tab [] 100 11 sigNew = (allB fun n0 : Int => 
impB ((1 : Int) ≤ n0) (
impB (n0 ≤ (100 : Int)) (
allB fun n1 : Int => 
impB ((1 : Int) ≤ n1) (
impB (n1 ≤ (100 : Int)) (
impB (sigNew.pre [DV.n n0, DV.n n1]) (
reqB ((1 : Int) ≤ n0) (
reqB (n0 ≤ (100 : Int)) (
reqB ((1 : Int) ≤ n1) (
reqB (n1 ≤ (100 : Int)) (
reqB (sigNew.post [DV.n n0, DV.n n1]
  [DV.n n0, DV.n n1, DV.n (0 : Int), DV.n (0 : Int), DV.b Bool.false,
    DV.n (0 : Int)]) (
true))))))))))) := by kernel_rfl
set_option maxHeartbeats 8000000 in
theorem vt_newL : vcFn Try.prog [] tab [] 100 11 sigNew = true := by
  rw [vc_newL]
  try simp only [bR_same, dec_same, bR_true, bR_false]
  simp only [allB_iff, impB_iff, reqB_iff, bR_iff, bR_iff_f, dec_iff, dec_f, reduceCtorEq, imp_false, Classical.not_not, implies_true, true_and, and_true]
  simp only [sigNew, newPost, wrap_i64]
  repeat' (first | intro _ | apply And.intro)
  all_goals first | omega | grind
theorem ext_newL : ∀ p ∈ ([] : List (Nat × Ext)), ExtRow Try.prog p.1 p.2 := by
  intro p hp
  cases hp
theorem cts_newL : CtsOk Try.prog [] := fun f c h => by cases h
theorem fn_newL : FnOk Try.prog 11 sigNew [] := fn_sound (by kernel_rfl) ext_newL cts_newL names vt_newL
end Go.Proofs.Ytlhcjklfcpbcaaa
