import Derived.Test.YtlhcjklfcpbcaaaSpec
import Derived.Test.YtlhcjklfcpbcaaaRows
import Derived.Test.YtlhcjklfcpbcaaaFnames
namespace Go.Proofs.Ytlhcjklfcpbcaaa
open Go.Ev Go.Sp
set_option maxRecDepth 100000
theorem vc_step : vcFn Try.prog [] tab [] 100 23 sigStep = (allB fun n0 : Int => 
impB ((1 : Int) ≤ n0) (
impB (n0 ≤ (100 : Int)) (
allB fun n1 : Int => 
impB ((1 : Int) ≤ n1) (
impB (n1 ≤ (100 : Int)) (
allB fun n2 : Int => 
impB ((0 : Int) ≤ n2) (
impB (n2 ≤ (100 : Int)) (
allB fun n3 : Int => 
impB ((0 : Int) ≤ n3) (
impB (n3 ≤ (100 : Int)) (
allB fun b4 : Bool => 
allB fun b5 : Bool => 
impB (sigStep.pre [DV.n n0, DV.n n1, DV.n n2, DV.n n3, DV.b b4, DV.b b5]) (
bR (b5) (
 bR (b4) (
  reqB ((1 : Int) ≤ n0) (
  reqB (n0 ≤ (100 : Int)) (
  reqB ((1 : Int) ≤ n1) (
  reqB (n1 ≤ (100 : Int)) (
  reqB ((0 : Int) ≤ Min.min (n2 + (1 : Int)) n0) (
  reqB (Min.min (n2 + (1 : Int)) n0 ≤ (100 : Int)) (
  reqB (sigStep.post [DV.n n0, DV.n n1, DV.n n2, DV.n n3, DV.b b4, DV.b b5]
  [DV.n n0, DV.n n1, DV.n (Min.min (n2 + (1 : Int)) n0), DV.n (0 : Int), DV.b Bool.true]) (
  true)))))))) (
  reqB ((1 : Int) ≤ n0) (
  reqB (n0 ≤ (100 : Int)) (
  reqB ((1 : Int) ≤ n1) (
  reqB (n1 ≤ (100 : Int)) (
  reqB ((0 : Int) ≤ Min.min (n2 + (1 : Int)) n0) (
  reqB (Min.min (n2 + (1 : Int)) n0 ≤ (100 : Int)) (
  reqB (sigStep.post [DV.n n0, DV.n n1, DV.n n2, DV.n n3, DV.b b4, DV.b b5]
  [DV.n n0, DV.n n1, DV.n (Min.min (n2 + (1 : Int)) n0), DV.n (0 : Int),
    DV.b (dec (Min.min (n2 + (1 : Int)) n0 = n0))]) (
  true))))))))) (
 bR (b4) (
  reqB ((1 : Int) ≤ n0) (
  reqB (n0 ≤ (100 : Int)) (
  reqB ((1 : Int) ≤ n1) (
  reqB (n1 ≤ (100 : Int)) (
  reqB ((0 : Int) ≤ Min.min (n3 + (1 : Int)) n1) (
  reqB (Min.min (n3 + (1 : Int)) n1 ≤ (100 : Int)) (
  reqB (sigStep.post [DV.n n0, DV.n n1, DV.n n2, DV.n n3, DV.b b4, DV.b b5]
  [DV.n n0, DV.n n1, DV.n (0 : Int), DV.n (Min.min (n3 + (1 : Int)) n1),
    DV.b (dec (Min.min (n3 + (1 : Int)) n1 < n1))]) (
  true)))))))) (
  reqB ((1 : Int) ≤ n0) (
  reqB (n0 ≤ (100 : Int)) (
  reqB ((1 : Int) ≤ n1) (
  reqB (n1 ≤ (100 : Int)) (
  reqB ((0 : Int) ≤ Min.min (n3 + (1 : Int)) n1) (
  reqB (Min.min (n3 + (1 : Int)) n1 ≤ (100 : Int)) (
  reqB (sigStep.post [DV.n n0, DV.n n1, DV.n n2, DV.n n3, DV.b b4, DV.b b5]
  [DV.n n0, DV.n n1, DV.n (0 : Int), DV.n (Min.min (n3 + (1 : Int)) n1), DV.b Bool.false]) (
  true))))))))))))))))))) := by kernel_rfl
set_option maxHeartbeats 8000000 in
theorem vt_step : vcFn Try.prog [] tab [] 100 23 sigStep = true := by
  rw [vc_step]
  try simp only [bR_same, dec_same, bR_true, bR_false]
  simp only [allB_iff, impB_iff, reqB_iff, bR_iff, bR_iff_f, dec_iff, dec_f, reduceCtorEq, imp_false, Classical.not_not, implies_true, true_and, and_true]
  simp only [sigStep, stepPost, dec_eq]
  repeat' (first | intro _ | apply And.intro)
  all_goals first | omega | grind [stp]
theorem ext_step : ∀ p ∈ ([] : List (Nat × Ext)), ExtRow Try.prog p.1 p.2 := by
  intro p hp
  cases hp
theorem cts_step : CtsOk Try.prog [] := fun f c h => by cases h
theorem fn_step : FnOk Try.prog 23 sigStep [] := fn_sound (by kernel_rfl) ext_step cts_step names vt_step
end Go.Proofs.Ytlhcjklfcpbcaaa
