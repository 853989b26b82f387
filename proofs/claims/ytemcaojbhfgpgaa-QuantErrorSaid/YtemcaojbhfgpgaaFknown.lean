import Derived.Test.YtemcaojbhfgpgaaSpec13e
import Derived.Test.YtemcaojbhfgpgaaRows
import Derived.Test.YtemcaojbhfgpgaaFnames
namespace Go.Proofs.Ytemcaojbhfgpgaa
open Go.Ev Go.Sp
set_option maxRecDepth 100000
theorem vc_known : vcFn Try.prog [] noA [] 1000 3 sigTrue0 = (impB (sigTrue0.pre []) (
reqB (sigTrue0.post [] [DV.b Bool.true]) (
true))) := by kernel_rfl
set_option maxHeartbeats 8000000 in
theorem vt_known : vcFn Try.prog [] noA [] 1000 3 sigTrue0 = true := by
  rw [vc_known]
  try simp only [bR_same, dec_same, bR_true, bR_false]
  simp only [allB_iff, impB_iff, reqB_iff, bR_iff, bR_iff_f, dec_iff, dec_f, reduceCtorEq, imp_false, Classical.not_not, implies_true, true_and, and_true]
  intro _
  first | rfl | trivial | simp [sigTrue0]
theorem ext_known : ∀ p ∈ ([] : List (Nat × Ext)), ExtRow Try.prog p.1 p.2 := by
  intro p hp
  cases hp
theorem cts_known : CtsOk Try.prog [] := fun f c h => by cases h
theorem fn_known : FnOk Try.prog 3 sigTrue0 [] := fn_sound (by kernel_rfl) ext_known cts_known names vt_known
end Go.Proofs.Ytemcaojbhfgpgaa
