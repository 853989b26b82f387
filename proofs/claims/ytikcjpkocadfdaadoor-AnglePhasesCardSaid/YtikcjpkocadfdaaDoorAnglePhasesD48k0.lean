/- Parts of the run of AnglePhases. -/
import Derived.Test.YtikcjpkocadfdaaDoorRows
import Derived.WalkKit
import Derived.ProofKit
import Derived.OpenShut
import Derived.Test.YtikcjpkocadfdaaDoorEvU
import Derived.Test.YtikcjpkocadfdaaDoorAnglePhasesB
namespace Go.Proofs.YtikcjpkocadfdaaDoor.anglePhases
open Go.ChangeShapes Go.WideShapes Go.ChangeAt Go.RowKit
set_option linter.unusedVariables false
section
open Go.Ev
namespace r48
def dead0 : List Fact := [⟨(.bin .sub (.wrap .u32 (.bin .add (.var 0) (.wrap .u32 (.bin .mul (.var 1) (.wrap .u32 (.var 2)))))) (.wrap .u32 (.bin .add (.var 0) (.wrap .u32 (.bin .mul (.wrap .u32 (.var 2)) (.var 1)))))), (-1), true⟩]
theorem dead0_no (v : Nat → Int) : ¬ ∀ f ∈ dead0, f.holds v := by
  intro h
  have h0 : (IntKind.wrap .u32 ((v 0 + IntKind.wrap .u32 ((v 1 * IntKind.wrap .u32 (v 2))))) - IntKind.wrap .u32 ((v 0 + IntKind.wrap .u32 ((IntKind.wrap .u32 (v 2) * v 1))))) ≤ (-1) := h _ (.head _)
  clear h
  first | omega | (simp (disch := omega) only [Go.Ev.tmod_e, Go.Ev.fdiv_e] at *; omega) | (first | omega | (simp only [Int.mul_add, Int.add_mul, Int.mul_sub, Int.sub_mul, Int.mul_assoc, Int.mul_comm, Int.mul_left_comm] at *; omega) | (simp (disch := omega) only [Go.Ev.w_i64, Go.Ev.w_i32, Go.Ev.w_u64, Go.Ev.w_u32, Go.Ev.w_u8, Go.Ev.tdiv_e, Go.Ev.tmod_e, Go.Ev.fdiv_e] at *; omega) | (simp only [Int.mul_add, Int.add_mul, Int.mul_sub, Int.sub_mul, Int.mul_assoc, Int.mul_comm, Int.mul_left_comm] at *; simp (disch := omega) only [Go.Ev.w_i64, Go.Ev.w_i32, Go.Ev.w_u64, Go.Ev.w_u32, Go.Ev.w_u8, Go.Ev.tdiv_e, Go.Ev.tmod_e, Go.Ev.fdiv_e] at *; omega))
def dead1 : List Fact := [⟨(.bin .sub (.wrap .u32 (.bin .add (.var 0) (.wrap .u32 (.bin .mul (.var 1) (.wrap .u32 (.var 2)))))) (.wrap .u32 (.bin .add (.var 0) (.wrap .u32 (.bin .mul (.wrap .u32 (.var 2)) (.var 1)))))), 0, false⟩]
theorem dead1_no (v : Nat → Int) : ¬ ∀ f ∈ dead1, f.holds v := by
  intro h
  have h0 : 0 < (IntKind.wrap .u32 ((v 0 + IntKind.wrap .u32 ((v 1 * IntKind.wrap .u32 (v 2))))) - IntKind.wrap .u32 ((v 0 + IntKind.wrap .u32 ((IntKind.wrap .u32 (v 2) * v 1))))) := h _ (.head _)
  clear h
  first | omega | (simp (disch := omega) only [Go.Ev.tmod_e, Go.Ev.fdiv_e] at *; omega) | (first | omega | (simp only [Int.mul_add, Int.add_mul, Int.mul_sub, Int.sub_mul, Int.mul_assoc, Int.mul_comm, Int.mul_left_comm] at *; omega) | (simp (disch := omega) only [Go.Ev.w_i64, Go.Ev.w_i32, Go.Ev.w_u64, Go.Ev.w_u32, Go.Ev.w_u8, Go.Ev.tdiv_e, Go.Ev.tmod_e, Go.Ev.fdiv_e] at *; omega) | (simp only [Int.mul_add, Int.add_mul, Int.mul_sub, Int.sub_mul, Int.mul_assoc, Int.mul_comm, Int.mul_left_comm] at *; simp (disch := omega) only [Go.Ev.w_i64, Go.Ev.w_i32, Go.Ev.w_u64, Go.Ev.w_u32, Go.Ev.w_u8, Go.Ev.tdiv_e, Go.Ev.tmod_e, Go.Ev.fdiv_e] at *; omega))
end r48
end
end Go.Proofs.YtikcjpkocadfdaaDoor.anglePhases
