/- Parts of the run of AngleTurns. -/
import Derived.Test.YtikcjpkocadfdaaDoorRows
import Derived.WalkKit
import Derived.ProofKit
import Derived.OpenShut
import Derived.Test.YtikcjpkocadfdaaDoorEvU
namespace Go.Proofs.YtikcjpkocadfdaaDoor.angleTurns
open Go.ChangeShapes Go.WideShapes Go.ChangeAt Go.RowKit
set_option linter.unusedVariables false
def tabled : List Int := [127, 126, 125, 122, 117, 112, 106, 98, 90, 81, 71, 60, 49, 37, 25, 12, 0]
section
open Go.Ev
theorem turn_eq (p s m n : Int) : IntKind.wrap .u32 (IntKind.wrap .u32 (p + IntKind.wrap .u32 (s * IntKind.wrap .u32 m)) + IntKind.wrap .u32 (s * IntKind.wrap .u32 n)) = IntKind.wrap .u32 (p + IntKind.wrap .u32 (s * IntKind.wrap .u32 (IntKind.wrap .i64 (m + n)))) := by
  simp only [Go.Ev.w_u32, Go.Ev.w_i64]
  have e1 : ((m + n + 9223372036854775808) % 18446744073709551616 - 9223372036854775808) % 4294967296 = (m % 4294967296 + n % 4294967296) % 4294967296 := by omega
  rw [e1]
  have e2 : s * ((m % 4294967296 + n % 4294967296) % 4294967296) % 4294967296 = (s * (m % 4294967296) + s * (n % 4294967296)) % 4294967296 := by
    rw [Int.mul_emod, Int.emod_emod_of_dvd _ (Int.dvd_refl _), ← Int.mul_emod, Int.mul_add]
  rw [e2]
  generalize s * (m % 4294967296) = P
  generalize s * (n % 4294967296) = Q
  omega

end
section
open Go.Ev
def args0 : List EV := [.sym .u32 (.var 0) (IntKind.min .u32) (IntKind.max .u32), .sym .u32 (.var 1) (IntKind.min .u32) (IntKind.max .u32), .sym .i64 (.var 2) (IntKind.min .i64) (IntKind.max .i64), .sym .i64 (.var 3) (IntKind.min .i64) (IntKind.max .i64), .sym .i64 (.var 4) (IntKind.min .i64) (IntKind.max .i64)]
end
end Go.Proofs.YtikcjpkocadfdaaDoor.angleTurns
