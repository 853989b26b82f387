/- Parts of the run of AnglePhases. -/
import Derived.Test.YtikcjpkocadfdaaDoorRows
import Derived.WalkKit
import Derived.ProofKit
import Derived.OpenShut
import Derived.Test.YtikcjpkocadfdaaDoorEvU
namespace Go.Proofs.YtikcjpkocadfdaaDoor.anglePhases
open Go.ChangeShapes Go.WideShapes Go.ChangeAt Go.RowKit
set_option linter.unusedVariables false
def tabled : List Int := [127, 126, 125, 122, 117, 112, 106, 98, 90, 81, 71, 60, 49, 37, 25, 12, 0]
section
open Go.Ev

end
section
open Go.Ev
def args0 : List EV := [.sym .u32 (.var 0) (IntKind.min .u32) (IntKind.max .u32), .sym .u32 (.var 1) (IntKind.min .u32) (IntKind.max .u32), .sym .i64 (.var 2) (IntKind.min .i64) (IntKind.max .i64), .agg [.sym .i64 (.var 3) (IntKind.min .i64) (IntKind.max .i64), .sym .i64 (.var 4) (IntKind.min .i64) (IntKind.max .i64)]]
end
end Go.Proofs.YtikcjpkocadfdaaDoor.anglePhases
