import Derived.Test.YtikcjpkocadfdaaDoorEvSY
import Derived.Test.YtikcjpkocadfdaaDoorRows
namespace Go.Proofs.YtikcjpkocadfdaaDoor
theorem names : Go.Ev.namesB Tryd.prog = true := by kernel_rfl
end Go.Proofs.YtikcjpkocadfdaaDoor
