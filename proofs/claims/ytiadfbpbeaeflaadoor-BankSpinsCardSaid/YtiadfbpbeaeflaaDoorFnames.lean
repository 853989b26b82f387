import Derived.Test.YtiadfbpbeaeflaaDoorEvSY
import Derived.Test.YtiadfbpbeaeflaaDoorRows
namespace Go.Proofs.YtiadfbpbeaeflaaDoor
theorem names : Go.Ev.namesB Tryd.prog = true := by kernel_rfl
end Go.Proofs.YtiadfbpbeaeflaaDoor
