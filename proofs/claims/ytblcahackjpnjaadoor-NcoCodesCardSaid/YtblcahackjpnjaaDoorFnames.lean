import Derived.Test.YtblcahackjpnjaaDoorEvSY
import Derived.Test.YtblcahackjpnjaaDoorRows
namespace Go.Proofs.YtblcahackjpnjaaDoor
theorem names : Go.Ev.namesB Tryd.prog = true := by kernel_rfl
end Go.Proofs.YtblcahackjpnjaaDoor
