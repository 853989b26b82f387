import Derived.Test.YtofeleohcpaclaaDoorEvSY
import Derived.Test.YtofeleohcpaclaaDoorRows
namespace Go.Proofs.YtofeleohcpaclaaDoor
theorem names : Go.Ev.namesB Tryd.prog = true := by kernel_rfl
end Go.Proofs.YtofeleohcpaclaaDoor
