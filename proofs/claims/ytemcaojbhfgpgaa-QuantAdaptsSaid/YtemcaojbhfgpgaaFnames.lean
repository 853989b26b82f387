import Derived.Test.YtemcaojbhfgpgaaEvSY
import Derived.Test.YtemcaojbhfgpgaaRows
namespace Go.Proofs.Ytemcaojbhfgpgaa
theorem names : Go.Ev.namesB Try.prog = true := by kernel_rfl
end Go.Proofs.Ytemcaojbhfgpgaa
