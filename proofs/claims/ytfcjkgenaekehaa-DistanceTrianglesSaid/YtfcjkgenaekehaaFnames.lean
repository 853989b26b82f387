import Derived.Test.YtfcjkgenaekehaaEvSY
import Derived.Test.YtfcjkgenaekehaaRows
namespace Go.Proofs.Ytfcjkgenaekehaa
theorem names : Go.Ev.namesB Try.prog = true := by kernel_rfl
end Go.Proofs.Ytfcjkgenaekehaa
