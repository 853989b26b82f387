import Derived.Test.YtcddopooofdgcaaEvSY
import Derived.Test.YtcddopooofdgcaaRows
namespace Go.Proofs.Ytcddopooofdgcaa
theorem names : Go.Ev.namesB Try.prog = true := by kernel_rfl
end Go.Proofs.Ytcddopooofdgcaa
