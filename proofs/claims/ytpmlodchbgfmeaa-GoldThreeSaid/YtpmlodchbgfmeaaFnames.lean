import Derived.Test.YtpmlodchbgfmeaaEvSY
import Derived.Test.YtpmlodchbgfmeaaRows
namespace Go.Proofs.Ytpmlodchbgfmeaa
theorem names : Go.Ev.namesB Try.prog = true := by kernel_rfl
end Go.Proofs.Ytpmlodchbgfmeaa
