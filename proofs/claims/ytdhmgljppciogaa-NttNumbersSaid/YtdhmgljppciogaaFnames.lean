import Derived.Test.YtdhmgljppciogaaEvSY
import Derived.Test.YtdhmgljppciogaaRows
namespace Go.Proofs.Ytdhmgljppciogaa
theorem names : Go.Ev.namesB Try.prog = true := by kernel_rfl
end Go.Proofs.Ytdhmgljppciogaa
