import Derived.Test.YthfbhkeligmdfaaEvSY
import Derived.Test.YthfbhkeligmdfaaRows
namespace Go.Proofs.Ythfbhkeligmdfaa
theorem names : Go.Ev.namesB Try.prog = true := by kernel_rfl
end Go.Proofs.Ythfbhkeligmdfaa
