import Derived.Test.YtagndcelalcmpaaEvSY
import Derived.Test.YtagndcelalcmpaaRows
namespace Go.Proofs.Ytagndcelalcmpaa
theorem names : Go.Ev.namesB Try.prog = true := by kernel_rfl
end Go.Proofs.Ytagndcelalcmpaa
