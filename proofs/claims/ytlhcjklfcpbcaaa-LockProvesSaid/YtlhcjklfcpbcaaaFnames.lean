import Derived.Test.YtlhcjklfcpbcaaaEvSY
import Derived.Test.YtlhcjklfcpbcaaaRows
namespace Go.Proofs.Ytlhcjklfcpbcaaa
theorem names : Go.Ev.namesB Try.prog = true := by kernel_rfl
end Go.Proofs.Ytlhcjklfcpbcaaa
