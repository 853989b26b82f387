import Derived.Test.YtbgooiiihmnnmaaEvSY
import Derived.Test.YtbgooiiihmnnmaaRows
namespace Go.Proofs.Ytbgooiiihmnnmaa
theorem names : Go.Ev.namesB Try.prog = true := by kernel_rfl
end Go.Proofs.Ytbgooiiihmnnmaa
