import Derived.Test.YtemcaojbhfgpgaaSpec13e
import Derived.Test.YtemcaojbhfgpgaaEvSS
import Derived.Test.YtemcaojbhfgpgaaRows
import Derived.Test.YtemcaojbhfgpgaaFnames
import Derived.Test.YtemcaojbhfgpgaaFhv0
import Derived.Test.YtemcaojbhfgpgaaFhv1
namespace Go.Proofs.Ytemcaojbhfgpgaa
open Go.Ev Go.Sp
theorem fn_hv : FnOk Try.prog 47 (sigHv (-70368744177664) 70368744177664) [] := by
  exact fn_split1 (m := 0) (m' := -1) (by decide) fn_hv0 fn_hv1
end Go.Proofs.Ytemcaojbhfgpgaa
