import Derived.Test.YtiadfbpbeaeflaaDoorSpecAng
namespace Go.Sp
open Go.Ev
noncomputable section
def gl11 : List (Nat × List EV) := [(0, [127, 126, 125, 122, 117, 112, 106, 98, 90, 81, 71, 60, 49, 37, 25, 12, 0].map (EV.int .i64))]
end
end Go.Sp
