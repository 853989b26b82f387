import Derived.Test.YtikcjpkocadfdaaDoorSpec02
import Derived.Test.YtikcjpkocadfdaaDoorSpecAng
namespace Go.Sp
open Go.Ev
noncomputable section
def sigSm2 : Sig := ⟨[smpV], [.one .b], fun _ => True, fun _ rs => rs = [.b true]⟩
end
end Go.Sp
