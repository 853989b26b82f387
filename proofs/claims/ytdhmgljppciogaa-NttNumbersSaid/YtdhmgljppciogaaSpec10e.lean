import Derived.Test.YtdhmgljppciogaaSpec10
namespace Go.Sp
open Go.Ev
theorem eqs : True := by
  have := @sigPw.eq_1
  have := @pwPost.eq_1
  have := @pwInv.eq_1
  have := @pwMea.eq_1
  have := @pwL.eq_1
  have := @sigL2.eq_1
  have := @rootPost.eq_1
  have := @sigRoot.eq_1
  have := @powPost.eq_1
  have := @sigPow.eq_1
  have := @sgdPost.eq_1
  have := @sigSgd.eq_1
  have := @isL.eq_1
  have := @sigTrue0.eq_1
  trivial
end Go.Sp
