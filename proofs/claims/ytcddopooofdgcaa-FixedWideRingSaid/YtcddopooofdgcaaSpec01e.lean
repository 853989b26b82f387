import Derived.Test.YtcddopooofdgcaaSpec01
namespace Go.Sp
open Go.Ev
theorem eqs : True := by
  have := @sigAdd64.eq_1
  have := @sigSub64.eq_1
  have := @add64Post.eq_1
  have := @sub64Post.eq_1
  have := @sigSize.eq_1
  have := @sizePost.eq_1
  have := @sigSat.eq_1
  have := @satPost.eq_1
  have := @sigTog.eq_1
  have := @togPost.eq_1
  have := @sigMul.eq_1
  have := @mulPost.eq_1
  have := @sigAdd.eq_1
  have := @addP.eq_1
  have := @sigSub.eq_1
  have := @subP.eq_1
  have := @sigNeg.eq_1
  have := @negP.eq_1
  have := @sigClamp.eq_1
  have := @clampP.eq_1
  have := @sat.eq_1
  have := @sigPickN.eq_1
  have := @sigTimes.eq_1
  have := @timesPost.eq_1
  have := @sigProd.eq_1
  have := @prodPost.eq_1
  have := @sigPlus.eq_1
  have := @plusPost.eq_1
  have := @sigMinus.eq_1
  have := @minusPost.eq_1
  have := @sigCmp.eq_1
  have := @cmpPost.eq_1
  have := @sigNar.eq_1
  have := @narPost.eq_1
  have := @sigL3.eq_1
  have := @pickPost.eq_1
  have := @sigTrue0.eq_1
  have := @absI.eq_1
  trivial
end Go.Sp
