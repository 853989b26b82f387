import Derived.Test.YtikcjpkocadfdaaDoorSpec02
namespace Go.Sp
open Go.Ev
theorem eqs : True := by
  have := @sigRt.eq_1
  have := @rtPost.eq_1
  have := @sigRw.eq_1
  have := @rwPost.eq_1
  have := @rtInv.eq_1
  have := @rtMea.eq_1
  have := @rtL.eq_1
  have := @rwInv.eq_1
  have := @rwL.eq_1
  have := @rwLR.eq_1
  have := @sigL1.eq_1
  have := @sigL2i.eq_1
  have := @sigAdd64.eq_1
  have := @sigSub64.eq_1
  have := @add64Post.eq_1
  have := @sub64Post.eq_1
  have := @sigSize.eq_1
  have := @sizePost.eq_1
  have := @sigMul.eq_1
  have := @mulPost.eq_1
  have := @sigPickN.eq_1
  have := @sigTimes.eq_1
  have := @timesPost.eq_1
  have := @sigProd.eq_1
  have := @prodPost.eq_1
  have := @sigCmp.eq_1
  have := @cmpPost.eq_1
  have := @pickPost.eq_1
  have := @sigTrue0.eq_1
  have := @absI.eq_1
  trivial
end Go.Sp
