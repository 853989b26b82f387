import Derived.Test.YtagndcelalcmpaaSpec29b
namespace Go.Sp
theorem eqs : True := by
  have := @sigRnd0.eq_1
  have := @sigRnd.eq_1
  have := @rndPost0.eq_1
  have := @sigRnd1.eq_1
  have := @rndPost1.eq_1
  have := @rndPost.eq_1
  have := @sigLen.eq_1
  have := @lenPost.eq_1
  have := @sigBnd.eq_1
  have := @bndPost.eq_1
  have := @sigL5.eq_1
  have := @sigPickN.eq_1
  have := @pickPost.eq_1
  have := @sigTrue0.eq_1
  trivial
end Go.Sp
