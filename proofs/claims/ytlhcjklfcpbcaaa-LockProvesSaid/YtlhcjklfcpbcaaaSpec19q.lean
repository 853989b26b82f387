import Derived.Test.YtlhcjklfcpbcaaaSpec19p
namespace Go.Sp
open Go.Ev
theorem eqs : True := by
  have := @sigPick.eq_1
  have := @pickPost.eq_1
  have := @sigNew.eq_1
  have := @newPost.eq_1
  have := @sigRun.eq_1
  have := @runPost.eq_1
  have := @sigTrue0.eq_1
  have := @sigLP.eq_1
  have := @outInv.eq_1
  have := @outMea.eq_1
  have := @outL.eq_1
  have := @kInv.eq_1
  have := @kMea.eq_1
  have := @kL.eq_1
  have := @upInv.eq_1
  have := @dnInv.eq_1
  have := @nMea.eq_1
  have := @upL.eq_1
  have := @dnL.eq_1
  have := @thInv.eq_1
  have := @thMea.eq_1
  have := @thL.eq_1
  trivial
end Go.Sp
