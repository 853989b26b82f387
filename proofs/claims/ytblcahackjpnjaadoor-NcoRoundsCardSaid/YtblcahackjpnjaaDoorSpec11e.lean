import Derived.Test.YtblcahackjpnjaaDoorSpec11
namespace Go.Sp
open Go.Ev
theorem eqs : True := by
  have := @pickPost.eq_1
  have := @sigTurn.eq_1
  have := @stepPost.eq_1
  have := @sigStep.eq_1
  have := @sigRounds.eq_1
  have := @sigTrue0.eq_1
  trivial
end Go.Sp
