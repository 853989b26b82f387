import Derived.Test.YthfbhkeligmdfaaSpec21b
namespace Go.Sp
open Go.Ev
theorem eqs : True := by
  have := @cSm.eq_1
  have := @cChg.eq_1
  have := @syncV.eq_1
  have := @newPost.eq_1
  have := @sigNew.eq_1
  have := @feedPre.eq_1
  have := @feedPost.eq_1
  have := @sigFeed.eq_1
  have := @chk21Inv.eq_1
  have := @feedInv.eq_1
  have := @mea1.eq_1
  have := @mea5.eq_1
  have := @smsPost.eq_1
  have := @cIn.eq_1
  have := @sigSms.eq_1
  have := @smsInv.eq_1
  have := @turnPost.eq_1
  have := @sigTurn.eq_1
  have := @clonePost.eq_1
  have := @clonePre.eq_1
  have := @sigClone.eq_1
  have := @equP.eq_1
  have := @sigEqu.eq_1
  have := @equInv.eq_1
  have := @equL.eq_1
  have := @sumsL.eq_1
  have := @chk21L.eq_1
  have := @feedL.eq_1
  have := @partsInv.eq_1
  have := @meaP.eq_1
  have := @totInv.eq_1
  have := @partsL.eq_1
  have := @totL.eq_1
  have := @sigParts.eq_1
  have := @sigTrue0.eq_1
  trivial
end Go.Sp
