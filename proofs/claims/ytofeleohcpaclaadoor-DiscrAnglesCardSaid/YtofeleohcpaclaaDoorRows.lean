/-
  NARROWER THAN 'FOR EVERY INPUT', by the rows' own cells (each row's printed sentence says how): DiscrKnown: laid · DiscrSums: laid · DiscrRates: laid · DiscrCode: laid · DiscrAngles: laid · DiscrSteps: laid.
  DERIVED. THE GIVEN ROWS OF THIS SEAT. 6 by the template 'for every input the law returns true; each argument reads behind the call as it read before'; 0 by the template 'total and deterministic' (their statements: YtofeleohcpaclaaDoorTotals.lean).
  GIVEN WITH THE SEED: the statements are not yours to turn. If you find one false, say at which input.
  Laid BY PROGRAM, IN A SANDBOX (cutbox-rows.mjs): the forced cells as the released guide's own fill.sh prints them over the translation fcb5742df71ba7fc… (all of the seat's roots in one cut). By AI agents, Wed Nov 11 2026. No macro, syntax, notation, axiom, sorry.
-/
import Derived.Test.YtofeleohcpaclaaDoorChecked
import GoSem.Claim
import GoSem.ClaimJoined
import GoSem.ClaimMapViews
import Derived.JoinedTies
import Derived.KernelRfl
namespace Go.Proofs.YtofeleohcpaclaaDoor
/- THE CELL 'sum', in the pinned program and in every row, IS THE sha256 OF THE DUMP (.gsa) THAT YtofeleohcpaclaaDoorProg.lean LOADS. Nothing in Lean hashes anything: it is a label: what it is worth is what the hold of that sum in a sandbox is worth. -/
noncomputable def Tryd.pinned : Pinned := { name := "ytofeleohcpaclaadoor", sum := "fcb5742df71ba7fc46849f1012a44d78d6dccfe0191d0934c0164b93f0c73907", checked := Tryd.checked }
namespace Rows
def none {H : Type} : Left H := { results := [], args := [] }

/- WHAT THE LISTED PACKAGE-LEVEL VARIABLES READ AS WHEN THE CALL BEGINS. Each datum BY PROGRAM (the guide's laid-datum.mjs) off the statement by which the dump's own 'gosem.cut.vars' lays the variable. In a bare row this is a premise. The card (YtofeleohcpaclaaDoorCards.lean) ties it to the program's text. -/
def laid_skyfix_angle_quarter {H : Type} : DataW H := .agg [.lit (.int .i64 127), .lit (.int .i64 126), .lit (.int .i64 125), .lit (.int .i64 122), .lit (.int .i64 117), .lit (.int .i64 112), .lit (.int .i64 106), .lit (.int .i64 98), .lit (.int .i64 90), .lit (.int .i64 81), .lit (.int .i64 71), .lit (.int .i64 60), .lit (.int .i64 49), .lit (.int .i64 37), .lit (.int .i64 25), .lit (.int .i64 12), .lit (.int .i64 0)]

/-- 'skyfixlaw17.DiscrKnown': WHATEVER THE INPUT: true; the input reads as it did. -/
def discrKnownSpec : ChangeSpec := { name := "discrKnown", fn := fun _ => fun
  | [] => { results := [.lit (.bool true)], args := [] }
  | _ => none }
def discrKnownRow : OpenClaim := { program := "ytofeleohcpaclaadoor", sum := "fcb5742df71ba7fc46849f1012a44d78d6dccfe0191d0934c0164b93f0c73907", func := "skyfix/skyfixlaw17.DiscrKnown", spec := "discrKnown", unfollowed := true, recurses := true, named := ["skyfix/angle.quarter"], apart := false, laid := [("skyfix/angle.quarter", laid_skyfix_angle_quarter)] }
def DiscrKnownSaid : Prop := discrKnownRow.holds Tryd.pinned (OpenSpec.ofChange discrKnownSpec)

/-- ITS FALSE NEIGHBOUR: 'it returns false'. Refute it at one input. -/
def discrKnownWrong : ChangeSpec := { name := "discrKnown", fn := fun _ => fun
  | [] => { results := [.lit (.bool false)], args := [] }
  | _ => none }
def DiscrKnownWrongFalsely : Prop := discrKnownRow.holds Tryd.pinned (OpenSpec.ofChange discrKnownWrong)

/-- 'skyfixlaw17.DiscrSums': WHATEVER THE INPUT: true; the input reads as it did. -/
def discrSumsSpec : ChangeSpec := { name := "discrSums", fn := fun _ => fun
  | [d] => { results := [.lit (.bool true)], args := [d] }
  | _ => none }
def discrSumsRow : OpenClaim := { program := "ytofeleohcpaclaadoor", sum := "fcb5742df71ba7fc46849f1012a44d78d6dccfe0191d0934c0164b93f0c73907", func := "skyfix/skyfixlaw17.DiscrSums", spec := "discrSums", unfollowed := true, recurses := true, named := ["skyfix/angle.quarter"], apart := false, laid := [("skyfix/angle.quarter", laid_skyfix_angle_quarter)] }
def DiscrSumsSaid : Prop := discrSumsRow.holds Tryd.pinned (OpenSpec.ofChange discrSumsSpec)

/-- ITS FALSE NEIGHBOUR: 'it returns false'. Refute it at one input. -/
def discrSumsWrong : ChangeSpec := { name := "discrSums", fn := fun _ => fun
  | [d] => { results := [.lit (.bool false)], args := [d] }
  | _ => none }
def DiscrSumsWrongFalsely : Prop := discrSumsRow.holds Tryd.pinned (OpenSpec.ofChange discrSumsWrong)

/-- 'skyfixlaw17.DiscrRates': WHATEVER THE INPUT: true; the input reads as it did. -/
def discrRatesSpec : ChangeSpec := { name := "discrRates", fn := fun _ => fun
  | [d1, d2] => { results := [.lit (.bool true)], args := [d1, d2] }
  | _ => none }
def discrRatesRow : OpenClaim := { program := "ytofeleohcpaclaadoor", sum := "fcb5742df71ba7fc46849f1012a44d78d6dccfe0191d0934c0164b93f0c73907", func := "skyfix/skyfixlaw17.DiscrRates", spec := "discrRates", unfollowed := true, recurses := true, named := ["skyfix/angle.quarter"], apart := false, laid := [("skyfix/angle.quarter", laid_skyfix_angle_quarter)] }
def DiscrRatesSaid : Prop := discrRatesRow.holds Tryd.pinned (OpenSpec.ofChange discrRatesSpec)

/-- ITS FALSE NEIGHBOUR: 'it returns false'. Refute it at one input. -/
def discrRatesWrong : ChangeSpec := { name := "discrRates", fn := fun _ => fun
  | [d1, d2] => { results := [.lit (.bool false)], args := [d1, d2] }
  | _ => none }
def DiscrRatesWrongFalsely : Prop := discrRatesRow.holds Tryd.pinned (OpenSpec.ofChange discrRatesWrong)

/-- 'skyfixlaw17.DiscrCode': WHATEVER THE INPUT: true; the input reads as it did. -/
def discrCodeSpec : ChangeSpec := { name := "discrCode", fn := fun _ => fun
  | [d1, d2, d3] => { results := [.lit (.bool true)], args := [d1, d2, d3] }
  | _ => none }
def discrCodeRow : OpenClaim := { program := "ytofeleohcpaclaadoor", sum := "fcb5742df71ba7fc46849f1012a44d78d6dccfe0191d0934c0164b93f0c73907", func := "skyfix/skyfixlaw17.DiscrCode", spec := "discrCode", unfollowed := true, recurses := true, named := ["skyfix/angle.quarter"], apart := false, laid := [("skyfix/angle.quarter", laid_skyfix_angle_quarter)] }
def DiscrCodeSaid : Prop := discrCodeRow.holds Tryd.pinned (OpenSpec.ofChange discrCodeSpec)

/-- ITS FALSE NEIGHBOUR: 'it returns false'. Refute it at one input. -/
def discrCodeWrong : ChangeSpec := { name := "discrCode", fn := fun _ => fun
  | [d1, d2, d3] => { results := [.lit (.bool false)], args := [d1, d2, d3] }
  | _ => none }
def DiscrCodeWrongFalsely : Prop := discrCodeRow.holds Tryd.pinned (OpenSpec.ofChange discrCodeWrong)

/-- 'skyfixlaw17.DiscrAngles': WHATEVER THE INPUT: true; the input reads as it did. -/
def discrAnglesSpec : ChangeSpec := { name := "discrAngles", fn := fun _ => fun
  | [d1, d2] => { results := [.lit (.bool true)], args := [d1, d2] }
  | _ => none }
def discrAnglesRow : OpenClaim := { program := "ytofeleohcpaclaadoor", sum := "fcb5742df71ba7fc46849f1012a44d78d6dccfe0191d0934c0164b93f0c73907", func := "skyfix/skyfixlaw17.DiscrAngles", spec := "discrAngles", unfollowed := true, recurses := true, named := ["skyfix/angle.quarter"], apart := false, laid := [("skyfix/angle.quarter", laid_skyfix_angle_quarter)] }
def DiscrAnglesSaid : Prop := discrAnglesRow.holds Tryd.pinned (OpenSpec.ofChange discrAnglesSpec)

/-- ITS FALSE NEIGHBOUR: 'it returns false'. Refute it at one input. -/
def discrAnglesWrong : ChangeSpec := { name := "discrAngles", fn := fun _ => fun
  | [d1, d2] => { results := [.lit (.bool false)], args := [d1, d2] }
  | _ => none }
def DiscrAnglesWrongFalsely : Prop := discrAnglesRow.holds Tryd.pinned (OpenSpec.ofChange discrAnglesWrong)

/-- 'skyfixlaw17.DiscrSteps': WHATEVER THE INPUT: true; the input reads as it did. -/
def discrStepsSpec : ChangeSpec := { name := "discrSteps", fn := fun _ => fun
  | [d1, d2, d3] => { results := [.lit (.bool true)], args := [d1, d2, d3] }
  | _ => none }
def discrStepsRow : OpenClaim := { program := "ytofeleohcpaclaadoor", sum := "fcb5742df71ba7fc46849f1012a44d78d6dccfe0191d0934c0164b93f0c73907", func := "skyfix/skyfixlaw17.DiscrSteps", spec := "discrSteps", unfollowed := true, recurses := true, named := ["skyfix/angle.quarter"], apart := false, laid := [("skyfix/angle.quarter", laid_skyfix_angle_quarter)] }
def DiscrStepsSaid : Prop := discrStepsRow.holds Tryd.pinned (OpenSpec.ofChange discrStepsSpec)

/-- ITS FALSE NEIGHBOUR: 'it returns false'. Refute it at one input. -/
def discrStepsWrong : ChangeSpec := { name := "discrSteps", fn := fun _ => fun
  | [d1, d2, d3] => { results := [.lit (.bool false)], args := [d1, d2, d3] }
  | _ => none }
def DiscrStepsWrongFalsely : Prop := discrStepsRow.holds Tryd.pinned (OpenSpec.ofChange discrStepsWrong)

/- THE SECOND FORM. 'bulk': how many values and letters a reading holds, each counted each time it is reached (what is shared counts as often as it is met; a slice's spare places count too). A statement '..UptoSaid' is the law's where the arguments, and the package variables that the reading takes, are together of bulk at most 1048576: NARROWER than '..Said'. Prove '..Said' where nothing that the law and all that it calls make is longer than what came in: it says more and counts as full. Else prove '..UptoSaid'. A law counts once. -/
mutual
def uptoBulk {H : Type} : DataW H → Nat
  | .lit (.string bytes) => bytes.length + 1
  | .lit _ => 1
  | .nil => 1
  | .ptr d => uptoBulk d + 1
  | .slice elems spare => uptoBulkAll elems + uptoBulkAll spare + 1
  | .agg parts => uptoBulkAll parts + 1
  | .iface _ d => uptoBulk d + 1
  | .map entries => uptoBulkEntries entries + 1
  | .held _ => 1
def uptoBulkAll {H : Type} : List (DataW H) → Nat
  | [] => 0
  | d :: r => uptoBulk d + uptoBulkAll r
def uptoBulkEntries {H : Type} : List (Lit × DataW H) → Nat
  | [] => 0
  | x :: r => uptoBulkEntry x + uptoBulkEntries r
def uptoBulkEntry {H : Type} : Lit × DataW H → Nat
  | (.string bytes, d) => bytes.length + uptoBulk d + 1
  | (_, d) => uptoBulk d + 1
 end
def uptoSmall : (H : Type) → List (DataW H) → Bool := fun _ ds => decide (uptoBulkAll ds ≤ 1048576)
def OpenSpec.upto (s : _root_.Go.ChangeSpec) : _root_.Go.OpenSpec := { _root_.Go.OpenSpec.ofChange s with cond := some uptoSmall }

/-- 'skyfixlaw17.DiscrKnown', WHERE WHAT IT READS IS OF BULK AT MOST 1048576: true; the input reads as it did. -/
def discrKnownUptoRow : OpenClaim := { program := "ytofeleohcpaclaadoor", sum := "fcb5742df71ba7fc46849f1012a44d78d6dccfe0191d0934c0164b93f0c73907", func := "skyfix/skyfixlaw17.DiscrKnown", spec := "discrKnown", unfollowed := true, recurses := true, named := ["skyfix/angle.quarter"], apart := false, laid := [("skyfix/angle.quarter", laid_skyfix_angle_quarter)], narrowed := true }
def DiscrKnownUptoSaid : Prop := discrKnownUptoRow.holds Tryd.pinned (OpenSpec.upto discrKnownSpec)

/-- 'skyfixlaw17.DiscrSums', WHERE WHAT IT READS IS OF BULK AT MOST 1048576: true; the input reads as it did. -/
def discrSumsUptoRow : OpenClaim := { program := "ytofeleohcpaclaadoor", sum := "fcb5742df71ba7fc46849f1012a44d78d6dccfe0191d0934c0164b93f0c73907", func := "skyfix/skyfixlaw17.DiscrSums", spec := "discrSums", unfollowed := true, recurses := true, named := ["skyfix/angle.quarter"], apart := false, laid := [("skyfix/angle.quarter", laid_skyfix_angle_quarter)], narrowed := true }
def DiscrSumsUptoSaid : Prop := discrSumsUptoRow.holds Tryd.pinned (OpenSpec.upto discrSumsSpec)

/-- 'skyfixlaw17.DiscrRates', WHERE WHAT IT READS IS OF BULK AT MOST 1048576: true; the input reads as it did. -/
def discrRatesUptoRow : OpenClaim := { program := "ytofeleohcpaclaadoor", sum := "fcb5742df71ba7fc46849f1012a44d78d6dccfe0191d0934c0164b93f0c73907", func := "skyfix/skyfixlaw17.DiscrRates", spec := "discrRates", unfollowed := true, recurses := true, named := ["skyfix/angle.quarter"], apart := false, laid := [("skyfix/angle.quarter", laid_skyfix_angle_quarter)], narrowed := true }
def DiscrRatesUptoSaid : Prop := discrRatesUptoRow.holds Tryd.pinned (OpenSpec.upto discrRatesSpec)

/-- 'skyfixlaw17.DiscrCode', WHERE WHAT IT READS IS OF BULK AT MOST 1048576: true; the input reads as it did. -/
def discrCodeUptoRow : OpenClaim := { program := "ytofeleohcpaclaadoor", sum := "fcb5742df71ba7fc46849f1012a44d78d6dccfe0191d0934c0164b93f0c73907", func := "skyfix/skyfixlaw17.DiscrCode", spec := "discrCode", unfollowed := true, recurses := true, named := ["skyfix/angle.quarter"], apart := false, laid := [("skyfix/angle.quarter", laid_skyfix_angle_quarter)], narrowed := true }
def DiscrCodeUptoSaid : Prop := discrCodeUptoRow.holds Tryd.pinned (OpenSpec.upto discrCodeSpec)

/-- 'skyfixlaw17.DiscrAngles', WHERE WHAT IT READS IS OF BULK AT MOST 1048576: true; the input reads as it did. -/
def discrAnglesUptoRow : OpenClaim := { program := "ytofeleohcpaclaadoor", sum := "fcb5742df71ba7fc46849f1012a44d78d6dccfe0191d0934c0164b93f0c73907", func := "skyfix/skyfixlaw17.DiscrAngles", spec := "discrAngles", unfollowed := true, recurses := true, named := ["skyfix/angle.quarter"], apart := false, laid := [("skyfix/angle.quarter", laid_skyfix_angle_quarter)], narrowed := true }
def DiscrAnglesUptoSaid : Prop := discrAnglesUptoRow.holds Tryd.pinned (OpenSpec.upto discrAnglesSpec)

/-- 'skyfixlaw17.DiscrSteps', WHERE WHAT IT READS IS OF BULK AT MOST 1048576: true; the input reads as it did. -/
def discrStepsUptoRow : OpenClaim := { program := "ytofeleohcpaclaadoor", sum := "fcb5742df71ba7fc46849f1012a44d78d6dccfe0191d0934c0164b93f0c73907", func := "skyfix/skyfixlaw17.DiscrSteps", spec := "discrSteps", unfollowed := true, recurses := true, named := ["skyfix/angle.quarter"], apart := false, laid := [("skyfix/angle.quarter", laid_skyfix_angle_quarter)], narrowed := true }
def DiscrStepsUptoSaid : Prop := discrStepsUptoRow.holds Tryd.pinned (OpenSpec.upto discrStepsSpec)

end Rows
end Go.Proofs.YtofeleohcpaclaaDoor
