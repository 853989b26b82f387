/-
  NARROWER THAN 'FOR EVERY INPUT', by the rows' own cells (each row's printed sentence says how): NcoKnown: laid · NcoWaves: laid · NcoSteps: laid · NcoChips: laid · NcoLater: laid · NcoLinear: laid · NcoRounds: laid · NcoCodes: laid.
  DERIVED. THE GIVEN ROWS OF THIS SEAT. 8 by the template 'for every input the law returns true; each argument reads behind the call as it read before'; 0 by the template 'total and deterministic' (their statements: YtblcahackjpnjaaDoorTotals.lean).
  GIVEN WITH THE SEED: the statements are not yours to turn. If you find one false, say at which input.
  Laid BY PROGRAM, IN A SANDBOX (cutbox-rows.mjs): the forced cells as the released guide's own fill.sh prints them over the translation 69dfb43671f43848… (all of the seat's roots in one cut). By AI agents, Wed Nov 11 2026. No macro, syntax, notation, axiom, sorry.
-/
import Derived.Test.YtblcahackjpnjaaDoorChecked
import GoSem.Claim
import GoSem.ClaimJoined
import GoSem.ClaimMapViews
import Derived.JoinedTies
import Derived.KernelRfl
namespace Go.Proofs.YtblcahackjpnjaaDoor
/- THE CELL 'sum', in the pinned program and in every row, IS THE sha256 OF THE DUMP (.gsa) THAT YtblcahackjpnjaaDoorProg.lean LOADS. Nothing in Lean hashes anything: it is a label: what it is worth is what the hold of that sum in a sandbox is worth. -/
noncomputable def Tryd.pinned : Pinned := { name := "ytblcahackjpnjaadoor", sum := "69dfb43671f438484e0e4d12cb6c75e3c76c8e14f4d0b376de0aab6c5150010e", checked := Tryd.checked }
namespace Rows
def none {H : Type} : Left H := { results := [], args := [] }

/- WHAT THE LISTED PACKAGE-LEVEL VARIABLES READ AS WHEN THE CALL BEGINS. Each datum BY PROGRAM (the guide's laid-datum.mjs) off the statement by which the dump's own 'gosem.cut.vars' lays the variable. In a bare row this is a premise. The card (YtblcahackjpnjaaDoorCards.lean) ties it to the program's text. -/
def laid_skyfix_angle_quarter {H : Type} : DataW H := .agg [.lit (.int .i64 127), .lit (.int .i64 126), .lit (.int .i64 125), .lit (.int .i64 122), .lit (.int .i64 117), .lit (.int .i64 112), .lit (.int .i64 106), .lit (.int .i64 98), .lit (.int .i64 90), .lit (.int .i64 81), .lit (.int .i64 71), .lit (.int .i64 60), .lit (.int .i64 49), .lit (.int .i64 37), .lit (.int .i64 25), .lit (.int .i64 12), .lit (.int .i64 0)]

/-- 'skyfixlaw11.NcoKnown': WHATEVER THE INPUT: true; the input reads as it did. -/
def ncoKnownSpec : ChangeSpec := { name := "ncoKnown", fn := fun _ => fun
  | [] => { results := [.lit (.bool true)], args := [] }
  | _ => none }
def ncoKnownRow : OpenClaim := { program := "ytblcahackjpnjaadoor", sum := "69dfb43671f438484e0e4d12cb6c75e3c76c8e14f4d0b376de0aab6c5150010e", func := "skyfix/skyfixlaw11.NcoKnown", spec := "ncoKnown", unfollowed := true, recurses := true, named := ["skyfix/angle.quarter"], apart := false, laid := [("skyfix/angle.quarter", laid_skyfix_angle_quarter)] }
def NcoKnownSaid : Prop := ncoKnownRow.holds Tryd.pinned (OpenSpec.ofChange ncoKnownSpec)

/-- ITS FALSE NEIGHBOUR: 'it returns false'. Refute it at one input. -/
def ncoKnownWrong : ChangeSpec := { name := "ncoKnown", fn := fun _ => fun
  | [] => { results := [.lit (.bool false)], args := [] }
  | _ => none }
def NcoKnownWrongFalsely : Prop := ncoKnownRow.holds Tryd.pinned (OpenSpec.ofChange ncoKnownWrong)

/-- 'skyfixlaw11.NcoWaves': WHATEVER THE INPUT: true; the input reads as it did. -/
def ncoWavesSpec : ChangeSpec := { name := "ncoWaves", fn := fun _ => fun
  | [d1, d2, d3, d4, d5] => { results := [.lit (.bool true)], args := [d1, d2, d3, d4, d5] }
  | _ => none }
def ncoWavesRow : OpenClaim := { program := "ytblcahackjpnjaadoor", sum := "69dfb43671f438484e0e4d12cb6c75e3c76c8e14f4d0b376de0aab6c5150010e", func := "skyfix/skyfixlaw11.NcoWaves", spec := "ncoWaves", unfollowed := true, recurses := true, named := ["skyfix/angle.quarter"], apart := false, laid := [("skyfix/angle.quarter", laid_skyfix_angle_quarter)] }
def NcoWavesSaid : Prop := ncoWavesRow.holds Tryd.pinned (OpenSpec.ofChange ncoWavesSpec)

/-- ITS FALSE NEIGHBOUR: 'it returns false'. Refute it at one input. -/
def ncoWavesWrong : ChangeSpec := { name := "ncoWaves", fn := fun _ => fun
  | [d1, d2, d3, d4, d5] => { results := [.lit (.bool false)], args := [d1, d2, d3, d4, d5] }
  | _ => none }
def NcoWavesWrongFalsely : Prop := ncoWavesRow.holds Tryd.pinned (OpenSpec.ofChange ncoWavesWrong)

/-- 'skyfixlaw11.NcoSteps': WHATEVER THE INPUT: true; the input reads as it did. -/
def ncoStepsSpec : ChangeSpec := { name := "ncoSteps", fn := fun _ => fun
  | [d1, d2] => { results := [.lit (.bool true)], args := [d1, d2] }
  | _ => none }
def ncoStepsRow : OpenClaim := { program := "ytblcahackjpnjaadoor", sum := "69dfb43671f438484e0e4d12cb6c75e3c76c8e14f4d0b376de0aab6c5150010e", func := "skyfix/skyfixlaw11.NcoSteps", spec := "ncoSteps", unfollowed := true, recurses := true, named := ["skyfix/angle.quarter"], apart := false, laid := [("skyfix/angle.quarter", laid_skyfix_angle_quarter)] }
def NcoStepsSaid : Prop := ncoStepsRow.holds Tryd.pinned (OpenSpec.ofChange ncoStepsSpec)

/-- ITS FALSE NEIGHBOUR: 'it returns false'. Refute it at one input. -/
def ncoStepsWrong : ChangeSpec := { name := "ncoSteps", fn := fun _ => fun
  | [d1, d2] => { results := [.lit (.bool false)], args := [d1, d2] }
  | _ => none }
def NcoStepsWrongFalsely : Prop := ncoStepsRow.holds Tryd.pinned (OpenSpec.ofChange ncoStepsWrong)

/-- 'skyfixlaw11.NcoChips': WHATEVER THE INPUT: true; the input reads as it did. -/
def ncoChipsSpec : ChangeSpec := { name := "ncoChips", fn := fun _ => fun
  | [d1, d2, d3, d4, d5] => { results := [.lit (.bool true)], args := [d1, d2, d3, d4, d5] }
  | _ => none }
def ncoChipsRow : OpenClaim := { program := "ytblcahackjpnjaadoor", sum := "69dfb43671f438484e0e4d12cb6c75e3c76c8e14f4d0b376de0aab6c5150010e", func := "skyfix/skyfixlaw11.NcoChips", spec := "ncoChips", unfollowed := true, recurses := true, named := ["skyfix/angle.quarter"], apart := false, laid := [("skyfix/angle.quarter", laid_skyfix_angle_quarter)] }
def NcoChipsSaid : Prop := ncoChipsRow.holds Tryd.pinned (OpenSpec.ofChange ncoChipsSpec)

/-- ITS FALSE NEIGHBOUR: 'it returns false'. Refute it at one input. -/
def ncoChipsWrong : ChangeSpec := { name := "ncoChips", fn := fun _ => fun
  | [d1, d2, d3, d4, d5] => { results := [.lit (.bool false)], args := [d1, d2, d3, d4, d5] }
  | _ => none }
def NcoChipsWrongFalsely : Prop := ncoChipsRow.holds Tryd.pinned (OpenSpec.ofChange ncoChipsWrong)

/-- 'skyfixlaw11.NcoLater': WHATEVER THE INPUT: true; the input reads as it did. -/
def ncoLaterSpec : ChangeSpec := { name := "ncoLater", fn := fun _ => fun
  | [d1, d2, d3, d4] => { results := [.lit (.bool true)], args := [d1, d2, d3, d4] }
  | _ => none }
def ncoLaterRow : OpenClaim := { program := "ytblcahackjpnjaadoor", sum := "69dfb43671f438484e0e4d12cb6c75e3c76c8e14f4d0b376de0aab6c5150010e", func := "skyfix/skyfixlaw11.NcoLater", spec := "ncoLater", unfollowed := true, recurses := true, named := ["skyfix/angle.quarter"], apart := false, laid := [("skyfix/angle.quarter", laid_skyfix_angle_quarter)] }
def NcoLaterSaid : Prop := ncoLaterRow.holds Tryd.pinned (OpenSpec.ofChange ncoLaterSpec)

/-- ITS FALSE NEIGHBOUR: 'it returns false'. Refute it at one input. -/
def ncoLaterWrong : ChangeSpec := { name := "ncoLater", fn := fun _ => fun
  | [d1, d2, d3, d4] => { results := [.lit (.bool false)], args := [d1, d2, d3, d4] }
  | _ => none }
def NcoLaterWrongFalsely : Prop := ncoLaterRow.holds Tryd.pinned (OpenSpec.ofChange ncoLaterWrong)

/-- 'skyfixlaw11.NcoLinear': WHATEVER THE INPUT: true; the input reads as it did. -/
def ncoLinearSpec : ChangeSpec := { name := "ncoLinear", fn := fun _ => fun
  | [d1, d2, d3, d4] => { results := [.lit (.bool true)], args := [d1, d2, d3, d4] }
  | _ => none }
def ncoLinearRow : OpenClaim := { program := "ytblcahackjpnjaadoor", sum := "69dfb43671f438484e0e4d12cb6c75e3c76c8e14f4d0b376de0aab6c5150010e", func := "skyfix/skyfixlaw11.NcoLinear", spec := "ncoLinear", unfollowed := true, recurses := true, named := ["skyfix/angle.quarter"], apart := false, laid := [("skyfix/angle.quarter", laid_skyfix_angle_quarter)] }
def NcoLinearSaid : Prop := ncoLinearRow.holds Tryd.pinned (OpenSpec.ofChange ncoLinearSpec)

/-- ITS FALSE NEIGHBOUR: 'it returns false'. Refute it at one input. -/
def ncoLinearWrong : ChangeSpec := { name := "ncoLinear", fn := fun _ => fun
  | [d1, d2, d3, d4] => { results := [.lit (.bool false)], args := [d1, d2, d3, d4] }
  | _ => none }
def NcoLinearWrongFalsely : Prop := ncoLinearRow.holds Tryd.pinned (OpenSpec.ofChange ncoLinearWrong)

/-- 'skyfixlaw11.NcoRounds': WHATEVER THE INPUT: true; the input reads as it did. -/
def ncoRoundsSpec : ChangeSpec := { name := "ncoRounds", fn := fun _ => fun
  | [d1, d2, d3] => { results := [.lit (.bool true)], args := [d1, d2, d3] }
  | _ => none }
def ncoRoundsRow : OpenClaim := { program := "ytblcahackjpnjaadoor", sum := "69dfb43671f438484e0e4d12cb6c75e3c76c8e14f4d0b376de0aab6c5150010e", func := "skyfix/skyfixlaw11.NcoRounds", spec := "ncoRounds", unfollowed := true, recurses := true, named := ["skyfix/angle.quarter"], apart := false, laid := [("skyfix/angle.quarter", laid_skyfix_angle_quarter)] }
def NcoRoundsSaid : Prop := ncoRoundsRow.holds Tryd.pinned (OpenSpec.ofChange ncoRoundsSpec)

/-- ITS FALSE NEIGHBOUR: 'it returns false'. Refute it at one input. -/
def ncoRoundsWrong : ChangeSpec := { name := "ncoRounds", fn := fun _ => fun
  | [d1, d2, d3] => { results := [.lit (.bool false)], args := [d1, d2, d3] }
  | _ => none }
def NcoRoundsWrongFalsely : Prop := ncoRoundsRow.holds Tryd.pinned (OpenSpec.ofChange ncoRoundsWrong)

/-- 'skyfixlaw11.NcoCodes': WHATEVER THE INPUT: true; the input reads as it did. -/
def ncoCodesSpec : ChangeSpec := { name := "ncoCodes", fn := fun _ => fun
  | [d1, d2, d3, d4] => { results := [.lit (.bool true)], args := [d1, d2, d3, d4] }
  | _ => none }
def ncoCodesRow : OpenClaim := { program := "ytblcahackjpnjaadoor", sum := "69dfb43671f438484e0e4d12cb6c75e3c76c8e14f4d0b376de0aab6c5150010e", func := "skyfix/skyfixlaw11.NcoCodes", spec := "ncoCodes", unfollowed := true, recurses := true, named := ["skyfix/angle.quarter"], apart := false, laid := [("skyfix/angle.quarter", laid_skyfix_angle_quarter)] }
def NcoCodesSaid : Prop := ncoCodesRow.holds Tryd.pinned (OpenSpec.ofChange ncoCodesSpec)

/-- ITS FALSE NEIGHBOUR: 'it returns false'. Refute it at one input. -/
def ncoCodesWrong : ChangeSpec := { name := "ncoCodes", fn := fun _ => fun
  | [d1, d2, d3, d4] => { results := [.lit (.bool false)], args := [d1, d2, d3, d4] }
  | _ => none }
def NcoCodesWrongFalsely : Prop := ncoCodesRow.holds Tryd.pinned (OpenSpec.ofChange ncoCodesWrong)

/- THE SECOND FORM. 'bulk': how many values and letters a reading holds, each counted each time it is reached (what is shared counts as often as it is met; a slice's spare places count too). A statement '..UptoSaid' is the law's where the arguments, and the package variables that the reading takes, are together of bulk at most 1048576: NARROWER than '..Said'. Prove '..Said' where nothing that the law and all that it calls make is longer than what came in: it says more and counts as full. Else prove '..UptoSaid'. A law counts once. -/
mutual
def uptoBulk {H : Type} : DataW H → Nat
  | .lit (.string bytes) => bytes.length + 1
  | .lit _ => 1
  | .nil => 1
  | .ptr d => uptoBulk d + 1
  | .slice elems spare => uptoBulkAll elems + uptoBulkAll spare + 1
  | .agg parts => uptoBulkAll parts + 1
  | .iface _ d => uptoBulk d + 1
  | .map entries => uptoBulkEntries entries + 1
  | .held _ => 1
def uptoBulkAll {H : Type} : List (DataW H) → Nat
  | [] => 0
  | d :: r => uptoBulk d + uptoBulkAll r
def uptoBulkEntries {H : Type} : List (Lit × DataW H) → Nat
  | [] => 0
  | x :: r => uptoBulkEntry x + uptoBulkEntries r
def uptoBulkEntry {H : Type} : Lit × DataW H → Nat
  | (.string bytes, d) => bytes.length + uptoBulk d + 1
  | (_, d) => uptoBulk d + 1
 end
def uptoSmall : (H : Type) → List (DataW H) → Bool := fun _ ds => decide (uptoBulkAll ds ≤ 1048576)
def OpenSpec.upto (s : _root_.Go.ChangeSpec) : _root_.Go.OpenSpec := { _root_.Go.OpenSpec.ofChange s with cond := some uptoSmall }

/-- 'skyfixlaw11.NcoKnown', WHERE WHAT IT READS IS OF BULK AT MOST 1048576: true; the input reads as it did. -/
def ncoKnownUptoRow : OpenClaim := { program := "ytblcahackjpnjaadoor", sum := "69dfb43671f438484e0e4d12cb6c75e3c76c8e14f4d0b376de0aab6c5150010e", func := "skyfix/skyfixlaw11.NcoKnown", spec := "ncoKnown", unfollowed := true, recurses := true, named := ["skyfix/angle.quarter"], apart := false, laid := [("skyfix/angle.quarter", laid_skyfix_angle_quarter)], narrowed := true }
def NcoKnownUptoSaid : Prop := ncoKnownUptoRow.holds Tryd.pinned (OpenSpec.upto ncoKnownSpec)

/-- 'skyfixlaw11.NcoWaves', WHERE WHAT IT READS IS OF BULK AT MOST 1048576: true; the input reads as it did. -/
def ncoWavesUptoRow : OpenClaim := { program := "ytblcahackjpnjaadoor", sum := "69dfb43671f438484e0e4d12cb6c75e3c76c8e14f4d0b376de0aab6c5150010e", func := "skyfix/skyfixlaw11.NcoWaves", spec := "ncoWaves", unfollowed := true, recurses := true, named := ["skyfix/angle.quarter"], apart := false, laid := [("skyfix/angle.quarter", laid_skyfix_angle_quarter)], narrowed := true }
def NcoWavesUptoSaid : Prop := ncoWavesUptoRow.holds Tryd.pinned (OpenSpec.upto ncoWavesSpec)

/-- 'skyfixlaw11.NcoSteps', WHERE WHAT IT READS IS OF BULK AT MOST 1048576: true; the input reads as it did. -/
def ncoStepsUptoRow : OpenClaim := { program := "ytblcahackjpnjaadoor", sum := "69dfb43671f438484e0e4d12cb6c75e3c76c8e14f4d0b376de0aab6c5150010e", func := "skyfix/skyfixlaw11.NcoSteps", spec := "ncoSteps", unfollowed := true, recurses := true, named := ["skyfix/angle.quarter"], apart := false, laid := [("skyfix/angle.quarter", laid_skyfix_angle_quarter)], narrowed := true }
def NcoStepsUptoSaid : Prop := ncoStepsUptoRow.holds Tryd.pinned (OpenSpec.upto ncoStepsSpec)

/-- 'skyfixlaw11.NcoChips', WHERE WHAT IT READS IS OF BULK AT MOST 1048576: true; the input reads as it did. -/
def ncoChipsUptoRow : OpenClaim := { program := "ytblcahackjpnjaadoor", sum := "69dfb43671f438484e0e4d12cb6c75e3c76c8e14f4d0b376de0aab6c5150010e", func := "skyfix/skyfixlaw11.NcoChips", spec := "ncoChips", unfollowed := true, recurses := true, named := ["skyfix/angle.quarter"], apart := false, laid := [("skyfix/angle.quarter", laid_skyfix_angle_quarter)], narrowed := true }
def NcoChipsUptoSaid : Prop := ncoChipsUptoRow.holds Tryd.pinned (OpenSpec.upto ncoChipsSpec)

/-- 'skyfixlaw11.NcoLater', WHERE WHAT IT READS IS OF BULK AT MOST 1048576: true; the input reads as it did. -/
def ncoLaterUptoRow : OpenClaim := { program := "ytblcahackjpnjaadoor", sum := "69dfb43671f438484e0e4d12cb6c75e3c76c8e14f4d0b376de0aab6c5150010e", func := "skyfix/skyfixlaw11.NcoLater", spec := "ncoLater", unfollowed := true, recurses := true, named := ["skyfix/angle.quarter"], apart := false, laid := [("skyfix/angle.quarter", laid_skyfix_angle_quarter)], narrowed := true }
def NcoLaterUptoSaid : Prop := ncoLaterUptoRow.holds Tryd.pinned (OpenSpec.upto ncoLaterSpec)

/-- 'skyfixlaw11.NcoLinear', WHERE WHAT IT READS IS OF BULK AT MOST 1048576: true; the input reads as it did. -/
def ncoLinearUptoRow : OpenClaim := { program := "ytblcahackjpnjaadoor", sum := "69dfb43671f438484e0e4d12cb6c75e3c76c8e14f4d0b376de0aab6c5150010e", func := "skyfix/skyfixlaw11.NcoLinear", spec := "ncoLinear", unfollowed := true, recurses := true, named := ["skyfix/angle.quarter"], apart := false, laid := [("skyfix/angle.quarter", laid_skyfix_angle_quarter)], narrowed := true }
def NcoLinearUptoSaid : Prop := ncoLinearUptoRow.holds Tryd.pinned (OpenSpec.upto ncoLinearSpec)

/-- 'skyfixlaw11.NcoRounds', WHERE WHAT IT READS IS OF BULK AT MOST 1048576: true; the input reads as it did. -/
def ncoRoundsUptoRow : OpenClaim := { program := "ytblcahackjpnjaadoor", sum := "69dfb43671f438484e0e4d12cb6c75e3c76c8e14f4d0b376de0aab6c5150010e", func := "skyfix/skyfixlaw11.NcoRounds", spec := "ncoRounds", unfollowed := true, recurses := true, named := ["skyfix/angle.quarter"], apart := false, laid := [("skyfix/angle.quarter", laid_skyfix_angle_quarter)], narrowed := true }
def NcoRoundsUptoSaid : Prop := ncoRoundsUptoRow.holds Tryd.pinned (OpenSpec.upto ncoRoundsSpec)

/-- 'skyfixlaw11.NcoCodes', WHERE WHAT IT READS IS OF BULK AT MOST 1048576: true; the input reads as it did. -/
def ncoCodesUptoRow : OpenClaim := { program := "ytblcahackjpnjaadoor", sum := "69dfb43671f438484e0e4d12cb6c75e3c76c8e14f4d0b376de0aab6c5150010e", func := "skyfix/skyfixlaw11.NcoCodes", spec := "ncoCodes", unfollowed := true, recurses := true, named := ["skyfix/angle.quarter"], apart := false, laid := [("skyfix/angle.quarter", laid_skyfix_angle_quarter)], narrowed := true }
def NcoCodesUptoSaid : Prop := ncoCodesUptoRow.holds Tryd.pinned (OpenSpec.upto ncoCodesSpec)

end Rows
end Go.Proofs.YtblcahackjpnjaaDoor
