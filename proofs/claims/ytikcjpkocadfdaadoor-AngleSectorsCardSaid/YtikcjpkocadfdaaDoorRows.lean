/-
  NARROWER THAN 'FOR EVERY INPUT', by the rows' own cells (each row's printed sentence says how): AngleNames: laid · AnglePhases: laid · AngleSamples: laid · AngleRoots: laid · AngleTurns: laid · AngleSectors: laid · AngleGrows: laid · AngleSquares: laid.
  DERIVED. THE GIVEN ROWS OF THIS SEAT. 8 by the template 'for every input the law returns true; each argument reads behind the call as it read before'; 0 by the template 'total and deterministic' (their statements: YtikcjpkocadfdaaDoorTotals.lean).
  GIVEN WITH THE SEED: the statements are not yours to turn. If you find one false, say at which input.
  Laid BY PROGRAM, IN A SANDBOX (cutbox-rows.mjs): the forced cells as the released guide's own fill.sh prints them over the translation ec662f50e340c66c… (all of the seat's roots in one cut). By AI agents, Wed Nov 11 2026. No macro, syntax, notation, axiom, sorry.
-/
import Derived.Test.YtikcjpkocadfdaaDoorChecked
import GoSem.Claim
import GoSem.ClaimJoined
import GoSem.ClaimMapViews
import Derived.JoinedTies
import Derived.KernelRfl
namespace Go.Proofs.YtikcjpkocadfdaaDoor
/- THE CELL 'sum', in the pinned program and in every row, IS THE sha256 OF THE DUMP (.gsa) THAT YtikcjpkocadfdaaDoorProg.lean LOADS. Nothing in Lean hashes anything: it is a label: what it is worth is what the hold of that sum in a sandbox is worth. -/
noncomputable def Tryd.pinned : Pinned := { name := "ytikcjpkocadfdaadoor", sum := "ec662f50e340c66ca1d10b54730728ac3034e17914ff4e5c6d72d561a7a218ce", checked := Tryd.checked }
namespace Rows
def none {H : Type} : Left H := { results := [], args := [] }

/- WHAT THE LISTED PACKAGE-LEVEL VARIABLES READ AS WHEN THE CALL BEGINS. Each datum BY PROGRAM (the guide's laid-datum.mjs) off the statement by which the dump's own 'gosem.cut.vars' lays the variable. In a bare row this is a premise. The card (YtikcjpkocadfdaaDoorCards.lean) ties it to the program's text. -/
def laid_skyfix_angle_quarter {H : Type} : DataW H := .agg [.lit (.int .i64 127), .lit (.int .i64 126), .lit (.int .i64 125), .lit (.int .i64 122), .lit (.int .i64 117), .lit (.int .i64 112), .lit (.int .i64 106), .lit (.int .i64 98), .lit (.int .i64 90), .lit (.int .i64 81), .lit (.int .i64 71), .lit (.int .i64 60), .lit (.int .i64 49), .lit (.int .i64 37), .lit (.int .i64 25), .lit (.int .i64 12), .lit (.int .i64 0)]

/-- 'skyfixlaw02.AngleNames': WHATEVER THE INPUT: true; the input reads as it did. -/
def angleNamesSpec : ChangeSpec := { name := "angleNames", fn := fun _ => fun
  | [] => { results := [.lit (.bool true)], args := [] }
  | _ => none }
def angleNamesRow : OpenClaim := { program := "ytikcjpkocadfdaadoor", sum := "ec662f50e340c66ca1d10b54730728ac3034e17914ff4e5c6d72d561a7a218ce", func := "skyfix/skyfixlaw02.AngleNames", spec := "angleNames", inPlace := ["math/bits.Sub64", "math/bits.Add64"], unfollowed := true, recurses := true, named := ["skyfix/angle.quarter"], apart := false, laid := [("skyfix/angle.quarter", laid_skyfix_angle_quarter)] }
def AngleNamesSaid : Prop := angleNamesRow.holds Tryd.pinned (OpenSpec.ofChange angleNamesSpec)

/-- ITS FALSE NEIGHBOUR: 'it returns false'. Refute it at one input. -/
def angleNamesWrong : ChangeSpec := { name := "angleNames", fn := fun _ => fun
  | [] => { results := [.lit (.bool false)], args := [] }
  | _ => none }
def AngleNamesWrongFalsely : Prop := angleNamesRow.holds Tryd.pinned (OpenSpec.ofChange angleNamesWrong)

/-- 'skyfixlaw02.AnglePhases': WHATEVER THE INPUT: true; the input reads as it did. -/
def anglePhasesSpec : ChangeSpec := { name := "anglePhases", fn := fun _ => fun
  | [d1, d2, d3, d4] => { results := [.lit (.bool true)], args := [d1, d2, d3, d4] }
  | _ => none }
def anglePhasesRow : OpenClaim := { program := "ytikcjpkocadfdaadoor", sum := "ec662f50e340c66ca1d10b54730728ac3034e17914ff4e5c6d72d561a7a218ce", func := "skyfix/skyfixlaw02.AnglePhases", spec := "anglePhases", unfollowed := true, recurses := true, named := ["skyfix/angle.quarter"], apart := false, laid := [("skyfix/angle.quarter", laid_skyfix_angle_quarter)] }
def AnglePhasesSaid : Prop := anglePhasesRow.holds Tryd.pinned (OpenSpec.ofChange anglePhasesSpec)

/-- ITS FALSE NEIGHBOUR: 'it returns false'. Refute it at one input. -/
def anglePhasesWrong : ChangeSpec := { name := "anglePhases", fn := fun _ => fun
  | [d1, d2, d3, d4] => { results := [.lit (.bool false)], args := [d1, d2, d3, d4] }
  | _ => none }
def AnglePhasesWrongFalsely : Prop := anglePhasesRow.holds Tryd.pinned (OpenSpec.ofChange anglePhasesWrong)

/-- 'skyfixlaw02.AngleSamples': WHATEVER THE INPUT: true; the input reads as it did. -/
def angleSamplesSpec : ChangeSpec := { name := "angleSamples", fn := fun _ => fun
  | [d] => { results := [.lit (.bool true)], args := [d] }
  | _ => none }
def angleSamplesRow : OpenClaim := { program := "ytikcjpkocadfdaadoor", sum := "ec662f50e340c66ca1d10b54730728ac3034e17914ff4e5c6d72d561a7a218ce", func := "skyfix/skyfixlaw02.AngleSamples", spec := "angleSamples", inPlace := ["math/bits.Sub64", "math/bits.Add64"], unfollowed := true, recurses := true, named := ["skyfix/angle.quarter"], apart := false, laid := [("skyfix/angle.quarter", laid_skyfix_angle_quarter)] }
def AngleSamplesSaid : Prop := angleSamplesRow.holds Tryd.pinned (OpenSpec.ofChange angleSamplesSpec)

/-- ITS FALSE NEIGHBOUR: 'it returns false'. Refute it at one input. -/
def angleSamplesWrong : ChangeSpec := { name := "angleSamples", fn := fun _ => fun
  | [d] => { results := [.lit (.bool false)], args := [d] }
  | _ => none }
def AngleSamplesWrongFalsely : Prop := angleSamplesRow.holds Tryd.pinned (OpenSpec.ofChange angleSamplesWrong)

/-- 'skyfixlaw02.AngleRoots': WHATEVER THE INPUT: true; the input reads as it did. -/
def angleRootsSpec : ChangeSpec := { name := "angleRoots", fn := fun _ => fun
  | [d1, d2] => { results := [.lit (.bool true)], args := [d1, d2] }
  | _ => none }
def angleRootsRow : OpenClaim := { program := "ytikcjpkocadfdaadoor", sum := "ec662f50e340c66ca1d10b54730728ac3034e17914ff4e5c6d72d561a7a218ce", func := "skyfix/skyfixlaw02.AngleRoots", spec := "angleRoots", inPlace := ["math/bits.Sub64"], unfollowed := true, recurses := true, named := ["skyfix/angle.quarter"], apart := false, laid := [("skyfix/angle.quarter", laid_skyfix_angle_quarter)] }
def AngleRootsSaid : Prop := angleRootsRow.holds Tryd.pinned (OpenSpec.ofChange angleRootsSpec)

/-- ITS FALSE NEIGHBOUR: 'it returns false'. Refute it at one input. -/
def angleRootsWrong : ChangeSpec := { name := "angleRoots", fn := fun _ => fun
  | [d1, d2] => { results := [.lit (.bool false)], args := [d1, d2] }
  | _ => none }
def AngleRootsWrongFalsely : Prop := angleRootsRow.holds Tryd.pinned (OpenSpec.ofChange angleRootsWrong)

/-- 'skyfixlaw02.AngleTurns': WHATEVER THE INPUT: true; the input reads as it did. -/
def angleTurnsSpec : ChangeSpec := { name := "angleTurns", fn := fun _ => fun
  | [d1, d2, d3, d4, d5] => { results := [.lit (.bool true)], args := [d1, d2, d3, d4, d5] }
  | _ => none }
def angleTurnsRow : OpenClaim := { program := "ytikcjpkocadfdaadoor", sum := "ec662f50e340c66ca1d10b54730728ac3034e17914ff4e5c6d72d561a7a218ce", func := "skyfix/skyfixlaw02.AngleTurns", spec := "angleTurns", unfollowed := true, recurses := true, named := ["skyfix/angle.quarter"], apart := false, laid := [("skyfix/angle.quarter", laid_skyfix_angle_quarter)] }
def AngleTurnsSaid : Prop := angleTurnsRow.holds Tryd.pinned (OpenSpec.ofChange angleTurnsSpec)

/-- ITS FALSE NEIGHBOUR: 'it returns false'. Refute it at one input. -/
def angleTurnsWrong : ChangeSpec := { name := "angleTurns", fn := fun _ => fun
  | [d1, d2, d3, d4, d5] => { results := [.lit (.bool false)], args := [d1, d2, d3, d4, d5] }
  | _ => none }
def AngleTurnsWrongFalsely : Prop := angleTurnsRow.holds Tryd.pinned (OpenSpec.ofChange angleTurnsWrong)

/-- 'skyfixlaw02.AngleSectors': WHATEVER THE INPUT: true; the input reads as it did. -/
def angleSectorsSpec : ChangeSpec := { name := "angleSectors", fn := fun _ => fun
  | [d1, d2, d3, d4] => { results := [.lit (.bool true)], args := [d1, d2, d3, d4] }
  | _ => none }
def angleSectorsRow : OpenClaim := { program := "ytikcjpkocadfdaadoor", sum := "ec662f50e340c66ca1d10b54730728ac3034e17914ff4e5c6d72d561a7a218ce", func := "skyfix/skyfixlaw02.AngleSectors", spec := "angleSectors", unfollowed := true, recurses := true, named := ["skyfix/angle.quarter"], apart := false, laid := [("skyfix/angle.quarter", laid_skyfix_angle_quarter)] }
def AngleSectorsSaid : Prop := angleSectorsRow.holds Tryd.pinned (OpenSpec.ofChange angleSectorsSpec)

/-- ITS FALSE NEIGHBOUR: 'it returns false'. Refute it at one input. -/
def angleSectorsWrong : ChangeSpec := { name := "angleSectors", fn := fun _ => fun
  | [d1, d2, d3, d4] => { results := [.lit (.bool false)], args := [d1, d2, d3, d4] }
  | _ => none }
def AngleSectorsWrongFalsely : Prop := angleSectorsRow.holds Tryd.pinned (OpenSpec.ofChange angleSectorsWrong)

/-- 'skyfixlaw02.AngleGrows': WHATEVER THE INPUT: true; the input reads as it did. -/
def angleGrowsSpec : ChangeSpec := { name := "angleGrows", fn := fun _ => fun
  | [d1, d2, d3, d4] => { results := [.lit (.bool true)], args := [d1, d2, d3, d4] }
  | _ => none }
def angleGrowsRow : OpenClaim := { program := "ytikcjpkocadfdaadoor", sum := "ec662f50e340c66ca1d10b54730728ac3034e17914ff4e5c6d72d561a7a218ce", func := "skyfix/skyfixlaw02.AngleGrows", spec := "angleGrows", unfollowed := true, recurses := true, named := ["skyfix/angle.quarter"], apart := false, laid := [("skyfix/angle.quarter", laid_skyfix_angle_quarter)] }
def AngleGrowsSaid : Prop := angleGrowsRow.holds Tryd.pinned (OpenSpec.ofChange angleGrowsSpec)

/-- ITS FALSE NEIGHBOUR: 'it returns false'. Refute it at one input. -/
def angleGrowsWrong : ChangeSpec := { name := "angleGrows", fn := fun _ => fun
  | [d1, d2, d3, d4] => { results := [.lit (.bool false)], args := [d1, d2, d3, d4] }
  | _ => none }
def AngleGrowsWrongFalsely : Prop := angleGrowsRow.holds Tryd.pinned (OpenSpec.ofChange angleGrowsWrong)

/-- 'skyfixlaw02.AngleSquares': WHATEVER THE INPUT: true; the input reads as it did. -/
def angleSquaresSpec : ChangeSpec := { name := "angleSquares", fn := fun _ => fun
  | [d1, d2] => { results := [.lit (.bool true)], args := [d1, d2] }
  | _ => none }
def angleSquaresRow : OpenClaim := { program := "ytikcjpkocadfdaadoor", sum := "ec662f50e340c66ca1d10b54730728ac3034e17914ff4e5c6d72d561a7a218ce", func := "skyfix/skyfixlaw02.AngleSquares", spec := "angleSquares", inPlace := ["math/bits.Sub64"], unfollowed := true, recurses := true, named := ["skyfix/angle.quarter"], apart := false, laid := [("skyfix/angle.quarter", laid_skyfix_angle_quarter)] }
def AngleSquaresSaid : Prop := angleSquaresRow.holds Tryd.pinned (OpenSpec.ofChange angleSquaresSpec)

/-- ITS FALSE NEIGHBOUR: 'it returns false'. Refute it at one input. -/
def angleSquaresWrong : ChangeSpec := { name := "angleSquares", fn := fun _ => fun
  | [d1, d2] => { results := [.lit (.bool false)], args := [d1, d2] }
  | _ => none }
def AngleSquaresWrongFalsely : Prop := angleSquaresRow.holds Tryd.pinned (OpenSpec.ofChange angleSquaresWrong)

/- THE SECOND FORM. 'bulk': how many values and letters a reading holds, each counted each time it is reached (what is shared counts as often as it is met; a slice's spare places count too). A statement '..UptoSaid' is the law's where the arguments, and the package variables that the reading takes, are together of bulk at most 1048576: NARROWER than '..Said'. Prove '..Said' where nothing that the law and all that it calls make is longer than what came in: it says more and counts as full. Else prove '..UptoSaid'. A law counts once. -/
mutual
def uptoBulk {H : Type} : DataW H → Nat
  | .lit (.string bytes) => bytes.length + 1
  | .lit _ => 1
  | .nil => 1
  | .ptr d => uptoBulk d + 1
  | .slice elems spare => uptoBulkAll elems + uptoBulkAll spare + 1
  | .agg parts => uptoBulkAll parts + 1
  | .iface _ d => uptoBulk d + 1
  | .map entries => uptoBulkEntries entries + 1
  | .held _ => 1
def uptoBulkAll {H : Type} : List (DataW H) → Nat
  | [] => 0
  | d :: r => uptoBulk d + uptoBulkAll r
def uptoBulkEntries {H : Type} : List (Lit × DataW H) → Nat
  | [] => 0
  | x :: r => uptoBulkEntry x + uptoBulkEntries r
def uptoBulkEntry {H : Type} : Lit × DataW H → Nat
  | (.string bytes, d) => bytes.length + uptoBulk d + 1
  | (_, d) => uptoBulk d + 1
 end
def uptoSmall : (H : Type) → List (DataW H) → Bool := fun _ ds => decide (uptoBulkAll ds ≤ 1048576)
def OpenSpec.upto (s : _root_.Go.ChangeSpec) : _root_.Go.OpenSpec := { _root_.Go.OpenSpec.ofChange s with cond := some uptoSmall }

/-- 'skyfixlaw02.AngleNames', WHERE WHAT IT READS IS OF BULK AT MOST 1048576: true; the input reads as it did. -/
def angleNamesUptoRow : OpenClaim := { program := "ytikcjpkocadfdaadoor", sum := "ec662f50e340c66ca1d10b54730728ac3034e17914ff4e5c6d72d561a7a218ce", func := "skyfix/skyfixlaw02.AngleNames", spec := "angleNames", inPlace := ["math/bits.Sub64", "math/bits.Add64"], unfollowed := true, recurses := true, named := ["skyfix/angle.quarter"], apart := false, laid := [("skyfix/angle.quarter", laid_skyfix_angle_quarter)], narrowed := true }
def AngleNamesUptoSaid : Prop := angleNamesUptoRow.holds Tryd.pinned (OpenSpec.upto angleNamesSpec)

/-- 'skyfixlaw02.AnglePhases', WHERE WHAT IT READS IS OF BULK AT MOST 1048576: true; the input reads as it did. -/
def anglePhasesUptoRow : OpenClaim := { program := "ytikcjpkocadfdaadoor", sum := "ec662f50e340c66ca1d10b54730728ac3034e17914ff4e5c6d72d561a7a218ce", func := "skyfix/skyfixlaw02.AnglePhases", spec := "anglePhases", unfollowed := true, recurses := true, named := ["skyfix/angle.quarter"], apart := false, laid := [("skyfix/angle.quarter", laid_skyfix_angle_quarter)], narrowed := true }
def AnglePhasesUptoSaid : Prop := anglePhasesUptoRow.holds Tryd.pinned (OpenSpec.upto anglePhasesSpec)

/-- 'skyfixlaw02.AngleSamples', WHERE WHAT IT READS IS OF BULK AT MOST 1048576: true; the input reads as it did. -/
def angleSamplesUptoRow : OpenClaim := { program := "ytikcjpkocadfdaadoor", sum := "ec662f50e340c66ca1d10b54730728ac3034e17914ff4e5c6d72d561a7a218ce", func := "skyfix/skyfixlaw02.AngleSamples", spec := "angleSamples", inPlace := ["math/bits.Sub64", "math/bits.Add64"], unfollowed := true, recurses := true, named := ["skyfix/angle.quarter"], apart := false, laid := [("skyfix/angle.quarter", laid_skyfix_angle_quarter)], narrowed := true }
def AngleSamplesUptoSaid : Prop := angleSamplesUptoRow.holds Tryd.pinned (OpenSpec.upto angleSamplesSpec)

/-- 'skyfixlaw02.AngleRoots', WHERE WHAT IT READS IS OF BULK AT MOST 1048576: true; the input reads as it did. -/
def angleRootsUptoRow : OpenClaim := { program := "ytikcjpkocadfdaadoor", sum := "ec662f50e340c66ca1d10b54730728ac3034e17914ff4e5c6d72d561a7a218ce", func := "skyfix/skyfixlaw02.AngleRoots", spec := "angleRoots", inPlace := ["math/bits.Sub64"], unfollowed := true, recurses := true, named := ["skyfix/angle.quarter"], apart := false, laid := [("skyfix/angle.quarter", laid_skyfix_angle_quarter)], narrowed := true }
def AngleRootsUptoSaid : Prop := angleRootsUptoRow.holds Tryd.pinned (OpenSpec.upto angleRootsSpec)

/-- 'skyfixlaw02.AngleTurns', WHERE WHAT IT READS IS OF BULK AT MOST 1048576: true; the input reads as it did. -/
def angleTurnsUptoRow : OpenClaim := { program := "ytikcjpkocadfdaadoor", sum := "ec662f50e340c66ca1d10b54730728ac3034e17914ff4e5c6d72d561a7a218ce", func := "skyfix/skyfixlaw02.AngleTurns", spec := "angleTurns", unfollowed := true, recurses := true, named := ["skyfix/angle.quarter"], apart := false, laid := [("skyfix/angle.quarter", laid_skyfix_angle_quarter)], narrowed := true }
def AngleTurnsUptoSaid : Prop := angleTurnsUptoRow.holds Tryd.pinned (OpenSpec.upto angleTurnsSpec)

/-- 'skyfixlaw02.AngleSectors', WHERE WHAT IT READS IS OF BULK AT MOST 1048576: true; the input reads as it did. -/
def angleSectorsUptoRow : OpenClaim := { program := "ytikcjpkocadfdaadoor", sum := "ec662f50e340c66ca1d10b54730728ac3034e17914ff4e5c6d72d561a7a218ce", func := "skyfix/skyfixlaw02.AngleSectors", spec := "angleSectors", unfollowed := true, recurses := true, named := ["skyfix/angle.quarter"], apart := false, laid := [("skyfix/angle.quarter", laid_skyfix_angle_quarter)], narrowed := true }
def AngleSectorsUptoSaid : Prop := angleSectorsUptoRow.holds Tryd.pinned (OpenSpec.upto angleSectorsSpec)

/-- 'skyfixlaw02.AngleGrows', WHERE WHAT IT READS IS OF BULK AT MOST 1048576: true; the input reads as it did. -/
def angleGrowsUptoRow : OpenClaim := { program := "ytikcjpkocadfdaadoor", sum := "ec662f50e340c66ca1d10b54730728ac3034e17914ff4e5c6d72d561a7a218ce", func := "skyfix/skyfixlaw02.AngleGrows", spec := "angleGrows", unfollowed := true, recurses := true, named := ["skyfix/angle.quarter"], apart := false, laid := [("skyfix/angle.quarter", laid_skyfix_angle_quarter)], narrowed := true }
def AngleGrowsUptoSaid : Prop := angleGrowsUptoRow.holds Tryd.pinned (OpenSpec.upto angleGrowsSpec)

/-- 'skyfixlaw02.AngleSquares', WHERE WHAT IT READS IS OF BULK AT MOST 1048576: true; the input reads as it did. -/
def angleSquaresUptoRow : OpenClaim := { program := "ytikcjpkocadfdaadoor", sum := "ec662f50e340c66ca1d10b54730728ac3034e17914ff4e5c6d72d561a7a218ce", func := "skyfix/skyfixlaw02.AngleSquares", spec := "angleSquares", inPlace := ["math/bits.Sub64"], unfollowed := true, recurses := true, named := ["skyfix/angle.quarter"], apart := false, laid := [("skyfix/angle.quarter", laid_skyfix_angle_quarter)], narrowed := true }
def AngleSquaresUptoSaid : Prop := angleSquaresUptoRow.holds Tryd.pinned (OpenSpec.upto angleSquaresSpec)

end Rows
end Go.Proofs.YtikcjpkocadfdaaDoor
