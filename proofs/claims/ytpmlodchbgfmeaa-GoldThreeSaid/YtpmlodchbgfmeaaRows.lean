/-
  No cell of these rows narrows 'for every input' (looked for: loops, veiled, ifaces, maps, wideKeys, modest, calm, conditions, laid).
  DERIVED. THE GIVEN ROWS OF THIS SEAT. 8 by the template 'for every input the law returns true; each argument reads behind the call as it read before'; 0 by the template 'total and deterministic' (their statements: YtpmlodchbgfmeaaTotals.lean).
  GIVEN WITH THE SEED: the statements are not yours to turn. If you find one false, say at which input.
  Laid BY PROGRAM, IN A SANDBOX (cutbox-rows.mjs): the forced cells as the released guide's own fill.sh prints them over the translation 6cf4406d0b05f372… (all of the seat's roots in one cut). By AI agents, Wed Nov 11 2026. No macro, syntax, notation, axiom, sorry.
-/
import Derived.Test.YtpmlodchbgfmeaaChecked
import GoSem.Claim
import GoSem.ClaimJoined
import GoSem.ClaimMapViews
import Derived.JoinedTies
import Derived.KernelRfl
namespace Go.Proofs.Ytpmlodchbgfmeaa
/- THE CELL 'sum', in the pinned program and in every row, IS THE sha256 OF THE DUMP (.gsa) THAT YtpmlodchbgfmeaaProg.lean LOADS. Nothing in Lean hashes anything: it is a label: what it is worth is what the hold of that sum in a sandbox is worth. -/
noncomputable def Try.pinned : Pinned := { name := "ytpmlodchbgfmeaa", sum := "6cf4406d0b05f372af483d6969c35cd893556b027f961d29e0552914b1b0209b", checked := Try.checked }
namespace Rows
def none {H : Type} : Left H := { results := [], args := [] }

/-- 'skyfixlaw08.GoldKnown': WHATEVER THE INPUT: true; the input reads as it did. -/
def goldKnownSpec : ChangeSpec := { name := "goldKnown", fn := fun _ => fun
  | [] => { results := [.lit (.bool true)], args := [] }
  | _ => none }
def goldKnownRow : OpenClaim := { program := "ytpmlodchbgfmeaa", sum := "6cf4406d0b05f372af483d6969c35cd893556b027f961d29e0552914b1b0209b", func := "skyfix/skyfixlaw08.GoldKnown", spec := "goldKnown", unfollowed := true, recurses := true, apart := false }
def GoldKnownSaid : Prop := goldKnownRow.holds Try.pinned (OpenSpec.ofChange goldKnownSpec)

/-- ITS FALSE NEIGHBOUR: 'it returns false'. Refute it at one input. -/
def goldKnownWrong : ChangeSpec := { name := "goldKnown", fn := fun _ => fun
  | [] => { results := [.lit (.bool false)], args := [] }
  | _ => none }
def GoldKnownWrongFalsely : Prop := goldKnownRow.holds Try.pinned (OpenSpec.ofChange goldKnownWrong)

/-- 'skyfixlaw08.GoldRegisters': WHATEVER THE INPUT: true; the input reads as it did. -/
def goldRegistersSpec : ChangeSpec := { name := "goldRegisters", fn := fun _ => fun
  | [d1, d2, d3, d4] => { results := [.lit (.bool true)], args := [d1, d2, d3, d4] }
  | _ => none }
def goldRegistersRow : OpenClaim := { program := "ytpmlodchbgfmeaa", sum := "6cf4406d0b05f372af483d6969c35cd893556b027f961d29e0552914b1b0209b", func := "skyfix/skyfixlaw08.GoldRegisters", spec := "goldRegisters", unfollowed := true, recurses := true, apart := false }
def GoldRegistersSaid : Prop := goldRegistersRow.holds Try.pinned (OpenSpec.ofChange goldRegistersSpec)

/-- ITS FALSE NEIGHBOUR: 'it returns false'. Refute it at one input. -/
def goldRegistersWrong : ChangeSpec := { name := "goldRegisters", fn := fun _ => fun
  | [d1, d2, d3, d4] => { results := [.lit (.bool false)], args := [d1, d2, d3, d4] }
  | _ => none }
def GoldRegistersWrongFalsely : Prop := goldRegistersRow.holds Try.pinned (OpenSpec.ofChange goldRegistersWrong)

/-- 'skyfixlaw08.GoldCodes': WHATEVER THE INPUT: true; the input reads as it did. -/
def goldCodesSpec : ChangeSpec := { name := "goldCodes", fn := fun _ => fun
  | [d1, d2, d3] => { results := [.lit (.bool true)], args := [d1, d2, d3] }
  | _ => none }
def goldCodesRow : OpenClaim := { program := "ytpmlodchbgfmeaa", sum := "6cf4406d0b05f372af483d6969c35cd893556b027f961d29e0552914b1b0209b", func := "skyfix/skyfixlaw08.GoldCodes", spec := "goldCodes", unfollowed := true, recurses := true, apart := false }
def GoldCodesSaid : Prop := goldCodesRow.holds Try.pinned (OpenSpec.ofChange goldCodesSpec)

/-- ITS FALSE NEIGHBOUR: 'it returns false'. Refute it at one input. -/
def goldCodesWrong : ChangeSpec := { name := "goldCodes", fn := fun _ => fun
  | [d1, d2, d3] => { results := [.lit (.bool false)], args := [d1, d2, d3] }
  | _ => none }
def GoldCodesWrongFalsely : Prop := goldCodesRow.holds Try.pinned (OpenSpec.ofChange goldCodesWrong)

/-- 'skyfixlaw08.GoldFinds': WHATEVER THE INPUT: true; the input reads as it did. -/
def goldFindsSpec : ChangeSpec := { name := "goldFinds", fn := fun _ => fun
  | [d1, d2] => { results := [.lit (.bool true)], args := [d1, d2] }
  | _ => none }
def goldFindsRow : OpenClaim := { program := "ytpmlodchbgfmeaa", sum := "6cf4406d0b05f372af483d6969c35cd893556b027f961d29e0552914b1b0209b", func := "skyfix/skyfixlaw08.GoldFinds", spec := "goldFinds", unfollowed := true, recurses := true, apart := false }
def GoldFindsSaid : Prop := goldFindsRow.holds Try.pinned (OpenSpec.ofChange goldFindsSpec)

/-- ITS FALSE NEIGHBOUR: 'it returns false'. Refute it at one input. -/
def goldFindsWrong : ChangeSpec := { name := "goldFinds", fn := fun _ => fun
  | [d1, d2] => { results := [.lit (.bool false)], args := [d1, d2] }
  | _ => none }
def GoldFindsWrongFalsely : Prop := goldFindsRow.holds Try.pinned (OpenSpec.ofChange goldFindsWrong)

/-- 'skyfixlaw08.GoldPeriods': WHATEVER THE INPUT: true; the input reads as it did. -/
def goldPeriodsSpec : ChangeSpec := { name := "goldPeriods", fn := fun _ => fun
  | [d1, d2, d3] => { results := [.lit (.bool true)], args := [d1, d2, d3] }
  | _ => none }
def goldPeriodsRow : OpenClaim := { program := "ytpmlodchbgfmeaa", sum := "6cf4406d0b05f372af483d6969c35cd893556b027f961d29e0552914b1b0209b", func := "skyfix/skyfixlaw08.GoldPeriods", spec := "goldPeriods", unfollowed := true, recurses := true, apart := false }
def GoldPeriodsSaid : Prop := goldPeriodsRow.holds Try.pinned (OpenSpec.ofChange goldPeriodsSpec)

/-- ITS FALSE NEIGHBOUR: 'it returns false'. Refute it at one input. -/
def goldPeriodsWrong : ChangeSpec := { name := "goldPeriods", fn := fun _ => fun
  | [d1, d2, d3] => { results := [.lit (.bool false)], args := [d1, d2, d3] }
  | _ => none }
def GoldPeriodsWrongFalsely : Prop := goldPeriodsRow.holds Try.pinned (OpenSpec.ofChange goldPeriodsWrong)

/-- 'skyfixlaw08.GoldShifts': WHATEVER THE INPUT: true; the input reads as it did. -/
def goldShiftsSpec : ChangeSpec := { name := "goldShifts", fn := fun _ => fun
  | [d1, d2, d3] => { results := [.lit (.bool true)], args := [d1, d2, d3] }
  | _ => none }
def goldShiftsRow : OpenClaim := { program := "ytpmlodchbgfmeaa", sum := "6cf4406d0b05f372af483d6969c35cd893556b027f961d29e0552914b1b0209b", func := "skyfix/skyfixlaw08.GoldShifts", spec := "goldShifts", unfollowed := true, recurses := true, apart := false }
def GoldShiftsSaid : Prop := goldShiftsRow.holds Try.pinned (OpenSpec.ofChange goldShiftsSpec)

/-- ITS FALSE NEIGHBOUR: 'it returns false'. Refute it at one input. -/
def goldShiftsWrong : ChangeSpec := { name := "goldShifts", fn := fun _ => fun
  | [d1, d2, d3] => { results := [.lit (.bool false)], args := [d1, d2, d3] }
  | _ => none }
def GoldShiftsWrongFalsely : Prop := goldShiftsRow.holds Try.pinned (OpenSpec.ofChange goldShiftsWrong)

/-- 'skyfixlaw08.GoldThree': WHATEVER THE INPUT: true; the input reads as it did. -/
def goldThreeSpec : ChangeSpec := { name := "goldThree", fn := fun _ => fun
  | [d1, d2, d3, d4] => { results := [.lit (.bool true)], args := [d1, d2, d3, d4] }
  | _ => none }
def goldThreeRow : OpenClaim := { program := "ytpmlodchbgfmeaa", sum := "6cf4406d0b05f372af483d6969c35cd893556b027f961d29e0552914b1b0209b", func := "skyfix/skyfixlaw08.GoldThree", spec := "goldThree", unfollowed := true, recurses := true, apart := false }
def GoldThreeSaid : Prop := goldThreeRow.holds Try.pinned (OpenSpec.ofChange goldThreeSpec)

/-- ITS FALSE NEIGHBOUR: 'it returns false'. Refute it at one input. -/
def goldThreeWrong : ChangeSpec := { name := "goldThree", fn := fun _ => fun
  | [d1, d2, d3, d4] => { results := [.lit (.bool false)], args := [d1, d2, d3, d4] }
  | _ => none }
def GoldThreeWrongFalsely : Prop := goldThreeRow.holds Try.pinned (OpenSpec.ofChange goldThreeWrong)

/-- 'skyfixlaw08.GoldBack': WHATEVER THE INPUT: true; the input reads as it did. -/
def goldBackSpec : ChangeSpec := { name := "goldBack", fn := fun _ => fun
  | [d1, d2, d3, d4] => { results := [.lit (.bool true)], args := [d1, d2, d3, d4] }
  | _ => none }
def goldBackRow : OpenClaim := { program := "ytpmlodchbgfmeaa", sum := "6cf4406d0b05f372af483d6969c35cd893556b027f961d29e0552914b1b0209b", func := "skyfix/skyfixlaw08.GoldBack", spec := "goldBack", unfollowed := true, recurses := true, apart := false }
def GoldBackSaid : Prop := goldBackRow.holds Try.pinned (OpenSpec.ofChange goldBackSpec)

/-- ITS FALSE NEIGHBOUR: 'it returns false'. Refute it at one input. -/
def goldBackWrong : ChangeSpec := { name := "goldBack", fn := fun _ => fun
  | [d1, d2, d3, d4] => { results := [.lit (.bool false)], args := [d1, d2, d3, d4] }
  | _ => none }
def GoldBackWrongFalsely : Prop := goldBackRow.holds Try.pinned (OpenSpec.ofChange goldBackWrong)

/- THE SECOND FORM. 'bulk': how many values and letters a reading holds, each counted each time it is reached (what is shared counts as often as it is met; a slice's spare places count too). A statement '..UptoSaid' is the law's where the arguments, and the package variables that the reading takes, are together of bulk at most 1048576: NARROWER than '..Said'. Prove '..Said' where nothing that the law and all that it calls make is longer than what came in: it says more and counts as full. Else prove '..UptoSaid'. A law counts once. -/
mutual
def uptoBulk {H : Type} : DataW H → Nat
  | .lit (.string bytes) => bytes.length + 1
  | .lit _ => 1
  | .nil => 1
  | .ptr d => uptoBulk d + 1
  | .slice elems spare => uptoBulkAll elems + uptoBulkAll spare + 1
  | .agg parts => uptoBulkAll parts + 1
  | .iface _ d => uptoBulk d + 1
  | .map entries => uptoBulkEntries entries + 1
  | .held _ => 1
def uptoBulkAll {H : Type} : List (DataW H) → Nat
  | [] => 0
  | d :: r => uptoBulk d + uptoBulkAll r
def uptoBulkEntries {H : Type} : List (Lit × DataW H) → Nat
  | [] => 0
  | x :: r => uptoBulkEntry x + uptoBulkEntries r
def uptoBulkEntry {H : Type} : Lit × DataW H → Nat
  | (.string bytes, d) => bytes.length + uptoBulk d + 1
  | (_, d) => uptoBulk d + 1
 end
def uptoSmall : (H : Type) → List (DataW H) → Bool := fun _ ds => decide (uptoBulkAll ds ≤ 1048576)
def OpenSpec.upto (s : _root_.Go.ChangeSpec) : _root_.Go.OpenSpec := { _root_.Go.OpenSpec.ofChange s with cond := some uptoSmall }

/-- 'skyfixlaw08.GoldKnown', WHERE WHAT IT READS IS OF BULK AT MOST 1048576: true; the input reads as it did. -/
def goldKnownUptoRow : OpenClaim := { program := "ytpmlodchbgfmeaa", sum := "6cf4406d0b05f372af483d6969c35cd893556b027f961d29e0552914b1b0209b", func := "skyfix/skyfixlaw08.GoldKnown", spec := "goldKnown", unfollowed := true, recurses := true, apart := false, narrowed := true }
def GoldKnownUptoSaid : Prop := goldKnownUptoRow.holds Try.pinned (OpenSpec.upto goldKnownSpec)

/-- 'skyfixlaw08.GoldRegisters', WHERE WHAT IT READS IS OF BULK AT MOST 1048576: true; the input reads as it did. -/
def goldRegistersUptoRow : OpenClaim := { program := "ytpmlodchbgfmeaa", sum := "6cf4406d0b05f372af483d6969c35cd893556b027f961d29e0552914b1b0209b", func := "skyfix/skyfixlaw08.GoldRegisters", spec := "goldRegisters", unfollowed := true, recurses := true, apart := false, narrowed := true }
def GoldRegistersUptoSaid : Prop := goldRegistersUptoRow.holds Try.pinned (OpenSpec.upto goldRegistersSpec)

/-- 'skyfixlaw08.GoldCodes', WHERE WHAT IT READS IS OF BULK AT MOST 1048576: true; the input reads as it did. -/
def goldCodesUptoRow : OpenClaim := { program := "ytpmlodchbgfmeaa", sum := "6cf4406d0b05f372af483d6969c35cd893556b027f961d29e0552914b1b0209b", func := "skyfix/skyfixlaw08.GoldCodes", spec := "goldCodes", unfollowed := true, recurses := true, apart := false, narrowed := true }
def GoldCodesUptoSaid : Prop := goldCodesUptoRow.holds Try.pinned (OpenSpec.upto goldCodesSpec)

/-- 'skyfixlaw08.GoldFinds', WHERE WHAT IT READS IS OF BULK AT MOST 1048576: true; the input reads as it did. -/
def goldFindsUptoRow : OpenClaim := { program := "ytpmlodchbgfmeaa", sum := "6cf4406d0b05f372af483d6969c35cd893556b027f961d29e0552914b1b0209b", func := "skyfix/skyfixlaw08.GoldFinds", spec := "goldFinds", unfollowed := true, recurses := true, apart := false, narrowed := true }
def GoldFindsUptoSaid : Prop := goldFindsUptoRow.holds Try.pinned (OpenSpec.upto goldFindsSpec)

/-- 'skyfixlaw08.GoldPeriods', WHERE WHAT IT READS IS OF BULK AT MOST 1048576: true; the input reads as it did. -/
def goldPeriodsUptoRow : OpenClaim := { program := "ytpmlodchbgfmeaa", sum := "6cf4406d0b05f372af483d6969c35cd893556b027f961d29e0552914b1b0209b", func := "skyfix/skyfixlaw08.GoldPeriods", spec := "goldPeriods", unfollowed := true, recurses := true, apart := false, narrowed := true }
def GoldPeriodsUptoSaid : Prop := goldPeriodsUptoRow.holds Try.pinned (OpenSpec.upto goldPeriodsSpec)

/-- 'skyfixlaw08.GoldShifts', WHERE WHAT IT READS IS OF BULK AT MOST 1048576: true; the input reads as it did. -/
def goldShiftsUptoRow : OpenClaim := { program := "ytpmlodchbgfmeaa", sum := "6cf4406d0b05f372af483d6969c35cd893556b027f961d29e0552914b1b0209b", func := "skyfix/skyfixlaw08.GoldShifts", spec := "goldShifts", unfollowed := true, recurses := true, apart := false, narrowed := true }
def GoldShiftsUptoSaid : Prop := goldShiftsUptoRow.holds Try.pinned (OpenSpec.upto goldShiftsSpec)

/-- 'skyfixlaw08.GoldThree', WHERE WHAT IT READS IS OF BULK AT MOST 1048576: true; the input reads as it did. -/
def goldThreeUptoRow : OpenClaim := { program := "ytpmlodchbgfmeaa", sum := "6cf4406d0b05f372af483d6969c35cd893556b027f961d29e0552914b1b0209b", func := "skyfix/skyfixlaw08.GoldThree", spec := "goldThree", unfollowed := true, recurses := true, apart := false, narrowed := true }
def GoldThreeUptoSaid : Prop := goldThreeUptoRow.holds Try.pinned (OpenSpec.upto goldThreeSpec)

/-- 'skyfixlaw08.GoldBack', WHERE WHAT IT READS IS OF BULK AT MOST 1048576: true; the input reads as it did. -/
def goldBackUptoRow : OpenClaim := { program := "ytpmlodchbgfmeaa", sum := "6cf4406d0b05f372af483d6969c35cd893556b027f961d29e0552914b1b0209b", func := "skyfix/skyfixlaw08.GoldBack", spec := "goldBack", unfollowed := true, recurses := true, apart := false, narrowed := true }
def GoldBackUptoSaid : Prop := goldBackUptoRow.holds Try.pinned (OpenSpec.upto goldBackSpec)

end Rows
end Go.Proofs.Ytpmlodchbgfmeaa
