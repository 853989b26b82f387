/-
  No cell of these rows narrows 'for every input' (looked for: loops, veiled, ifaces, maps, wideKeys, modest, calm, conditions, laid).
  DERIVED. THE GIVEN ROWS OF THIS SEAT. 7 by the template 'for every input the law returns true; each argument reads behind the call as it read before'; 0 by the template 'total and deterministic' (their statements: YtagndcelalcmpaaTotals.lean).
  GIVEN WITH THE SEED: the statements are not yours to turn. If you find one false, say at which input.
  Laid BY PROGRAM, IN A SANDBOX (cutbox-rows.mjs): the forced cells as the released guide's own fill.sh prints them over the translation 8e68d8dbb9a11a80… (all of the seat's roots in one cut). By AI agents, Wed Nov 11 2026. No macro, syntax, notation, axiom, sorry.
-/
import Derived.Test.YtagndcelalcmpaaChecked
import GoSem.Claim
import GoSem.ClaimJoined
import GoSem.ClaimMapViews
import Derived.JoinedTies
import Derived.KernelRfl
namespace Go.Proofs.Ytagndcelalcmpaa
/- THE CELL 'sum', in the pinned program and in every row, IS THE sha256 OF THE DUMP (.gsa) THAT YtagndcelalcmpaaProg.lean LOADS. Nothing in Lean hashes anything: it is a label: what it is worth is what the hold of that sum in a sandbox is worth. -/
noncomputable def Try.pinned : Pinned := { name := "ytagndcelalcmpaa", sum := "8e68d8dbb9a11a805114212428af9ceb1833f594f0cbf23e5846915a0f7234d2", checked := Try.checked }
namespace Rows
def none {H : Type} : Left H := { results := [], args := [] }

/-- 'skyfixlaw29.SpansTimes': WHATEVER THE INPUT: true; the input reads as it did. -/
def spansTimesSpec : ChangeSpec := { name := "spansTimes", fn := fun _ => fun
  | [d1, d2, d3, d4, d5, d6] => { results := [.lit (.bool true)], args := [d1, d2, d3, d4, d5, d6] }
  | _ => none }
def spansTimesRow : OpenClaim := { program := "ytagndcelalcmpaa", sum := "8e68d8dbb9a11a805114212428af9ceb1833f594f0cbf23e5846915a0f7234d2", func := "skyfix/skyfixlaw29.SpansTimes", spec := "spansTimes", recurses := true, apart := false }
def SpansTimesSaid : Prop := spansTimesRow.holds Try.pinned (OpenSpec.ofChange spansTimesSpec)

/-- ITS FALSE NEIGHBOUR: 'it returns false'. Refute it at one input. -/
def spansTimesWrong : ChangeSpec := { name := "spansTimes", fn := fun _ => fun
  | [d1, d2, d3, d4, d5, d6] => { results := [.lit (.bool false)], args := [d1, d2, d3, d4, d5, d6] }
  | _ => none }
def SpansTimesWrongFalsely : Prop := spansTimesRow.holds Try.pinned (OpenSpec.ofChange spansTimesWrong)

/-- 'skyfixlaw29.SpansLengths': WHATEVER THE INPUT: true; the input reads as it did. -/
def spansLengthsSpec : ChangeSpec := { name := "spansLengths", fn := fun _ => fun
  | [d1, d2, d3, d4] => { results := [.lit (.bool true)], args := [d1, d2, d3, d4] }
  | _ => none }
def spansLengthsRow : OpenClaim := { program := "ytagndcelalcmpaa", sum := "8e68d8dbb9a11a805114212428af9ceb1833f594f0cbf23e5846915a0f7234d2", func := "skyfix/skyfixlaw29.SpansLengths", spec := "spansLengths", recurses := true, apart := false }
def SpansLengthsSaid : Prop := spansLengthsRow.holds Try.pinned (OpenSpec.ofChange spansLengthsSpec)

/-- ITS FALSE NEIGHBOUR: 'it returns false'. Refute it at one input. -/
def spansLengthsWrong : ChangeSpec := { name := "spansLengths", fn := fun _ => fun
  | [d1, d2, d3, d4] => { results := [.lit (.bool false)], args := [d1, d2, d3, d4] }
  | _ => none }
def SpansLengthsWrongFalsely : Prop := spansLengthsRow.holds Try.pinned (OpenSpec.ofChange spansLengthsWrong)

/-- 'skyfixlaw29.SpansAll': WHATEVER THE INPUT: true; the input reads as it did. -/
def spansAllSpec : ChangeSpec := { name := "spansAll", fn := fun _ => fun
  | [d1, d2, d3, d4] => { results := [.lit (.bool true)], args := [d1, d2, d3, d4] }
  | _ => none }
def spansAllRow : OpenClaim := { program := "ytagndcelalcmpaa", sum := "8e68d8dbb9a11a805114212428af9ceb1833f594f0cbf23e5846915a0f7234d2", func := "skyfix/skyfixlaw29.SpansAll", spec := "spansAll", unfollowed := true, recurses := true, apart := false }
def SpansAllSaid : Prop := spansAllRow.holds Try.pinned (OpenSpec.ofChange spansAllSpec)

/-- ITS FALSE NEIGHBOUR: 'it returns false'. Refute it at one input. -/
def spansAllWrong : ChangeSpec := { name := "spansAll", fn := fun _ => fun
  | [d1, d2, d3, d4] => { results := [.lit (.bool false)], args := [d1, d2, d3, d4] }
  | _ => none }
def SpansAllWrongFalsely : Prop := spansAllRow.holds Try.pinned (OpenSpec.ofChange spansAllWrong)

/-- 'skyfixlaw29.SpansKnown': WHATEVER THE INPUT: true; the input reads as it did. -/
def spansKnownSpec : ChangeSpec := { name := "spansKnown", fn := fun _ => fun
  | [] => { results := [.lit (.bool true)], args := [] }
  | _ => none }
def spansKnownRow : OpenClaim := { program := "ytagndcelalcmpaa", sum := "8e68d8dbb9a11a805114212428af9ceb1833f594f0cbf23e5846915a0f7234d2", func := "skyfix/skyfixlaw29.SpansKnown", spec := "spansKnown", unfollowed := true, recurses := true, apart := false }
def SpansKnownSaid : Prop := spansKnownRow.holds Try.pinned (OpenSpec.ofChange spansKnownSpec)

/-- ITS FALSE NEIGHBOUR: 'it returns false'. Refute it at one input. -/
def spansKnownWrong : ChangeSpec := { name := "spansKnown", fn := fun _ => fun
  | [] => { results := [.lit (.bool false)], args := [] }
  | _ => none }
def SpansKnownWrongFalsely : Prop := spansKnownRow.holds Try.pinned (OpenSpec.ofChange spansKnownWrong)

/-- 'skyfixlaw29.SpansBack': WHATEVER THE INPUT: true; the input reads as it did. -/
def spansBackSpec : ChangeSpec := { name := "spansBack", fn := fun _ => fun
  | [d1, d2, d3] => { results := [.lit (.bool true)], args := [d1, d2, d3] }
  | _ => none }
def spansBackRow : OpenClaim := { program := "ytagndcelalcmpaa", sum := "8e68d8dbb9a11a805114212428af9ceb1833f594f0cbf23e5846915a0f7234d2", func := "skyfix/skyfixlaw29.SpansBack", spec := "spansBack", unfollowed := true, recurses := true, apart := false }
def SpansBackSaid : Prop := spansBackRow.holds Try.pinned (OpenSpec.ofChange spansBackSpec)

/-- ITS FALSE NEIGHBOUR: 'it returns false'. Refute it at one input. -/
def spansBackWrong : ChangeSpec := { name := "spansBack", fn := fun _ => fun
  | [d1, d2, d3] => { results := [.lit (.bool false)], args := [d1, d2, d3] }
  | _ => none }
def SpansBackWrongFalsely : Prop := spansBackRow.holds Try.pinned (OpenSpec.ofChange spansBackWrong)

/-- 'skyfixlaw29.SpansShifts': WHATEVER THE INPUT: true; the input reads as it did. -/
def spansShiftsSpec : ChangeSpec := { name := "spansShifts", fn := fun _ => fun
  | [d1, d2, d3, d4, d5] => { results := [.lit (.bool true)], args := [d1, d2, d3, d4, d5] }
  | _ => none }
def spansShiftsRow : OpenClaim := { program := "ytagndcelalcmpaa", sum := "8e68d8dbb9a11a805114212428af9ceb1833f594f0cbf23e5846915a0f7234d2", func := "skyfix/skyfixlaw29.SpansShifts", spec := "spansShifts", unfollowed := true, recurses := true, apart := false }
def SpansShiftsSaid : Prop := spansShiftsRow.holds Try.pinned (OpenSpec.ofChange spansShiftsSpec)

/-- ITS FALSE NEIGHBOUR: 'it returns false'. Refute it at one input. -/
def spansShiftsWrong : ChangeSpec := { name := "spansShifts", fn := fun _ => fun
  | [d1, d2, d3, d4, d5] => { results := [.lit (.bool false)], args := [d1, d2, d3, d4, d5] }
  | _ => none }
def SpansShiftsWrongFalsely : Prop := spansShiftsRow.holds Try.pinned (OpenSpec.ofChange spansShiftsWrong)

/-- 'skyfixlaw29.SpansTrue': WHATEVER THE INPUT: true; the input reads as it did. -/
def spansTrueSpec : ChangeSpec := { name := "spansTrue", fn := fun _ => fun
  | [d1, d2, d3, d4, d5] => { results := [.lit (.bool true)], args := [d1, d2, d3, d4, d5] }
  | _ => none }
def spansTrueRow : OpenClaim := { program := "ytagndcelalcmpaa", sum := "8e68d8dbb9a11a805114212428af9ceb1833f594f0cbf23e5846915a0f7234d2", func := "skyfix/skyfixlaw29.SpansTrue", spec := "spansTrue", unfollowed := true, recurses := true, apart := false }
def SpansTrueSaid : Prop := spansTrueRow.holds Try.pinned (OpenSpec.ofChange spansTrueSpec)

/-- ITS FALSE NEIGHBOUR: 'it returns false'. Refute it at one input. -/
def spansTrueWrong : ChangeSpec := { name := "spansTrue", fn := fun _ => fun
  | [d1, d2, d3, d4, d5] => { results := [.lit (.bool false)], args := [d1, d2, d3, d4, d5] }
  | _ => none }
def SpansTrueWrongFalsely : Prop := spansTrueRow.holds Try.pinned (OpenSpec.ofChange spansTrueWrong)

/- THE SECOND FORM. 'bulk': how many values and letters a reading holds, each counted each time it is reached (what is shared counts as often as it is met; a slice's spare places count too). A statement '..UptoSaid' is the law's where the arguments, and the package variables that the reading takes, are together of bulk at most 1048576: NARROWER than '..Said'. Prove '..Said' where nothing that the law and all that it calls make is longer than what came in: it says more and counts as full. Else prove '..UptoSaid'. A law counts once. -/
mutual
def uptoBulk {H : Type} : DataW H → Nat
  | .lit (.string bytes) => bytes.length + 1
  | .lit _ => 1
  | .nil => 1
  | .ptr d => uptoBulk d + 1
  | .slice elems spare => uptoBulkAll elems + uptoBulkAll spare + 1
  | .agg parts => uptoBulkAll parts + 1
  | .iface _ d => uptoBulk d + 1
  | .map entries => uptoBulkEntries entries + 1
  | .held _ => 1
def uptoBulkAll {H : Type} : List (DataW H) → Nat
  | [] => 0
  | d :: r => uptoBulk d + uptoBulkAll r
def uptoBulkEntries {H : Type} : List (Lit × DataW H) → Nat
  | [] => 0
  | x :: r => uptoBulkEntry x + uptoBulkEntries r
def uptoBulkEntry {H : Type} : Lit × DataW H → Nat
  | (.string bytes, d) => bytes.length + uptoBulk d + 1
  | (_, d) => uptoBulk d + 1
 end
def uptoSmall : (H : Type) → List (DataW H) → Bool := fun _ ds => decide (uptoBulkAll ds ≤ 1048576)
def OpenSpec.upto (s : _root_.Go.ChangeSpec) : _root_.Go.OpenSpec := { _root_.Go.OpenSpec.ofChange s with cond := some uptoSmall }

/-- 'skyfixlaw29.SpansTimes', WHERE WHAT IT READS IS OF BULK AT MOST 1048576: true; the input reads as it did. -/
def spansTimesUptoRow : OpenClaim := { program := "ytagndcelalcmpaa", sum := "8e68d8dbb9a11a805114212428af9ceb1833f594f0cbf23e5846915a0f7234d2", func := "skyfix/skyfixlaw29.SpansTimes", spec := "spansTimes", recurses := true, apart := false, narrowed := true }
def SpansTimesUptoSaid : Prop := spansTimesUptoRow.holds Try.pinned (OpenSpec.upto spansTimesSpec)

/-- 'skyfixlaw29.SpansLengths', WHERE WHAT IT READS IS OF BULK AT MOST 1048576: true; the input reads as it did. -/
def spansLengthsUptoRow : OpenClaim := { program := "ytagndcelalcmpaa", sum := "8e68d8dbb9a11a805114212428af9ceb1833f594f0cbf23e5846915a0f7234d2", func := "skyfix/skyfixlaw29.SpansLengths", spec := "spansLengths", recurses := true, apart := false, narrowed := true }
def SpansLengthsUptoSaid : Prop := spansLengthsUptoRow.holds Try.pinned (OpenSpec.upto spansLengthsSpec)

/-- 'skyfixlaw29.SpansAll', WHERE WHAT IT READS IS OF BULK AT MOST 1048576: true; the input reads as it did. -/
def spansAllUptoRow : OpenClaim := { program := "ytagndcelalcmpaa", sum := "8e68d8dbb9a11a805114212428af9ceb1833f594f0cbf23e5846915a0f7234d2", func := "skyfix/skyfixlaw29.SpansAll", spec := "spansAll", unfollowed := true, recurses := true, apart := false, narrowed := true }
def SpansAllUptoSaid : Prop := spansAllUptoRow.holds Try.pinned (OpenSpec.upto spansAllSpec)

/-- 'skyfixlaw29.SpansKnown', WHERE WHAT IT READS IS OF BULK AT MOST 1048576: true; the input reads as it did. -/
def spansKnownUptoRow : OpenClaim := { program := "ytagndcelalcmpaa", sum := "8e68d8dbb9a11a805114212428af9ceb1833f594f0cbf23e5846915a0f7234d2", func := "skyfix/skyfixlaw29.SpansKnown", spec := "spansKnown", unfollowed := true, recurses := true, apart := false, narrowed := true }
def SpansKnownUptoSaid : Prop := spansKnownUptoRow.holds Try.pinned (OpenSpec.upto spansKnownSpec)

/-- 'skyfixlaw29.SpansBack', WHERE WHAT IT READS IS OF BULK AT MOST 1048576: true; the input reads as it did. -/
def spansBackUptoRow : OpenClaim := { program := "ytagndcelalcmpaa", sum := "8e68d8dbb9a11a805114212428af9ceb1833f594f0cbf23e5846915a0f7234d2", func := "skyfix/skyfixlaw29.SpansBack", spec := "spansBack", unfollowed := true, recurses := true, apart := false, narrowed := true }
def SpansBackUptoSaid : Prop := spansBackUptoRow.holds Try.pinned (OpenSpec.upto spansBackSpec)

/-- 'skyfixlaw29.SpansShifts', WHERE WHAT IT READS IS OF BULK AT MOST 1048576: true; the input reads as it did. -/
def spansShiftsUptoRow : OpenClaim := { program := "ytagndcelalcmpaa", sum := "8e68d8dbb9a11a805114212428af9ceb1833f594f0cbf23e5846915a0f7234d2", func := "skyfix/skyfixlaw29.SpansShifts", spec := "spansShifts", unfollowed := true, recurses := true, apart := false, narrowed := true }
def SpansShiftsUptoSaid : Prop := spansShiftsUptoRow.holds Try.pinned (OpenSpec.upto spansShiftsSpec)

/-- 'skyfixlaw29.SpansTrue', WHERE WHAT IT READS IS OF BULK AT MOST 1048576: true; the input reads as it did. -/
def spansTrueUptoRow : OpenClaim := { program := "ytagndcelalcmpaa", sum := "8e68d8dbb9a11a805114212428af9ceb1833f594f0cbf23e5846915a0f7234d2", func := "skyfix/skyfixlaw29.SpansTrue", spec := "spansTrue", unfollowed := true, recurses := true, apart := false, narrowed := true }
def SpansTrueUptoSaid : Prop := spansTrueUptoRow.holds Try.pinned (OpenSpec.upto spansTrueSpec)

end Rows
end Go.Proofs.Ytagndcelalcmpaa
