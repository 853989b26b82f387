/-
  No cell of these rows narrows 'for every input' (looked for: loops, veiled, ifaces, maps, wideKeys, modest, calm, conditions, laid).
  DERIVED. THE GIVEN ROWS OF THIS SEAT. 7 by the template 'for every input the law returns true; each argument reads behind the call as it read before'; 0 by the template 'total and deterministic' (their statements: YtdhmgljppciogaaTotals.lean).
  GIVEN WITH THE SEED: the statements are not yours to turn. If you find one false, say at which input.
  Laid BY PROGRAM, IN A SANDBOX (cutbox-rows.mjs): the forced cells as the released guide's own fill.sh prints them over the translation 1f4709f8ee13b283… (all of the seat's roots in one cut). By AI agents, Wed Nov 11 2026. No macro, syntax, notation, axiom, sorry.
-/
import Derived.Test.YtdhmgljppciogaaChecked
import GoSem.Claim
import GoSem.ClaimJoined
import GoSem.ClaimMapViews
import Derived.JoinedTies
import Derived.KernelRfl
namespace Go.Proofs.Ytdhmgljppciogaa
/- THE CELL 'sum', in the pinned program and in every row, IS THE sha256 OF THE DUMP (.gsa) THAT YtdhmgljppciogaaProg.lean LOADS. Nothing in Lean hashes anything: it is a label: what it is worth is what the hold of that sum in a sandbox is worth. -/
noncomputable def Try.pinned : Pinned := { name := "ytdhmgljppciogaa", sum := "1f4709f8ee13b283e7177cf2d6a8c4d1567cf4cc299a731fa519fdccaad89965", checked := Try.checked }
namespace Rows
def none {H : Type} : Left H := { results := [], args := [] }

/-- 'skyfixlaw10.NttKnown': WHATEVER THE INPUT: true; the input reads as it did. -/
def nttKnownSpec : ChangeSpec := { name := "nttKnown", fn := fun _ => fun
  | [] => { results := [.lit (.bool true)], args := [] }
  | _ => none }
def nttKnownRow : OpenClaim := { program := "ytdhmgljppciogaa", sum := "1f4709f8ee13b283e7177cf2d6a8c4d1567cf4cc299a731fa519fdccaad89965", func := "skyfix/skyfixlaw10.NttKnown", spec := "nttKnown", unfollowed := true, recurses := true, apart := false }
def NttKnownSaid : Prop := nttKnownRow.holds Try.pinned (OpenSpec.ofChange nttKnownSpec)

/-- ITS FALSE NEIGHBOUR: 'it returns false'. Refute it at one input. -/
def nttKnownWrong : ChangeSpec := { name := "nttKnown", fn := fun _ => fun
  | [] => { results := [.lit (.bool false)], args := [] }
  | _ => none }
def NttKnownWrongFalsely : Prop := nttKnownRow.holds Try.pinned (OpenSpec.ofChange nttKnownWrong)

/-- 'skyfixlaw10.NttNumbers': WHATEVER THE INPUT: true; the input reads as it did. -/
def nttNumbersSpec : ChangeSpec := { name := "nttNumbers", fn := fun _ => fun
  | [d1, d2] => { results := [.lit (.bool true)], args := [d1, d2] }
  | _ => none }
def nttNumbersRow : OpenClaim := { program := "ytdhmgljppciogaa", sum := "1f4709f8ee13b283e7177cf2d6a8c4d1567cf4cc299a731fa519fdccaad89965", func := "skyfix/skyfixlaw10.NttNumbers", spec := "nttNumbers", unfollowed := true, recurses := true, apart := false }
def NttNumbersSaid : Prop := nttNumbersRow.holds Try.pinned (OpenSpec.ofChange nttNumbersSpec)

/-- ITS FALSE NEIGHBOUR: 'it returns false'. Refute it at one input. -/
def nttNumbersWrong : ChangeSpec := { name := "nttNumbers", fn := fun _ => fun
  | [d1, d2] => { results := [.lit (.bool false)], args := [d1, d2] }
  | _ => none }
def NttNumbersWrongFalsely : Prop := nttNumbersRow.holds Try.pinned (OpenSpec.ofChange nttNumbersWrong)

/-- 'skyfixlaw10.NttTransforms': WHATEVER THE INPUT: true; the input reads as it did. -/
def nttTransformsSpec : ChangeSpec := { name := "nttTransforms", fn := fun _ => fun
  | [d] => { results := [.lit (.bool true)], args := [d] }
  | _ => none }
def nttTransformsRow : OpenClaim := { program := "ytdhmgljppciogaa", sum := "1f4709f8ee13b283e7177cf2d6a8c4d1567cf4cc299a731fa519fdccaad89965", func := "skyfix/skyfixlaw10.NttTransforms", spec := "nttTransforms", unfollowed := true, recurses := true, apart := false }
def NttTransformsSaid : Prop := nttTransformsRow.holds Try.pinned (OpenSpec.ofChange nttTransformsSpec)

/-- ITS FALSE NEIGHBOUR: 'it returns false'. Refute it at one input. -/
def nttTransformsWrong : ChangeSpec := { name := "nttTransforms", fn := fun _ => fun
  | [d] => { results := [.lit (.bool false)], args := [d] }
  | _ => none }
def NttTransformsWrongFalsely : Prop := nttTransformsRow.holds Try.pinned (OpenSpec.ofChange nttTransformsWrong)

/-- 'skyfixlaw10.NttProducts': WHATEVER THE INPUT: true; the input reads as it did. -/
def nttProductsSpec : ChangeSpec := { name := "nttProducts", fn := fun _ => fun
  | [d1, d2] => { results := [.lit (.bool true)], args := [d1, d2] }
  | _ => none }
def nttProductsRow : OpenClaim := { program := "ytdhmgljppciogaa", sum := "1f4709f8ee13b283e7177cf2d6a8c4d1567cf4cc299a731fa519fdccaad89965", func := "skyfix/skyfixlaw10.NttProducts", spec := "nttProducts", unfollowed := true, recurses := true, apart := false }
def NttProductsSaid : Prop := nttProductsRow.holds Try.pinned (OpenSpec.ofChange nttProductsSpec)

/-- ITS FALSE NEIGHBOUR: 'it returns false'. Refute it at one input. -/
def nttProductsWrong : ChangeSpec := { name := "nttProducts", fn := fun _ => fun
  | [d1, d2] => { results := [.lit (.bool false)], args := [d1, d2] }
  | _ => none }
def NttProductsWrongFalsely : Prop := nttProductsRow.holds Try.pinned (OpenSpec.ofChange nttProductsWrong)

/-- 'skyfixlaw10.NttInverse': WHATEVER THE INPUT: true; the input reads as it did. -/
def nttInverseSpec : ChangeSpec := { name := "nttInverse", fn := fun _ => fun
  | [d1, d2, d3] => { results := [.lit (.bool true)], args := [d1, d2, d3] }
  | _ => none }
def nttInverseRow : OpenClaim := { program := "ytdhmgljppciogaa", sum := "1f4709f8ee13b283e7177cf2d6a8c4d1567cf4cc299a731fa519fdccaad89965", func := "skyfix/skyfixlaw10.NttInverse", spec := "nttInverse", unfollowed := true, recurses := true, apart := false }
def NttInverseSaid : Prop := nttInverseRow.holds Try.pinned (OpenSpec.ofChange nttInverseSpec)

/-- ITS FALSE NEIGHBOUR: 'it returns false'. Refute it at one input. -/
def nttInverseWrong : ChangeSpec := { name := "nttInverse", fn := fun _ => fun
  | [d1, d2, d3] => { results := [.lit (.bool false)], args := [d1, d2, d3] }
  | _ => none }
def NttInverseWrongFalsely : Prop := nttInverseRow.holds Try.pinned (OpenSpec.ofChange nttInverseWrong)

/-- 'skyfixlaw10.NttConvolves': WHATEVER THE INPUT: true; the input reads as it did. -/
def nttConvolvesSpec : ChangeSpec := { name := "nttConvolves", fn := fun _ => fun
  | [d1, d2, d3] => { results := [.lit (.bool true)], args := [d1, d2, d3] }
  | _ => none }
def nttConvolvesRow : OpenClaim := { program := "ytdhmgljppciogaa", sum := "1f4709f8ee13b283e7177cf2d6a8c4d1567cf4cc299a731fa519fdccaad89965", func := "skyfix/skyfixlaw10.NttConvolves", spec := "nttConvolves", unfollowed := true, recurses := true, apart := false }
def NttConvolvesSaid : Prop := nttConvolvesRow.holds Try.pinned (OpenSpec.ofChange nttConvolvesSpec)

/-- ITS FALSE NEIGHBOUR: 'it returns false'. Refute it at one input. -/
def nttConvolvesWrong : ChangeSpec := { name := "nttConvolves", fn := fun _ => fun
  | [d1, d2, d3] => { results := [.lit (.bool false)], args := [d1, d2, d3] }
  | _ => none }
def NttConvolvesWrongFalsely : Prop := nttConvolvesRow.holds Try.pinned (OpenSpec.ofChange nttConvolvesWrong)

/-- 'skyfixlaw10.NttSums': WHATEVER THE INPUT: true; the input reads as it did. -/
def nttSumsSpec : ChangeSpec := { name := "nttSums", fn := fun _ => fun
  | [d1, d2] => { results := [.lit (.bool true)], args := [d1, d2] }
  | _ => none }
def nttSumsRow : OpenClaim := { program := "ytdhmgljppciogaa", sum := "1f4709f8ee13b283e7177cf2d6a8c4d1567cf4cc299a731fa519fdccaad89965", func := "skyfix/skyfixlaw10.NttSums", spec := "nttSums", unfollowed := true, recurses := true, apart := false }
def NttSumsSaid : Prop := nttSumsRow.holds Try.pinned (OpenSpec.ofChange nttSumsSpec)

/-- ITS FALSE NEIGHBOUR: 'it returns false'. Refute it at one input. -/
def nttSumsWrong : ChangeSpec := { name := "nttSums", fn := fun _ => fun
  | [d1, d2] => { results := [.lit (.bool false)], args := [d1, d2] }
  | _ => none }
def NttSumsWrongFalsely : Prop := nttSumsRow.holds Try.pinned (OpenSpec.ofChange nttSumsWrong)

/- THE SECOND FORM. 'bulk': how many values and letters a reading holds, each counted each time it is reached (what is shared counts as often as it is met; a slice's spare places count too). A statement '..UptoSaid' is the law's where the arguments, and the package variables that the reading takes, are together of bulk at most 1048576: NARROWER than '..Said'. Prove '..Said' where nothing that the law and all that it calls make is longer than what came in: it says more and counts as full. Else prove '..UptoSaid'. A law counts once. -/
mutual
def uptoBulk {H : Type} : DataW H → Nat
  | .lit (.string bytes) => bytes.length + 1
  | .lit _ => 1
  | .nil => 1
  | .ptr d => uptoBulk d + 1
  | .slice elems spare => uptoBulkAll elems + uptoBulkAll spare + 1
  | .agg parts => uptoBulkAll parts + 1
  | .iface _ d => uptoBulk d + 1
  | .map entries => uptoBulkEntries entries + 1
  | .held _ => 1
def uptoBulkAll {H : Type} : List (DataW H) → Nat
  | [] => 0
  | d :: r => uptoBulk d + uptoBulkAll r
def uptoBulkEntries {H : Type} : List (Lit × DataW H) → Nat
  | [] => 0
  | x :: r => uptoBulkEntry x + uptoBulkEntries r
def uptoBulkEntry {H : Type} : Lit × DataW H → Nat
  | (.string bytes, d) => bytes.length + uptoBulk d + 1
  | (_, d) => uptoBulk d + 1
 end
def uptoSmall : (H : Type) → List (DataW H) → Bool := fun _ ds => decide (uptoBulkAll ds ≤ 1048576)
def OpenSpec.upto (s : _root_.Go.ChangeSpec) : _root_.Go.OpenSpec := { _root_.Go.OpenSpec.ofChange s with cond := some uptoSmall }

/-- 'skyfixlaw10.NttKnown', WHERE WHAT IT READS IS OF BULK AT MOST 1048576: true; the input reads as it did. -/
def nttKnownUptoRow : OpenClaim := { program := "ytdhmgljppciogaa", sum := "1f4709f8ee13b283e7177cf2d6a8c4d1567cf4cc299a731fa519fdccaad89965", func := "skyfix/skyfixlaw10.NttKnown", spec := "nttKnown", unfollowed := true, recurses := true, apart := false, narrowed := true }
def NttKnownUptoSaid : Prop := nttKnownUptoRow.holds Try.pinned (OpenSpec.upto nttKnownSpec)

/-- 'skyfixlaw10.NttNumbers', WHERE WHAT IT READS IS OF BULK AT MOST 1048576: true; the input reads as it did. -/
def nttNumbersUptoRow : OpenClaim := { program := "ytdhmgljppciogaa", sum := "1f4709f8ee13b283e7177cf2d6a8c4d1567cf4cc299a731fa519fdccaad89965", func := "skyfix/skyfixlaw10.NttNumbers", spec := "nttNumbers", unfollowed := true, recurses := true, apart := false, narrowed := true }
def NttNumbersUptoSaid : Prop := nttNumbersUptoRow.holds Try.pinned (OpenSpec.upto nttNumbersSpec)

/-- 'skyfixlaw10.NttTransforms', WHERE WHAT IT READS IS OF BULK AT MOST 1048576: true; the input reads as it did. -/
def nttTransformsUptoRow : OpenClaim := { program := "ytdhmgljppciogaa", sum := "1f4709f8ee13b283e7177cf2d6a8c4d1567cf4cc299a731fa519fdccaad89965", func := "skyfix/skyfixlaw10.NttTransforms", spec := "nttTransforms", unfollowed := true, recurses := true, apart := false, narrowed := true }
def NttTransformsUptoSaid : Prop := nttTransformsUptoRow.holds Try.pinned (OpenSpec.upto nttTransformsSpec)

/-- 'skyfixlaw10.NttProducts', WHERE WHAT IT READS IS OF BULK AT MOST 1048576: true; the input reads as it did. -/
def nttProductsUptoRow : OpenClaim := { program := "ytdhmgljppciogaa", sum := "1f4709f8ee13b283e7177cf2d6a8c4d1567cf4cc299a731fa519fdccaad89965", func := "skyfix/skyfixlaw10.NttProducts", spec := "nttProducts", unfollowed := true, recurses := true, apart := false, narrowed := true }
def NttProductsUptoSaid : Prop := nttProductsUptoRow.holds Try.pinned (OpenSpec.upto nttProductsSpec)

/-- 'skyfixlaw10.NttInverse', WHERE WHAT IT READS IS OF BULK AT MOST 1048576: true; the input reads as it did. -/
def nttInverseUptoRow : OpenClaim := { program := "ytdhmgljppciogaa", sum := "1f4709f8ee13b283e7177cf2d6a8c4d1567cf4cc299a731fa519fdccaad89965", func := "skyfix/skyfixlaw10.NttInverse", spec := "nttInverse", unfollowed := true, recurses := true, apart := false, narrowed := true }
def NttInverseUptoSaid : Prop := nttInverseUptoRow.holds Try.pinned (OpenSpec.upto nttInverseSpec)

/-- 'skyfixlaw10.NttConvolves', WHERE WHAT IT READS IS OF BULK AT MOST 1048576: true; the input reads as it did. -/
def nttConvolvesUptoRow : OpenClaim := { program := "ytdhmgljppciogaa", sum := "1f4709f8ee13b283e7177cf2d6a8c4d1567cf4cc299a731fa519fdccaad89965", func := "skyfix/skyfixlaw10.NttConvolves", spec := "nttConvolves", unfollowed := true, recurses := true, apart := false, narrowed := true }
def NttConvolvesUptoSaid : Prop := nttConvolvesUptoRow.holds Try.pinned (OpenSpec.upto nttConvolvesSpec)

/-- 'skyfixlaw10.NttSums', WHERE WHAT IT READS IS OF BULK AT MOST 1048576: true; the input reads as it did. -/
def nttSumsUptoRow : OpenClaim := { program := "ytdhmgljppciogaa", sum := "1f4709f8ee13b283e7177cf2d6a8c4d1567cf4cc299a731fa519fdccaad89965", func := "skyfix/skyfixlaw10.NttSums", spec := "nttSums", unfollowed := true, recurses := true, apart := false, narrowed := true }
def NttSumsUptoSaid : Prop := nttSumsUptoRow.holds Try.pinned (OpenSpec.upto nttSumsSpec)

end Rows
end Go.Proofs.Ytdhmgljppciogaa
