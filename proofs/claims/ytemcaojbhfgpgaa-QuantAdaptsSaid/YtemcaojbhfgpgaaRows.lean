/-
  No cell of these rows narrows 'for every input' (looked for: loops, veiled, ifaces, maps, wideKeys, modest, calm, conditions, laid).
  DERIVED. THE GIVEN ROWS OF THIS SEAT. 7 by the template 'for every input the law returns true; each argument reads behind the call as it read before'; 0 by the template 'total and deterministic' (their statements: YtemcaojbhfgpgaaTotals.lean).
  GIVEN WITH THE SEED: the statements are not yours to turn. If you find one false, say at which input.
  Laid BY PROGRAM, IN A SANDBOX (cutbox-rows.mjs): the forced cells as the released guide's own fill.sh prints them over the translation 13c7cc738d4a68f7… (all of the seat's roots in one cut). By AI agents, Wed Nov 11 2026. No macro, syntax, notation, axiom, sorry.
-/
import Derived.Test.YtemcaojbhfgpgaaChecked
import GoSem.Claim
import GoSem.ClaimJoined
import GoSem.ClaimMapViews
import Derived.JoinedTies
import Derived.KernelRfl
namespace Go.Proofs.Ytemcaojbhfgpgaa
/- THE CELL 'sum', in the pinned program and in every row, IS THE sha256 OF THE DUMP (.gsa) THAT YtemcaojbhfgpgaaProg.lean LOADS. Nothing in Lean hashes anything: it is a label: what it is worth is what the hold of that sum in a sandbox is worth. -/
noncomputable def Try.pinned : Pinned := { name := "ytemcaojbhfgpgaa", sum := "13c7cc738d4a68f7e39ed9eaae092999701b5ae269e1eeb5274a3be187325b90", checked := Try.checked }
namespace Rows
def none {H : Type} : Left H := { results := [], args := [] }

/-- 'skyfixlaw13.QuantKnown': WHATEVER THE INPUT: true; the input reads as it did. -/
def quantKnownSpec : ChangeSpec := { name := "quantKnown", fn := fun _ => fun
  | [] => { results := [.lit (.bool true)], args := [] }
  | _ => none }
def quantKnownRow : OpenClaim := { program := "ytemcaojbhfgpgaa", sum := "13c7cc738d4a68f7e39ed9eaae092999701b5ae269e1eeb5274a3be187325b90", func := "skyfix/skyfixlaw13.QuantKnown", spec := "quantKnown", unfollowed := true, recurses := true, apart := false }
def QuantKnownSaid : Prop := quantKnownRow.holds Try.pinned (OpenSpec.ofChange quantKnownSpec)

/-- ITS FALSE NEIGHBOUR: 'it returns false'. Refute it at one input. -/
def quantKnownWrong : ChangeSpec := { name := "quantKnown", fn := fun _ => fun
  | [] => { results := [.lit (.bool false)], args := [] }
  | _ => none }
def QuantKnownWrongFalsely : Prop := quantKnownRow.holds Try.pinned (OpenSpec.ofChange quantKnownWrong)

/-- 'skyfixlaw13.QuantLevels': WHATEVER THE INPUT: true; the input reads as it did. -/
def quantLevelsSpec : ChangeSpec := { name := "quantLevels", fn := fun _ => fun
  | [d1, d2] => { results := [.lit (.bool true)], args := [d1, d2] }
  | _ => none }
def quantLevelsRow : OpenClaim := { program := "ytemcaojbhfgpgaa", sum := "13c7cc738d4a68f7e39ed9eaae092999701b5ae269e1eeb5274a3be187325b90", func := "skyfix/skyfixlaw13.QuantLevels", spec := "quantLevels", unfollowed := true, recurses := true, apart := false }
def QuantLevelsSaid : Prop := quantLevelsRow.holds Try.pinned (OpenSpec.ofChange quantLevelsSpec)

/-- ITS FALSE NEIGHBOUR: 'it returns false'. Refute it at one input. -/
def quantLevelsWrong : ChangeSpec := { name := "quantLevels", fn := fun _ => fun
  | [d1, d2] => { results := [.lit (.bool false)], args := [d1, d2] }
  | _ => none }
def QuantLevelsWrongFalsely : Prop := quantLevelsRow.holds Try.pinned (OpenSpec.ofChange quantLevelsWrong)

/-- 'skyfixlaw13.QuantSamples': WHATEVER THE INPUT: true; the input reads as it did. -/
def quantSamplesSpec : ChangeSpec := { name := "quantSamples", fn := fun _ => fun
  | [d1, d2] => { results := [.lit (.bool true)], args := [d1, d2] }
  | _ => none }
def quantSamplesRow : OpenClaim := { program := "ytemcaojbhfgpgaa", sum := "13c7cc738d4a68f7e39ed9eaae092999701b5ae269e1eeb5274a3be187325b90", func := "skyfix/skyfixlaw13.QuantSamples", spec := "quantSamples", unfollowed := true, recurses := true, apart := false }
def QuantSamplesSaid : Prop := quantSamplesRow.holds Try.pinned (OpenSpec.ofChange quantSamplesSpec)

/-- ITS FALSE NEIGHBOUR: 'it returns false'. Refute it at one input. -/
def quantSamplesWrong : ChangeSpec := { name := "quantSamples", fn := fun _ => fun
  | [d1, d2] => { results := [.lit (.bool false)], args := [d1, d2] }
  | _ => none }
def QuantSamplesWrongFalsely : Prop := quantSamplesRow.holds Try.pinned (OpenSpec.ofChange quantSamplesWrong)

/-- 'skyfixlaw13.QuantGains': WHATEVER THE INPUT: true; the input reads as it did. -/
def quantGainsSpec : ChangeSpec := { name := "quantGains", fn := fun _ => fun
  | [d1, d2, d3] => { results := [.lit (.bool true)], args := [d1, d2, d3] }
  | _ => none }
def quantGainsRow : OpenClaim := { program := "ytemcaojbhfgpgaa", sum := "13c7cc738d4a68f7e39ed9eaae092999701b5ae269e1eeb5274a3be187325b90", func := "skyfix/skyfixlaw13.QuantGains", spec := "quantGains", unfollowed := true, recurses := true, apart := false }
def QuantGainsSaid : Prop := quantGainsRow.holds Try.pinned (OpenSpec.ofChange quantGainsSpec)

/-- ITS FALSE NEIGHBOUR: 'it returns false'. Refute it at one input. -/
def quantGainsWrong : ChangeSpec := { name := "quantGains", fn := fun _ => fun
  | [d1, d2, d3] => { results := [.lit (.bool false)], args := [d1, d2, d3] }
  | _ => none }
def QuantGainsWrongFalsely : Prop := quantGainsRow.holds Try.pinned (OpenSpec.ofChange quantGainsWrong)

/-- 'skyfixlaw13.QuantError': WHATEVER THE INPUT: true; the input reads as it did. -/
def quantErrorSpec : ChangeSpec := { name := "quantError", fn := fun _ => fun
  | [d1, d2, d3, d4] => { results := [.lit (.bool true)], args := [d1, d2, d3, d4] }
  | _ => none }
def quantErrorRow : OpenClaim := { program := "ytemcaojbhfgpgaa", sum := "13c7cc738d4a68f7e39ed9eaae092999701b5ae269e1eeb5274a3be187325b90", func := "skyfix/skyfixlaw13.QuantError", spec := "quantError", unfollowed := true, recurses := true, apart := false }
def QuantErrorSaid : Prop := quantErrorRow.holds Try.pinned (OpenSpec.ofChange quantErrorSpec)

/-- ITS FALSE NEIGHBOUR: 'it returns false'. Refute it at one input. -/
def quantErrorWrong : ChangeSpec := { name := "quantError", fn := fun _ => fun
  | [d1, d2, d3, d4] => { results := [.lit (.bool false)], args := [d1, d2, d3, d4] }
  | _ => none }
def QuantErrorWrongFalsely : Prop := quantErrorRow.holds Try.pinned (OpenSpec.ofChange quantErrorWrong)

/-- 'skyfixlaw13.QuantLeast': WHATEVER THE INPUT: true; the input reads as it did. -/
def quantLeastSpec : ChangeSpec := { name := "quantLeast", fn := fun _ => fun
  | [d1, d2] => { results := [.lit (.bool true)], args := [d1, d2] }
  | _ => none }
def quantLeastRow : OpenClaim := { program := "ytemcaojbhfgpgaa", sum := "13c7cc738d4a68f7e39ed9eaae092999701b5ae269e1eeb5274a3be187325b90", func := "skyfix/skyfixlaw13.QuantLeast", spec := "quantLeast", unfollowed := true, recurses := true, apart := false }
def QuantLeastSaid : Prop := quantLeastRow.holds Try.pinned (OpenSpec.ofChange quantLeastSpec)

/-- ITS FALSE NEIGHBOUR: 'it returns false'. Refute it at one input. -/
def quantLeastWrong : ChangeSpec := { name := "quantLeast", fn := fun _ => fun
  | [d1, d2] => { results := [.lit (.bool false)], args := [d1, d2] }
  | _ => none }
def QuantLeastWrongFalsely : Prop := quantLeastRow.holds Try.pinned (OpenSpec.ofChange quantLeastWrong)

/-- 'skyfixlaw13.QuantAdapts': WHATEVER THE INPUT: true; the input reads as it did. -/
def quantAdaptsSpec : ChangeSpec := { name := "quantAdapts", fn := fun _ => fun
  | [d1, d2, d3] => { results := [.lit (.bool true)], args := [d1, d2, d3] }
  | _ => none }
def quantAdaptsRow : OpenClaim := { program := "ytemcaojbhfgpgaa", sum := "13c7cc738d4a68f7e39ed9eaae092999701b5ae269e1eeb5274a3be187325b90", func := "skyfix/skyfixlaw13.QuantAdapts", spec := "quantAdapts", unfollowed := true, recurses := true, apart := false }
def QuantAdaptsSaid : Prop := quantAdaptsRow.holds Try.pinned (OpenSpec.ofChange quantAdaptsSpec)

/-- ITS FALSE NEIGHBOUR: 'it returns false'. Refute it at one input. -/
def quantAdaptsWrong : ChangeSpec := { name := "quantAdapts", fn := fun _ => fun
  | [d1, d2, d3] => { results := [.lit (.bool false)], args := [d1, d2, d3] }
  | _ => none }
def QuantAdaptsWrongFalsely : Prop := quantAdaptsRow.holds Try.pinned (OpenSpec.ofChange quantAdaptsWrong)

/- THE SECOND FORM. 'bulk': how many values and letters a reading holds, each counted each time it is reached (what is shared counts as often as it is met; a slice's spare places count too). A statement '..UptoSaid' is the law's where the arguments, and the package variables that the reading takes, are together of bulk at most 1048576: NARROWER than '..Said'. Prove '..Said' where nothing that the law and all that it calls make is longer than what came in: it says more and counts as full. Else prove '..UptoSaid'. A law counts once. -/
mutual
def uptoBulk {H : Type} : DataW H → Nat
  | .lit (.string bytes) => bytes.length + 1
  | .lit _ => 1
  | .nil => 1
  | .ptr d => uptoBulk d + 1
  | .slice elems spare => uptoBulkAll elems + uptoBulkAll spare + 1
  | .agg parts => uptoBulkAll parts + 1
  | .iface _ d => uptoBulk d + 1
  | .map entries => uptoBulkEntries entries + 1
  | .held _ => 1
def uptoBulkAll {H : Type} : List (DataW H) → Nat
  | [] => 0
  | d :: r => uptoBulk d + uptoBulkAll r
def uptoBulkEntries {H : Type} : List (Lit × DataW H) → Nat
  | [] => 0
  | x :: r => uptoBulkEntry x + uptoBulkEntries r
def uptoBulkEntry {H : Type} : Lit × DataW H → Nat
  | (.string bytes, d) => bytes.length + uptoBulk d + 1
  | (_, d) => uptoBulk d + 1
 end
def uptoSmall : (H : Type) → List (DataW H) → Bool := fun _ ds => decide (uptoBulkAll ds ≤ 1048576)
def OpenSpec.upto (s : _root_.Go.ChangeSpec) : _root_.Go.OpenSpec := { _root_.Go.OpenSpec.ofChange s with cond := some uptoSmall }

/-- 'skyfixlaw13.QuantKnown', WHERE WHAT IT READS IS OF BULK AT MOST 1048576: true; the input reads as it did. -/
def quantKnownUptoRow : OpenClaim := { program := "ytemcaojbhfgpgaa", sum := "13c7cc738d4a68f7e39ed9eaae092999701b5ae269e1eeb5274a3be187325b90", func := "skyfix/skyfixlaw13.QuantKnown", spec := "quantKnown", unfollowed := true, recurses := true, apart := false, narrowed := true }
def QuantKnownUptoSaid : Prop := quantKnownUptoRow.holds Try.pinned (OpenSpec.upto quantKnownSpec)

/-- 'skyfixlaw13.QuantLevels', WHERE WHAT IT READS IS OF BULK AT MOST 1048576: true; the input reads as it did. -/
def quantLevelsUptoRow : OpenClaim := { program := "ytemcaojbhfgpgaa", sum := "13c7cc738d4a68f7e39ed9eaae092999701b5ae269e1eeb5274a3be187325b90", func := "skyfix/skyfixlaw13.QuantLevels", spec := "quantLevels", unfollowed := true, recurses := true, apart := false, narrowed := true }
def QuantLevelsUptoSaid : Prop := quantLevelsUptoRow.holds Try.pinned (OpenSpec.upto quantLevelsSpec)

/-- 'skyfixlaw13.QuantSamples', WHERE WHAT IT READS IS OF BULK AT MOST 1048576: true; the input reads as it did. -/
def quantSamplesUptoRow : OpenClaim := { program := "ytemcaojbhfgpgaa", sum := "13c7cc738d4a68f7e39ed9eaae092999701b5ae269e1eeb5274a3be187325b90", func := "skyfix/skyfixlaw13.QuantSamples", spec := "quantSamples", unfollowed := true, recurses := true, apart := false, narrowed := true }
def QuantSamplesUptoSaid : Prop := quantSamplesUptoRow.holds Try.pinned (OpenSpec.upto quantSamplesSpec)

/-- 'skyfixlaw13.QuantGains', WHERE WHAT IT READS IS OF BULK AT MOST 1048576: true; the input reads as it did. -/
def quantGainsUptoRow : OpenClaim := { program := "ytemcaojbhfgpgaa", sum := "13c7cc738d4a68f7e39ed9eaae092999701b5ae269e1eeb5274a3be187325b90", func := "skyfix/skyfixlaw13.QuantGains", spec := "quantGains", unfollowed := true, recurses := true, apart := false, narrowed := true }
def QuantGainsUptoSaid : Prop := quantGainsUptoRow.holds Try.pinned (OpenSpec.upto quantGainsSpec)

/-- 'skyfixlaw13.QuantError', WHERE WHAT IT READS IS OF BULK AT MOST 1048576: true; the input reads as it did. -/
def quantErrorUptoRow : OpenClaim := { program := "ytemcaojbhfgpgaa", sum := "13c7cc738d4a68f7e39ed9eaae092999701b5ae269e1eeb5274a3be187325b90", func := "skyfix/skyfixlaw13.QuantError", spec := "quantError", unfollowed := true, recurses := true, apart := false, narrowed := true }
def QuantErrorUptoSaid : Prop := quantErrorUptoRow.holds Try.pinned (OpenSpec.upto quantErrorSpec)

/-- 'skyfixlaw13.QuantLeast', WHERE WHAT IT READS IS OF BULK AT MOST 1048576: true; the input reads as it did. -/
def quantLeastUptoRow : OpenClaim := { program := "ytemcaojbhfgpgaa", sum := "13c7cc738d4a68f7e39ed9eaae092999701b5ae269e1eeb5274a3be187325b90", func := "skyfix/skyfixlaw13.QuantLeast", spec := "quantLeast", unfollowed := true, recurses := true, apart := false, narrowed := true }
def QuantLeastUptoSaid : Prop := quantLeastUptoRow.holds Try.pinned (OpenSpec.upto quantLeastSpec)

/-- 'skyfixlaw13.QuantAdapts', WHERE WHAT IT READS IS OF BULK AT MOST 1048576: true; the input reads as it did. -/
def quantAdaptsUptoRow : OpenClaim := { program := "ytemcaojbhfgpgaa", sum := "13c7cc738d4a68f7e39ed9eaae092999701b5ae269e1eeb5274a3be187325b90", func := "skyfix/skyfixlaw13.QuantAdapts", spec := "quantAdapts", unfollowed := true, recurses := true, apart := false, narrowed := true }
def QuantAdaptsUptoSaid : Prop := quantAdaptsUptoRow.holds Try.pinned (OpenSpec.upto quantAdaptsSpec)

end Rows
end Go.Proofs.Ytemcaojbhfgpgaa
