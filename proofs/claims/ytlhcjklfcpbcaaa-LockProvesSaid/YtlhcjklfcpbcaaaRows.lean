/-
  No cell of these rows narrows 'for every input' (looked for: loops, veiled, ifaces, maps, wideKeys, modest, calm, conditions, laid).
  DERIVED. THE GIVEN ROWS OF THIS SEAT. 6 by the template 'for every input the law returns true; each argument reads behind the call as it read before'; 0 by the template 'total and deterministic' (their statements: YtlhcjklfcpbcaaaTotals.lean).
  GIVEN WITH THE SEED: the statements are not yours to turn. If you find one false, say at which input.
  Laid BY PROGRAM, IN A SANDBOX (cutbox-rows.mjs): the forced cells as the released guide's own fill.sh prints them over the translation b75e7df938a07f70… (all of the seat's roots in one cut). By AI agents, Wed Nov 11 2026. No macro, syntax, notation, axiom, sorry.
-/
import Derived.Test.YtlhcjklfcpbcaaaChecked
import GoSem.Claim
import GoSem.ClaimJoined
import GoSem.ClaimMapViews
import Derived.JoinedTies
import Derived.KernelRfl
namespace Go.Proofs.Ytlhcjklfcpbcaaa
/- THE CELL 'sum', in the pinned program and in every row, IS THE sha256 OF THE DUMP (.gsa) THAT YtlhcjklfcpbcaaaProg.lean LOADS. Nothing in Lean hashes anything: it is a label: what it is worth is what the hold of that sum in a sandbox is worth. -/
noncomputable def Try.pinned : Pinned := { name := "ytlhcjklfcpbcaaa", sum := "b75e7df938a07f70592e159daba56573920943ec4a40f8941a686a560fd80d40", checked := Try.checked }
namespace Rows
def none {H : Type} : Left H := { results := [], args := [] }

/-- 'skyfixlaw19.LockSteps': WHATEVER THE INPUT: true; the input reads as it did. -/
def lockStepsSpec : ChangeSpec := { name := "lockSteps", fn := fun _ => fun
  | [d1, d2, d3, d4] => { results := [.lit (.bool true)], args := [d1, d2, d3, d4] }
  | _ => none }
def lockStepsRow : OpenClaim := { program := "ytlhcjklfcpbcaaa", sum := "b75e7df938a07f70592e159daba56573920943ec4a40f8941a686a560fd80d40", func := "skyfix/skyfixlaw19.LockSteps", spec := "lockSteps", unfollowed := true, recurses := true, apart := false }
def LockStepsSaid : Prop := lockStepsRow.holds Try.pinned (OpenSpec.ofChange lockStepsSpec)

/-- ITS FALSE NEIGHBOUR: 'it returns false'. Refute it at one input. -/
def lockStepsWrong : ChangeSpec := { name := "lockSteps", fn := fun _ => fun
  | [d1, d2, d3, d4] => { results := [.lit (.bool false)], args := [d1, d2, d3, d4] }
  | _ => none }
def LockStepsWrongFalsely : Prop := lockStepsRow.holds Try.pinned (OpenSpec.ofChange lockStepsWrong)

/-- 'skyfixlaw19.LockRuns': WHATEVER THE INPUT: true; the input reads as it did. -/
def lockRunsSpec : ChangeSpec := { name := "lockRuns", fn := fun _ => fun
  | [d1, d2, d3] => { results := [.lit (.bool true)], args := [d1, d2, d3] }
  | _ => none }
def lockRunsRow : OpenClaim := { program := "ytlhcjklfcpbcaaa", sum := "b75e7df938a07f70592e159daba56573920943ec4a40f8941a686a560fd80d40", func := "skyfix/skyfixlaw19.LockRuns", spec := "lockRuns", unfollowed := true, recurses := true, apart := false }
def LockRunsSaid : Prop := lockRunsRow.holds Try.pinned (OpenSpec.ofChange lockRunsSpec)

/-- ITS FALSE NEIGHBOUR: 'it returns false'. Refute it at one input. -/
def lockRunsWrong : ChangeSpec := { name := "lockRuns", fn := fun _ => fun
  | [d1, d2, d3] => { results := [.lit (.bool false)], args := [d1, d2, d3] }
  | _ => none }
def LockRunsWrongFalsely : Prop := lockRunsRow.holds Try.pinned (OpenSpec.ofChange lockRunsWrong)

/-- 'skyfixlaw19.LockKnown': WHATEVER THE INPUT: true; the input reads as it did. -/
def lockKnownSpec : ChangeSpec := { name := "lockKnown", fn := fun _ => fun
  | [] => { results := [.lit (.bool true)], args := [] }
  | _ => none }
def lockKnownRow : OpenClaim := { program := "ytlhcjklfcpbcaaa", sum := "b75e7df938a07f70592e159daba56573920943ec4a40f8941a686a560fd80d40", func := "skyfix/skyfixlaw19.LockKnown", spec := "lockKnown", unfollowed := true, recurses := true, apart := false }
def LockKnownSaid : Prop := lockKnownRow.holds Try.pinned (OpenSpec.ofChange lockKnownSpec)

/-- ITS FALSE NEIGHBOUR: 'it returns false'. Refute it at one input. -/
def lockKnownWrong : ChangeSpec := { name := "lockKnown", fn := fun _ => fun
  | [] => { results := [.lit (.bool false)], args := [] }
  | _ => none }
def LockKnownWrongFalsely : Prop := lockKnownRow.holds Try.pinned (OpenSpec.ofChange lockKnownWrong)

/-- 'skyfixlaw19.LockProves': WHATEVER THE INPUT: true; the input reads as it did. -/
def lockProvesSpec : ChangeSpec := { name := "lockProves", fn := fun _ => fun
  | [d1, d2, d3] => { results := [.lit (.bool true)], args := [d1, d2, d3] }
  | _ => none }
def lockProvesRow : OpenClaim := { program := "ytlhcjklfcpbcaaa", sum := "b75e7df938a07f70592e159daba56573920943ec4a40f8941a686a560fd80d40", func := "skyfix/skyfixlaw19.LockProves", spec := "lockProves", unfollowed := true, recurses := true, apart := false }
def LockProvesSaid : Prop := lockProvesRow.holds Try.pinned (OpenSpec.ofChange lockProvesSpec)

/-- ITS FALSE NEIGHBOUR: 'it returns false'. Refute it at one input. -/
def lockProvesWrong : ChangeSpec := { name := "lockProves", fn := fun _ => fun
  | [d1, d2, d3] => { results := [.lit (.bool false)], args := [d1, d2, d3] }
  | _ => none }
def LockProvesWrongFalsely : Prop := lockProvesRow.holds Try.pinned (OpenSpec.ofChange lockProvesWrong)

/-- 'skyfixlaw19.LockParts': WHATEVER THE INPUT: true; the input reads as it did. -/
def lockPartsSpec : ChangeSpec := { name := "lockParts", fn := fun _ => fun
  | [d1, d2, d3, d4] => { results := [.lit (.bool true)], args := [d1, d2, d3, d4] }
  | _ => none }
def lockPartsRow : OpenClaim := { program := "ytlhcjklfcpbcaaa", sum := "b75e7df938a07f70592e159daba56573920943ec4a40f8941a686a560fd80d40", func := "skyfix/skyfixlaw19.LockParts", spec := "lockParts", unfollowed := true, recurses := true, apart := false }
def LockPartsSaid : Prop := lockPartsRow.holds Try.pinned (OpenSpec.ofChange lockPartsSpec)

/-- ITS FALSE NEIGHBOUR: 'it returns false'. Refute it at one input. -/
def lockPartsWrong : ChangeSpec := { name := "lockParts", fn := fun _ => fun
  | [d1, d2, d3, d4] => { results := [.lit (.bool false)], args := [d1, d2, d3, d4] }
  | _ => none }
def LockPartsWrongFalsely : Prop := lockPartsRow.holds Try.pinned (OpenSpec.ofChange lockPartsWrong)

/-- 'skyfixlaw19.LockReach': WHATEVER THE INPUT: true; the input reads as it did. -/
def lockReachSpec : ChangeSpec := { name := "lockReach", fn := fun _ => fun
  | [d1, d2, d3, d4, d5] => { results := [.lit (.bool true)], args := [d1, d2, d3, d4, d5] }
  | _ => none }
def lockReachRow : OpenClaim := { program := "ytlhcjklfcpbcaaa", sum := "b75e7df938a07f70592e159daba56573920943ec4a40f8941a686a560fd80d40", func := "skyfix/skyfixlaw19.LockReach", spec := "lockReach", unfollowed := true, recurses := true, apart := false }
def LockReachSaid : Prop := lockReachRow.holds Try.pinned (OpenSpec.ofChange lockReachSpec)

/-- ITS FALSE NEIGHBOUR: 'it returns false'. Refute it at one input. -/
def lockReachWrong : ChangeSpec := { name := "lockReach", fn := fun _ => fun
  | [d1, d2, d3, d4, d5] => { results := [.lit (.bool false)], args := [d1, d2, d3, d4, d5] }
  | _ => none }
def LockReachWrongFalsely : Prop := lockReachRow.holds Try.pinned (OpenSpec.ofChange lockReachWrong)

/- THE SECOND FORM. 'bulk': how many values and letters a reading holds, each counted each time it is reached (what is shared counts as often as it is met; a slice's spare places count too). A statement '..UptoSaid' is the law's where the arguments, and the package variables that the reading takes, are together of bulk at most 1048576: NARROWER than '..Said'. Prove '..Said' where nothing that the law and all that it calls make is longer than what came in: it says more and counts as full. Else prove '..UptoSaid'. A law counts once. -/
mutual
def uptoBulk {H : Type} : DataW H → Nat
  | .lit (.string bytes) => bytes.length + 1
  | .lit _ => 1
  | .nil => 1
  | .ptr d => uptoBulk d + 1
  | .slice elems spare => uptoBulkAll elems + uptoBulkAll spare + 1
  | .agg parts => uptoBulkAll parts + 1
  | .iface _ d => uptoBulk d + 1
  | .map entries => uptoBulkEntries entries + 1
  | .held _ => 1
def uptoBulkAll {H : Type} : List (DataW H) → Nat
  | [] => 0
  | d :: r => uptoBulk d + uptoBulkAll r
def uptoBulkEntries {H : Type} : List (Lit × DataW H) → Nat
  | [] => 0
  | x :: r => uptoBulkEntry x + uptoBulkEntries r
def uptoBulkEntry {H : Type} : Lit × DataW H → Nat
  | (.string bytes, d) => bytes.length + uptoBulk d + 1
  | (_, d) => uptoBulk d + 1
 end
def uptoSmall : (H : Type) → List (DataW H) → Bool := fun _ ds => decide (uptoBulkAll ds ≤ 1048576)
def OpenSpec.upto (s : _root_.Go.ChangeSpec) : _root_.Go.OpenSpec := { _root_.Go.OpenSpec.ofChange s with cond := some uptoSmall }

/-- 'skyfixlaw19.LockSteps', WHERE WHAT IT READS IS OF BULK AT MOST 1048576: true; the input reads as it did. -/
def lockStepsUptoRow : OpenClaim := { program := "ytlhcjklfcpbcaaa", sum := "b75e7df938a07f70592e159daba56573920943ec4a40f8941a686a560fd80d40", func := "skyfix/skyfixlaw19.LockSteps", spec := "lockSteps", unfollowed := true, recurses := true, apart := false, narrowed := true }
def LockStepsUptoSaid : Prop := lockStepsUptoRow.holds Try.pinned (OpenSpec.upto lockStepsSpec)

/-- 'skyfixlaw19.LockRuns', WHERE WHAT IT READS IS OF BULK AT MOST 1048576: true; the input reads as it did. -/
def lockRunsUptoRow : OpenClaim := { program := "ytlhcjklfcpbcaaa", sum := "b75e7df938a07f70592e159daba56573920943ec4a40f8941a686a560fd80d40", func := "skyfix/skyfixlaw19.LockRuns", spec := "lockRuns", unfollowed := true, recurses := true, apart := false, narrowed := true }
def LockRunsUptoSaid : Prop := lockRunsUptoRow.holds Try.pinned (OpenSpec.upto lockRunsSpec)

/-- 'skyfixlaw19.LockKnown', WHERE WHAT IT READS IS OF BULK AT MOST 1048576: true; the input reads as it did. -/
def lockKnownUptoRow : OpenClaim := { program := "ytlhcjklfcpbcaaa", sum := "b75e7df938a07f70592e159daba56573920943ec4a40f8941a686a560fd80d40", func := "skyfix/skyfixlaw19.LockKnown", spec := "lockKnown", unfollowed := true, recurses := true, apart := false, narrowed := true }
def LockKnownUptoSaid : Prop := lockKnownUptoRow.holds Try.pinned (OpenSpec.upto lockKnownSpec)

/-- 'skyfixlaw19.LockProves', WHERE WHAT IT READS IS OF BULK AT MOST 1048576: true; the input reads as it did. -/
def lockProvesUptoRow : OpenClaim := { program := "ytlhcjklfcpbcaaa", sum := "b75e7df938a07f70592e159daba56573920943ec4a40f8941a686a560fd80d40", func := "skyfix/skyfixlaw19.LockProves", spec := "lockProves", unfollowed := true, recurses := true, apart := false, narrowed := true }
def LockProvesUptoSaid : Prop := lockProvesUptoRow.holds Try.pinned (OpenSpec.upto lockProvesSpec)

/-- 'skyfixlaw19.LockParts', WHERE WHAT IT READS IS OF BULK AT MOST 1048576: true; the input reads as it did. -/
def lockPartsUptoRow : OpenClaim := { program := "ytlhcjklfcpbcaaa", sum := "b75e7df938a07f70592e159daba56573920943ec4a40f8941a686a560fd80d40", func := "skyfix/skyfixlaw19.LockParts", spec := "lockParts", unfollowed := true, recurses := true, apart := false, narrowed := true }
def LockPartsUptoSaid : Prop := lockPartsUptoRow.holds Try.pinned (OpenSpec.upto lockPartsSpec)

/-- 'skyfixlaw19.LockReach', WHERE WHAT IT READS IS OF BULK AT MOST 1048576: true; the input reads as it did. -/
def lockReachUptoRow : OpenClaim := { program := "ytlhcjklfcpbcaaa", sum := "b75e7df938a07f70592e159daba56573920943ec4a40f8941a686a560fd80d40", func := "skyfix/skyfixlaw19.LockReach", spec := "lockReach", unfollowed := true, recurses := true, apart := false, narrowed := true }
def LockReachUptoSaid : Prop := lockReachUptoRow.holds Try.pinned (OpenSpec.upto lockReachSpec)

end Rows
end Go.Proofs.Ytlhcjklfcpbcaaa
