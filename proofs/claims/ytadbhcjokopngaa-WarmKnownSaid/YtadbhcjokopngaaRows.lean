/-
  No cell of these rows narrows 'for every input' (looked for: loops, veiled, ifaces, maps, wideKeys, modest, calm, conditions, laid).
  DERIVED. THE GIVEN ROWS OF THIS SEAT. 4 by the template 'for every input the law returns true; each argument reads behind the call as it read before'; 0 by the template 'total and deterministic' (their statements: YtadbhcjokopngaaTotals.lean).
  GIVEN WITH THE SEED: the statements are not yours to turn. If you find one false, say at which input.
  Laid BY PROGRAM, IN A SANDBOX (cutbox-rows.mjs): the forced cells as the released guide's own fill.sh prints them over the translation 6323cd7e7a789d18… (all of the seat's roots in one cut). By AI agents, Wed Nov 11 2026. No macro, syntax, notation, axiom, sorry.
-/
import Derived.Test.YtadbhcjokopngaaChecked
import GoSem.Claim
import GoSem.ClaimJoined
import GoSem.ClaimMapViews
import Derived.JoinedTies
import Derived.KernelRfl
namespace Go.Proofs.Ytadbhcjokopngaa
/- THE CELL 'sum', in the pinned program and in every row, IS THE sha256 OF THE DUMP (.gsa) THAT YtadbhcjokopngaaProg.lean LOADS. Nothing in Lean hashes anything: it is a label: what it is worth is what the hold of that sum in a sandbox is worth. -/
noncomputable def Try.pinned : Pinned := { name := "ytadbhcjokopngaa", sum := "6323cd7e7a789d18feadaf07a0ae0f9fd38ed15aea7a15242e5095d63e69b509", checked := Try.checked }
namespace Rows
def none {H : Type} : Left H := { results := [], args := [] }

/-- 'skyfixlaw40.WarmOrders': WHATEVER THE INPUT: true; the input reads as it did. -/
def warmOrdersSpec : ChangeSpec := { name := "warmOrders", fn := fun _ => fun
  | [d1, d2, d3, d4] => { results := [.lit (.bool true)], args := [d1, d2, d3, d4] }
  | _ => none }
def warmOrdersRow : OpenClaim := { program := "ytadbhcjokopngaa", sum := "6323cd7e7a789d18feadaf07a0ae0f9fd38ed15aea7a15242e5095d63e69b509", func := "skyfix/skyfixlaw40.WarmOrders", spec := "warmOrders", unfollowed := true, recurses := true, apart := false }
def WarmOrdersSaid : Prop := warmOrdersRow.holds Try.pinned (OpenSpec.ofChange warmOrdersSpec)

/-- ITS FALSE NEIGHBOUR: 'it returns false'. Refute it at one input. -/
def warmOrdersWrong : ChangeSpec := { name := "warmOrders", fn := fun _ => fun
  | [d1, d2, d3, d4] => { results := [.lit (.bool false)], args := [d1, d2, d3, d4] }
  | _ => none }
def WarmOrdersWrongFalsely : Prop := warmOrdersRow.holds Try.pinned (OpenSpec.ofChange warmOrdersWrong)

/-- 'skyfixlaw40.WarmKnown': WHATEVER THE INPUT: true; the input reads as it did. -/
def warmKnownSpec : ChangeSpec := { name := "warmKnown", fn := fun _ => fun
  | [] => { results := [.lit (.bool true)], args := [] }
  | _ => none }
def warmKnownRow : OpenClaim := { program := "ytadbhcjokopngaa", sum := "6323cd7e7a789d18feadaf07a0ae0f9fd38ed15aea7a15242e5095d63e69b509", func := "skyfix/skyfixlaw40.WarmKnown", spec := "warmKnown", unfollowed := true, recurses := true, apart := false }
def WarmKnownSaid : Prop := warmKnownRow.holds Try.pinned (OpenSpec.ofChange warmKnownSpec)

/-- ITS FALSE NEIGHBOUR: 'it returns false'. Refute it at one input. -/
def warmKnownWrong : ChangeSpec := { name := "warmKnown", fn := fun _ => fun
  | [] => { results := [.lit (.bool false)], args := [] }
  | _ => none }
def WarmKnownWrongFalsely : Prop := warmKnownRow.holds Try.pinned (OpenSpec.ofChange warmKnownWrong)

/-- 'skyfixlaw40.WarmTrue': WHATEVER THE INPUT: true; the input reads as it did. -/
def warmTrueSpec : ChangeSpec := { name := "warmTrue", fn := fun _ => fun
  | [d1, d2, d3] => { results := [.lit (.bool true)], args := [d1, d2, d3] }
  | _ => none }
def warmTrueRow : OpenClaim := { program := "ytadbhcjokopngaa", sum := "6323cd7e7a789d18feadaf07a0ae0f9fd38ed15aea7a15242e5095d63e69b509", func := "skyfix/skyfixlaw40.WarmTrue", spec := "warmTrue", unfollowed := true, recurses := true, apart := false }
def WarmTrueSaid : Prop := warmTrueRow.holds Try.pinned (OpenSpec.ofChange warmTrueSpec)

/-- ITS FALSE NEIGHBOUR: 'it returns false'. Refute it at one input. -/
def warmTrueWrong : ChangeSpec := { name := "warmTrue", fn := fun _ => fun
  | [d1, d2, d3] => { results := [.lit (.bool false)], args := [d1, d2, d3] }
  | _ => none }
def WarmTrueWrongFalsely : Prop := warmTrueRow.holds Try.pinned (OpenSpec.ofChange warmTrueWrong)

/-- 'skyfixlaw40.WarmNarrows': WHATEVER THE INPUT: true; the input reads as it did. -/
def warmNarrowsSpec : ChangeSpec := { name := "warmNarrows", fn := fun _ => fun
  | [d1, d2, d3] => { results := [.lit (.bool true)], args := [d1, d2, d3] }
  | _ => none }
def warmNarrowsRow : OpenClaim := { program := "ytadbhcjokopngaa", sum := "6323cd7e7a789d18feadaf07a0ae0f9fd38ed15aea7a15242e5095d63e69b509", func := "skyfix/skyfixlaw40.WarmNarrows", spec := "warmNarrows", unfollowed := true, recurses := true, apart := false }
def WarmNarrowsSaid : Prop := warmNarrowsRow.holds Try.pinned (OpenSpec.ofChange warmNarrowsSpec)

/-- ITS FALSE NEIGHBOUR: 'it returns false'. Refute it at one input. -/
def warmNarrowsWrong : ChangeSpec := { name := "warmNarrows", fn := fun _ => fun
  | [d1, d2, d3] => { results := [.lit (.bool false)], args := [d1, d2, d3] }
  | _ => none }
def WarmNarrowsWrongFalsely : Prop := warmNarrowsRow.holds Try.pinned (OpenSpec.ofChange warmNarrowsWrong)

/- THE SECOND FORM. 'bulk': how many values and letters a reading holds, each counted each time it is reached (what is shared counts as often as it is met; a slice's spare places count too). A statement '..UptoSaid' is the law's where the arguments, and the package variables that the reading takes, are together of bulk at most 1048576: NARROWER than '..Said'. Prove '..Said' where nothing that the law and all that it calls make is longer than what came in: it says more and counts as full. Else prove '..UptoSaid'. A law counts once. -/
mutual
def uptoBulk {H : Type} : DataW H → Nat
  | .lit (.string bytes) => bytes.length + 1
  | .lit _ => 1
  | .nil => 1
  | .ptr d => uptoBulk d + 1
  | .slice elems spare => uptoBulkAll elems + uptoBulkAll spare + 1
  | .agg parts => uptoBulkAll parts + 1
  | .iface _ d => uptoBulk d + 1
  | .map entries => uptoBulkEntries entries + 1
  | .held _ => 1
def uptoBulkAll {H : Type} : List (DataW H) → Nat
  | [] => 0
  | d :: r => uptoBulk d + uptoBulkAll r
def uptoBulkEntries {H : Type} : List (Lit × DataW H) → Nat
  | [] => 0
  | x :: r => uptoBulkEntry x + uptoBulkEntries r
def uptoBulkEntry {H : Type} : Lit × DataW H → Nat
  | (.string bytes, d) => bytes.length + uptoBulk d + 1
  | (_, d) => uptoBulk d + 1
 end
def uptoSmall : (H : Type) → List (DataW H) → Bool := fun _ ds => decide (uptoBulkAll ds ≤ 1048576)
def OpenSpec.upto (s : _root_.Go.ChangeSpec) : _root_.Go.OpenSpec := { _root_.Go.OpenSpec.ofChange s with cond := some uptoSmall }

/-- 'skyfixlaw40.WarmOrders', WHERE WHAT IT READS IS OF BULK AT MOST 1048576: true; the input reads as it did. -/
def warmOrdersUptoRow : OpenClaim := { program := "ytadbhcjokopngaa", sum := "6323cd7e7a789d18feadaf07a0ae0f9fd38ed15aea7a15242e5095d63e69b509", func := "skyfix/skyfixlaw40.WarmOrders", spec := "warmOrders", unfollowed := true, recurses := true, apart := false, narrowed := true }
def WarmOrdersUptoSaid : Prop := warmOrdersUptoRow.holds Try.pinned (OpenSpec.upto warmOrdersSpec)

/-- 'skyfixlaw40.WarmKnown', WHERE WHAT IT READS IS OF BULK AT MOST 1048576: true; the input reads as it did. -/
def warmKnownUptoRow : OpenClaim := { program := "ytadbhcjokopngaa", sum := "6323cd7e7a789d18feadaf07a0ae0f9fd38ed15aea7a15242e5095d63e69b509", func := "skyfix/skyfixlaw40.WarmKnown", spec := "warmKnown", unfollowed := true, recurses := true, apart := false, narrowed := true }
def WarmKnownUptoSaid : Prop := warmKnownUptoRow.holds Try.pinned (OpenSpec.upto warmKnownSpec)

/-- 'skyfixlaw40.WarmTrue', WHERE WHAT IT READS IS OF BULK AT MOST 1048576: true; the input reads as it did. -/
def warmTrueUptoRow : OpenClaim := { program := "ytadbhcjokopngaa", sum := "6323cd7e7a789d18feadaf07a0ae0f9fd38ed15aea7a15242e5095d63e69b509", func := "skyfix/skyfixlaw40.WarmTrue", spec := "warmTrue", unfollowed := true, recurses := true, apart := false, narrowed := true }
def WarmTrueUptoSaid : Prop := warmTrueUptoRow.holds Try.pinned (OpenSpec.upto warmTrueSpec)

/-- 'skyfixlaw40.WarmNarrows', WHERE WHAT IT READS IS OF BULK AT MOST 1048576: true; the input reads as it did. -/
def warmNarrowsUptoRow : OpenClaim := { program := "ytadbhcjokopngaa", sum := "6323cd7e7a789d18feadaf07a0ae0f9fd38ed15aea7a15242e5095d63e69b509", func := "skyfix/skyfixlaw40.WarmNarrows", spec := "warmNarrows", unfollowed := true, recurses := true, apart := false, narrowed := true }
def WarmNarrowsUptoSaid : Prop := warmNarrowsUptoRow.holds Try.pinned (OpenSpec.upto warmNarrowsSpec)

end Rows
end Go.Proofs.Ytadbhcjokopngaa
