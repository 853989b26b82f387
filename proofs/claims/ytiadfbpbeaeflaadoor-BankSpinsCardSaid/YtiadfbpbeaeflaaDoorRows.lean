/-
  NARROWER THAN 'FOR EVERY INPUT', by the rows' own cells (each row's printed sentence says how): BankKnown: laid · BankSums: laid · BankSpins: laid · BankLinear: laid · BankSpun: laid.
  DERIVED. THE GIVEN ROWS OF THIS SEAT. 5 by the template 'for every input the law returns true; each argument reads behind the call as it read before'; 0 by the template 'total and deterministic' (their statements: YtiadfbpbeaeflaaDoorTotals.lean).
  GIVEN WITH THE SEED: the statements are not yours to turn. If you find one false, say at which input.
  Laid BY PROGRAM, IN A SANDBOX (cutbox-rows.mjs): the forced cells as the released guide's own fill.sh prints them over the translation ed57078b3a23d77f… (all of the seat's roots in one cut). By AI agents, Wed Nov 11 2026. No macro, syntax, notation, axiom, sorry.
-/
import Derived.Test.YtiadfbpbeaeflaaDoorChecked
import GoSem.Claim
import GoSem.ClaimJoined
import GoSem.ClaimMapViews
import Derived.JoinedTies
import Derived.KernelRfl
namespace Go.Proofs.YtiadfbpbeaeflaaDoor
/- THE CELL 'sum', in the pinned program and in every row, IS THE sha256 OF THE DUMP (.gsa) THAT YtiadfbpbeaeflaaDoorProg.lean LOADS. Nothing in Lean hashes anything: it is a label: what it is worth is what the hold of that sum in a sandbox is worth. -/
noncomputable def Tryd.pinned : Pinned := { name := "ytiadfbpbeaeflaadoor", sum := "ed57078b3a23d77f4a6604c93c32ad0926f8d158f4222907f3deb166b3de2b31", checked := Tryd.checked }
namespace Rows
def none {H : Type} : Left H := { results := [], args := [] }

/- WHAT THE LISTED PACKAGE-LEVEL VARIABLES READ AS WHEN THE CALL BEGINS. Each datum BY PROGRAM (the guide's laid-datum.mjs) off the statement by which the dump's own 'gosem.cut.vars' lays the variable. In a bare row this is a premise. The card (YtiadfbpbeaeflaaDoorCards.lean) ties it to the program's text. -/
def laid_skyfix_angle_quarter {H : Type} : DataW H := .agg [.lit (.int .i64 127), .lit (.int .i64 126), .lit (.int .i64 125), .lit (.int .i64 122), .lit (.int .i64 117), .lit (.int .i64 112), .lit (.int .i64 106), .lit (.int .i64 98), .lit (.int .i64 90), .lit (.int .i64 81), .lit (.int .i64 71), .lit (.int .i64 60), .lit (.int .i64 49), .lit (.int .i64 37), .lit (.int .i64 25), .lit (.int .i64 12), .lit (.int .i64 0)]

/-- 'skyfixlaw14.BankKnown': WHATEVER THE INPUT: true; the input reads as it did. -/
def bankKnownSpec : ChangeSpec := { name := "bankKnown", fn := fun _ => fun
  | [] => { results := [.lit (.bool true)], args := [] }
  | _ => none }
def bankKnownRow : OpenClaim := { program := "ytiadfbpbeaeflaadoor", sum := "ed57078b3a23d77f4a6604c93c32ad0926f8d158f4222907f3deb166b3de2b31", func := "skyfix/skyfixlaw14.BankKnown", spec := "bankKnown", unfollowed := true, recurses := true, named := ["skyfix/angle.quarter"], apart := false, laid := [("skyfix/angle.quarter", laid_skyfix_angle_quarter)] }
def BankKnownSaid : Prop := bankKnownRow.holds Tryd.pinned (OpenSpec.ofChange bankKnownSpec)

/-- ITS FALSE NEIGHBOUR: 'it returns false'. Refute it at one input. -/
def bankKnownWrong : ChangeSpec := { name := "bankKnown", fn := fun _ => fun
  | [] => { results := [.lit (.bool false)], args := [] }
  | _ => none }
def BankKnownWrongFalsely : Prop := bankKnownRow.holds Tryd.pinned (OpenSpec.ofChange bankKnownWrong)

/-- 'skyfixlaw14.BankSums': WHATEVER THE INPUT: true; the input reads as it did. -/
def bankSumsSpec : ChangeSpec := { name := "bankSums", fn := fun _ => fun
  | [d1, d2, d3, d4, d5, d6, d7] => { results := [.lit (.bool true)], args := [d1, d2, d3, d4, d5, d6, d7] }
  | _ => none }
def bankSumsRow : OpenClaim := { program := "ytiadfbpbeaeflaadoor", sum := "ed57078b3a23d77f4a6604c93c32ad0926f8d158f4222907f3deb166b3de2b31", func := "skyfix/skyfixlaw14.BankSums", spec := "bankSums", unfollowed := true, recurses := true, named := ["skyfix/angle.quarter"], apart := false, laid := [("skyfix/angle.quarter", laid_skyfix_angle_quarter)] }
def BankSumsSaid : Prop := bankSumsRow.holds Tryd.pinned (OpenSpec.ofChange bankSumsSpec)

/-- ITS FALSE NEIGHBOUR: 'it returns false'. Refute it at one input. -/
def bankSumsWrong : ChangeSpec := { name := "bankSums", fn := fun _ => fun
  | [d1, d2, d3, d4, d5, d6, d7] => { results := [.lit (.bool false)], args := [d1, d2, d3, d4, d5, d6, d7] }
  | _ => none }
def BankSumsWrongFalsely : Prop := bankSumsRow.holds Tryd.pinned (OpenSpec.ofChange bankSumsWrong)

/-- 'skyfixlaw14.BankSpins': WHATEVER THE INPUT: true; the input reads as it did. -/
def bankSpinsSpec : ChangeSpec := { name := "bankSpins", fn := fun _ => fun
  | [d1, d2, d3] => { results := [.lit (.bool true)], args := [d1, d2, d3] }
  | _ => none }
def bankSpinsRow : OpenClaim := { program := "ytiadfbpbeaeflaadoor", sum := "ed57078b3a23d77f4a6604c93c32ad0926f8d158f4222907f3deb166b3de2b31", func := "skyfix/skyfixlaw14.BankSpins", spec := "bankSpins", unfollowed := true, recurses := true, named := ["skyfix/angle.quarter"], apart := false, laid := [("skyfix/angle.quarter", laid_skyfix_angle_quarter)] }
def BankSpinsSaid : Prop := bankSpinsRow.holds Tryd.pinned (OpenSpec.ofChange bankSpinsSpec)

/-- ITS FALSE NEIGHBOUR: 'it returns false'. Refute it at one input. -/
def bankSpinsWrong : ChangeSpec := { name := "bankSpins", fn := fun _ => fun
  | [d1, d2, d3] => { results := [.lit (.bool false)], args := [d1, d2, d3] }
  | _ => none }
def BankSpinsWrongFalsely : Prop := bankSpinsRow.holds Tryd.pinned (OpenSpec.ofChange bankSpinsWrong)

/-- 'skyfixlaw14.BankLinear': WHATEVER THE INPUT: true; the input reads as it did. -/
def bankLinearSpec : ChangeSpec := { name := "bankLinear", fn := fun _ => fun
  | [d1, d2, d3, d4, d5, d6] => { results := [.lit (.bool true)], args := [d1, d2, d3, d4, d5, d6] }
  | _ => none }
def bankLinearRow : OpenClaim := { program := "ytiadfbpbeaeflaadoor", sum := "ed57078b3a23d77f4a6604c93c32ad0926f8d158f4222907f3deb166b3de2b31", func := "skyfix/skyfixlaw14.BankLinear", spec := "bankLinear", unfollowed := true, recurses := true, named := ["skyfix/angle.quarter"], apart := false, laid := [("skyfix/angle.quarter", laid_skyfix_angle_quarter)] }
def BankLinearSaid : Prop := bankLinearRow.holds Tryd.pinned (OpenSpec.ofChange bankLinearSpec)

/-- ITS FALSE NEIGHBOUR: 'it returns false'. Refute it at one input. -/
def bankLinearWrong : ChangeSpec := { name := "bankLinear", fn := fun _ => fun
  | [d1, d2, d3, d4, d5, d6] => { results := [.lit (.bool false)], args := [d1, d2, d3, d4, d5, d6] }
  | _ => none }
def BankLinearWrongFalsely : Prop := bankLinearRow.holds Tryd.pinned (OpenSpec.ofChange bankLinearWrong)

/-- 'skyfixlaw14.BankSpun': WHATEVER THE INPUT: true; the input reads as it did. -/
def bankSpunSpec : ChangeSpec := { name := "bankSpun", fn := fun _ => fun
  | [d1, d2, d3] => { results := [.lit (.bool true)], args := [d1, d2, d3] }
  | _ => none }
def bankSpunRow : OpenClaim := { program := "ytiadfbpbeaeflaadoor", sum := "ed57078b3a23d77f4a6604c93c32ad0926f8d158f4222907f3deb166b3de2b31", func := "skyfix/skyfixlaw14.BankSpun", spec := "bankSpun", unfollowed := true, recurses := true, named := ["skyfix/angle.quarter"], apart := false, laid := [("skyfix/angle.quarter", laid_skyfix_angle_quarter)] }
def BankSpunSaid : Prop := bankSpunRow.holds Tryd.pinned (OpenSpec.ofChange bankSpunSpec)

/-- ITS FALSE NEIGHBOUR: 'it returns false'. Refute it at one input. -/
def bankSpunWrong : ChangeSpec := { name := "bankSpun", fn := fun _ => fun
  | [d1, d2, d3] => { results := [.lit (.bool false)], args := [d1, d2, d3] }
  | _ => none }
def BankSpunWrongFalsely : Prop := bankSpunRow.holds Tryd.pinned (OpenSpec.ofChange bankSpunWrong)

/- THE SECOND FORM. 'bulk': how many values and letters a reading holds, each counted each time it is reached (what is shared counts as often as it is met; a slice's spare places count too). A statement '..UptoSaid' is the law's where the arguments, and the package variables that the reading takes, are together of bulk at most 1048576: NARROWER than '..Said'. Prove '..Said' where nothing that the law and all that it calls make is longer than what came in: it says more and counts as full. Else prove '..UptoSaid'. A law counts once. -/
mutual
def uptoBulk {H : Type} : DataW H → Nat
  | .lit (.string bytes) => bytes.length + 1
  | .lit _ => 1
  | .nil => 1
  | .ptr d => uptoBulk d + 1
  | .slice elems spare => uptoBulkAll elems + uptoBulkAll spare + 1
  | .agg parts => uptoBulkAll parts + 1
  | .iface _ d => uptoBulk d + 1
  | .map entries => uptoBulkEntries entries + 1
  | .held _ => 1
def uptoBulkAll {H : Type} : List (DataW H) → Nat
  | [] => 0
  | d :: r => uptoBulk d + uptoBulkAll r
def uptoBulkEntries {H : Type} : List (Lit × DataW H) → Nat
  | [] => 0
  | x :: r => uptoBulkEntry x + uptoBulkEntries r
def uptoBulkEntry {H : Type} : Lit × DataW H → Nat
  | (.string bytes, d) => bytes.length + uptoBulk d + 1
  | (_, d) => uptoBulk d + 1
 end
def uptoSmall : (H : Type) → List (DataW H) → Bool := fun _ ds => decide (uptoBulkAll ds ≤ 1048576)
def OpenSpec.upto (s : _root_.Go.ChangeSpec) : _root_.Go.OpenSpec := { _root_.Go.OpenSpec.ofChange s with cond := some uptoSmall }

/-- 'skyfixlaw14.BankKnown', WHERE WHAT IT READS IS OF BULK AT MOST 1048576: true; the input reads as it did. -/
def bankKnownUptoRow : OpenClaim := { program := "ytiadfbpbeaeflaadoor", sum := "ed57078b3a23d77f4a6604c93c32ad0926f8d158f4222907f3deb166b3de2b31", func := "skyfix/skyfixlaw14.BankKnown", spec := "bankKnown", unfollowed := true, recurses := true, named := ["skyfix/angle.quarter"], apart := false, laid := [("skyfix/angle.quarter", laid_skyfix_angle_quarter)], narrowed := true }
def BankKnownUptoSaid : Prop := bankKnownUptoRow.holds Tryd.pinned (OpenSpec.upto bankKnownSpec)

/-- 'skyfixlaw14.BankSums', WHERE WHAT IT READS IS OF BULK AT MOST 1048576: true; the input reads as it did. -/
def bankSumsUptoRow : OpenClaim := { program := "ytiadfbpbeaeflaadoor", sum := "ed57078b3a23d77f4a6604c93c32ad0926f8d158f4222907f3deb166b3de2b31", func := "skyfix/skyfixlaw14.BankSums", spec := "bankSums", unfollowed := true, recurses := true, named := ["skyfix/angle.quarter"], apart := false, laid := [("skyfix/angle.quarter", laid_skyfix_angle_quarter)], narrowed := true }
def BankSumsUptoSaid : Prop := bankSumsUptoRow.holds Tryd.pinned (OpenSpec.upto bankSumsSpec)

/-- 'skyfixlaw14.BankSpins', WHERE WHAT IT READS IS OF BULK AT MOST 1048576: true; the input reads as it did. -/
def bankSpinsUptoRow : OpenClaim := { program := "ytiadfbpbeaeflaadoor", sum := "ed57078b3a23d77f4a6604c93c32ad0926f8d158f4222907f3deb166b3de2b31", func := "skyfix/skyfixlaw14.BankSpins", spec := "bankSpins", unfollowed := true, recurses := true, named := ["skyfix/angle.quarter"], apart := false, laid := [("skyfix/angle.quarter", laid_skyfix_angle_quarter)], narrowed := true }
def BankSpinsUptoSaid : Prop := bankSpinsUptoRow.holds Tryd.pinned (OpenSpec.upto bankSpinsSpec)

/-- 'skyfixlaw14.BankLinear', WHERE WHAT IT READS IS OF BULK AT MOST 1048576: true; the input reads as it did. -/
def bankLinearUptoRow : OpenClaim := { program := "ytiadfbpbeaeflaadoor", sum := "ed57078b3a23d77f4a6604c93c32ad0926f8d158f4222907f3deb166b3de2b31", func := "skyfix/skyfixlaw14.BankLinear", spec := "bankLinear", unfollowed := true, recurses := true, named := ["skyfix/angle.quarter"], apart := false, laid := [("skyfix/angle.quarter", laid_skyfix_angle_quarter)], narrowed := true }
def BankLinearUptoSaid : Prop := bankLinearUptoRow.holds Tryd.pinned (OpenSpec.upto bankLinearSpec)

/-- 'skyfixlaw14.BankSpun', WHERE WHAT IT READS IS OF BULK AT MOST 1048576: true; the input reads as it did. -/
def bankSpunUptoRow : OpenClaim := { program := "ytiadfbpbeaeflaadoor", sum := "ed57078b3a23d77f4a6604c93c32ad0926f8d158f4222907f3deb166b3de2b31", func := "skyfix/skyfixlaw14.BankSpun", spec := "bankSpun", unfollowed := true, recurses := true, named := ["skyfix/angle.quarter"], apart := false, laid := [("skyfix/angle.quarter", laid_skyfix_angle_quarter)], narrowed := true }
def BankSpunUptoSaid : Prop := bankSpunUptoRow.holds Tryd.pinned (OpenSpec.upto bankSpunSpec)

end Rows
end Go.Proofs.YtiadfbpbeaeflaaDoor
