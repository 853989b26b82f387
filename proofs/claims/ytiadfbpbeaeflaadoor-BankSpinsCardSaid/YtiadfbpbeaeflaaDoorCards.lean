/-
  DERIVED. GIVEN WITH THE SEED: THE CARDS: each row of YtiadfbpbeaeflaaDoorRows.lean that lists a variable, with what it lists TIED to the program's text (the seventh form; the later family's looks); each row that meets fmt, with fmt's text TOLD by the authors' own Lean function (tested against real Go, not proved from fmt's source: count such statements apart). THE CARD IS WHAT COUNTS. Prove the row's statement (the work); the ties are given (YtiadfbpbeaeflaaDoorTie.lean); close each card by the builder's one call (the guide's Derived/Test/ToyasCard.lean, 'card_holds'). Laid BY PROGRAM, IN A SANDBOX (cutbox-door.mjs). By AI agents, Wed Nov 11 2026. No macro, syntax, notation, axiom, sorry.
-/
import Derived.Test.YtiadfbpbeaeflaaDoorRows
import GoSem.ClaimSeven
namespace Go.Proofs.YtiadfbpbeaeflaaDoor
namespace Rows

/-- THE TIED CARD OF 'skyfixlaw14.BankKnown'. -/
def bankKnownCard : Claim7 := { stood := { row := bankKnownRow, standIns := [], harness := (true, "720af0734a13f72d19ce936ca146107eb49bd2324531a6810ecc0ad5b6469596"), looks := false }, kinds := [], alts := [], laidByText := true, laidKinds := [.data], laidTests := true, laidLooks := .later }
def BankKnownCardSaid : Prop := Claim7.holds Tryd.pinned (.plain (OpenSpec.ofChange bankKnownSpec)) bankKnownCard

/-- THE TIED CARD OF 'skyfixlaw14.BankSums'. -/
def bankSumsCard : Claim7 := { stood := { row := bankSumsRow, standIns := [], harness := (true, "720af0734a13f72d19ce936ca146107eb49bd2324531a6810ecc0ad5b6469596"), looks := false }, kinds := [], alts := [], laidByText := true, laidKinds := [.data], laidTests := true, laidLooks := .later }
def BankSumsCardSaid : Prop := Claim7.holds Tryd.pinned (.plain (OpenSpec.ofChange bankSumsSpec)) bankSumsCard

/-- THE TIED CARD OF 'skyfixlaw14.BankSpins'. -/
def bankSpinsCard : Claim7 := { stood := { row := bankSpinsRow, standIns := [], harness := (true, "720af0734a13f72d19ce936ca146107eb49bd2324531a6810ecc0ad5b6469596"), looks := false }, kinds := [], alts := [], laidByText := true, laidKinds := [.data], laidTests := true, laidLooks := .later }
def BankSpinsCardSaid : Prop := Claim7.holds Tryd.pinned (.plain (OpenSpec.ofChange bankSpinsSpec)) bankSpinsCard

/-- THE TIED CARD OF 'skyfixlaw14.BankLinear'. -/
def bankLinearCard : Claim7 := { stood := { row := bankLinearRow, standIns := [], harness := (true, "720af0734a13f72d19ce936ca146107eb49bd2324531a6810ecc0ad5b6469596"), looks := false }, kinds := [], alts := [], laidByText := true, laidKinds := [.data], laidTests := true, laidLooks := .later }
def BankLinearCardSaid : Prop := Claim7.holds Tryd.pinned (.plain (OpenSpec.ofChange bankLinearSpec)) bankLinearCard

/-- THE TIED CARD OF 'skyfixlaw14.BankSpun'. -/
def bankSpunCard : Claim7 := { stood := { row := bankSpunRow, standIns := [], harness := (true, "720af0734a13f72d19ce936ca146107eb49bd2324531a6810ecc0ad5b6469596"), looks := false }, kinds := [], alts := [], laidByText := true, laidKinds := [.data], laidTests := true, laidLooks := .later }
def BankSpunCardSaid : Prop := Claim7.holds Tryd.pinned (.plain (OpenSpec.ofChange bankSpunSpec)) bankSpunCard

/-- THE SECOND FORM's CARD OF 'skyfixlaw14.BankKnown'. -/
def bankKnownUptoCard : Claim7 := { stood := { row := bankKnownUptoRow, standIns := [], harness := (true, "720af0734a13f72d19ce936ca146107eb49bd2324531a6810ecc0ad5b6469596"), looks := false }, kinds := [], alts := [], laidByText := true, laidKinds := [.data], laidTests := true, laidLooks := .later }
def BankKnownUptoCardSaid : Prop := Claim7.holds Tryd.pinned (.plain (OpenSpec.upto bankKnownSpec)) bankKnownUptoCard

/-- THE SECOND FORM's CARD OF 'skyfixlaw14.BankSums'. -/
def bankSumsUptoCard : Claim7 := { stood := { row := bankSumsUptoRow, standIns := [], harness := (true, "720af0734a13f72d19ce936ca146107eb49bd2324531a6810ecc0ad5b6469596"), looks := false }, kinds := [], alts := [], laidByText := true, laidKinds := [.data], laidTests := true, laidLooks := .later }
def BankSumsUptoCardSaid : Prop := Claim7.holds Tryd.pinned (.plain (OpenSpec.upto bankSumsSpec)) bankSumsUptoCard

/-- THE SECOND FORM's CARD OF 'skyfixlaw14.BankSpins'. -/
def bankSpinsUptoCard : Claim7 := { stood := { row := bankSpinsUptoRow, standIns := [], harness := (true, "720af0734a13f72d19ce936ca146107eb49bd2324531a6810ecc0ad5b6469596"), looks := false }, kinds := [], alts := [], laidByText := true, laidKinds := [.data], laidTests := true, laidLooks := .later }
def BankSpinsUptoCardSaid : Prop := Claim7.holds Tryd.pinned (.plain (OpenSpec.upto bankSpinsSpec)) bankSpinsUptoCard

/-- THE SECOND FORM's CARD OF 'skyfixlaw14.BankLinear'. -/
def bankLinearUptoCard : Claim7 := { stood := { row := bankLinearUptoRow, standIns := [], harness := (true, "720af0734a13f72d19ce936ca146107eb49bd2324531a6810ecc0ad5b6469596"), looks := false }, kinds := [], alts := [], laidByText := true, laidKinds := [.data], laidTests := true, laidLooks := .later }
def BankLinearUptoCardSaid : Prop := Claim7.holds Tryd.pinned (.plain (OpenSpec.upto bankLinearSpec)) bankLinearUptoCard

/-- THE SECOND FORM's CARD OF 'skyfixlaw14.BankSpun'. -/
def bankSpunUptoCard : Claim7 := { stood := { row := bankSpunUptoRow, standIns := [], harness := (true, "720af0734a13f72d19ce936ca146107eb49bd2324531a6810ecc0ad5b6469596"), looks := false }, kinds := [], alts := [], laidByText := true, laidKinds := [.data], laidTests := true, laidLooks := .later }
def BankSpunUptoCardSaid : Prop := Claim7.holds Tryd.pinned (.plain (OpenSpec.upto bankSpunSpec)) bankSpunUptoCard
end Rows
end Go.Proofs.YtiadfbpbeaeflaaDoor
