/-
  DERIVED. GIVEN WITH THE SEED: THE CARDS: each row of YtblcahackjpnjaaDoorRows.lean that lists a variable, with what it lists TIED to the program's text (the seventh form; the later family's looks); each row that meets fmt, with fmt's text TOLD by the authors' own Lean function (tested against real Go, not proved from fmt's source: count such statements apart). THE CARD IS WHAT COUNTS. Prove the row's statement (the work); the ties are given (YtblcahackjpnjaaDoorTie.lean); close each card by the builder's one call (the guide's Derived/Test/ToyasCard.lean, 'card_holds'). Laid BY PROGRAM, IN A SANDBOX (cutbox-door.mjs). By AI agents, Wed Nov 11 2026. No macro, syntax, notation, axiom, sorry.
-/
import Derived.Test.YtblcahackjpnjaaDoorRows
import GoSem.ClaimSeven
namespace Go.Proofs.YtblcahackjpnjaaDoor
namespace Rows

/-- THE TIED CARD OF 'skyfixlaw11.NcoKnown'. -/
def ncoKnownCard : Claim7 := { stood := { row := ncoKnownRow, standIns := [], harness := (true, "660868e5454c00d3562e58b7ef95195a830531557a88d5c2fa4cab1636c216e5"), looks := false }, kinds := [], alts := [], laidByText := true, laidKinds := [.data], laidTests := true, laidLooks := .later }
def NcoKnownCardSaid : Prop := Claim7.holds Tryd.pinned (.plain (OpenSpec.ofChange ncoKnownSpec)) ncoKnownCard

/-- THE TIED CARD OF 'skyfixlaw11.NcoWaves'. -/
def ncoWavesCard : Claim7 := { stood := { row := ncoWavesRow, standIns := [], harness := (true, "660868e5454c00d3562e58b7ef95195a830531557a88d5c2fa4cab1636c216e5"), looks := false }, kinds := [], alts := [], laidByText := true, laidKinds := [.data], laidTests := true, laidLooks := .later }
def NcoWavesCardSaid : Prop := Claim7.holds Tryd.pinned (.plain (OpenSpec.ofChange ncoWavesSpec)) ncoWavesCard

/-- THE TIED CARD OF 'skyfixlaw11.NcoSteps'. -/
def ncoStepsCard : Claim7 := { stood := { row := ncoStepsRow, standIns := [], harness := (true, "660868e5454c00d3562e58b7ef95195a830531557a88d5c2fa4cab1636c216e5"), looks := false }, kinds := [], alts := [], laidByText := true, laidKinds := [.data], laidTests := true, laidLooks := .later }
def NcoStepsCardSaid : Prop := Claim7.holds Tryd.pinned (.plain (OpenSpec.ofChange ncoStepsSpec)) ncoStepsCard

/-- THE TIED CARD OF 'skyfixlaw11.NcoChips'. -/
def ncoChipsCard : Claim7 := { stood := { row := ncoChipsRow, standIns := [], harness := (true, "660868e5454c00d3562e58b7ef95195a830531557a88d5c2fa4cab1636c216e5"), looks := false }, kinds := [], alts := [], laidByText := true, laidKinds := [.data], laidTests := true, laidLooks := .later }
def NcoChipsCardSaid : Prop := Claim7.holds Tryd.pinned (.plain (OpenSpec.ofChange ncoChipsSpec)) ncoChipsCard

/-- THE TIED CARD OF 'skyfixlaw11.NcoLater'. -/
def ncoLaterCard : Claim7 := { stood := { row := ncoLaterRow, standIns := [], harness := (true, "660868e5454c00d3562e58b7ef95195a830531557a88d5c2fa4cab1636c216e5"), looks := false }, kinds := [], alts := [], laidByText := true, laidKinds := [.data], laidTests := true, laidLooks := .later }
def NcoLaterCardSaid : Prop := Claim7.holds Tryd.pinned (.plain (OpenSpec.ofChange ncoLaterSpec)) ncoLaterCard

/-- THE TIED CARD OF 'skyfixlaw11.NcoLinear'. -/
def ncoLinearCard : Claim7 := { stood := { row := ncoLinearRow, standIns := [], harness := (true, "660868e5454c00d3562e58b7ef95195a830531557a88d5c2fa4cab1636c216e5"), looks := false }, kinds := [], alts := [], laidByText := true, laidKinds := [.data], laidTests := true, laidLooks := .later }
def NcoLinearCardSaid : Prop := Claim7.holds Tryd.pinned (.plain (OpenSpec.ofChange ncoLinearSpec)) ncoLinearCard

/-- THE TIED CARD OF 'skyfixlaw11.NcoRounds'. -/
def ncoRoundsCard : Claim7 := { stood := { row := ncoRoundsRow, standIns := [], harness := (true, "660868e5454c00d3562e58b7ef95195a830531557a88d5c2fa4cab1636c216e5"), looks := false }, kinds := [], alts := [], laidByText := true, laidKinds := [.data], laidTests := true, laidLooks := .later }
def NcoRoundsCardSaid : Prop := Claim7.holds Tryd.pinned (.plain (OpenSpec.ofChange ncoRoundsSpec)) ncoRoundsCard

/-- THE TIED CARD OF 'skyfixlaw11.NcoCodes'. -/
def ncoCodesCard : Claim7 := { stood := { row := ncoCodesRow, standIns := [], harness := (true, "660868e5454c00d3562e58b7ef95195a830531557a88d5c2fa4cab1636c216e5"), looks := false }, kinds := [], alts := [], laidByText := true, laidKinds := [.data], laidTests := true, laidLooks := .later }
def NcoCodesCardSaid : Prop := Claim7.holds Tryd.pinned (.plain (OpenSpec.ofChange ncoCodesSpec)) ncoCodesCard

/-- THE SECOND FORM's CARD OF 'skyfixlaw11.NcoKnown'. -/
def ncoKnownUptoCard : Claim7 := { stood := { row := ncoKnownUptoRow, standIns := [], harness := (true, "660868e5454c00d3562e58b7ef95195a830531557a88d5c2fa4cab1636c216e5"), looks := false }, kinds := [], alts := [], laidByText := true, laidKinds := [.data], laidTests := true, laidLooks := .later }
def NcoKnownUptoCardSaid : Prop := Claim7.holds Tryd.pinned (.plain (OpenSpec.upto ncoKnownSpec)) ncoKnownUptoCard

/-- THE SECOND FORM's CARD OF 'skyfixlaw11.NcoWaves'. -/
def ncoWavesUptoCard : Claim7 := { stood := { row := ncoWavesUptoRow, standIns := [], harness := (true, "660868e5454c00d3562e58b7ef95195a830531557a88d5c2fa4cab1636c216e5"), looks := false }, kinds := [], alts := [], laidByText := true, laidKinds := [.data], laidTests := true, laidLooks := .later }
def NcoWavesUptoCardSaid : Prop := Claim7.holds Tryd.pinned (.plain (OpenSpec.upto ncoWavesSpec)) ncoWavesUptoCard

/-- THE SECOND FORM's CARD OF 'skyfixlaw11.NcoSteps'. -/
def ncoStepsUptoCard : Claim7 := { stood := { row := ncoStepsUptoRow, standIns := [], harness := (true, "660868e5454c00d3562e58b7ef95195a830531557a88d5c2fa4cab1636c216e5"), looks := false }, kinds := [], alts := [], laidByText := true, laidKinds := [.data], laidTests := true, laidLooks := .later }
def NcoStepsUptoCardSaid : Prop := Claim7.holds Tryd.pinned (.plain (OpenSpec.upto ncoStepsSpec)) ncoStepsUptoCard

/-- THE SECOND FORM's CARD OF 'skyfixlaw11.NcoChips'. -/
def ncoChipsUptoCard : Claim7 := { stood := { row := ncoChipsUptoRow, standIns := [], harness := (true, "660868e5454c00d3562e58b7ef95195a830531557a88d5c2fa4cab1636c216e5"), looks := false }, kinds := [], alts := [], laidByText := true, laidKinds := [.data], laidTests := true, laidLooks := .later }
def NcoChipsUptoCardSaid : Prop := Claim7.holds Tryd.pinned (.plain (OpenSpec.upto ncoChipsSpec)) ncoChipsUptoCard

/-- THE SECOND FORM's CARD OF 'skyfixlaw11.NcoLater'. -/
def ncoLaterUptoCard : Claim7 := { stood := { row := ncoLaterUptoRow, standIns := [], harness := (true, "660868e5454c00d3562e58b7ef95195a830531557a88d5c2fa4cab1636c216e5"), looks := false }, kinds := [], alts := [], laidByText := true, laidKinds := [.data], laidTests := true, laidLooks := .later }
def NcoLaterUptoCardSaid : Prop := Claim7.holds Tryd.pinned (.plain (OpenSpec.upto ncoLaterSpec)) ncoLaterUptoCard

/-- THE SECOND FORM's CARD OF 'skyfixlaw11.NcoLinear'. -/
def ncoLinearUptoCard : Claim7 := { stood := { row := ncoLinearUptoRow, standIns := [], harness := (true, "660868e5454c00d3562e58b7ef95195a830531557a88d5c2fa4cab1636c216e5"), looks := false }, kinds := [], alts := [], laidByText := true, laidKinds := [.data], laidTests := true, laidLooks := .later }
def NcoLinearUptoCardSaid : Prop := Claim7.holds Tryd.pinned (.plain (OpenSpec.upto ncoLinearSpec)) ncoLinearUptoCard

/-- THE SECOND FORM's CARD OF 'skyfixlaw11.NcoRounds'. -/
def ncoRoundsUptoCard : Claim7 := { stood := { row := ncoRoundsUptoRow, standIns := [], harness := (true, "660868e5454c00d3562e58b7ef95195a830531557a88d5c2fa4cab1636c216e5"), looks := false }, kinds := [], alts := [], laidByText := true, laidKinds := [.data], laidTests := true, laidLooks := .later }
def NcoRoundsUptoCardSaid : Prop := Claim7.holds Tryd.pinned (.plain (OpenSpec.upto ncoRoundsSpec)) ncoRoundsUptoCard

/-- THE SECOND FORM's CARD OF 'skyfixlaw11.NcoCodes'. -/
def ncoCodesUptoCard : Claim7 := { stood := { row := ncoCodesUptoRow, standIns := [], harness := (true, "660868e5454c00d3562e58b7ef95195a830531557a88d5c2fa4cab1636c216e5"), looks := false }, kinds := [], alts := [], laidByText := true, laidKinds := [.data], laidTests := true, laidLooks := .later }
def NcoCodesUptoCardSaid : Prop := Claim7.holds Tryd.pinned (.plain (OpenSpec.upto ncoCodesSpec)) ncoCodesUptoCard
end Rows
end Go.Proofs.YtblcahackjpnjaaDoor
