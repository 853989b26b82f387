/-
  DERIVED. GIVEN WITH THE SEED: THE CARDS: each row of YtofeleohcpaclaaDoorRows.lean that lists a variable, with what it lists TIED to the program's text (the seventh form; the later family's looks); each row that meets fmt, with fmt's text TOLD by the authors' own Lean function (tested against real Go, not proved from fmt's source: count such statements apart). THE CARD IS WHAT COUNTS. Prove the row's statement (the work); the ties are given (YtofeleohcpaclaaDoorTie.lean); close each card by the builder's one call (the guide's Derived/Test/ToyasCard.lean, 'card_holds'). Laid BY PROGRAM, IN A SANDBOX (cutbox-door.mjs). By AI agents, Wed Nov 11 2026. No macro, syntax, notation, axiom, sorry.
-/
import Derived.Test.YtofeleohcpaclaaDoorRows
import GoSem.ClaimSeven
namespace Go.Proofs.YtofeleohcpaclaaDoor
namespace Rows

/-- THE TIED CARD OF 'skyfixlaw17.DiscrKnown'. -/
def discrKnownCard : Claim7 := { stood := { row := discrKnownRow, standIns := [], harness := (true, "1ed9917572a3bbc51f9998deeb0f0e90258694cc2c0643581a27ae632718a7ad"), looks := false }, kinds := [], alts := [], laidByText := true, laidKinds := [.data], laidTests := true, laidLooks := .later }
def DiscrKnownCardSaid : Prop := Claim7.holds Tryd.pinned (.plain (OpenSpec.ofChange discrKnownSpec)) discrKnownCard

/-- THE TIED CARD OF 'skyfixlaw17.DiscrSums'. -/
def discrSumsCard : Claim7 := { stood := { row := discrSumsRow, standIns := [], harness := (true, "1ed9917572a3bbc51f9998deeb0f0e90258694cc2c0643581a27ae632718a7ad"), looks := false }, kinds := [], alts := [], laidByText := true, laidKinds := [.data], laidTests := true, laidLooks := .later }
def DiscrSumsCardSaid : Prop := Claim7.holds Tryd.pinned (.plain (OpenSpec.ofChange discrSumsSpec)) discrSumsCard

/-- THE TIED CARD OF 'skyfixlaw17.DiscrRates'. -/
def discrRatesCard : Claim7 := { stood := { row := discrRatesRow, standIns := [], harness := (true, "1ed9917572a3bbc51f9998deeb0f0e90258694cc2c0643581a27ae632718a7ad"), looks := false }, kinds := [], alts := [], laidByText := true, laidKinds := [.data], laidTests := true, laidLooks := .later }
def DiscrRatesCardSaid : Prop := Claim7.holds Tryd.pinned (.plain (OpenSpec.ofChange discrRatesSpec)) discrRatesCard

/-- THE TIED CARD OF 'skyfixlaw17.DiscrCode'. -/
def discrCodeCard : Claim7 := { stood := { row := discrCodeRow, standIns := [], harness := (true, "1ed9917572a3bbc51f9998deeb0f0e90258694cc2c0643581a27ae632718a7ad"), looks := false }, kinds := [], alts := [], laidByText := true, laidKinds := [.data], laidTests := true, laidLooks := .later }
def DiscrCodeCardSaid : Prop := Claim7.holds Tryd.pinned (.plain (OpenSpec.ofChange discrCodeSpec)) discrCodeCard

/-- THE TIED CARD OF 'skyfixlaw17.DiscrAngles'. -/
def discrAnglesCard : Claim7 := { stood := { row := discrAnglesRow, standIns := [], harness := (true, "1ed9917572a3bbc51f9998deeb0f0e90258694cc2c0643581a27ae632718a7ad"), looks := false }, kinds := [], alts := [], laidByText := true, laidKinds := [.data], laidTests := true, laidLooks := .later }
def DiscrAnglesCardSaid : Prop := Claim7.holds Tryd.pinned (.plain (OpenSpec.ofChange discrAnglesSpec)) discrAnglesCard

/-- THE TIED CARD OF 'skyfixlaw17.DiscrSteps'. -/
def discrStepsCard : Claim7 := { stood := { row := discrStepsRow, standIns := [], harness := (true, "1ed9917572a3bbc51f9998deeb0f0e90258694cc2c0643581a27ae632718a7ad"), looks := false }, kinds := [], alts := [], laidByText := true, laidKinds := [.data], laidTests := true, laidLooks := .later }
def DiscrStepsCardSaid : Prop := Claim7.holds Tryd.pinned (.plain (OpenSpec.ofChange discrStepsSpec)) discrStepsCard

/-- THE SECOND FORM's CARD OF 'skyfixlaw17.DiscrKnown'. -/
def discrKnownUptoCard : Claim7 := { stood := { row := discrKnownUptoRow, standIns := [], harness := (true, "1ed9917572a3bbc51f9998deeb0f0e90258694cc2c0643581a27ae632718a7ad"), looks := false }, kinds := [], alts := [], laidByText := true, laidKinds := [.data], laidTests := true, laidLooks := .later }
def DiscrKnownUptoCardSaid : Prop := Claim7.holds Tryd.pinned (.plain (OpenSpec.upto discrKnownSpec)) discrKnownUptoCard

/-- THE SECOND FORM's CARD OF 'skyfixlaw17.DiscrSums'. -/
def discrSumsUptoCard : Claim7 := { stood := { row := discrSumsUptoRow, standIns := [], harness := (true, "1ed9917572a3bbc51f9998deeb0f0e90258694cc2c0643581a27ae632718a7ad"), looks := false }, kinds := [], alts := [], laidByText := true, laidKinds := [.data], laidTests := true, laidLooks := .later }
def DiscrSumsUptoCardSaid : Prop := Claim7.holds Tryd.pinned (.plain (OpenSpec.upto discrSumsSpec)) discrSumsUptoCard

/-- THE SECOND FORM's CARD OF 'skyfixlaw17.DiscrRates'. -/
def discrRatesUptoCard : Claim7 := { stood := { row := discrRatesUptoRow, standIns := [], harness := (true, "1ed9917572a3bbc51f9998deeb0f0e90258694cc2c0643581a27ae632718a7ad"), looks := false }, kinds := [], alts := [], laidByText := true, laidKinds := [.data], laidTests := true, laidLooks := .later }
def DiscrRatesUptoCardSaid : Prop := Claim7.holds Tryd.pinned (.plain (OpenSpec.upto discrRatesSpec)) discrRatesUptoCard

/-- THE SECOND FORM's CARD OF 'skyfixlaw17.DiscrCode'. -/
def discrCodeUptoCard : Claim7 := { stood := { row := discrCodeUptoRow, standIns := [], harness := (true, "1ed9917572a3bbc51f9998deeb0f0e90258694cc2c0643581a27ae632718a7ad"), looks := false }, kinds := [], alts := [], laidByText := true, laidKinds := [.data], laidTests := true, laidLooks := .later }
def DiscrCodeUptoCardSaid : Prop := Claim7.holds Tryd.pinned (.plain (OpenSpec.upto discrCodeSpec)) discrCodeUptoCard

/-- THE SECOND FORM's CARD OF 'skyfixlaw17.DiscrAngles'. -/
def discrAnglesUptoCard : Claim7 := { stood := { row := discrAnglesUptoRow, standIns := [], harness := (true, "1ed9917572a3bbc51f9998deeb0f0e90258694cc2c0643581a27ae632718a7ad"), looks := false }, kinds := [], alts := [], laidByText := true, laidKinds := [.data], laidTests := true, laidLooks := .later }
def DiscrAnglesUptoCardSaid : Prop := Claim7.holds Tryd.pinned (.plain (OpenSpec.upto discrAnglesSpec)) discrAnglesUptoCard

/-- THE SECOND FORM's CARD OF 'skyfixlaw17.DiscrSteps'. -/
def discrStepsUptoCard : Claim7 := { stood := { row := discrStepsUptoRow, standIns := [], harness := (true, "1ed9917572a3bbc51f9998deeb0f0e90258694cc2c0643581a27ae632718a7ad"), looks := false }, kinds := [], alts := [], laidByText := true, laidKinds := [.data], laidTests := true, laidLooks := .later }
def DiscrStepsUptoCardSaid : Prop := Claim7.holds Tryd.pinned (.plain (OpenSpec.upto discrStepsSpec)) discrStepsUptoCard
end Rows
end Go.Proofs.YtofeleohcpaclaaDoor
