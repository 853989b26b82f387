/-
  DERIVED. GIVEN WITH THE SEED: THE CARDS: each row of YtikcjpkocadfdaaDoorRows.lean that lists a variable, with what it lists TIED to the program's text (the seventh form; the later family's looks); each row that meets fmt, with fmt's text TOLD by the authors' own Lean function (tested against real Go, not proved from fmt's source: count such statements apart). THE CARD IS WHAT COUNTS. Prove the row's statement (the work); the ties are given (YtikcjpkocadfdaaDoorTie.lean); close each card by the builder's one call (the guide's Derived/Test/ToyasCard.lean, 'card_holds'). Laid BY PROGRAM, IN A SANDBOX (cutbox-door.mjs). By AI agents, Wed Nov 11 2026. No macro, syntax, notation, axiom, sorry.
-/
import Derived.Test.YtikcjpkocadfdaaDoorRows
import GoSem.ClaimSeven
namespace Go.Proofs.YtikcjpkocadfdaaDoor
namespace Rows

/-- THE TIED CARD OF 'skyfixlaw02.AngleNames'. -/
def angleNamesCard : Claim7 := { stood := { row := angleNamesRow, standIns := [], harness := (true, "cbd52eed76410b6be231d78e2a41a7c93600cdde181f06c5db2ccdddbacbaf0a"), looks := false }, kinds := [], alts := [], laidByText := true, laidKinds := [.data], laidTests := true, laidLooks := .later }
def AngleNamesCardSaid : Prop := Claim7.holds Tryd.pinned (.plain (OpenSpec.ofChange angleNamesSpec)) angleNamesCard

/-- THE TIED CARD OF 'skyfixlaw02.AnglePhases'. -/
def anglePhasesCard : Claim7 := { stood := { row := anglePhasesRow, standIns := [], harness := (true, "cbd52eed76410b6be231d78e2a41a7c93600cdde181f06c5db2ccdddbacbaf0a"), looks := false }, kinds := [], alts := [], laidByText := true, laidKinds := [.data], laidTests := true, laidLooks := .later }
def AnglePhasesCardSaid : Prop := Claim7.holds Tryd.pinned (.plain (OpenSpec.ofChange anglePhasesSpec)) anglePhasesCard

/-- THE TIED CARD OF 'skyfixlaw02.AngleSamples'. -/
def angleSamplesCard : Claim7 := { stood := { row := angleSamplesRow, standIns := [], harness := (true, "cbd52eed76410b6be231d78e2a41a7c93600cdde181f06c5db2ccdddbacbaf0a"), looks := false }, kinds := [], alts := [], laidByText := true, laidKinds := [.data], laidTests := true, laidLooks := .later }
def AngleSamplesCardSaid : Prop := Claim7.holds Tryd.pinned (.plain (OpenSpec.ofChange angleSamplesSpec)) angleSamplesCard

/-- THE TIED CARD OF 'skyfixlaw02.AngleRoots'. -/
def angleRootsCard : Claim7 := { stood := { row := angleRootsRow, standIns := [], harness := (true, "cbd52eed76410b6be231d78e2a41a7c93600cdde181f06c5db2ccdddbacbaf0a"), looks := false }, kinds := [], alts := [], laidByText := true, laidKinds := [.data], laidTests := true, laidLooks := .later }
def AngleRootsCardSaid : Prop := Claim7.holds Tryd.pinned (.plain (OpenSpec.ofChange angleRootsSpec)) angleRootsCard

/-- THE TIED CARD OF 'skyfixlaw02.AngleTurns'. -/
def angleTurnsCard : Claim7 := { stood := { row := angleTurnsRow, standIns := [], harness := (true, "cbd52eed76410b6be231d78e2a41a7c93600cdde181f06c5db2ccdddbacbaf0a"), looks := false }, kinds := [], alts := [], laidByText := true, laidKinds := [.data], laidTests := true, laidLooks := .later }
def AngleTurnsCardSaid : Prop := Claim7.holds Tryd.pinned (.plain (OpenSpec.ofChange angleTurnsSpec)) angleTurnsCard

/-- THE TIED CARD OF 'skyfixlaw02.AngleSectors'. -/
def angleSectorsCard : Claim7 := { stood := { row := angleSectorsRow, standIns := [], harness := (true, "cbd52eed76410b6be231d78e2a41a7c93600cdde181f06c5db2ccdddbacbaf0a"), looks := false }, kinds := [], alts := [], laidByText := true, laidKinds := [.data], laidTests := true, laidLooks := .later }
def AngleSectorsCardSaid : Prop := Claim7.holds Tryd.pinned (.plain (OpenSpec.ofChange angleSectorsSpec)) angleSectorsCard

/-- THE TIED CARD OF 'skyfixlaw02.AngleGrows'. -/
def angleGrowsCard : Claim7 := { stood := { row := angleGrowsRow, standIns := [], harness := (true, "cbd52eed76410b6be231d78e2a41a7c93600cdde181f06c5db2ccdddbacbaf0a"), looks := false }, kinds := [], alts := [], laidByText := true, laidKinds := [.data], laidTests := true, laidLooks := .later }
def AngleGrowsCardSaid : Prop := Claim7.holds Tryd.pinned (.plain (OpenSpec.ofChange angleGrowsSpec)) angleGrowsCard

/-- THE TIED CARD OF 'skyfixlaw02.AngleSquares'. -/
def angleSquaresCard : Claim7 := { stood := { row := angleSquaresRow, standIns := [], harness := (true, "cbd52eed76410b6be231d78e2a41a7c93600cdde181f06c5db2ccdddbacbaf0a"), looks := false }, kinds := [], alts := [], laidByText := true, laidKinds := [.data], laidTests := true, laidLooks := .later }
def AngleSquaresCardSaid : Prop := Claim7.holds Tryd.pinned (.plain (OpenSpec.ofChange angleSquaresSpec)) angleSquaresCard

/-- THE SECOND FORM's CARD OF 'skyfixlaw02.AngleNames'. -/
def angleNamesUptoCard : Claim7 := { stood := { row := angleNamesUptoRow, standIns := [], harness := (true, "cbd52eed76410b6be231d78e2a41a7c93600cdde181f06c5db2ccdddbacbaf0a"), looks := false }, kinds := [], alts := [], laidByText := true, laidKinds := [.data], laidTests := true, laidLooks := .later }
def AngleNamesUptoCardSaid : Prop := Claim7.holds Tryd.pinned (.plain (OpenSpec.upto angleNamesSpec)) angleNamesUptoCard

/-- THE SECOND FORM's CARD OF 'skyfixlaw02.AnglePhases'. -/
def anglePhasesUptoCard : Claim7 := { stood := { row := anglePhasesUptoRow, standIns := [], harness := (true, "cbd52eed76410b6be231d78e2a41a7c93600cdde181f06c5db2ccdddbacbaf0a"), looks := false }, kinds := [], alts := [], laidByText := true, laidKinds := [.data], laidTests := true, laidLooks := .later }
def AnglePhasesUptoCardSaid : Prop := Claim7.holds Tryd.pinned (.plain (OpenSpec.upto anglePhasesSpec)) anglePhasesUptoCard

/-- THE SECOND FORM's CARD OF 'skyfixlaw02.AngleSamples'. -/
def angleSamplesUptoCard : Claim7 := { stood := { row := angleSamplesUptoRow, standIns := [], harness := (true, "cbd52eed76410b6be231d78e2a41a7c93600cdde181f06c5db2ccdddbacbaf0a"), looks := false }, kinds := [], alts := [], laidByText := true, laidKinds := [.data], laidTests := true, laidLooks := .later }
def AngleSamplesUptoCardSaid : Prop := Claim7.holds Tryd.pinned (.plain (OpenSpec.upto angleSamplesSpec)) angleSamplesUptoCard

/-- THE SECOND FORM's CARD OF 'skyfixlaw02.AngleRoots'. -/
def angleRootsUptoCard : Claim7 := { stood := { row := angleRootsUptoRow, standIns := [], harness := (true, "cbd52eed76410b6be231d78e2a41a7c93600cdde181f06c5db2ccdddbacbaf0a"), looks := false }, kinds := [], alts := [], laidByText := true, laidKinds := [.data], laidTests := true, laidLooks := .later }
def AngleRootsUptoCardSaid : Prop := Claim7.holds Tryd.pinned (.plain (OpenSpec.upto angleRootsSpec)) angleRootsUptoCard

/-- THE SECOND FORM's CARD OF 'skyfixlaw02.AngleTurns'. -/
def angleTurnsUptoCard : Claim7 := { stood := { row := angleTurnsUptoRow, standIns := [], harness := (true, "cbd52eed76410b6be231d78e2a41a7c93600cdde181f06c5db2ccdddbacbaf0a"), looks := false }, kinds := [], alts := [], laidByText := true, laidKinds := [.data], laidTests := true, laidLooks := .later }
def AngleTurnsUptoCardSaid : Prop := Claim7.holds Tryd.pinned (.plain (OpenSpec.upto angleTurnsSpec)) angleTurnsUptoCard

/-- THE SECOND FORM's CARD OF 'skyfixlaw02.AngleSectors'. -/
def angleSectorsUptoCard : Claim7 := { stood := { row := angleSectorsUptoRow, standIns := [], harness := (true, "cbd52eed76410b6be231d78e2a41a7c93600cdde181f06c5db2ccdddbacbaf0a"), looks := false }, kinds := [], alts := [], laidByText := true, laidKinds := [.data], laidTests := true, laidLooks := .later }
def AngleSectorsUptoCardSaid : Prop := Claim7.holds Tryd.pinned (.plain (OpenSpec.upto angleSectorsSpec)) angleSectorsUptoCard

/-- THE SECOND FORM's CARD OF 'skyfixlaw02.AngleGrows'. -/
def angleGrowsUptoCard : Claim7 := { stood := { row := angleGrowsUptoRow, standIns := [], harness := (true, "cbd52eed76410b6be231d78e2a41a7c93600cdde181f06c5db2ccdddbacbaf0a"), looks := false }, kinds := [], alts := [], laidByText := true, laidKinds := [.data], laidTests := true, laidLooks := .later }
def AngleGrowsUptoCardSaid : Prop := Claim7.holds Tryd.pinned (.plain (OpenSpec.upto angleGrowsSpec)) angleGrowsUptoCard

/-- THE SECOND FORM's CARD OF 'skyfixlaw02.AngleSquares'. -/
def angleSquaresUptoCard : Claim7 := { stood := { row := angleSquaresUptoRow, standIns := [], harness := (true, "cbd52eed76410b6be231d78e2a41a7c93600cdde181f06c5db2ccdddbacbaf0a"), looks := false }, kinds := [], alts := [], laidByText := true, laidKinds := [.data], laidTests := true, laidLooks := .later }
def AngleSquaresUptoCardSaid : Prop := Claim7.holds Tryd.pinned (.plain (OpenSpec.upto angleSquaresSpec)) angleSquaresUptoCard
end Rows
end Go.Proofs.YtikcjpkocadfdaaDoor
