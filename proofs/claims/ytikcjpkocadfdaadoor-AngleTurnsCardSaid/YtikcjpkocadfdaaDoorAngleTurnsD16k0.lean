/- Parts of the run of AngleTurns. -/
import Derived.Test.YtikcjpkocadfdaaDoorRows
import Derived.WalkKit
import Derived.ProofKit
import Derived.OpenShut
import Derived.Test.YtikcjpkocadfdaaDoorEvU
import Derived.Test.YtikcjpkocadfdaaDoorAngleTurnsB
namespace Go.Proofs.YtikcjpkocadfdaaDoor.angleTurns
open Go.ChangeShapes Go.WideShapes Go.ChangeAt Go.RowKit
set_option linter.unusedVariables false
section
open Go.Ev
namespace r16
def dead0 : List Fact := [⟨(.bin .sub (.wrap .u32 (.bin .add (.wrap .u32 (.bin .add (.var 0) (.wrap .u32 (.bin .mul (.var 1) (.wrap .u32 (.var 2)))))) (.wrap .u32 (.bin .mul (.var 1) (.wrap .u32 (.var 3)))))) (.wrap .u32 (.bin .add (.var 0) (.wrap .u32 (.bin .mul (.var 1) (.wrap .u32 (.wrap .i64 (.bin .add (.var 2) (.var 3))))))))), (-1), true⟩]
theorem dead0_no (v : Nat → Int) : ¬ ∀ f ∈ dead0, f.holds v := by
  intro h
  have h0 : (IntKind.wrap .u32 ((IntKind.wrap .u32 ((v 0 + IntKind.wrap .u32 ((v 1 * IntKind.wrap .u32 (v 2))))) + IntKind.wrap .u32 ((v 1 * IntKind.wrap .u32 (v 3))))) - IntKind.wrap .u32 ((v 0 + IntKind.wrap .u32 ((v 1 * IntKind.wrap .u32 (IntKind.wrap .i64 ((v 2 + v 3)))))))) ≤ (-1) := h _ (.head _)
  clear h
  rw [turn_eq] at h0
  omega
def dead1 : List Fact := [⟨(.bin .sub (.wrap .u32 (.wrap .i32 (.wrap .u32 (.bin .sub (.wrap .u32 (.bin .add (.var 0) (.bin .mul (.var 1) (.lit 1)))) (.var 0))))) (.var 1)), (-1), true⟩, ⟨(.var 1), 4294967295, true⟩]
theorem dead1_no (v : Nat → Int) : ¬ ∀ f ∈ dead1, f.holds v := by
  intro h
  have h0 : (IntKind.wrap .u32 (IntKind.wrap .i32 (IntKind.wrap .u32 ((IntKind.wrap .u32 ((v 0 + (v 1 * 1))) - v 0)))) - v 1) ≤ (-1) := h _ (.head _)
  have h1 : v 1 ≤ 4294967295 := h _ (.tail _ (.head _))
  clear h
  first | omega | (simp (disch := omega) only [Go.Ev.tmod_e, Go.Ev.fdiv_e, Go.Ev.w_u32, Go.Ev.w_i32, Go.Ev.w_i64] at *; omega)
def dead2 : List Fact := [⟨(.bin .sub (.bin .add (.lit 0) (.bin .mul (.bin .mul (.bin .add (.lit 1) (.bin .add (.bin .rem (.var 4) (.lit 1000)) (.lit 1000))) (.lit 127)) (.lit 127))) (.bin .mul (.bin .add (.lit 1) (.bin .add (.bin .rem (.var 4) (.lit 1000)) (.lit 1000))) (.lit 16129))), (-1), true⟩]
theorem dead2_no (v : Nat → Int) : ¬ ∀ f ∈ dead2, f.holds v := by
  intro h
  have h0 : ((0 + (((1 + (Int.tmod (v 4) (1000) + 1000)) * 127) * 127)) - ((1 + (Int.tmod (v 4) (1000) + 1000)) * 16129)) ≤ (-1) := h _ (.head _)
  clear h
  first | omega | (simp only [Go.Ev.tmod_e] at *; omega)
def dead3 : List Fact := [⟨(.bin .sub (.bin .add (.lit 0) (.bin .mul (.bin .mul (.bin .add (.lit 1) (.bin .add (.bin .rem (.var 4) (.lit 1000)) (.lit 1000))) (.lit 127)) (.lit 127))) (.bin .mul (.lit 16020) (.bin .add (.lit 1) (.bin .add (.bin .rem (.var 4) (.lit 1000)) (.lit 1000))))), (-1), true⟩]
theorem dead3_no (v : Nat → Int) : ¬ ∀ f ∈ dead3, f.holds v := by
  intro h
  have h0 : ((0 + (((1 + (Int.tmod (v 4) (1000) + 1000)) * 127) * 127)) - (16020 * (1 + (Int.tmod (v 4) (1000) + 1000)))) ≤ (-1) := h _ (.head _)
  clear h
  first | omega | (simp only [Go.Ev.tmod_e] at *; omega)
def dead4 : List Fact := [⟨(.bin .sub (.bin .mul (.lit 16277) (.bin .add (.lit 1) (.bin .add (.bin .rem (.var 4) (.lit 1000)) (.lit 1000)))) (.bin .add (.lit 0) (.bin .mul (.bin .mul (.bin .add (.lit 1) (.bin .add (.bin .rem (.var 4) (.lit 1000)) (.lit 1000))) (.lit 127)) (.lit 127)))), (-1), true⟩]
theorem dead4_no (v : Nat → Int) : ¬ ∀ f ∈ dead4, f.holds v := by
  intro h
  have h0 : ((16277 * (1 + (Int.tmod (v 4) (1000) + 1000))) - (0 + (((1 + (Int.tmod (v 4) (1000) + 1000)) * 127) * 127))) ≤ (-1) := h _ (.head _)
  clear h
  first | omega | (simp only [Go.Ev.tmod_e] at *; omega)
def dead5 : List Fact := [⟨(.bin .sub (.bin .add (.lit 0) (.bin .mul (.bin .mul (.bin .add (.lit 1) (.bin .add (.bin .rem (.var 4) (.lit 1000)) (.lit 1000))) (.lit 127)) (.lit 127))) (.bin .mul (.bin .add (.lit 1) (.bin .add (.bin .rem (.var 4) (.lit 1000)) (.lit 1000))) (.lit 16129))), 0, false⟩]
theorem dead5_no (v : Nat → Int) : ¬ ∀ f ∈ dead5, f.holds v := by
  intro h
  have h0 : 0 < ((0 + (((1 + (Int.tmod (v 4) (1000) + 1000)) * 127) * 127)) - ((1 + (Int.tmod (v 4) (1000) + 1000)) * 16129)) := h _ (.head _)
  clear h
  first | omega | (simp only [Go.Ev.tmod_e] at *; omega)
def dead6 : List Fact := [⟨(.bin .sub (.bin .add (.lit 0) (.bin .mul (.bin .mul (.bin .add (.lit 1) (.bin .rem (.var 4) (.lit 1000))) (.lit 127)) (.lit 127))) (.bin .mul (.bin .add (.lit 1) (.bin .rem (.var 4) (.lit 1000))) (.lit 16129))), (-1), true⟩]
theorem dead6_no (v : Nat → Int) : ¬ ∀ f ∈ dead6, f.holds v := by
  intro h
  have h0 : ((0 + (((1 + Int.tmod (v 4) (1000)) * 127) * 127)) - ((1 + Int.tmod (v 4) (1000)) * 16129)) ≤ (-1) := h _ (.head _)
  clear h
  first | omega | (simp only [Go.Ev.tmod_e] at *; omega)
def dead7 : List Fact := [⟨(.bin .sub (.bin .add (.lit 0) (.bin .mul (.bin .mul (.bin .add (.lit 1) (.bin .rem (.var 4) (.lit 1000))) (.lit 127)) (.lit 127))) (.bin .mul (.lit 16020) (.bin .add (.lit 1) (.bin .rem (.var 4) (.lit 1000))))), (-1), true⟩, ⟨(.bin .rem (.var 4) (.lit 1000)), (-1), false⟩]
theorem dead7_no (v : Nat → Int) : ¬ ∀ f ∈ dead7, f.holds v := by
  intro h
  have h0 : ((0 + (((1 + Int.tmod (v 4) (1000)) * 127) * 127)) - (16020 * (1 + Int.tmod (v 4) (1000)))) ≤ (-1) := h _ (.head _)
  have h1 : (-1) < Int.tmod (v 4) (1000) := h _ (.tail _ (.head _))
  clear h
  first | omega | (simp only [Go.Ev.tmod_e] at *; omega)
def dead8 : List Fact := [⟨(.bin .sub (.bin .mul (.lit 16277) (.bin .add (.lit 1) (.bin .rem (.var 4) (.lit 1000)))) (.bin .add (.lit 0) (.bin .mul (.bin .mul (.bin .add (.lit 1) (.bin .rem (.var 4) (.lit 1000))) (.lit 127)) (.lit 127)))), (-1), true⟩, ⟨(.bin .rem (.var 4) (.lit 1000)), (-1), false⟩]
theorem dead8_no (v : Nat → Int) : ¬ ∀ f ∈ dead8, f.holds v := by
  intro h
  have h0 : ((16277 * (1 + Int.tmod (v 4) (1000))) - (0 + (((1 + Int.tmod (v 4) (1000)) * 127) * 127))) ≤ (-1) := h _ (.head _)
  have h1 : (-1) < Int.tmod (v 4) (1000) := h _ (.tail _ (.head _))
  clear h
  first | omega | (simp only [Go.Ev.tmod_e] at *; omega)
def dead9 : List Fact := [⟨(.bin .sub (.bin .add (.lit 0) (.bin .mul (.bin .mul (.bin .add (.lit 1) (.bin .rem (.var 4) (.lit 1000))) (.lit 127)) (.lit 127))) (.bin .mul (.bin .add (.lit 1) (.bin .rem (.var 4) (.lit 1000))) (.lit 16129))), 0, false⟩]
theorem dead9_no (v : Nat → Int) : ¬ ∀ f ∈ dead9, f.holds v := by
  intro h
  have h0 : 0 < ((0 + (((1 + Int.tmod (v 4) (1000)) * 127) * 127)) - ((1 + Int.tmod (v 4) (1000)) * 16129)) := h _ (.head _)
  clear h
  first | omega | (simp only [Go.Ev.tmod_e] at *; omega)
def dead10 : List Fact := [⟨(.bin .sub (.bin .mul (.bin .mul (.bin .add (.lit 1) (.bin .add (.bin .rem (.var 4) (.lit 1000)) (.lit 1000))) (.lit 126)) (.lit (-12))) (.bin .mul (.bin .mul (.bin .add (.lit 1) (.bin .add (.bin .rem (.var 4) (.lit 1000)) (.lit 1000))) (.lit (-12))) (.lit 126))), (-1), true⟩]
theorem dead10_no (v : Nat → Int) : ¬ ∀ f ∈ dead10, f.holds v := by
  intro h
  have h0 : ((((1 + (Int.tmod (v 4) (1000) + 1000)) * 126) * (-12)) - (((1 + (Int.tmod (v 4) (1000) + 1000)) * (-12)) * 126)) ≤ (-1) := h _ (.head _)
  clear h
  first | omega | (simp only [Go.Ev.tmod_e] at *; omega)
def dead11 : List Fact := [⟨(.bin .sub (.bin .add (.bin .mul (.bin .mul (.bin .add (.lit 1) (.bin .add (.bin .rem (.var 4) (.lit 1000)) (.lit 1000))) (.lit (-12))) (.lit (-12))) (.bin .mul (.bin .mul (.bin .add (.lit 1) (.bin .add (.bin .rem (.var 4) (.lit 1000)) (.lit 1000))) (.lit 126)) (.lit 126))) (.bin .mul (.bin .add (.lit 1) (.bin .add (.bin .rem (.var 4) (.lit 1000)) (.lit 1000))) (.lit 16020))), (-1), true⟩]
theorem dead11_no (v : Nat → Int) : ¬ ∀ f ∈ dead11, f.holds v := by
  intro h
  have h0 : (((((1 + (Int.tmod (v 4) (1000) + 1000)) * (-12)) * (-12)) + (((1 + (Int.tmod (v 4) (1000) + 1000)) * 126) * 126)) - ((1 + (Int.tmod (v 4) (1000) + 1000)) * 16020)) ≤ (-1) := h _ (.head _)
  clear h
  first | omega | (simp only [Go.Ev.tmod_e] at *; omega)
def dead12 : List Fact := [⟨(.bin .sub (.bin .add (.bin .mul (.bin .mul (.bin .add (.lit 1) (.bin .add (.bin .rem (.var 4) (.lit 1000)) (.lit 1000))) (.lit (-12))) (.lit (-12))) (.bin .mul (.bin .mul (.bin .add (.lit 1) (.bin .add (.bin .rem (.var 4) (.lit 1000)) (.lit 1000))) (.lit 126)) (.lit 126))) (.bin .mul (.lit 16020) (.bin .add (.lit 1) (.bin .add (.bin .rem (.var 4) (.lit 1000)) (.lit 1000))))), (-1), true⟩]
theorem dead12_no (v : Nat → Int) : ¬ ∀ f ∈ dead12, f.holds v := by
  intro h
  have h0 : (((((1 + (Int.tmod (v 4) (1000) + 1000)) * (-12)) * (-12)) + (((1 + (Int.tmod (v 4) (1000) + 1000)) * 126) * 126)) - (16020 * (1 + (Int.tmod (v 4) (1000) + 1000)))) ≤ (-1) := h _ (.head _)
  clear h
  first | omega | (simp only [Go.Ev.tmod_e] at *; omega)
def dead13 : List Fact := [⟨(.bin .sub (.bin .mul (.lit 16277) (.bin .add (.lit 1) (.bin .add (.bin .rem (.var 4) (.lit 1000)) (.lit 1000)))) (.bin .add (.bin .mul (.bin .mul (.bin .add (.lit 1) (.bin .add (.bin .rem (.var 4) (.lit 1000)) (.lit 1000))) (.lit (-12))) (.lit (-12))) (.bin .mul (.bin .mul (.bin .add (.lit 1) (.bin .add (.bin .rem (.var 4) (.lit 1000)) (.lit 1000))) (.lit 126)) (.lit 126)))), (-1), true⟩]
theorem dead13_no (v : Nat → Int) : ¬ ∀ f ∈ dead13, f.holds v := by
  intro h
  have h0 : ((16277 * (1 + (Int.tmod (v 4) (1000) + 1000))) - ((((1 + (Int.tmod (v 4) (1000) + 1000)) * (-12)) * (-12)) + (((1 + (Int.tmod (v 4) (1000) + 1000)) * 126) * 126))) ≤ (-1) := h _ (.head _)
  clear h
  first | omega | (simp only [Go.Ev.tmod_e] at *; omega)
def dead14 : List Fact := [⟨(.bin .sub (.bin .add (.bin .mul (.bin .mul (.bin .add (.lit 1) (.bin .add (.bin .rem (.var 4) (.lit 1000)) (.lit 1000))) (.lit (-12))) (.lit (-12))) (.bin .mul (.bin .mul (.bin .add (.lit 1) (.bin .add (.bin .rem (.var 4) (.lit 1000)) (.lit 1000))) (.lit 126)) (.lit 126))) (.bin .mul (.bin .add (.lit 1) (.bin .add (.bin .rem (.var 4) (.lit 1000)) (.lit 1000))) (.lit 16020))), 0, false⟩]
theorem dead14_no (v : Nat → Int) : ¬ ∀ f ∈ dead14, f.holds v := by
  intro h
  have h0 : 0 < (((((1 + (Int.tmod (v 4) (1000) + 1000)) * (-12)) * (-12)) + (((1 + (Int.tmod (v 4) (1000) + 1000)) * 126) * 126)) - ((1 + (Int.tmod (v 4) (1000) + 1000)) * 16020)) := h _ (.head _)
  clear h
  first | omega | (simp only [Go.Ev.tmod_e] at *; omega)
def dead15 : List Fact := [⟨(.bin .sub (.bin .mul (.bin .mul (.bin .add (.lit 1) (.bin .add (.bin .rem (.var 4) (.lit 1000)) (.lit 1000))) (.lit 126)) (.lit (-12))) (.bin .mul (.bin .mul (.bin .add (.lit 1) (.bin .add (.bin .rem (.var 4) (.lit 1000)) (.lit 1000))) (.lit (-12))) (.lit 126))), 0, false⟩]
theorem dead15_no (v : Nat → Int) : ¬ ∀ f ∈ dead15, f.holds v := by
  intro h
  have h0 : 0 < ((((1 + (Int.tmod (v 4) (1000) + 1000)) * 126) * (-12)) - (((1 + (Int.tmod (v 4) (1000) + 1000)) * (-12)) * 126)) := h _ (.head _)
  clear h
  first | omega | (simp only [Go.Ev.tmod_e] at *; omega)
def dead16 : List Fact := [⟨(.bin .sub (.bin .mul (.bin .mul (.bin .add (.lit 1) (.bin .rem (.var 4) (.lit 1000))) (.lit 126)) (.lit (-12))) (.bin .mul (.bin .mul (.bin .add (.lit 1) (.bin .rem (.var 4) (.lit 1000))) (.lit (-12))) (.lit 126))), (-1), true⟩]
theorem dead16_no (v : Nat → Int) : ¬ ∀ f ∈ dead16, f.holds v := by
  intro h
  have h0 : ((((1 + Int.tmod (v 4) (1000)) * 126) * (-12)) - (((1 + Int.tmod (v 4) (1000)) * (-12)) * 126)) ≤ (-1) := h _ (.head _)
  clear h
  first | omega | (simp only [Go.Ev.tmod_e] at *; omega)
def dead17 : List Fact := [⟨(.bin .sub (.bin .add (.bin .mul (.bin .mul (.bin .add (.lit 1) (.bin .rem (.var 4) (.lit 1000))) (.lit (-12))) (.lit (-12))) (.bin .mul (.bin .mul (.bin .add (.lit 1) (.bin .rem (.var 4) (.lit 1000))) (.lit 126)) (.lit 126))) (.bin .mul (.bin .add (.lit 1) (.bin .rem (.var 4) (.lit 1000))) (.lit 16020))), (-1), true⟩]
theorem dead17_no (v : Nat → Int) : ¬ ∀ f ∈ dead17, f.holds v := by
  intro h
  have h0 : (((((1 + Int.tmod (v 4) (1000)) * (-12)) * (-12)) + (((1 + Int.tmod (v 4) (1000)) * 126) * 126)) - ((1 + Int.tmod (v 4) (1000)) * 16020)) ≤ (-1) := h _ (.head _)
  clear h
  first | omega | (simp only [Go.Ev.tmod_e] at *; omega)
def dead18 : List Fact := [⟨(.bin .sub (.bin .add (.bin .mul (.bin .mul (.bin .add (.lit 1) (.bin .rem (.var 4) (.lit 1000))) (.lit (-12))) (.lit (-12))) (.bin .mul (.bin .mul (.bin .add (.lit 1) (.bin .rem (.var 4) (.lit 1000))) (.lit 126)) (.lit 126))) (.bin .mul (.lit 16020) (.bin .add (.lit 1) (.bin .rem (.var 4) (.lit 1000))))), (-1), true⟩]
theorem dead18_no (v : Nat → Int) : ¬ ∀ f ∈ dead18, f.holds v := by
  intro h
  have h0 : (((((1 + Int.tmod (v 4) (1000)) * (-12)) * (-12)) + (((1 + Int.tmod (v 4) (1000)) * 126) * 126)) - (16020 * (1 + Int.tmod (v 4) (1000)))) ≤ (-1) := h _ (.head _)
  clear h
  first | omega | (simp only [Go.Ev.tmod_e] at *; omega)
def dead19 : List Fact := [⟨(.bin .sub (.bin .mul (.lit 16277) (.bin .add (.lit 1) (.bin .rem (.var 4) (.lit 1000)))) (.bin .add (.bin .mul (.bin .mul (.bin .add (.lit 1) (.bin .rem (.var 4) (.lit 1000))) (.lit (-12))) (.lit (-12))) (.bin .mul (.bin .mul (.bin .add (.lit 1) (.bin .rem (.var 4) (.lit 1000))) (.lit 126)) (.lit 126)))), (-1), true⟩, ⟨(.bin .rem (.var 4) (.lit 1000)), (-1), false⟩]
theorem dead19_no (v : Nat → Int) : ¬ ∀ f ∈ dead19, f.holds v := by
  intro h
  have h0 : ((16277 * (1 + Int.tmod (v 4) (1000))) - ((((1 + Int.tmod (v 4) (1000)) * (-12)) * (-12)) + (((1 + Int.tmod (v 4) (1000)) * 126) * 126))) ≤ (-1) := h _ (.head _)
  have h1 : (-1) < Int.tmod (v 4) (1000) := h _ (.tail _ (.head _))
  clear h
  first | omega | (simp only [Go.Ev.tmod_e] at *; omega)
def dead20 : List Fact := [⟨(.bin .sub (.bin .add (.bin .mul (.bin .mul (.bin .add (.lit 1) (.bin .rem (.var 4) (.lit 1000))) (.lit (-12))) (.lit (-12))) (.bin .mul (.bin .mul (.bin .add (.lit 1) (.bin .rem (.var 4) (.lit 1000))) (.lit 126)) (.lit 126))) (.bin .mul (.bin .add (.lit 1) (.bin .rem (.var 4) (.lit 1000))) (.lit 16020))), 0, false⟩]
theorem dead20_no (v : Nat → Int) : ¬ ∀ f ∈ dead20, f.holds v := by
  intro h
  have h0 : 0 < (((((1 + Int.tmod (v 4) (1000)) * (-12)) * (-12)) + (((1 + Int.tmod (v 4) (1000)) * 126) * 126)) - ((1 + Int.tmod (v 4) (1000)) * 16020)) := h _ (.head _)
  clear h
  first | omega | (simp only [Go.Ev.tmod_e] at *; omega)
def dead21 : List Fact := [⟨(.bin .sub (.bin .mul (.bin .mul (.bin .add (.lit 1) (.bin .rem (.var 4) (.lit 1000))) (.lit 126)) (.lit (-12))) (.bin .mul (.bin .mul (.bin .add (.lit 1) (.bin .rem (.var 4) (.lit 1000))) (.lit (-12))) (.lit 126))), 0, false⟩]
theorem dead21_no (v : Nat → Int) : ¬ ∀ f ∈ dead21, f.holds v := by
  intro h
  have h0 : 0 < ((((1 + Int.tmod (v 4) (1000)) * 126) * (-12)) - (((1 + Int.tmod (v 4) (1000)) * (-12)) * 126)) := h _ (.head _)
  clear h
  first | omega | (simp only [Go.Ev.tmod_e] at *; omega)
def dead22 : List Fact := [⟨(.bin .sub (.bin .mul (.bin .mul (.bin .add (.lit 1) (.bin .add (.bin .rem (.var 4) (.lit 1000)) (.lit 1000))) (.lit 125)) (.lit (-25))) (.bin .mul (.bin .mul (.bin .add (.lit 1) (.bin .add (.bin .rem (.var 4) (.lit 1000)) (.lit 1000))) (.lit (-25))) (.lit 125))), (-1), true⟩]
theorem dead22_no (v : Nat → Int) : ¬ ∀ f ∈ dead22, f.holds v := by
  intro h
  have h0 : ((((1 + (Int.tmod (v 4) (1000) + 1000)) * 125) * (-25)) - (((1 + (Int.tmod (v 4) (1000) + 1000)) * (-25)) * 125)) ≤ (-1) := h _ (.head _)
  clear h
  first | omega | (simp only [Go.Ev.tmod_e] at *; omega)
def dead23 : List Fact := [⟨(.bin .sub (.bin .add (.bin .mul (.bin .mul (.bin .add (.lit 1) (.bin .add (.bin .rem (.var 4) (.lit 1000)) (.lit 1000))) (.lit (-25))) (.lit (-25))) (.bin .mul (.bin .mul (.bin .add (.lit 1) (.bin .add (.bin .rem (.var 4) (.lit 1000)) (.lit 1000))) (.lit 125)) (.lit 125))) (.bin .mul (.bin .add (.lit 1) (.bin .add (.bin .rem (.var 4) (.lit 1000)) (.lit 1000))) (.lit 16250))), (-1), true⟩]
theorem dead23_no (v : Nat → Int) : ¬ ∀ f ∈ dead23, f.holds v := by
  intro h
  have h0 : (((((1 + (Int.tmod (v 4) (1000) + 1000)) * (-25)) * (-25)) + (((1 + (Int.tmod (v 4) (1000) + 1000)) * 125) * 125)) - ((1 + (Int.tmod (v 4) (1000) + 1000)) * 16250)) ≤ (-1) := h _ (.head _)
  clear h
  first | omega | (simp only [Go.Ev.tmod_e] at *; omega)
def dead24 : List Fact := [⟨(.bin .sub (.bin .add (.bin .mul (.bin .mul (.bin .add (.lit 1) (.bin .add (.bin .rem (.var 4) (.lit 1000)) (.lit 1000))) (.lit (-25))) (.lit (-25))) (.bin .mul (.bin .mul (.bin .add (.lit 1) (.bin .add (.bin .rem (.var 4) (.lit 1000)) (.lit 1000))) (.lit 125)) (.lit 125))) (.bin .mul (.lit 16020) (.bin .add (.lit 1) (.bin .add (.bin .rem (.var 4) (.lit 1000)) (.lit 1000))))), (-1), true⟩]
theorem dead24_no (v : Nat → Int) : ¬ ∀ f ∈ dead24, f.holds v := by
  intro h
  have h0 : (((((1 + (Int.tmod (v 4) (1000) + 1000)) * (-25)) * (-25)) + (((1 + (Int.tmod (v 4) (1000) + 1000)) * 125) * 125)) - (16020 * (1 + (Int.tmod (v 4) (1000) + 1000)))) ≤ (-1) := h _ (.head _)
  clear h
  first | omega | (simp only [Go.Ev.tmod_e] at *; omega)
def dead25 : List Fact := [⟨(.bin .sub (.bin .mul (.lit 16277) (.bin .add (.lit 1) (.bin .add (.bin .rem (.var 4) (.lit 1000)) (.lit 1000)))) (.bin .add (.bin .mul (.bin .mul (.bin .add (.lit 1) (.bin .add (.bin .rem (.var 4) (.lit 1000)) (.lit 1000))) (.lit (-25))) (.lit (-25))) (.bin .mul (.bin .mul (.bin .add (.lit 1) (.bin .add (.bin .rem (.var 4) (.lit 1000)) (.lit 1000))) (.lit 125)) (.lit 125)))), (-1), true⟩]
theorem dead25_no (v : Nat → Int) : ¬ ∀ f ∈ dead25, f.holds v := by
  intro h
  have h0 : ((16277 * (1 + (Int.tmod (v 4) (1000) + 1000))) - ((((1 + (Int.tmod (v 4) (1000) + 1000)) * (-25)) * (-25)) + (((1 + (Int.tmod (v 4) (1000) + 1000)) * 125) * 125))) ≤ (-1) := h _ (.head _)
  clear h
  first | omega | (simp only [Go.Ev.tmod_e] at *; omega)
def dead26 : List Fact := [⟨(.bin .sub (.bin .add (.bin .mul (.bin .mul (.bin .add (.lit 1) (.bin .add (.bin .rem (.var 4) (.lit 1000)) (.lit 1000))) (.lit (-25))) (.lit (-25))) (.bin .mul (.bin .mul (.bin .add (.lit 1) (.bin .add (.bin .rem (.var 4) (.lit 1000)) (.lit 1000))) (.lit 125)) (.lit 125))) (.bin .mul (.bin .add (.lit 1) (.bin .add (.bin .rem (.var 4) (.lit 1000)) (.lit 1000))) (.lit 16250))), 0, false⟩]
theorem dead26_no (v : Nat → Int) : ¬ ∀ f ∈ dead26, f.holds v := by
  intro h
  have h0 : 0 < (((((1 + (Int.tmod (v 4) (1000) + 1000)) * (-25)) * (-25)) + (((1 + (Int.tmod (v 4) (1000) + 1000)) * 125) * 125)) - ((1 + (Int.tmod (v 4) (1000) + 1000)) * 16250)) := h _ (.head _)
  clear h
  first | omega | (simp only [Go.Ev.tmod_e] at *; omega)
def dead27 : List Fact := [⟨(.bin .sub (.bin .mul (.bin .mul (.bin .add (.lit 1) (.bin .add (.bin .rem (.var 4) (.lit 1000)) (.lit 1000))) (.lit 125)) (.lit (-25))) (.bin .mul (.bin .mul (.bin .add (.lit 1) (.bin .add (.bin .rem (.var 4) (.lit 1000)) (.lit 1000))) (.lit (-25))) (.lit 125))), 0, false⟩]
theorem dead27_no (v : Nat → Int) : ¬ ∀ f ∈ dead27, f.holds v := by
  intro h
  have h0 : 0 < ((((1 + (Int.tmod (v 4) (1000) + 1000)) * 125) * (-25)) - (((1 + (Int.tmod (v 4) (1000) + 1000)) * (-25)) * 125)) := h _ (.head _)
  clear h
  first | omega | (simp only [Go.Ev.tmod_e] at *; omega)
def dead28 : List Fact := [⟨(.bin .sub (.bin .mul (.bin .mul (.bin .add (.lit 1) (.bin .rem (.var 4) (.lit 1000))) (.lit 125)) (.lit (-25))) (.bin .mul (.bin .mul (.bin .add (.lit 1) (.bin .rem (.var 4) (.lit 1000))) (.lit (-25))) (.lit 125))), (-1), true⟩]
theorem dead28_no (v : Nat → Int) : ¬ ∀ f ∈ dead28, f.holds v := by
  intro h
  have h0 : ((((1 + Int.tmod (v 4) (1000)) * 125) * (-25)) - (((1 + Int.tmod (v 4) (1000)) * (-25)) * 125)) ≤ (-1) := h _ (.head _)
  clear h
  first | omega | (simp only [Go.Ev.tmod_e] at *; omega)
def dead29 : List Fact := [⟨(.bin .sub (.bin .add (.bin .mul (.bin .mul (.bin .add (.lit 1) (.bin .rem (.var 4) (.lit 1000))) (.lit (-25))) (.lit (-25))) (.bin .mul (.bin .mul (.bin .add (.lit 1) (.bin .rem (.var 4) (.lit 1000))) (.lit 125)) (.lit 125))) (.bin .mul (.bin .add (.lit 1) (.bin .rem (.var 4) (.lit 1000))) (.lit 16250))), (-1), true⟩]
theorem dead29_no (v : Nat → Int) : ¬ ∀ f ∈ dead29, f.holds v := by
  intro h
  have h0 : (((((1 + Int.tmod (v 4) (1000)) * (-25)) * (-25)) + (((1 + Int.tmod (v 4) (1000)) * 125) * 125)) - ((1 + Int.tmod (v 4) (1000)) * 16250)) ≤ (-1) := h _ (.head _)
  clear h
  first | omega | (simp only [Go.Ev.tmod_e] at *; omega)
def dead30 : List Fact := [⟨(.bin .sub (.bin .add (.bin .mul (.bin .mul (.bin .add (.lit 1) (.bin .rem (.var 4) (.lit 1000))) (.lit (-25))) (.lit (-25))) (.bin .mul (.bin .mul (.bin .add (.lit 1) (.bin .rem (.var 4) (.lit 1000))) (.lit 125)) (.lit 125))) (.bin .mul (.lit 16020) (.bin .add (.lit 1) (.bin .rem (.var 4) (.lit 1000))))), (-1), true⟩, ⟨(.bin .rem (.var 4) (.lit 1000)), (-1), false⟩]
theorem dead30_no (v : Nat → Int) : ¬ ∀ f ∈ dead30, f.holds v := by
  intro h
  have h0 : (((((1 + Int.tmod (v 4) (1000)) * (-25)) * (-25)) + (((1 + Int.tmod (v 4) (1000)) * 125) * 125)) - (16020 * (1 + Int.tmod (v 4) (1000)))) ≤ (-1) := h _ (.head _)
  have h1 : (-1) < Int.tmod (v 4) (1000) := h _ (.tail _ (.head _))
  clear h
  first | omega | (simp only [Go.Ev.tmod_e] at *; omega)
def dead31 : List Fact := [⟨(.bin .sub (.bin .mul (.lit 16277) (.bin .add (.lit 1) (.bin .rem (.var 4) (.lit 1000)))) (.bin .add (.bin .mul (.bin .mul (.bin .add (.lit 1) (.bin .rem (.var 4) (.lit 1000))) (.lit (-25))) (.lit (-25))) (.bin .mul (.bin .mul (.bin .add (.lit 1) (.bin .rem (.var 4) (.lit 1000))) (.lit 125)) (.lit 125)))), (-1), true⟩, ⟨(.bin .rem (.var 4) (.lit 1000)), (-1), false⟩]
theorem dead31_no (v : Nat → Int) : ¬ ∀ f ∈ dead31, f.holds v := by
  intro h
  have h0 : ((16277 * (1 + Int.tmod (v 4) (1000))) - ((((1 + Int.tmod (v 4) (1000)) * (-25)) * (-25)) + (((1 + Int.tmod (v 4) (1000)) * 125) * 125))) ≤ (-1) := h _ (.head _)
  have h1 : (-1) < Int.tmod (v 4) (1000) := h _ (.tail _ (.head _))
  clear h
  first | omega | (simp only [Go.Ev.tmod_e] at *; omega)
def dead32 : List Fact := [⟨(.bin .sub (.bin .add (.bin .mul (.bin .mul (.bin .add (.lit 1) (.bin .rem (.var 4) (.lit 1000))) (.lit (-25))) (.lit (-25))) (.bin .mul (.bin .mul (.bin .add (.lit 1) (.bin .rem (.var 4) (.lit 1000))) (.lit 125)) (.lit 125))) (.bin .mul (.bin .add (.lit 1) (.bin .rem (.var 4) (.lit 1000))) (.lit 16250))), 0, false⟩]
theorem dead32_no (v : Nat → Int) : ¬ ∀ f ∈ dead32, f.holds v := by
  intro h
  have h0 : 0 < (((((1 + Int.tmod (v 4) (1000)) * (-25)) * (-25)) + (((1 + Int.tmod (v 4) (1000)) * 125) * 125)) - ((1 + Int.tmod (v 4) (1000)) * 16250)) := h _ (.head _)
  clear h
  first | omega | (simp only [Go.Ev.tmod_e] at *; omega)
def dead33 : List Fact := [⟨(.bin .sub (.bin .mul (.bin .mul (.bin .add (.lit 1) (.bin .rem (.var 4) (.lit 1000))) (.lit 125)) (.lit (-25))) (.bin .mul (.bin .mul (.bin .add (.lit 1) (.bin .rem (.var 4) (.lit 1000))) (.lit (-25))) (.lit 125))), 0, false⟩]
theorem dead33_no (v : Nat → Int) : ¬ ∀ f ∈ dead33, f.holds v := by
  intro h
  have h0 : 0 < ((((1 + Int.tmod (v 4) (1000)) * 125) * (-25)) - (((1 + Int.tmod (v 4) (1000)) * (-25)) * 125)) := h _ (.head _)
  clear h
  first | omega | (simp only [Go.Ev.tmod_e] at *; omega)
def dead34 : List Fact := [⟨(.bin .sub (.bin .mul (.bin .mul (.bin .add (.lit 1) (.bin .add (.bin .rem (.var 4) (.lit 1000)) (.lit 1000))) (.lit 122)) (.lit (-37))) (.bin .mul (.bin .mul (.bin .add (.lit 1) (.bin .add (.bin .rem (.var 4) (.lit 1000)) (.lit 1000))) (.lit (-37))) (.lit 122))), (-1), true⟩]
theorem dead34_no (v : Nat → Int) : ¬ ∀ f ∈ dead34, f.holds v := by
  intro h
  have h0 : ((((1 + (Int.tmod (v 4) (1000) + 1000)) * 122) * (-37)) - (((1 + (Int.tmod (v 4) (1000) + 1000)) * (-37)) * 122)) ≤ (-1) := h _ (.head _)
  clear h
  first | omega | (simp only [Go.Ev.tmod_e] at *; omega)
def dead35 : List Fact := [⟨(.bin .sub (.bin .add (.bin .mul (.bin .mul (.bin .add (.lit 1) (.bin .add (.bin .rem (.var 4) (.lit 1000)) (.lit 1000))) (.lit (-37))) (.lit (-37))) (.bin .mul (.bin .mul (.bin .add (.lit 1) (.bin .add (.bin .rem (.var 4) (.lit 1000)) (.lit 1000))) (.lit 122)) (.lit 122))) (.bin .mul (.bin .add (.lit 1) (.bin .add (.bin .rem (.var 4) (.lit 1000)) (.lit 1000))) (.lit 16253))), (-1), true⟩]
theorem dead35_no (v : Nat → Int) : ¬ ∀ f ∈ dead35, f.holds v := by
  intro h
  have h0 : (((((1 + (Int.tmod (v 4) (1000) + 1000)) * (-37)) * (-37)) + (((1 + (Int.tmod (v 4) (1000) + 1000)) * 122) * 122)) - ((1 + (Int.tmod (v 4) (1000) + 1000)) * 16253)) ≤ (-1) := h _ (.head _)
  clear h
  first | omega | (simp only [Go.Ev.tmod_e] at *; omega)
def dead36 : List Fact := [⟨(.bin .sub (.bin .add (.bin .mul (.bin .mul (.bin .add (.lit 1) (.bin .add (.bin .rem (.var 4) (.lit 1000)) (.lit 1000))) (.lit (-37))) (.lit (-37))) (.bin .mul (.bin .mul (.bin .add (.lit 1) (.bin .add (.bin .rem (.var 4) (.lit 1000)) (.lit 1000))) (.lit 122)) (.lit 122))) (.bin .mul (.lit 16020) (.bin .add (.lit 1) (.bin .add (.bin .rem (.var 4) (.lit 1000)) (.lit 1000))))), (-1), true⟩]
theorem dead36_no (v : Nat → Int) : ¬ ∀ f ∈ dead36, f.holds v := by
  intro h
  have h0 : (((((1 + (Int.tmod (v 4) (1000) + 1000)) * (-37)) * (-37)) + (((1 + (Int.tmod (v 4) (1000) + 1000)) * 122) * 122)) - (16020 * (1 + (Int.tmod (v 4) (1000) + 1000)))) ≤ (-1) := h _ (.head _)
  clear h
  first | omega | (simp only [Go.Ev.tmod_e] at *; omega)
def dead37 : List Fact := [⟨(.bin .sub (.bin .mul (.lit 16277) (.bin .add (.lit 1) (.bin .add (.bin .rem (.var 4) (.lit 1000)) (.lit 1000)))) (.bin .add (.bin .mul (.bin .mul (.bin .add (.lit 1) (.bin .add (.bin .rem (.var 4) (.lit 1000)) (.lit 1000))) (.lit (-37))) (.lit (-37))) (.bin .mul (.bin .mul (.bin .add (.lit 1) (.bin .add (.bin .rem (.var 4) (.lit 1000)) (.lit 1000))) (.lit 122)) (.lit 122)))), (-1), true⟩]
theorem dead37_no (v : Nat → Int) : ¬ ∀ f ∈ dead37, f.holds v := by
  intro h
  have h0 : ((16277 * (1 + (Int.tmod (v 4) (1000) + 1000))) - ((((1 + (Int.tmod (v 4) (1000) + 1000)) * (-37)) * (-37)) + (((1 + (Int.tmod (v 4) (1000) + 1000)) * 122) * 122))) ≤ (-1) := h _ (.head _)
  clear h
  first | omega | (simp only [Go.Ev.tmod_e] at *; omega)
def dead38 : List Fact := [⟨(.bin .sub (.bin .add (.bin .mul (.bin .mul (.bin .add (.lit 1) (.bin .add (.bin .rem (.var 4) (.lit 1000)) (.lit 1000))) (.lit (-37))) (.lit (-37))) (.bin .mul (.bin .mul (.bin .add (.lit 1) (.bin .add (.bin .rem (.var 4) (.lit 1000)) (.lit 1000))) (.lit 122)) (.lit 122))) (.bin .mul (.bin .add (.lit 1) (.bin .add (.bin .rem (.var 4) (.lit 1000)) (.lit 1000))) (.lit 16253))), 0, false⟩]
theorem dead38_no (v : Nat → Int) : ¬ ∀ f ∈ dead38, f.holds v := by
  intro h
  have h0 : 0 < (((((1 + (Int.tmod (v 4) (1000) + 1000)) * (-37)) * (-37)) + (((1 + (Int.tmod (v 4) (1000) + 1000)) * 122) * 122)) - ((1 + (Int.tmod (v 4) (1000) + 1000)) * 16253)) := h _ (.head _)
  clear h
  first | omega | (simp only [Go.Ev.tmod_e] at *; omega)
def dead39 : List Fact := [⟨(.bin .sub (.bin .mul (.bin .mul (.bin .add (.lit 1) (.bin .add (.bin .rem (.var 4) (.lit 1000)) (.lit 1000))) (.lit 122)) (.lit (-37))) (.bin .mul (.bin .mul (.bin .add (.lit 1) (.bin .add (.bin .rem (.var 4) (.lit 1000)) (.lit 1000))) (.lit (-37))) (.lit 122))), 0, false⟩]
theorem dead39_no (v : Nat → Int) : ¬ ∀ f ∈ dead39, f.holds v := by
  intro h
  have h0 : 0 < ((((1 + (Int.tmod (v 4) (1000) + 1000)) * 122) * (-37)) - (((1 + (Int.tmod (v 4) (1000) + 1000)) * (-37)) * 122)) := h _ (.head _)
  clear h
  first | omega | (simp only [Go.Ev.tmod_e] at *; omega)
def dead40 : List Fact := [⟨(.bin .sub (.bin .mul (.bin .mul (.bin .add (.lit 1) (.bin .rem (.var 4) (.lit 1000))) (.lit 122)) (.lit (-37))) (.bin .mul (.bin .mul (.bin .add (.lit 1) (.bin .rem (.var 4) (.lit 1000))) (.lit (-37))) (.lit 122))), (-1), true⟩]
theorem dead40_no (v : Nat → Int) : ¬ ∀ f ∈ dead40, f.holds v := by
  intro h
  have h0 : ((((1 + Int.tmod (v 4) (1000)) * 122) * (-37)) - (((1 + Int.tmod (v 4) (1000)) * (-37)) * 122)) ≤ (-1) := h _ (.head _)
  clear h
  first | omega | (simp only [Go.Ev.tmod_e] at *; omega)
def dead41 : List Fact := [⟨(.bin .sub (.bin .add (.bin .mul (.bin .mul (.bin .add (.lit 1) (.bin .rem (.var 4) (.lit 1000))) (.lit (-37))) (.lit (-37))) (.bin .mul (.bin .mul (.bin .add (.lit 1) (.bin .rem (.var 4) (.lit 1000))) (.lit 122)) (.lit 122))) (.bin .mul (.bin .add (.lit 1) (.bin .rem (.var 4) (.lit 1000))) (.lit 16253))), (-1), true⟩]
theorem dead41_no (v : Nat → Int) : ¬ ∀ f ∈ dead41, f.holds v := by
  intro h
  have h0 : (((((1 + Int.tmod (v 4) (1000)) * (-37)) * (-37)) + (((1 + Int.tmod (v 4) (1000)) * 122) * 122)) - ((1 + Int.tmod (v 4) (1000)) * 16253)) ≤ (-1) := h _ (.head _)
  clear h
  first | omega | (simp only [Go.Ev.tmod_e] at *; omega)
def dead42 : List Fact := [⟨(.bin .sub (.bin .add (.bin .mul (.bin .mul (.bin .add (.lit 1) (.bin .rem (.var 4) (.lit 1000))) (.lit (-37))) (.lit (-37))) (.bin .mul (.bin .mul (.bin .add (.lit 1) (.bin .rem (.var 4) (.lit 1000))) (.lit 122)) (.lit 122))) (.bin .mul (.lit 16020) (.bin .add (.lit 1) (.bin .rem (.var 4) (.lit 1000))))), (-1), true⟩, ⟨(.bin .rem (.var 4) (.lit 1000)), (-1), false⟩]
theorem dead42_no (v : Nat → Int) : ¬ ∀ f ∈ dead42, f.holds v := by
  intro h
  have h0 : (((((1 + Int.tmod (v 4) (1000)) * (-37)) * (-37)) + (((1 + Int.tmod (v 4) (1000)) * 122) * 122)) - (16020 * (1 + Int.tmod (v 4) (1000)))) ≤ (-1) := h _ (.head _)
  have h1 : (-1) < Int.tmod (v 4) (1000) := h _ (.tail _ (.head _))
  clear h
  first | omega | (simp only [Go.Ev.tmod_e] at *; omega)
def dead43 : List Fact := [⟨(.bin .sub (.bin .mul (.lit 16277) (.bin .add (.lit 1) (.bin .rem (.var 4) (.lit 1000)))) (.bin .add (.bin .mul (.bin .mul (.bin .add (.lit 1) (.bin .rem (.var 4) (.lit 1000))) (.lit (-37))) (.lit (-37))) (.bin .mul (.bin .mul (.bin .add (.lit 1) (.bin .rem (.var 4) (.lit 1000))) (.lit 122)) (.lit 122)))), (-1), true⟩, ⟨(.bin .rem (.var 4) (.lit 1000)), (-1), false⟩]
theorem dead43_no (v : Nat → Int) : ¬ ∀ f ∈ dead43, f.holds v := by
  intro h
  have h0 : ((16277 * (1 + Int.tmod (v 4) (1000))) - ((((1 + Int.tmod (v 4) (1000)) * (-37)) * (-37)) + (((1 + Int.tmod (v 4) (1000)) * 122) * 122))) ≤ (-1) := h _ (.head _)
  have h1 : (-1) < Int.tmod (v 4) (1000) := h _ (.tail _ (.head _))
  clear h
  first | omega | (simp only [Go.Ev.tmod_e] at *; omega)
def dead44 : List Fact := [⟨(.bin .sub (.bin .add (.bin .mul (.bin .mul (.bin .add (.lit 1) (.bin .rem (.var 4) (.lit 1000))) (.lit (-37))) (.lit (-37))) (.bin .mul (.bin .mul (.bin .add (.lit 1) (.bin .rem (.var 4) (.lit 1000))) (.lit 122)) (.lit 122))) (.bin .mul (.bin .add (.lit 1) (.bin .rem (.var 4) (.lit 1000))) (.lit 16253))), 0, false⟩]
theorem dead44_no (v : Nat → Int) : ¬ ∀ f ∈ dead44, f.holds v := by
  intro h
  have h0 : 0 < (((((1 + Int.tmod (v 4) (1000)) * (-37)) * (-37)) + (((1 + Int.tmod (v 4) (1000)) * 122) * 122)) - ((1 + Int.tmod (v 4) (1000)) * 16253)) := h _ (.head _)
  clear h
  first | omega | (simp only [Go.Ev.tmod_e] at *; omega)
def dead45 : List Fact := [⟨(.bin .sub (.bin .mul (.bin .mul (.bin .add (.lit 1) (.bin .rem (.var 4) (.lit 1000))) (.lit 122)) (.lit (-37))) (.bin .mul (.bin .mul (.bin .add (.lit 1) (.bin .rem (.var 4) (.lit 1000))) (.lit (-37))) (.lit 122))), 0, false⟩]
theorem dead45_no (v : Nat → Int) : ¬ ∀ f ∈ dead45, f.holds v := by
  intro h
  have h0 : 0 < ((((1 + Int.tmod (v 4) (1000)) * 122) * (-37)) - (((1 + Int.tmod (v 4) (1000)) * (-37)) * 122)) := h _ (.head _)
  clear h
  first | omega | (simp only [Go.Ev.tmod_e] at *; omega)
def dead46 : List Fact := [⟨(.bin .sub (.bin .mul (.bin .mul (.bin .add (.lit 1) (.bin .add (.bin .rem (.var 4) (.lit 1000)) (.lit 1000))) (.lit 117)) (.lit (-49))) (.bin .mul (.bin .mul (.bin .add (.lit 1) (.bin .add (.bin .rem (.var 4) (.lit 1000)) (.lit 1000))) (.lit (-49))) (.lit 117))), (-1), true⟩]
theorem dead46_no (v : Nat → Int) : ¬ ∀ f ∈ dead46, f.holds v := by
  intro h
  have h0 : ((((1 + (Int.tmod (v 4) (1000) + 1000)) * 117) * (-49)) - (((1 + (Int.tmod (v 4) (1000) + 1000)) * (-49)) * 117)) ≤ (-1) := h _ (.head _)
  clear h
  first | omega | (simp only [Go.Ev.tmod_e] at *; omega)
def dead47 : List Fact := [⟨(.bin .sub (.bin .add (.bin .mul (.bin .mul (.bin .add (.lit 1) (.bin .add (.bin .rem (.var 4) (.lit 1000)) (.lit 1000))) (.lit (-49))) (.lit (-49))) (.bin .mul (.bin .mul (.bin .add (.lit 1) (.bin .add (.bin .rem (.var 4) (.lit 1000)) (.lit 1000))) (.lit 117)) (.lit 117))) (.bin .mul (.bin .add (.lit 1) (.bin .add (.bin .rem (.var 4) (.lit 1000)) (.lit 1000))) (.lit 16090))), (-1), true⟩]
theorem dead47_no (v : Nat → Int) : ¬ ∀ f ∈ dead47, f.holds v := by
  intro h
  have h0 : (((((1 + (Int.tmod (v 4) (1000) + 1000)) * (-49)) * (-49)) + (((1 + (Int.tmod (v 4) (1000) + 1000)) * 117) * 117)) - ((1 + (Int.tmod (v 4) (1000) + 1000)) * 16090)) ≤ (-1) := h _ (.head _)
  clear h
  first | omega | (simp only [Go.Ev.tmod_e] at *; omega)
def dead48 : List Fact := [⟨(.bin .sub (.bin .add (.bin .mul (.bin .mul (.bin .add (.lit 1) (.bin .add (.bin .rem (.var 4) (.lit 1000)) (.lit 1000))) (.lit (-49))) (.lit (-49))) (.bin .mul (.bin .mul (.bin .add (.lit 1) (.bin .add (.bin .rem (.var 4) (.lit 1000)) (.lit 1000))) (.lit 117)) (.lit 117))) (.bin .mul (.lit 16020) (.bin .add (.lit 1) (.bin .add (.bin .rem (.var 4) (.lit 1000)) (.lit 1000))))), (-1), true⟩]
theorem dead48_no (v : Nat → Int) : ¬ ∀ f ∈ dead48, f.holds v := by
  intro h
  have h0 : (((((1 + (Int.tmod (v 4) (1000) + 1000)) * (-49)) * (-49)) + (((1 + (Int.tmod (v 4) (1000) + 1000)) * 117) * 117)) - (16020 * (1 + (Int.tmod (v 4) (1000) + 1000)))) ≤ (-1) := h _ (.head _)
  clear h
  first | omega | (simp only [Go.Ev.tmod_e] at *; omega)
def dead49 : List Fact := [⟨(.bin .sub (.bin .mul (.lit 16277) (.bin .add (.lit 1) (.bin .add (.bin .rem (.var 4) (.lit 1000)) (.lit 1000)))) (.bin .add (.bin .mul (.bin .mul (.bin .add (.lit 1) (.bin .add (.bin .rem (.var 4) (.lit 1000)) (.lit 1000))) (.lit (-49))) (.lit (-49))) (.bin .mul (.bin .mul (.bin .add (.lit 1) (.bin .add (.bin .rem (.var 4) (.lit 1000)) (.lit 1000))) (.lit 117)) (.lit 117)))), (-1), true⟩]
theorem dead49_no (v : Nat → Int) : ¬ ∀ f ∈ dead49, f.holds v := by
  intro h
  have h0 : ((16277 * (1 + (Int.tmod (v 4) (1000) + 1000))) - ((((1 + (Int.tmod (v 4) (1000) + 1000)) * (-49)) * (-49)) + (((1 + (Int.tmod (v 4) (1000) + 1000)) * 117) * 117))) ≤ (-1) := h _ (.head _)
  clear h
  first | omega | (simp only [Go.Ev.tmod_e] at *; omega)
def dead50 : List Fact := [⟨(.bin .sub (.bin .add (.bin .mul (.bin .mul (.bin .add (.lit 1) (.bin .add (.bin .rem (.var 4) (.lit 1000)) (.lit 1000))) (.lit (-49))) (.lit (-49))) (.bin .mul (.bin .mul (.bin .add (.lit 1) (.bin .add (.bin .rem (.var 4) (.lit 1000)) (.lit 1000))) (.lit 117)) (.lit 117))) (.bin .mul (.bin .add (.lit 1) (.bin .add (.bin .rem (.var 4) (.lit 1000)) (.lit 1000))) (.lit 16090))), 0, false⟩]
theorem dead50_no (v : Nat → Int) : ¬ ∀ f ∈ dead50, f.holds v := by
  intro h
  have h0 : 0 < (((((1 + (Int.tmod (v 4) (1000) + 1000)) * (-49)) * (-49)) + (((1 + (Int.tmod (v 4) (1000) + 1000)) * 117) * 117)) - ((1 + (Int.tmod (v 4) (1000) + 1000)) * 16090)) := h _ (.head _)
  clear h
  first | omega | (simp only [Go.Ev.tmod_e] at *; omega)
def dead51 : List Fact := [⟨(.bin .sub (.bin .mul (.bin .mul (.bin .add (.lit 1) (.bin .add (.bin .rem (.var 4) (.lit 1000)) (.lit 1000))) (.lit 117)) (.lit (-49))) (.bin .mul (.bin .mul (.bin .add (.lit 1) (.bin .add (.bin .rem (.var 4) (.lit 1000)) (.lit 1000))) (.lit (-49))) (.lit 117))), 0, false⟩]
theorem dead51_no (v : Nat → Int) : ¬ ∀ f ∈ dead51, f.holds v := by
  intro h
  have h0 : 0 < ((((1 + (Int.tmod (v 4) (1000) + 1000)) * 117) * (-49)) - (((1 + (Int.tmod (v 4) (1000) + 1000)) * (-49)) * 117)) := h _ (.head _)
  clear h
  first | omega | (simp only [Go.Ev.tmod_e] at *; omega)
def dead52 : List Fact := [⟨(.bin .sub (.bin .mul (.bin .mul (.bin .add (.lit 1) (.bin .rem (.var 4) (.lit 1000))) (.lit 117)) (.lit (-49))) (.bin .mul (.bin .mul (.bin .add (.lit 1) (.bin .rem (.var 4) (.lit 1000))) (.lit (-49))) (.lit 117))), (-1), true⟩]
theorem dead52_no (v : Nat → Int) : ¬ ∀ f ∈ dead52, f.holds v := by
  intro h
  have h0 : ((((1 + Int.tmod (v 4) (1000)) * 117) * (-49)) - (((1 + Int.tmod (v 4) (1000)) * (-49)) * 117)) ≤ (-1) := h _ (.head _)
  clear h
  first | omega | (simp only [Go.Ev.tmod_e] at *; omega)
def dead53 : List Fact := [⟨(.bin .sub (.bin .add (.bin .mul (.bin .mul (.bin .add (.lit 1) (.bin .rem (.var 4) (.lit 1000))) (.lit (-49))) (.lit (-49))) (.bin .mul (.bin .mul (.bin .add (.lit 1) (.bin .rem (.var 4) (.lit 1000))) (.lit 117)) (.lit 117))) (.bin .mul (.bin .add (.lit 1) (.bin .rem (.var 4) (.lit 1000))) (.lit 16090))), (-1), true⟩]
theorem dead53_no (v : Nat → Int) : ¬ ∀ f ∈ dead53, f.holds v := by
  intro h
  have h0 : (((((1 + Int.tmod (v 4) (1000)) * (-49)) * (-49)) + (((1 + Int.tmod (v 4) (1000)) * 117) * 117)) - ((1 + Int.tmod (v 4) (1000)) * 16090)) ≤ (-1) := h _ (.head _)
  clear h
  first | omega | (simp only [Go.Ev.tmod_e] at *; omega)
def dead54 : List Fact := [⟨(.bin .sub (.bin .add (.bin .mul (.bin .mul (.bin .add (.lit 1) (.bin .rem (.var 4) (.lit 1000))) (.lit (-49))) (.lit (-49))) (.bin .mul (.bin .mul (.bin .add (.lit 1) (.bin .rem (.var 4) (.lit 1000))) (.lit 117)) (.lit 117))) (.bin .mul (.lit 16020) (.bin .add (.lit 1) (.bin .rem (.var 4) (.lit 1000))))), (-1), true⟩, ⟨(.bin .rem (.var 4) (.lit 1000)), (-1), false⟩]
theorem dead54_no (v : Nat → Int) : ¬ ∀ f ∈ dead54, f.holds v := by
  intro h
  have h0 : (((((1 + Int.tmod (v 4) (1000)) * (-49)) * (-49)) + (((1 + Int.tmod (v 4) (1000)) * 117) * 117)) - (16020 * (1 + Int.tmod (v 4) (1000)))) ≤ (-1) := h _ (.head _)
  have h1 : (-1) < Int.tmod (v 4) (1000) := h _ (.tail _ (.head _))
  clear h
  first | omega | (simp only [Go.Ev.tmod_e] at *; omega)
def dead55 : List Fact := [⟨(.bin .sub (.bin .mul (.lit 16277) (.bin .add (.lit 1) (.bin .rem (.var 4) (.lit 1000)))) (.bin .add (.bin .mul (.bin .mul (.bin .add (.lit 1) (.bin .rem (.var 4) (.lit 1000))) (.lit (-49))) (.lit (-49))) (.bin .mul (.bin .mul (.bin .add (.lit 1) (.bin .rem (.var 4) (.lit 1000))) (.lit 117)) (.lit 117)))), (-1), true⟩, ⟨(.bin .rem (.var 4) (.lit 1000)), (-1), false⟩]
theorem dead55_no (v : Nat → Int) : ¬ ∀ f ∈ dead55, f.holds v := by
  intro h
  have h0 : ((16277 * (1 + Int.tmod (v 4) (1000))) - ((((1 + Int.tmod (v 4) (1000)) * (-49)) * (-49)) + (((1 + Int.tmod (v 4) (1000)) * 117) * 117))) ≤ (-1) := h _ (.head _)
  have h1 : (-1) < Int.tmod (v 4) (1000) := h _ (.tail _ (.head _))
  clear h
  first | omega | (simp only [Go.Ev.tmod_e] at *; omega)
def dead56 : List Fact := [⟨(.bin .sub (.bin .add (.bin .mul (.bin .mul (.bin .add (.lit 1) (.bin .rem (.var 4) (.lit 1000))) (.lit (-49))) (.lit (-49))) (.bin .mul (.bin .mul (.bin .add (.lit 1) (.bin .rem (.var 4) (.lit 1000))) (.lit 117)) (.lit 117))) (.bin .mul (.bin .add (.lit 1) (.bin .rem (.var 4) (.lit 1000))) (.lit 16090))), 0, false⟩]
theorem dead56_no (v : Nat → Int) : ¬ ∀ f ∈ dead56, f.holds v := by
  intro h
  have h0 : 0 < (((((1 + Int.tmod (v 4) (1000)) * (-49)) * (-49)) + (((1 + Int.tmod (v 4) (1000)) * 117) * 117)) - ((1 + Int.tmod (v 4) (1000)) * 16090)) := h _ (.head _)
  clear h
  first | omega | (simp only [Go.Ev.tmod_e] at *; omega)
def dead57 : List Fact := [⟨(.bin .sub (.bin .mul (.bin .mul (.bin .add (.lit 1) (.bin .rem (.var 4) (.lit 1000))) (.lit 117)) (.lit (-49))) (.bin .mul (.bin .mul (.bin .add (.lit 1) (.bin .rem (.var 4) (.lit 1000))) (.lit (-49))) (.lit 117))), 0, false⟩]
theorem dead57_no (v : Nat → Int) : ¬ ∀ f ∈ dead57, f.holds v := by
  intro h
  have h0 : 0 < ((((1 + Int.tmod (v 4) (1000)) * 117) * (-49)) - (((1 + Int.tmod (v 4) (1000)) * (-49)) * 117)) := h _ (.head _)
  clear h
  first | omega | (simp only [Go.Ev.tmod_e] at *; omega)
def dead58 : List Fact := [⟨(.bin .sub (.bin .mul (.bin .mul (.bin .add (.lit 1) (.bin .add (.bin .rem (.var 4) (.lit 1000)) (.lit 1000))) (.lit 112)) (.lit (-60))) (.bin .mul (.bin .mul (.bin .add (.lit 1) (.bin .add (.bin .rem (.var 4) (.lit 1000)) (.lit 1000))) (.lit (-60))) (.lit 112))), (-1), true⟩]
theorem dead58_no (v : Nat → Int) : ¬ ∀ f ∈ dead58, f.holds v := by
  intro h
  have h0 : ((((1 + (Int.tmod (v 4) (1000) + 1000)) * 112) * (-60)) - (((1 + (Int.tmod (v 4) (1000) + 1000)) * (-60)) * 112)) ≤ (-1) := h _ (.head _)
  clear h
  first | omega | (simp only [Go.Ev.tmod_e] at *; omega)
def dead59 : List Fact := [⟨(.bin .sub (.bin .add (.bin .mul (.bin .mul (.bin .add (.lit 1) (.bin .add (.bin .rem (.var 4) (.lit 1000)) (.lit 1000))) (.lit (-60))) (.lit (-60))) (.bin .mul (.bin .mul (.bin .add (.lit 1) (.bin .add (.bin .rem (.var 4) (.lit 1000)) (.lit 1000))) (.lit 112)) (.lit 112))) (.bin .mul (.bin .add (.lit 1) (.bin .add (.bin .rem (.var 4) (.lit 1000)) (.lit 1000))) (.lit 16144))), (-1), true⟩]
theorem dead59_no (v : Nat → Int) : ¬ ∀ f ∈ dead59, f.holds v := by
  intro h
  have h0 : (((((1 + (Int.tmod (v 4) (1000) + 1000)) * (-60)) * (-60)) + (((1 + (Int.tmod (v 4) (1000) + 1000)) * 112) * 112)) - ((1 + (Int.tmod (v 4) (1000) + 1000)) * 16144)) ≤ (-1) := h _ (.head _)
  clear h
  first | omega | (simp only [Go.Ev.tmod_e] at *; omega)
def dead60 : List Fact := [⟨(.bin .sub (.bin .add (.bin .mul (.bin .mul (.bin .add (.lit 1) (.bin .add (.bin .rem (.var 4) (.lit 1000)) (.lit 1000))) (.lit (-60))) (.lit (-60))) (.bin .mul (.bin .mul (.bin .add (.lit 1) (.bin .add (.bin .rem (.var 4) (.lit 1000)) (.lit 1000))) (.lit 112)) (.lit 112))) (.bin .mul (.lit 16020) (.bin .add (.lit 1) (.bin .add (.bin .rem (.var 4) (.lit 1000)) (.lit 1000))))), (-1), true⟩]
theorem dead60_no (v : Nat → Int) : ¬ ∀ f ∈ dead60, f.holds v := by
  intro h
  have h0 : (((((1 + (Int.tmod (v 4) (1000) + 1000)) * (-60)) * (-60)) + (((1 + (Int.tmod (v 4) (1000) + 1000)) * 112) * 112)) - (16020 * (1 + (Int.tmod (v 4) (1000) + 1000)))) ≤ (-1) := h _ (.head _)
  clear h
  first | omega | (simp only [Go.Ev.tmod_e] at *; omega)
def dead61 : List Fact := [⟨(.bin .sub (.bin .mul (.lit 16277) (.bin .add (.lit 1) (.bin .add (.bin .rem (.var 4) (.lit 1000)) (.lit 1000)))) (.bin .add (.bin .mul (.bin .mul (.bin .add (.lit 1) (.bin .add (.bin .rem (.var 4) (.lit 1000)) (.lit 1000))) (.lit (-60))) (.lit (-60))) (.bin .mul (.bin .mul (.bin .add (.lit 1) (.bin .add (.bin .rem (.var 4) (.lit 1000)) (.lit 1000))) (.lit 112)) (.lit 112)))), (-1), true⟩]
theorem dead61_no (v : Nat → Int) : ¬ ∀ f ∈ dead61, f.holds v := by
  intro h
  have h0 : ((16277 * (1 + (Int.tmod (v 4) (1000) + 1000))) - ((((1 + (Int.tmod (v 4) (1000) + 1000)) * (-60)) * (-60)) + (((1 + (Int.tmod (v 4) (1000) + 1000)) * 112) * 112))) ≤ (-1) := h _ (.head _)
  clear h
  first | omega | (simp only [Go.Ev.tmod_e] at *; omega)
def dead62 : List Fact := [⟨(.bin .sub (.bin .add (.bin .mul (.bin .mul (.bin .add (.lit 1) (.bin .add (.bin .rem (.var 4) (.lit 1000)) (.lit 1000))) (.lit (-60))) (.lit (-60))) (.bin .mul (.bin .mul (.bin .add (.lit 1) (.bin .add (.bin .rem (.var 4) (.lit 1000)) (.lit 1000))) (.lit 112)) (.lit 112))) (.bin .mul (.bin .add (.lit 1) (.bin .add (.bin .rem (.var 4) (.lit 1000)) (.lit 1000))) (.lit 16144))), 0, false⟩]
theorem dead62_no (v : Nat → Int) : ¬ ∀ f ∈ dead62, f.holds v := by
  intro h
  have h0 : 0 < (((((1 + (Int.tmod (v 4) (1000) + 1000)) * (-60)) * (-60)) + (((1 + (Int.tmod (v 4) (1000) + 1000)) * 112) * 112)) - ((1 + (Int.tmod (v 4) (1000) + 1000)) * 16144)) := h _ (.head _)
  clear h
  first | omega | (simp only [Go.Ev.tmod_e] at *; omega)
def dead63 : List Fact := [⟨(.bin .sub (.bin .mul (.bin .mul (.bin .add (.lit 1) (.bin .add (.bin .rem (.var 4) (.lit 1000)) (.lit 1000))) (.lit 112)) (.lit (-60))) (.bin .mul (.bin .mul (.bin .add (.lit 1) (.bin .add (.bin .rem (.var 4) (.lit 1000)) (.lit 1000))) (.lit (-60))) (.lit 112))), 0, false⟩]
theorem dead63_no (v : Nat → Int) : ¬ ∀ f ∈ dead63, f.holds v := by
  intro h
  have h0 : 0 < ((((1 + (Int.tmod (v 4) (1000) + 1000)) * 112) * (-60)) - (((1 + (Int.tmod (v 4) (1000) + 1000)) * (-60)) * 112)) := h _ (.head _)
  clear h
  first | omega | (simp only [Go.Ev.tmod_e] at *; omega)
def dead64 : List Fact := [⟨(.bin .sub (.bin .mul (.bin .mul (.bin .add (.lit 1) (.bin .rem (.var 4) (.lit 1000))) (.lit 112)) (.lit (-60))) (.bin .mul (.bin .mul (.bin .add (.lit 1) (.bin .rem (.var 4) (.lit 1000))) (.lit (-60))) (.lit 112))), (-1), true⟩]
theorem dead64_no (v : Nat → Int) : ¬ ∀ f ∈ dead64, f.holds v := by
  intro h
  have h0 : ((((1 + Int.tmod (v 4) (1000)) * 112) * (-60)) - (((1 + Int.tmod (v 4) (1000)) * (-60)) * 112)) ≤ (-1) := h _ (.head _)
  clear h
  first | omega | (simp only [Go.Ev.tmod_e] at *; omega)
def dead65 : List Fact := [⟨(.bin .sub (.bin .add (.bin .mul (.bin .mul (.bin .add (.lit 1) (.bin .rem (.var 4) (.lit 1000))) (.lit (-60))) (.lit (-60))) (.bin .mul (.bin .mul (.bin .add (.lit 1) (.bin .rem (.var 4) (.lit 1000))) (.lit 112)) (.lit 112))) (.bin .mul (.bin .add (.lit 1) (.bin .rem (.var 4) (.lit 1000))) (.lit 16144))), (-1), true⟩]
theorem dead65_no (v : Nat → Int) : ¬ ∀ f ∈ dead65, f.holds v := by
  intro h
  have h0 : (((((1 + Int.tmod (v 4) (1000)) * (-60)) * (-60)) + (((1 + Int.tmod (v 4) (1000)) * 112) * 112)) - ((1 + Int.tmod (v 4) (1000)) * 16144)) ≤ (-1) := h _ (.head _)
  clear h
  first | omega | (simp only [Go.Ev.tmod_e] at *; omega)
def dead66 : List Fact := [⟨(.bin .sub (.bin .add (.bin .mul (.bin .mul (.bin .add (.lit 1) (.bin .rem (.var 4) (.lit 1000))) (.lit (-60))) (.lit (-60))) (.bin .mul (.bin .mul (.bin .add (.lit 1) (.bin .rem (.var 4) (.lit 1000))) (.lit 112)) (.lit 112))) (.bin .mul (.lit 16020) (.bin .add (.lit 1) (.bin .rem (.var 4) (.lit 1000))))), (-1), true⟩, ⟨(.bin .rem (.var 4) (.lit 1000)), (-1), false⟩]
theorem dead66_no (v : Nat → Int) : ¬ ∀ f ∈ dead66, f.holds v := by
  intro h
  have h0 : (((((1 + Int.tmod (v 4) (1000)) * (-60)) * (-60)) + (((1 + Int.tmod (v 4) (1000)) * 112) * 112)) - (16020 * (1 + Int.tmod (v 4) (1000)))) ≤ (-1) := h _ (.head _)
  have h1 : (-1) < Int.tmod (v 4) (1000) := h _ (.tail _ (.head _))
  clear h
  first | omega | (simp only [Go.Ev.tmod_e] at *; omega)
def dead67 : List Fact := [⟨(.bin .sub (.bin .mul (.lit 16277) (.bin .add (.lit 1) (.bin .rem (.var 4) (.lit 1000)))) (.bin .add (.bin .mul (.bin .mul (.bin .add (.lit 1) (.bin .rem (.var 4) (.lit 1000))) (.lit (-60))) (.lit (-60))) (.bin .mul (.bin .mul (.bin .add (.lit 1) (.bin .rem (.var 4) (.lit 1000))) (.lit 112)) (.lit 112)))), (-1), true⟩, ⟨(.bin .rem (.var 4) (.lit 1000)), (-1), false⟩]
theorem dead67_no (v : Nat → Int) : ¬ ∀ f ∈ dead67, f.holds v := by
  intro h
  have h0 : ((16277 * (1 + Int.tmod (v 4) (1000))) - ((((1 + Int.tmod (v 4) (1000)) * (-60)) * (-60)) + (((1 + Int.tmod (v 4) (1000)) * 112) * 112))) ≤ (-1) := h _ (.head _)
  have h1 : (-1) < Int.tmod (v 4) (1000) := h _ (.tail _ (.head _))
  clear h
  first | omega | (simp only [Go.Ev.tmod_e] at *; omega)
def dead68 : List Fact := [⟨(.bin .sub (.bin .add (.bin .mul (.bin .mul (.bin .add (.lit 1) (.bin .rem (.var 4) (.lit 1000))) (.lit (-60))) (.lit (-60))) (.bin .mul (.bin .mul (.bin .add (.lit 1) (.bin .rem (.var 4) (.lit 1000))) (.lit 112)) (.lit 112))) (.bin .mul (.bin .add (.lit 1) (.bin .rem (.var 4) (.lit 1000))) (.lit 16144))), 0, false⟩]
theorem dead68_no (v : Nat → Int) : ¬ ∀ f ∈ dead68, f.holds v := by
  intro h
  have h0 : 0 < (((((1 + Int.tmod (v 4) (1000)) * (-60)) * (-60)) + (((1 + Int.tmod (v 4) (1000)) * 112) * 112)) - ((1 + Int.tmod (v 4) (1000)) * 16144)) := h _ (.head _)
  clear h
  first | omega | (simp only [Go.Ev.tmod_e] at *; omega)
def dead69 : List Fact := [⟨(.bin .sub (.bin .mul (.bin .mul (.bin .add (.lit 1) (.bin .rem (.var 4) (.lit 1000))) (.lit 112)) (.lit (-60))) (.bin .mul (.bin .mul (.bin .add (.lit 1) (.bin .rem (.var 4) (.lit 1000))) (.lit (-60))) (.lit 112))), 0, false⟩]
theorem dead69_no (v : Nat → Int) : ¬ ∀ f ∈ dead69, f.holds v := by
  intro h
  have h0 : 0 < ((((1 + Int.tmod (v 4) (1000)) * 112) * (-60)) - (((1 + Int.tmod (v 4) (1000)) * (-60)) * 112)) := h _ (.head _)
  clear h
  first | omega | (simp only [Go.Ev.tmod_e] at *; omega)
def dead70 : List Fact := [⟨(.bin .sub (.bin .mul (.bin .mul (.bin .add (.lit 1) (.bin .add (.bin .rem (.var 4) (.lit 1000)) (.lit 1000))) (.lit 106)) (.lit (-71))) (.bin .mul (.bin .mul (.bin .add (.lit 1) (.bin .add (.bin .rem (.var 4) (.lit 1000)) (.lit 1000))) (.lit (-71))) (.lit 106))), (-1), true⟩]
theorem dead70_no (v : Nat → Int) : ¬ ∀ f ∈ dead70, f.holds v := by
  intro h
  have h0 : ((((1 + (Int.tmod (v 4) (1000) + 1000)) * 106) * (-71)) - (((1 + (Int.tmod (v 4) (1000) + 1000)) * (-71)) * 106)) ≤ (-1) := h _ (.head _)
  clear h
  first | omega | (simp only [Go.Ev.tmod_e] at *; omega)
def dead71 : List Fact := [⟨(.bin .sub (.bin .add (.bin .mul (.bin .mul (.bin .add (.lit 1) (.bin .add (.bin .rem (.var 4) (.lit 1000)) (.lit 1000))) (.lit (-71))) (.lit (-71))) (.bin .mul (.bin .mul (.bin .add (.lit 1) (.bin .add (.bin .rem (.var 4) (.lit 1000)) (.lit 1000))) (.lit 106)) (.lit 106))) (.bin .mul (.bin .add (.lit 1) (.bin .add (.bin .rem (.var 4) (.lit 1000)) (.lit 1000))) (.lit 16277))), (-1), true⟩]
theorem dead71_no (v : Nat → Int) : ¬ ∀ f ∈ dead71, f.holds v := by
  intro h
  have h0 : (((((1 + (Int.tmod (v 4) (1000) + 1000)) * (-71)) * (-71)) + (((1 + (Int.tmod (v 4) (1000) + 1000)) * 106) * 106)) - ((1 + (Int.tmod (v 4) (1000) + 1000)) * 16277)) ≤ (-1) := h _ (.head _)
  clear h
  first | omega | (simp only [Go.Ev.tmod_e] at *; omega)
def dead72 : List Fact := [⟨(.bin .sub (.bin .add (.bin .mul (.bin .mul (.bin .add (.lit 1) (.bin .add (.bin .rem (.var 4) (.lit 1000)) (.lit 1000))) (.lit (-71))) (.lit (-71))) (.bin .mul (.bin .mul (.bin .add (.lit 1) (.bin .add (.bin .rem (.var 4) (.lit 1000)) (.lit 1000))) (.lit 106)) (.lit 106))) (.bin .mul (.lit 16020) (.bin .add (.lit 1) (.bin .add (.bin .rem (.var 4) (.lit 1000)) (.lit 1000))))), (-1), true⟩]
theorem dead72_no (v : Nat → Int) : ¬ ∀ f ∈ dead72, f.holds v := by
  intro h
  have h0 : (((((1 + (Int.tmod (v 4) (1000) + 1000)) * (-71)) * (-71)) + (((1 + (Int.tmod (v 4) (1000) + 1000)) * 106) * 106)) - (16020 * (1 + (Int.tmod (v 4) (1000) + 1000)))) ≤ (-1) := h _ (.head _)
  clear h
  first | omega | (simp only [Go.Ev.tmod_e] at *; omega)
def dead73 : List Fact := [⟨(.bin .sub (.bin .mul (.lit 16277) (.bin .add (.lit 1) (.bin .add (.bin .rem (.var 4) (.lit 1000)) (.lit 1000)))) (.bin .add (.bin .mul (.bin .mul (.bin .add (.lit 1) (.bin .add (.bin .rem (.var 4) (.lit 1000)) (.lit 1000))) (.lit (-71))) (.lit (-71))) (.bin .mul (.bin .mul (.bin .add (.lit 1) (.bin .add (.bin .rem (.var 4) (.lit 1000)) (.lit 1000))) (.lit 106)) (.lit 106)))), (-1), true⟩]
theorem dead73_no (v : Nat → Int) : ¬ ∀ f ∈ dead73, f.holds v := by
  intro h
  have h0 : ((16277 * (1 + (Int.tmod (v 4) (1000) + 1000))) - ((((1 + (Int.tmod (v 4) (1000) + 1000)) * (-71)) * (-71)) + (((1 + (Int.tmod (v 4) (1000) + 1000)) * 106) * 106))) ≤ (-1) := h _ (.head _)
  clear h
  first | omega | (simp only [Go.Ev.tmod_e] at *; omega)
def dead74 : List Fact := [⟨(.bin .sub (.bin .add (.bin .mul (.bin .mul (.bin .add (.lit 1) (.bin .add (.bin .rem (.var 4) (.lit 1000)) (.lit 1000))) (.lit (-71))) (.lit (-71))) (.bin .mul (.bin .mul (.bin .add (.lit 1) (.bin .add (.bin .rem (.var 4) (.lit 1000)) (.lit 1000))) (.lit 106)) (.lit 106))) (.bin .mul (.bin .add (.lit 1) (.bin .add (.bin .rem (.var 4) (.lit 1000)) (.lit 1000))) (.lit 16277))), 0, false⟩]
theorem dead74_no (v : Nat → Int) : ¬ ∀ f ∈ dead74, f.holds v := by
  intro h
  have h0 : 0 < (((((1 + (Int.tmod (v 4) (1000) + 1000)) * (-71)) * (-71)) + (((1 + (Int.tmod (v 4) (1000) + 1000)) * 106) * 106)) - ((1 + (Int.tmod (v 4) (1000) + 1000)) * 16277)) := h _ (.head _)
  clear h
  first | omega | (simp only [Go.Ev.tmod_e] at *; omega)
def dead75 : List Fact := [⟨(.bin .sub (.bin .mul (.bin .mul (.bin .add (.lit 1) (.bin .add (.bin .rem (.var 4) (.lit 1000)) (.lit 1000))) (.lit 106)) (.lit (-71))) (.bin .mul (.bin .mul (.bin .add (.lit 1) (.bin .add (.bin .rem (.var 4) (.lit 1000)) (.lit 1000))) (.lit (-71))) (.lit 106))), 0, false⟩]
theorem dead75_no (v : Nat → Int) : ¬ ∀ f ∈ dead75, f.holds v := by
  intro h
  have h0 : 0 < ((((1 + (Int.tmod (v 4) (1000) + 1000)) * 106) * (-71)) - (((1 + (Int.tmod (v 4) (1000) + 1000)) * (-71)) * 106)) := h _ (.head _)
  clear h
  first | omega | (simp only [Go.Ev.tmod_e] at *; omega)
def dead76 : List Fact := [⟨(.bin .sub (.bin .mul (.bin .mul (.bin .add (.lit 1) (.bin .rem (.var 4) (.lit 1000))) (.lit 106)) (.lit (-71))) (.bin .mul (.bin .mul (.bin .add (.lit 1) (.bin .rem (.var 4) (.lit 1000))) (.lit (-71))) (.lit 106))), (-1), true⟩]
theorem dead76_no (v : Nat → Int) : ¬ ∀ f ∈ dead76, f.holds v := by
  intro h
  have h0 : ((((1 + Int.tmod (v 4) (1000)) * 106) * (-71)) - (((1 + Int.tmod (v 4) (1000)) * (-71)) * 106)) ≤ (-1) := h _ (.head _)
  clear h
  first | omega | (simp only [Go.Ev.tmod_e] at *; omega)
def dead77 : List Fact := [⟨(.bin .sub (.bin .add (.bin .mul (.bin .mul (.bin .add (.lit 1) (.bin .rem (.var 4) (.lit 1000))) (.lit (-71))) (.lit (-71))) (.bin .mul (.bin .mul (.bin .add (.lit 1) (.bin .rem (.var 4) (.lit 1000))) (.lit 106)) (.lit 106))) (.bin .mul (.bin .add (.lit 1) (.bin .rem (.var 4) (.lit 1000))) (.lit 16277))), (-1), true⟩]
theorem dead77_no (v : Nat → Int) : ¬ ∀ f ∈ dead77, f.holds v := by
  intro h
  have h0 : (((((1 + Int.tmod (v 4) (1000)) * (-71)) * (-71)) + (((1 + Int.tmod (v 4) (1000)) * 106) * 106)) - ((1 + Int.tmod (v 4) (1000)) * 16277)) ≤ (-1) := h _ (.head _)
  clear h
  first | omega | (simp only [Go.Ev.tmod_e] at *; omega)
def dead78 : List Fact := [⟨(.bin .sub (.bin .add (.bin .mul (.bin .mul (.bin .add (.lit 1) (.bin .rem (.var 4) (.lit 1000))) (.lit (-71))) (.lit (-71))) (.bin .mul (.bin .mul (.bin .add (.lit 1) (.bin .rem (.var 4) (.lit 1000))) (.lit 106)) (.lit 106))) (.bin .mul (.lit 16020) (.bin .add (.lit 1) (.bin .rem (.var 4) (.lit 1000))))), (-1), true⟩, ⟨(.bin .rem (.var 4) (.lit 1000)), (-1), false⟩]
theorem dead78_no (v : Nat → Int) : ¬ ∀ f ∈ dead78, f.holds v := by
  intro h
  have h0 : (((((1 + Int.tmod (v 4) (1000)) * (-71)) * (-71)) + (((1 + Int.tmod (v 4) (1000)) * 106) * 106)) - (16020 * (1 + Int.tmod (v 4) (1000)))) ≤ (-1) := h _ (.head _)
  have h1 : (-1) < Int.tmod (v 4) (1000) := h _ (.tail _ (.head _))
  clear h
  first | omega | (simp only [Go.Ev.tmod_e] at *; omega)
def dead79 : List Fact := [⟨(.bin .sub (.bin .mul (.lit 16277) (.bin .add (.lit 1) (.bin .rem (.var 4) (.lit 1000)))) (.bin .add (.bin .mul (.bin .mul (.bin .add (.lit 1) (.bin .rem (.var 4) (.lit 1000))) (.lit (-71))) (.lit (-71))) (.bin .mul (.bin .mul (.bin .add (.lit 1) (.bin .rem (.var 4) (.lit 1000))) (.lit 106)) (.lit 106)))), (-1), true⟩]
theorem dead79_no (v : Nat → Int) : ¬ ∀ f ∈ dead79, f.holds v := by
  intro h
  have h0 : ((16277 * (1 + Int.tmod (v 4) (1000))) - ((((1 + Int.tmod (v 4) (1000)) * (-71)) * (-71)) + (((1 + Int.tmod (v 4) (1000)) * 106) * 106))) ≤ (-1) := h _ (.head _)
  clear h
  first | omega | (simp only [Go.Ev.tmod_e] at *; omega)
def dead80 : List Fact := [⟨(.bin .sub (.bin .add (.bin .mul (.bin .mul (.bin .add (.lit 1) (.bin .rem (.var 4) (.lit 1000))) (.lit (-71))) (.lit (-71))) (.bin .mul (.bin .mul (.bin .add (.lit 1) (.bin .rem (.var 4) (.lit 1000))) (.lit 106)) (.lit 106))) (.bin .mul (.bin .add (.lit 1) (.bin .rem (.var 4) (.lit 1000))) (.lit 16277))), 0, false⟩]
theorem dead80_no (v : Nat → Int) : ¬ ∀ f ∈ dead80, f.holds v := by
  intro h
  have h0 : 0 < (((((1 + Int.tmod (v 4) (1000)) * (-71)) * (-71)) + (((1 + Int.tmod (v 4) (1000)) * 106) * 106)) - ((1 + Int.tmod (v 4) (1000)) * 16277)) := h _ (.head _)
  clear h
  first | omega | (simp only [Go.Ev.tmod_e] at *; omega)
def dead81 : List Fact := [⟨(.bin .sub (.bin .mul (.bin .mul (.bin .add (.lit 1) (.bin .rem (.var 4) (.lit 1000))) (.lit 106)) (.lit (-71))) (.bin .mul (.bin .mul (.bin .add (.lit 1) (.bin .rem (.var 4) (.lit 1000))) (.lit (-71))) (.lit 106))), 0, false⟩]
theorem dead81_no (v : Nat → Int) : ¬ ∀ f ∈ dead81, f.holds v := by
  intro h
  have h0 : 0 < ((((1 + Int.tmod (v 4) (1000)) * 106) * (-71)) - (((1 + Int.tmod (v 4) (1000)) * (-71)) * 106)) := h _ (.head _)
  clear h
  first | omega | (simp only [Go.Ev.tmod_e] at *; omega)
def dead82 : List Fact := [⟨(.bin .sub (.bin .mul (.bin .mul (.bin .add (.lit 1) (.bin .add (.bin .rem (.var 4) (.lit 1000)) (.lit 1000))) (.lit 98)) (.lit (-81))) (.bin .mul (.bin .mul (.bin .add (.lit 1) (.bin .add (.bin .rem (.var 4) (.lit 1000)) (.lit 1000))) (.lit (-81))) (.lit 98))), (-1), true⟩]
theorem dead82_no (v : Nat → Int) : ¬ ∀ f ∈ dead82, f.holds v := by
  intro h
  have h0 : ((((1 + (Int.tmod (v 4) (1000) + 1000)) * 98) * (-81)) - (((1 + (Int.tmod (v 4) (1000) + 1000)) * (-81)) * 98)) ≤ (-1) := h _ (.head _)
  clear h
  first | omega | (simp only [Go.Ev.tmod_e] at *; omega)
def dead83 : List Fact := [⟨(.bin .sub (.bin .add (.bin .mul (.bin .mul (.bin .add (.lit 1) (.bin .add (.bin .rem (.var 4) (.lit 1000)) (.lit 1000))) (.lit (-81))) (.lit (-81))) (.bin .mul (.bin .mul (.bin .add (.lit 1) (.bin .add (.bin .rem (.var 4) (.lit 1000)) (.lit 1000))) (.lit 98)) (.lit 98))) (.bin .mul (.bin .add (.lit 1) (.bin .add (.bin .rem (.var 4) (.lit 1000)) (.lit 1000))) (.lit 16165))), (-1), true⟩]
theorem dead83_no (v : Nat → Int) : ¬ ∀ f ∈ dead83, f.holds v := by
  intro h
  have h0 : (((((1 + (Int.tmod (v 4) (1000) + 1000)) * (-81)) * (-81)) + (((1 + (Int.tmod (v 4) (1000) + 1000)) * 98) * 98)) - ((1 + (Int.tmod (v 4) (1000) + 1000)) * 16165)) ≤ (-1) := h _ (.head _)
  clear h
  first | omega | (simp only [Go.Ev.tmod_e] at *; omega)
def dead84 : List Fact := [⟨(.bin .sub (.bin .add (.bin .mul (.bin .mul (.bin .add (.lit 1) (.bin .add (.bin .rem (.var 4) (.lit 1000)) (.lit 1000))) (.lit (-81))) (.lit (-81))) (.bin .mul (.bin .mul (.bin .add (.lit 1) (.bin .add (.bin .rem (.var 4) (.lit 1000)) (.lit 1000))) (.lit 98)) (.lit 98))) (.bin .mul (.lit 16020) (.bin .add (.lit 1) (.bin .add (.bin .rem (.var 4) (.lit 1000)) (.lit 1000))))), (-1), true⟩]
theorem dead84_no (v : Nat → Int) : ¬ ∀ f ∈ dead84, f.holds v := by
  intro h
  have h0 : (((((1 + (Int.tmod (v 4) (1000) + 1000)) * (-81)) * (-81)) + (((1 + (Int.tmod (v 4) (1000) + 1000)) * 98) * 98)) - (16020 * (1 + (Int.tmod (v 4) (1000) + 1000)))) ≤ (-1) := h _ (.head _)
  clear h
  first | omega | (simp only [Go.Ev.tmod_e] at *; omega)
def dead85 : List Fact := [⟨(.bin .sub (.bin .mul (.lit 16277) (.bin .add (.lit 1) (.bin .add (.bin .rem (.var 4) (.lit 1000)) (.lit 1000)))) (.bin .add (.bin .mul (.bin .mul (.bin .add (.lit 1) (.bin .add (.bin .rem (.var 4) (.lit 1000)) (.lit 1000))) (.lit (-81))) (.lit (-81))) (.bin .mul (.bin .mul (.bin .add (.lit 1) (.bin .add (.bin .rem (.var 4) (.lit 1000)) (.lit 1000))) (.lit 98)) (.lit 98)))), (-1), true⟩]
theorem dead85_no (v : Nat → Int) : ¬ ∀ f ∈ dead85, f.holds v := by
  intro h
  have h0 : ((16277 * (1 + (Int.tmod (v 4) (1000) + 1000))) - ((((1 + (Int.tmod (v 4) (1000) + 1000)) * (-81)) * (-81)) + (((1 + (Int.tmod (v 4) (1000) + 1000)) * 98) * 98))) ≤ (-1) := h _ (.head _)
  clear h
  first | omega | (simp only [Go.Ev.tmod_e] at *; omega)
def dead86 : List Fact := [⟨(.bin .sub (.bin .add (.bin .mul (.bin .mul (.bin .add (.lit 1) (.bin .add (.bin .rem (.var 4) (.lit 1000)) (.lit 1000))) (.lit (-81))) (.lit (-81))) (.bin .mul (.bin .mul (.bin .add (.lit 1) (.bin .add (.bin .rem (.var 4) (.lit 1000)) (.lit 1000))) (.lit 98)) (.lit 98))) (.bin .mul (.bin .add (.lit 1) (.bin .add (.bin .rem (.var 4) (.lit 1000)) (.lit 1000))) (.lit 16165))), 0, false⟩]
theorem dead86_no (v : Nat → Int) : ¬ ∀ f ∈ dead86, f.holds v := by
  intro h
  have h0 : 0 < (((((1 + (Int.tmod (v 4) (1000) + 1000)) * (-81)) * (-81)) + (((1 + (Int.tmod (v 4) (1000) + 1000)) * 98) * 98)) - ((1 + (Int.tmod (v 4) (1000) + 1000)) * 16165)) := h _ (.head _)
  clear h
  first | omega | (simp only [Go.Ev.tmod_e] at *; omega)
def dead87 : List Fact := [⟨(.bin .sub (.bin .mul (.bin .mul (.bin .add (.lit 1) (.bin .add (.bin .rem (.var 4) (.lit 1000)) (.lit 1000))) (.lit 98)) (.lit (-81))) (.bin .mul (.bin .mul (.bin .add (.lit 1) (.bin .add (.bin .rem (.var 4) (.lit 1000)) (.lit 1000))) (.lit (-81))) (.lit 98))), 0, false⟩]
theorem dead87_no (v : Nat → Int) : ¬ ∀ f ∈ dead87, f.holds v := by
  intro h
  have h0 : 0 < ((((1 + (Int.tmod (v 4) (1000) + 1000)) * 98) * (-81)) - (((1 + (Int.tmod (v 4) (1000) + 1000)) * (-81)) * 98)) := h _ (.head _)
  clear h
  first | omega | (simp only [Go.Ev.tmod_e] at *; omega)
def dead88 : List Fact := [⟨(.bin .sub (.bin .mul (.bin .mul (.bin .add (.lit 1) (.bin .rem (.var 4) (.lit 1000))) (.lit 98)) (.lit (-81))) (.bin .mul (.bin .mul (.bin .add (.lit 1) (.bin .rem (.var 4) (.lit 1000))) (.lit (-81))) (.lit 98))), (-1), true⟩]
theorem dead88_no (v : Nat → Int) : ¬ ∀ f ∈ dead88, f.holds v := by
  intro h
  have h0 : ((((1 + Int.tmod (v 4) (1000)) * 98) * (-81)) - (((1 + Int.tmod (v 4) (1000)) * (-81)) * 98)) ≤ (-1) := h _ (.head _)
  clear h
  first | omega | (simp only [Go.Ev.tmod_e] at *; omega)
def dead89 : List Fact := [⟨(.bin .sub (.bin .add (.bin .mul (.bin .mul (.bin .add (.lit 1) (.bin .rem (.var 4) (.lit 1000))) (.lit (-81))) (.lit (-81))) (.bin .mul (.bin .mul (.bin .add (.lit 1) (.bin .rem (.var 4) (.lit 1000))) (.lit 98)) (.lit 98))) (.bin .mul (.bin .add (.lit 1) (.bin .rem (.var 4) (.lit 1000))) (.lit 16165))), (-1), true⟩]
theorem dead89_no (v : Nat → Int) : ¬ ∀ f ∈ dead89, f.holds v := by
  intro h
  have h0 : (((((1 + Int.tmod (v 4) (1000)) * (-81)) * (-81)) + (((1 + Int.tmod (v 4) (1000)) * 98) * 98)) - ((1 + Int.tmod (v 4) (1000)) * 16165)) ≤ (-1) := h _ (.head _)
  clear h
  first | omega | (simp only [Go.Ev.tmod_e] at *; omega)
def dead90 : List Fact := [⟨(.bin .sub (.bin .add (.bin .mul (.bin .mul (.bin .add (.lit 1) (.bin .rem (.var 4) (.lit 1000))) (.lit (-81))) (.lit (-81))) (.bin .mul (.bin .mul (.bin .add (.lit 1) (.bin .rem (.var 4) (.lit 1000))) (.lit 98)) (.lit 98))) (.bin .mul (.lit 16020) (.bin .add (.lit 1) (.bin .rem (.var 4) (.lit 1000))))), (-1), true⟩, ⟨(.bin .rem (.var 4) (.lit 1000)), (-1), false⟩]
theorem dead90_no (v : Nat → Int) : ¬ ∀ f ∈ dead90, f.holds v := by
  intro h
  have h0 : (((((1 + Int.tmod (v 4) (1000)) * (-81)) * (-81)) + (((1 + Int.tmod (v 4) (1000)) * 98) * 98)) - (16020 * (1 + Int.tmod (v 4) (1000)))) ≤ (-1) := h _ (.head _)
  have h1 : (-1) < Int.tmod (v 4) (1000) := h _ (.tail _ (.head _))
  clear h
  first | omega | (simp only [Go.Ev.tmod_e] at *; omega)
def dead91 : List Fact := [⟨(.bin .sub (.bin .mul (.lit 16277) (.bin .add (.lit 1) (.bin .rem (.var 4) (.lit 1000)))) (.bin .add (.bin .mul (.bin .mul (.bin .add (.lit 1) (.bin .rem (.var 4) (.lit 1000))) (.lit (-81))) (.lit (-81))) (.bin .mul (.bin .mul (.bin .add (.lit 1) (.bin .rem (.var 4) (.lit 1000))) (.lit 98)) (.lit 98)))), (-1), true⟩, ⟨(.bin .rem (.var 4) (.lit 1000)), (-1), false⟩]
theorem dead91_no (v : Nat → Int) : ¬ ∀ f ∈ dead91, f.holds v := by
  intro h
  have h0 : ((16277 * (1 + Int.tmod (v 4) (1000))) - ((((1 + Int.tmod (v 4) (1000)) * (-81)) * (-81)) + (((1 + Int.tmod (v 4) (1000)) * 98) * 98))) ≤ (-1) := h _ (.head _)
  have h1 : (-1) < Int.tmod (v 4) (1000) := h _ (.tail _ (.head _))
  clear h
  first | omega | (simp only [Go.Ev.tmod_e] at *; omega)
def dead92 : List Fact := [⟨(.bin .sub (.bin .add (.bin .mul (.bin .mul (.bin .add (.lit 1) (.bin .rem (.var 4) (.lit 1000))) (.lit (-81))) (.lit (-81))) (.bin .mul (.bin .mul (.bin .add (.lit 1) (.bin .rem (.var 4) (.lit 1000))) (.lit 98)) (.lit 98))) (.bin .mul (.bin .add (.lit 1) (.bin .rem (.var 4) (.lit 1000))) (.lit 16165))), 0, false⟩]
theorem dead92_no (v : Nat → Int) : ¬ ∀ f ∈ dead92, f.holds v := by
  intro h
  have h0 : 0 < (((((1 + Int.tmod (v 4) (1000)) * (-81)) * (-81)) + (((1 + Int.tmod (v 4) (1000)) * 98) * 98)) - ((1 + Int.tmod (v 4) (1000)) * 16165)) := h _ (.head _)
  clear h
  first | omega | (simp only [Go.Ev.tmod_e] at *; omega)
def dead93 : List Fact := [⟨(.bin .sub (.bin .mul (.bin .mul (.bin .add (.lit 1) (.bin .rem (.var 4) (.lit 1000))) (.lit 98)) (.lit (-81))) (.bin .mul (.bin .mul (.bin .add (.lit 1) (.bin .rem (.var 4) (.lit 1000))) (.lit (-81))) (.lit 98))), 0, false⟩]
theorem dead93_no (v : Nat → Int) : ¬ ∀ f ∈ dead93, f.holds v := by
  intro h
  have h0 : 0 < ((((1 + Int.tmod (v 4) (1000)) * 98) * (-81)) - (((1 + Int.tmod (v 4) (1000)) * (-81)) * 98)) := h _ (.head _)
  clear h
  first | omega | (simp only [Go.Ev.tmod_e] at *; omega)
def dead94 : List Fact := [⟨(.bin .sub (.bin .mul (.bin .mul (.bin .add (.lit 1) (.bin .add (.bin .rem (.var 4) (.lit 1000)) (.lit 1000))) (.lit 90)) (.lit (-90))) (.bin .mul (.bin .mul (.bin .add (.lit 1) (.bin .add (.bin .rem (.var 4) (.lit 1000)) (.lit 1000))) (.lit (-90))) (.lit 90))), (-1), true⟩]
theorem dead94_no (v : Nat → Int) : ¬ ∀ f ∈ dead94, f.holds v := by
  intro h
  have h0 : ((((1 + (Int.tmod (v 4) (1000) + 1000)) * 90) * (-90)) - (((1 + (Int.tmod (v 4) (1000) + 1000)) * (-90)) * 90)) ≤ (-1) := h _ (.head _)
  clear h
  first | omega | (simp only [Go.Ev.tmod_e] at *; omega)
def dead95 : List Fact := [⟨(.bin .sub (.bin .add (.bin .mul (.bin .mul (.bin .add (.lit 1) (.bin .add (.bin .rem (.var 4) (.lit 1000)) (.lit 1000))) (.lit (-90))) (.lit (-90))) (.bin .mul (.bin .mul (.bin .add (.lit 1) (.bin .add (.bin .rem (.var 4) (.lit 1000)) (.lit 1000))) (.lit 90)) (.lit 90))) (.bin .mul (.bin .add (.lit 1) (.bin .add (.bin .rem (.var 4) (.lit 1000)) (.lit 1000))) (.lit 16200))), (-1), true⟩]
theorem dead95_no (v : Nat → Int) : ¬ ∀ f ∈ dead95, f.holds v := by
  intro h
  have h0 : (((((1 + (Int.tmod (v 4) (1000) + 1000)) * (-90)) * (-90)) + (((1 + (Int.tmod (v 4) (1000) + 1000)) * 90) * 90)) - ((1 + (Int.tmod (v 4) (1000) + 1000)) * 16200)) ≤ (-1) := h _ (.head _)
  clear h
  first | omega | (simp only [Go.Ev.tmod_e] at *; omega)
def dead96 : List Fact := [⟨(.bin .sub (.bin .add (.bin .mul (.bin .mul (.bin .add (.lit 1) (.bin .add (.bin .rem (.var 4) (.lit 1000)) (.lit 1000))) (.lit (-90))) (.lit (-90))) (.bin .mul (.bin .mul (.bin .add (.lit 1) (.bin .add (.bin .rem (.var 4) (.lit 1000)) (.lit 1000))) (.lit 90)) (.lit 90))) (.bin .mul (.lit 16020) (.bin .add (.lit 1) (.bin .add (.bin .rem (.var 4) (.lit 1000)) (.lit 1000))))), (-1), true⟩]
theorem dead96_no (v : Nat → Int) : ¬ ∀ f ∈ dead96, f.holds v := by
  intro h
  have h0 : (((((1 + (Int.tmod (v 4) (1000) + 1000)) * (-90)) * (-90)) + (((1 + (Int.tmod (v 4) (1000) + 1000)) * 90) * 90)) - (16020 * (1 + (Int.tmod (v 4) (1000) + 1000)))) ≤ (-1) := h _ (.head _)
  clear h
  first | omega | (simp only [Go.Ev.tmod_e] at *; omega)
def dead97 : List Fact := [⟨(.bin .sub (.bin .mul (.lit 16277) (.bin .add (.lit 1) (.bin .add (.bin .rem (.var 4) (.lit 1000)) (.lit 1000)))) (.bin .add (.bin .mul (.bin .mul (.bin .add (.lit 1) (.bin .add (.bin .rem (.var 4) (.lit 1000)) (.lit 1000))) (.lit (-90))) (.lit (-90))) (.bin .mul (.bin .mul (.bin .add (.lit 1) (.bin .add (.bin .rem (.var 4) (.lit 1000)) (.lit 1000))) (.lit 90)) (.lit 90)))), (-1), true⟩]
theorem dead97_no (v : Nat → Int) : ¬ ∀ f ∈ dead97, f.holds v := by
  intro h
  have h0 : ((16277 * (1 + (Int.tmod (v 4) (1000) + 1000))) - ((((1 + (Int.tmod (v 4) (1000) + 1000)) * (-90)) * (-90)) + (((1 + (Int.tmod (v 4) (1000) + 1000)) * 90) * 90))) ≤ (-1) := h _ (.head _)
  clear h
  first | omega | (simp only [Go.Ev.tmod_e] at *; omega)
def dead98 : List Fact := [⟨(.bin .sub (.bin .add (.bin .mul (.bin .mul (.bin .add (.lit 1) (.bin .add (.bin .rem (.var 4) (.lit 1000)) (.lit 1000))) (.lit (-90))) (.lit (-90))) (.bin .mul (.bin .mul (.bin .add (.lit 1) (.bin .add (.bin .rem (.var 4) (.lit 1000)) (.lit 1000))) (.lit 90)) (.lit 90))) (.bin .mul (.bin .add (.lit 1) (.bin .add (.bin .rem (.var 4) (.lit 1000)) (.lit 1000))) (.lit 16200))), 0, false⟩]
theorem dead98_no (v : Nat → Int) : ¬ ∀ f ∈ dead98, f.holds v := by
  intro h
  have h0 : 0 < (((((1 + (Int.tmod (v 4) (1000) + 1000)) * (-90)) * (-90)) + (((1 + (Int.tmod (v 4) (1000) + 1000)) * 90) * 90)) - ((1 + (Int.tmod (v 4) (1000) + 1000)) * 16200)) := h _ (.head _)
  clear h
  first | omega | (simp only [Go.Ev.tmod_e] at *; omega)
def dead99 : List Fact := [⟨(.bin .sub (.bin .mul (.bin .mul (.bin .add (.lit 1) (.bin .add (.bin .rem (.var 4) (.lit 1000)) (.lit 1000))) (.lit 90)) (.lit (-90))) (.bin .mul (.bin .mul (.bin .add (.lit 1) (.bin .add (.bin .rem (.var 4) (.lit 1000)) (.lit 1000))) (.lit (-90))) (.lit 90))), 0, false⟩]
theorem dead99_no (v : Nat → Int) : ¬ ∀ f ∈ dead99, f.holds v := by
  intro h
  have h0 : 0 < ((((1 + (Int.tmod (v 4) (1000) + 1000)) * 90) * (-90)) - (((1 + (Int.tmod (v 4) (1000) + 1000)) * (-90)) * 90)) := h _ (.head _)
  clear h
  first | omega | (simp only [Go.Ev.tmod_e] at *; omega)
def dead100 : List Fact := [⟨(.bin .sub (.bin .mul (.bin .mul (.bin .add (.lit 1) (.bin .rem (.var 4) (.lit 1000))) (.lit 90)) (.lit (-90))) (.bin .mul (.bin .mul (.bin .add (.lit 1) (.bin .rem (.var 4) (.lit 1000))) (.lit (-90))) (.lit 90))), (-1), true⟩]
theorem dead100_no (v : Nat → Int) : ¬ ∀ f ∈ dead100, f.holds v := by
  intro h
  have h0 : ((((1 + Int.tmod (v 4) (1000)) * 90) * (-90)) - (((1 + Int.tmod (v 4) (1000)) * (-90)) * 90)) ≤ (-1) := h _ (.head _)
  clear h
  first | omega | (simp only [Go.Ev.tmod_e] at *; omega)
def dead101 : List Fact := [⟨(.bin .sub (.bin .add (.bin .mul (.bin .mul (.bin .add (.lit 1) (.bin .rem (.var 4) (.lit 1000))) (.lit (-90))) (.lit (-90))) (.bin .mul (.bin .mul (.bin .add (.lit 1) (.bin .rem (.var 4) (.lit 1000))) (.lit 90)) (.lit 90))) (.bin .mul (.bin .add (.lit 1) (.bin .rem (.var 4) (.lit 1000))) (.lit 16200))), (-1), true⟩]
theorem dead101_no (v : Nat → Int) : ¬ ∀ f ∈ dead101, f.holds v := by
  intro h
  have h0 : (((((1 + Int.tmod (v 4) (1000)) * (-90)) * (-90)) + (((1 + Int.tmod (v 4) (1000)) * 90) * 90)) - ((1 + Int.tmod (v 4) (1000)) * 16200)) ≤ (-1) := h _ (.head _)
  clear h
  first | omega | (simp only [Go.Ev.tmod_e] at *; omega)
def dead102 : List Fact := [⟨(.bin .sub (.bin .add (.bin .mul (.bin .mul (.bin .add (.lit 1) (.bin .rem (.var 4) (.lit 1000))) (.lit (-90))) (.lit (-90))) (.bin .mul (.bin .mul (.bin .add (.lit 1) (.bin .rem (.var 4) (.lit 1000))) (.lit 90)) (.lit 90))) (.bin .mul (.lit 16020) (.bin .add (.lit 1) (.bin .rem (.var 4) (.lit 1000))))), (-1), true⟩, ⟨(.bin .rem (.var 4) (.lit 1000)), (-1), false⟩]
theorem dead102_no (v : Nat → Int) : ¬ ∀ f ∈ dead102, f.holds v := by
  intro h
  have h0 : (((((1 + Int.tmod (v 4) (1000)) * (-90)) * (-90)) + (((1 + Int.tmod (v 4) (1000)) * 90) * 90)) - (16020 * (1 + Int.tmod (v 4) (1000)))) ≤ (-1) := h _ (.head _)
  have h1 : (-1) < Int.tmod (v 4) (1000) := h _ (.tail _ (.head _))
  clear h
  first | omega | (simp only [Go.Ev.tmod_e] at *; omega)
def dead103 : List Fact := [⟨(.bin .sub (.bin .mul (.lit 16277) (.bin .add (.lit 1) (.bin .rem (.var 4) (.lit 1000)))) (.bin .add (.bin .mul (.bin .mul (.bin .add (.lit 1) (.bin .rem (.var 4) (.lit 1000))) (.lit (-90))) (.lit (-90))) (.bin .mul (.bin .mul (.bin .add (.lit 1) (.bin .rem (.var 4) (.lit 1000))) (.lit 90)) (.lit 90)))), (-1), true⟩, ⟨(.bin .rem (.var 4) (.lit 1000)), (-1), false⟩]
theorem dead103_no (v : Nat → Int) : ¬ ∀ f ∈ dead103, f.holds v := by
  intro h
  have h0 : ((16277 * (1 + Int.tmod (v 4) (1000))) - ((((1 + Int.tmod (v 4) (1000)) * (-90)) * (-90)) + (((1 + Int.tmod (v 4) (1000)) * 90) * 90))) ≤ (-1) := h _ (.head _)
  have h1 : (-1) < Int.tmod (v 4) (1000) := h _ (.tail _ (.head _))
  clear h
  first | omega | (simp only [Go.Ev.tmod_e] at *; omega)
def dead104 : List Fact := [⟨(.bin .sub (.bin .add (.bin .mul (.bin .mul (.bin .add (.lit 1) (.bin .rem (.var 4) (.lit 1000))) (.lit (-90))) (.lit (-90))) (.bin .mul (.bin .mul (.bin .add (.lit 1) (.bin .rem (.var 4) (.lit 1000))) (.lit 90)) (.lit 90))) (.bin .mul (.bin .add (.lit 1) (.bin .rem (.var 4) (.lit 1000))) (.lit 16200))), 0, false⟩]
theorem dead104_no (v : Nat → Int) : ¬ ∀ f ∈ dead104, f.holds v := by
  intro h
  have h0 : 0 < (((((1 + Int.tmod (v 4) (1000)) * (-90)) * (-90)) + (((1 + Int.tmod (v 4) (1000)) * 90) * 90)) - ((1 + Int.tmod (v 4) (1000)) * 16200)) := h _ (.head _)
  clear h
  first | omega | (simp only [Go.Ev.tmod_e] at *; omega)
def dead105 : List Fact := [⟨(.bin .sub (.bin .mul (.bin .mul (.bin .add (.lit 1) (.bin .rem (.var 4) (.lit 1000))) (.lit 90)) (.lit (-90))) (.bin .mul (.bin .mul (.bin .add (.lit 1) (.bin .rem (.var 4) (.lit 1000))) (.lit (-90))) (.lit 90))), 0, false⟩]
theorem dead105_no (v : Nat → Int) : ¬ ∀ f ∈ dead105, f.holds v := by
  intro h
  have h0 : 0 < ((((1 + Int.tmod (v 4) (1000)) * 90) * (-90)) - (((1 + Int.tmod (v 4) (1000)) * (-90)) * 90)) := h _ (.head _)
  clear h
  first | omega | (simp only [Go.Ev.tmod_e] at *; omega)
def dead106 : List Fact := [⟨(.bin .sub (.bin .mul (.bin .mul (.bin .add (.lit 1) (.bin .add (.bin .rem (.var 4) (.lit 1000)) (.lit 1000))) (.lit 81)) (.lit (-98))) (.bin .mul (.bin .mul (.bin .add (.lit 1) (.bin .add (.bin .rem (.var 4) (.lit 1000)) (.lit 1000))) (.lit (-98))) (.lit 81))), (-1), true⟩]
theorem dead106_no (v : Nat → Int) : ¬ ∀ f ∈ dead106, f.holds v := by
  intro h
  have h0 : ((((1 + (Int.tmod (v 4) (1000) + 1000)) * 81) * (-98)) - (((1 + (Int.tmod (v 4) (1000) + 1000)) * (-98)) * 81)) ≤ (-1) := h _ (.head _)
  clear h
  first | omega | (simp only [Go.Ev.tmod_e] at *; omega)
def dead107 : List Fact := [⟨(.bin .sub (.bin .add (.bin .mul (.bin .mul (.bin .add (.lit 1) (.bin .add (.bin .rem (.var 4) (.lit 1000)) (.lit 1000))) (.lit (-98))) (.lit (-98))) (.bin .mul (.bin .mul (.bin .add (.lit 1) (.bin .add (.bin .rem (.var 4) (.lit 1000)) (.lit 1000))) (.lit 81)) (.lit 81))) (.bin .mul (.bin .add (.lit 1) (.bin .add (.bin .rem (.var 4) (.lit 1000)) (.lit 1000))) (.lit 16165))), (-1), true⟩]
theorem dead107_no (v : Nat → Int) : ¬ ∀ f ∈ dead107, f.holds v := by
  intro h
  have h0 : (((((1 + (Int.tmod (v 4) (1000) + 1000)) * (-98)) * (-98)) + (((1 + (Int.tmod (v 4) (1000) + 1000)) * 81) * 81)) - ((1 + (Int.tmod (v 4) (1000) + 1000)) * 16165)) ≤ (-1) := h _ (.head _)
  clear h
  first | omega | (simp only [Go.Ev.tmod_e] at *; omega)
def dead108 : List Fact := [⟨(.bin .sub (.bin .add (.bin .mul (.bin .mul (.bin .add (.lit 1) (.bin .add (.bin .rem (.var 4) (.lit 1000)) (.lit 1000))) (.lit (-98))) (.lit (-98))) (.bin .mul (.bin .mul (.bin .add (.lit 1) (.bin .add (.bin .rem (.var 4) (.lit 1000)) (.lit 1000))) (.lit 81)) (.lit 81))) (.bin .mul (.lit 16020) (.bin .add (.lit 1) (.bin .add (.bin .rem (.var 4) (.lit 1000)) (.lit 1000))))), (-1), true⟩]
theorem dead108_no (v : Nat → Int) : ¬ ∀ f ∈ dead108, f.holds v := by
  intro h
  have h0 : (((((1 + (Int.tmod (v 4) (1000) + 1000)) * (-98)) * (-98)) + (((1 + (Int.tmod (v 4) (1000) + 1000)) * 81) * 81)) - (16020 * (1 + (Int.tmod (v 4) (1000) + 1000)))) ≤ (-1) := h _ (.head _)
  clear h
  first | omega | (simp only [Go.Ev.tmod_e] at *; omega)
def dead109 : List Fact := [⟨(.bin .sub (.bin .mul (.lit 16277) (.bin .add (.lit 1) (.bin .add (.bin .rem (.var 4) (.lit 1000)) (.lit 1000)))) (.bin .add (.bin .mul (.bin .mul (.bin .add (.lit 1) (.bin .add (.bin .rem (.var 4) (.lit 1000)) (.lit 1000))) (.lit (-98))) (.lit (-98))) (.bin .mul (.bin .mul (.bin .add (.lit 1) (.bin .add (.bin .rem (.var 4) (.lit 1000)) (.lit 1000))) (.lit 81)) (.lit 81)))), (-1), true⟩]
theorem dead109_no (v : Nat → Int) : ¬ ∀ f ∈ dead109, f.holds v := by
  intro h
  have h0 : ((16277 * (1 + (Int.tmod (v 4) (1000) + 1000))) - ((((1 + (Int.tmod (v 4) (1000) + 1000)) * (-98)) * (-98)) + (((1 + (Int.tmod (v 4) (1000) + 1000)) * 81) * 81))) ≤ (-1) := h _ (.head _)
  clear h
  first | omega | (simp only [Go.Ev.tmod_e] at *; omega)
def dead110 : List Fact := [⟨(.bin .sub (.bin .add (.bin .mul (.bin .mul (.bin .add (.lit 1) (.bin .add (.bin .rem (.var 4) (.lit 1000)) (.lit 1000))) (.lit (-98))) (.lit (-98))) (.bin .mul (.bin .mul (.bin .add (.lit 1) (.bin .add (.bin .rem (.var 4) (.lit 1000)) (.lit 1000))) (.lit 81)) (.lit 81))) (.bin .mul (.bin .add (.lit 1) (.bin .add (.bin .rem (.var 4) (.lit 1000)) (.lit 1000))) (.lit 16165))), 0, false⟩]
theorem dead110_no (v : Nat → Int) : ¬ ∀ f ∈ dead110, f.holds v := by
  intro h
  have h0 : 0 < (((((1 + (Int.tmod (v 4) (1000) + 1000)) * (-98)) * (-98)) + (((1 + (Int.tmod (v 4) (1000) + 1000)) * 81) * 81)) - ((1 + (Int.tmod (v 4) (1000) + 1000)) * 16165)) := h _ (.head _)
  clear h
  first | omega | (simp only [Go.Ev.tmod_e] at *; omega)
def dead111 : List Fact := [⟨(.bin .sub (.bin .mul (.bin .mul (.bin .add (.lit 1) (.bin .add (.bin .rem (.var 4) (.lit 1000)) (.lit 1000))) (.lit 81)) (.lit (-98))) (.bin .mul (.bin .mul (.bin .add (.lit 1) (.bin .add (.bin .rem (.var 4) (.lit 1000)) (.lit 1000))) (.lit (-98))) (.lit 81))), 0, false⟩]
theorem dead111_no (v : Nat → Int) : ¬ ∀ f ∈ dead111, f.holds v := by
  intro h
  have h0 : 0 < ((((1 + (Int.tmod (v 4) (1000) + 1000)) * 81) * (-98)) - (((1 + (Int.tmod (v 4) (1000) + 1000)) * (-98)) * 81)) := h _ (.head _)
  clear h
  first | omega | (simp only [Go.Ev.tmod_e] at *; omega)
def dead112 : List Fact := [⟨(.bin .sub (.bin .mul (.bin .mul (.bin .add (.lit 1) (.bin .rem (.var 4) (.lit 1000))) (.lit 81)) (.lit (-98))) (.bin .mul (.bin .mul (.bin .add (.lit 1) (.bin .rem (.var 4) (.lit 1000))) (.lit (-98))) (.lit 81))), (-1), true⟩]
theorem dead112_no (v : Nat → Int) : ¬ ∀ f ∈ dead112, f.holds v := by
  intro h
  have h0 : ((((1 + Int.tmod (v 4) (1000)) * 81) * (-98)) - (((1 + Int.tmod (v 4) (1000)) * (-98)) * 81)) ≤ (-1) := h _ (.head _)
  clear h
  first | omega | (simp only [Go.Ev.tmod_e] at *; omega)
def dead113 : List Fact := [⟨(.bin .sub (.bin .add (.bin .mul (.bin .mul (.bin .add (.lit 1) (.bin .rem (.var 4) (.lit 1000))) (.lit (-98))) (.lit (-98))) (.bin .mul (.bin .mul (.bin .add (.lit 1) (.bin .rem (.var 4) (.lit 1000))) (.lit 81)) (.lit 81))) (.bin .mul (.bin .add (.lit 1) (.bin .rem (.var 4) (.lit 1000))) (.lit 16165))), (-1), true⟩]
theorem dead113_no (v : Nat → Int) : ¬ ∀ f ∈ dead113, f.holds v := by
  intro h
  have h0 : (((((1 + Int.tmod (v 4) (1000)) * (-98)) * (-98)) + (((1 + Int.tmod (v 4) (1000)) * 81) * 81)) - ((1 + Int.tmod (v 4) (1000)) * 16165)) ≤ (-1) := h _ (.head _)
  clear h
  first | omega | (simp only [Go.Ev.tmod_e] at *; omega)
def dead114 : List Fact := [⟨(.bin .sub (.bin .add (.bin .mul (.bin .mul (.bin .add (.lit 1) (.bin .rem (.var 4) (.lit 1000))) (.lit (-98))) (.lit (-98))) (.bin .mul (.bin .mul (.bin .add (.lit 1) (.bin .rem (.var 4) (.lit 1000))) (.lit 81)) (.lit 81))) (.bin .mul (.lit 16020) (.bin .add (.lit 1) (.bin .rem (.var 4) (.lit 1000))))), (-1), true⟩, ⟨(.bin .rem (.var 4) (.lit 1000)), (-1), false⟩]
theorem dead114_no (v : Nat → Int) : ¬ ∀ f ∈ dead114, f.holds v := by
  intro h
  have h0 : (((((1 + Int.tmod (v 4) (1000)) * (-98)) * (-98)) + (((1 + Int.tmod (v 4) (1000)) * 81) * 81)) - (16020 * (1 + Int.tmod (v 4) (1000)))) ≤ (-1) := h _ (.head _)
  have h1 : (-1) < Int.tmod (v 4) (1000) := h _ (.tail _ (.head _))
  clear h
  first | omega | (simp only [Go.Ev.tmod_e] at *; omega)
def dead115 : List Fact := [⟨(.bin .sub (.bin .mul (.lit 16277) (.bin .add (.lit 1) (.bin .rem (.var 4) (.lit 1000)))) (.bin .add (.bin .mul (.bin .mul (.bin .add (.lit 1) (.bin .rem (.var 4) (.lit 1000))) (.lit (-98))) (.lit (-98))) (.bin .mul (.bin .mul (.bin .add (.lit 1) (.bin .rem (.var 4) (.lit 1000))) (.lit 81)) (.lit 81)))), (-1), true⟩, ⟨(.bin .rem (.var 4) (.lit 1000)), (-1), false⟩]
theorem dead115_no (v : Nat → Int) : ¬ ∀ f ∈ dead115, f.holds v := by
  intro h
  have h0 : ((16277 * (1 + Int.tmod (v 4) (1000))) - ((((1 + Int.tmod (v 4) (1000)) * (-98)) * (-98)) + (((1 + Int.tmod (v 4) (1000)) * 81) * 81))) ≤ (-1) := h _ (.head _)
  have h1 : (-1) < Int.tmod (v 4) (1000) := h _ (.tail _ (.head _))
  clear h
  first | omega | (simp only [Go.Ev.tmod_e] at *; omega)
def dead116 : List Fact := [⟨(.bin .sub (.bin .add (.bin .mul (.bin .mul (.bin .add (.lit 1) (.bin .rem (.var 4) (.lit 1000))) (.lit (-98))) (.lit (-98))) (.bin .mul (.bin .mul (.bin .add (.lit 1) (.bin .rem (.var 4) (.lit 1000))) (.lit 81)) (.lit 81))) (.bin .mul (.bin .add (.lit 1) (.bin .rem (.var 4) (.lit 1000))) (.lit 16165))), 0, false⟩]
theorem dead116_no (v : Nat → Int) : ¬ ∀ f ∈ dead116, f.holds v := by
  intro h
  have h0 : 0 < (((((1 + Int.tmod (v 4) (1000)) * (-98)) * (-98)) + (((1 + Int.tmod (v 4) (1000)) * 81) * 81)) - ((1 + Int.tmod (v 4) (1000)) * 16165)) := h _ (.head _)
  clear h
  first | omega | (simp only [Go.Ev.tmod_e] at *; omega)
def dead117 : List Fact := [⟨(.bin .sub (.bin .mul (.bin .mul (.bin .add (.lit 1) (.bin .rem (.var 4) (.lit 1000))) (.lit 81)) (.lit (-98))) (.bin .mul (.bin .mul (.bin .add (.lit 1) (.bin .rem (.var 4) (.lit 1000))) (.lit (-98))) (.lit 81))), 0, false⟩]
theorem dead117_no (v : Nat → Int) : ¬ ∀ f ∈ dead117, f.holds v := by
  intro h
  have h0 : 0 < ((((1 + Int.tmod (v 4) (1000)) * 81) * (-98)) - (((1 + Int.tmod (v 4) (1000)) * (-98)) * 81)) := h _ (.head _)
  clear h
  first | omega | (simp only [Go.Ev.tmod_e] at *; omega)
def dead118 : List Fact := [⟨(.bin .sub (.bin .mul (.bin .mul (.bin .add (.lit 1) (.bin .add (.bin .rem (.var 4) (.lit 1000)) (.lit 1000))) (.lit 71)) (.lit (-106))) (.bin .mul (.bin .mul (.bin .add (.lit 1) (.bin .add (.bin .rem (.var 4) (.lit 1000)) (.lit 1000))) (.lit (-106))) (.lit 71))), (-1), true⟩]
theorem dead118_no (v : Nat → Int) : ¬ ∀ f ∈ dead118, f.holds v := by
  intro h
  have h0 : ((((1 + (Int.tmod (v 4) (1000) + 1000)) * 71) * (-106)) - (((1 + (Int.tmod (v 4) (1000) + 1000)) * (-106)) * 71)) ≤ (-1) := h _ (.head _)
  clear h
  first | omega | (simp only [Go.Ev.tmod_e] at *; omega)
def dead119 : List Fact := [⟨(.bin .sub (.bin .add (.bin .mul (.bin .mul (.bin .add (.lit 1) (.bin .add (.bin .rem (.var 4) (.lit 1000)) (.lit 1000))) (.lit (-106))) (.lit (-106))) (.bin .mul (.bin .mul (.bin .add (.lit 1) (.bin .add (.bin .rem (.var 4) (.lit 1000)) (.lit 1000))) (.lit 71)) (.lit 71))) (.bin .mul (.bin .add (.lit 1) (.bin .add (.bin .rem (.var 4) (.lit 1000)) (.lit 1000))) (.lit 16277))), (-1), true⟩]
theorem dead119_no (v : Nat → Int) : ¬ ∀ f ∈ dead119, f.holds v := by
  intro h
  have h0 : (((((1 + (Int.tmod (v 4) (1000) + 1000)) * (-106)) * (-106)) + (((1 + (Int.tmod (v 4) (1000) + 1000)) * 71) * 71)) - ((1 + (Int.tmod (v 4) (1000) + 1000)) * 16277)) ≤ (-1) := h _ (.head _)
  clear h
  first | omega | (simp only [Go.Ev.tmod_e] at *; omega)
def dead120 : List Fact := [⟨(.bin .sub (.bin .add (.bin .mul (.bin .mul (.bin .add (.lit 1) (.bin .add (.bin .rem (.var 4) (.lit 1000)) (.lit 1000))) (.lit (-106))) (.lit (-106))) (.bin .mul (.bin .mul (.bin .add (.lit 1) (.bin .add (.bin .rem (.var 4) (.lit 1000)) (.lit 1000))) (.lit 71)) (.lit 71))) (.bin .mul (.lit 16020) (.bin .add (.lit 1) (.bin .add (.bin .rem (.var 4) (.lit 1000)) (.lit 1000))))), (-1), true⟩]
theorem dead120_no (v : Nat → Int) : ¬ ∀ f ∈ dead120, f.holds v := by
  intro h
  have h0 : (((((1 + (Int.tmod (v 4) (1000) + 1000)) * (-106)) * (-106)) + (((1 + (Int.tmod (v 4) (1000) + 1000)) * 71) * 71)) - (16020 * (1 + (Int.tmod (v 4) (1000) + 1000)))) ≤ (-1) := h _ (.head _)
  clear h
  first | omega | (simp only [Go.Ev.tmod_e] at *; omega)
def dead121 : List Fact := [⟨(.bin .sub (.bin .mul (.lit 16277) (.bin .add (.lit 1) (.bin .add (.bin .rem (.var 4) (.lit 1000)) (.lit 1000)))) (.bin .add (.bin .mul (.bin .mul (.bin .add (.lit 1) (.bin .add (.bin .rem (.var 4) (.lit 1000)) (.lit 1000))) (.lit (-106))) (.lit (-106))) (.bin .mul (.bin .mul (.bin .add (.lit 1) (.bin .add (.bin .rem (.var 4) (.lit 1000)) (.lit 1000))) (.lit 71)) (.lit 71)))), (-1), true⟩]
theorem dead121_no (v : Nat → Int) : ¬ ∀ f ∈ dead121, f.holds v := by
  intro h
  have h0 : ((16277 * (1 + (Int.tmod (v 4) (1000) + 1000))) - ((((1 + (Int.tmod (v 4) (1000) + 1000)) * (-106)) * (-106)) + (((1 + (Int.tmod (v 4) (1000) + 1000)) * 71) * 71))) ≤ (-1) := h _ (.head _)
  clear h
  first | omega | (simp only [Go.Ev.tmod_e] at *; omega)
def dead122 : List Fact := [⟨(.bin .sub (.bin .add (.bin .mul (.bin .mul (.bin .add (.lit 1) (.bin .add (.bin .rem (.var 4) (.lit 1000)) (.lit 1000))) (.lit (-106))) (.lit (-106))) (.bin .mul (.bin .mul (.bin .add (.lit 1) (.bin .add (.bin .rem (.var 4) (.lit 1000)) (.lit 1000))) (.lit 71)) (.lit 71))) (.bin .mul (.bin .add (.lit 1) (.bin .add (.bin .rem (.var 4) (.lit 1000)) (.lit 1000))) (.lit 16277))), 0, false⟩]
theorem dead122_no (v : Nat → Int) : ¬ ∀ f ∈ dead122, f.holds v := by
  intro h
  have h0 : 0 < (((((1 + (Int.tmod (v 4) (1000) + 1000)) * (-106)) * (-106)) + (((1 + (Int.tmod (v 4) (1000) + 1000)) * 71) * 71)) - ((1 + (Int.tmod (v 4) (1000) + 1000)) * 16277)) := h _ (.head _)
  clear h
  first | omega | (simp only [Go.Ev.tmod_e] at *; omega)
def dead123 : List Fact := [⟨(.bin .sub (.bin .mul (.bin .mul (.bin .add (.lit 1) (.bin .add (.bin .rem (.var 4) (.lit 1000)) (.lit 1000))) (.lit 71)) (.lit (-106))) (.bin .mul (.bin .mul (.bin .add (.lit 1) (.bin .add (.bin .rem (.var 4) (.lit 1000)) (.lit 1000))) (.lit (-106))) (.lit 71))), 0, false⟩]
theorem dead123_no (v : Nat → Int) : ¬ ∀ f ∈ dead123, f.holds v := by
  intro h
  have h0 : 0 < ((((1 + (Int.tmod (v 4) (1000) + 1000)) * 71) * (-106)) - (((1 + (Int.tmod (v 4) (1000) + 1000)) * (-106)) * 71)) := h _ (.head _)
  clear h
  first | omega | (simp only [Go.Ev.tmod_e] at *; omega)
def dead124 : List Fact := [⟨(.bin .sub (.bin .mul (.bin .mul (.bin .add (.lit 1) (.bin .rem (.var 4) (.lit 1000))) (.lit 71)) (.lit (-106))) (.bin .mul (.bin .mul (.bin .add (.lit 1) (.bin .rem (.var 4) (.lit 1000))) (.lit (-106))) (.lit 71))), (-1), true⟩]
theorem dead124_no (v : Nat → Int) : ¬ ∀ f ∈ dead124, f.holds v := by
  intro h
  have h0 : ((((1 + Int.tmod (v 4) (1000)) * 71) * (-106)) - (((1 + Int.tmod (v 4) (1000)) * (-106)) * 71)) ≤ (-1) := h _ (.head _)
  clear h
  first | omega | (simp only [Go.Ev.tmod_e] at *; omega)
def dead125 : List Fact := [⟨(.bin .sub (.bin .add (.bin .mul (.bin .mul (.bin .add (.lit 1) (.bin .rem (.var 4) (.lit 1000))) (.lit (-106))) (.lit (-106))) (.bin .mul (.bin .mul (.bin .add (.lit 1) (.bin .rem (.var 4) (.lit 1000))) (.lit 71)) (.lit 71))) (.bin .mul (.bin .add (.lit 1) (.bin .rem (.var 4) (.lit 1000))) (.lit 16277))), (-1), true⟩]
theorem dead125_no (v : Nat → Int) : ¬ ∀ f ∈ dead125, f.holds v := by
  intro h
  have h0 : (((((1 + Int.tmod (v 4) (1000)) * (-106)) * (-106)) + (((1 + Int.tmod (v 4) (1000)) * 71) * 71)) - ((1 + Int.tmod (v 4) (1000)) * 16277)) ≤ (-1) := h _ (.head _)
  clear h
  first | omega | (simp only [Go.Ev.tmod_e] at *; omega)
def dead126 : List Fact := [⟨(.bin .sub (.bin .add (.bin .mul (.bin .mul (.bin .add (.lit 1) (.bin .rem (.var 4) (.lit 1000))) (.lit (-106))) (.lit (-106))) (.bin .mul (.bin .mul (.bin .add (.lit 1) (.bin .rem (.var 4) (.lit 1000))) (.lit 71)) (.lit 71))) (.bin .mul (.lit 16020) (.bin .add (.lit 1) (.bin .rem (.var 4) (.lit 1000))))), (-1), true⟩, ⟨(.bin .rem (.var 4) (.lit 1000)), (-1), false⟩]
theorem dead126_no (v : Nat → Int) : ¬ ∀ f ∈ dead126, f.holds v := by
  intro h
  have h0 : (((((1 + Int.tmod (v 4) (1000)) * (-106)) * (-106)) + (((1 + Int.tmod (v 4) (1000)) * 71) * 71)) - (16020 * (1 + Int.tmod (v 4) (1000)))) ≤ (-1) := h _ (.head _)
  have h1 : (-1) < Int.tmod (v 4) (1000) := h _ (.tail _ (.head _))
  clear h
  first | omega | (simp only [Go.Ev.tmod_e] at *; omega)
def dead127 : List Fact := [⟨(.bin .sub (.bin .mul (.lit 16277) (.bin .add (.lit 1) (.bin .rem (.var 4) (.lit 1000)))) (.bin .add (.bin .mul (.bin .mul (.bin .add (.lit 1) (.bin .rem (.var 4) (.lit 1000))) (.lit (-106))) (.lit (-106))) (.bin .mul (.bin .mul (.bin .add (.lit 1) (.bin .rem (.var 4) (.lit 1000))) (.lit 71)) (.lit 71)))), (-1), true⟩]
theorem dead127_no (v : Nat → Int) : ¬ ∀ f ∈ dead127, f.holds v := by
  intro h
  have h0 : ((16277 * (1 + Int.tmod (v 4) (1000))) - ((((1 + Int.tmod (v 4) (1000)) * (-106)) * (-106)) + (((1 + Int.tmod (v 4) (1000)) * 71) * 71))) ≤ (-1) := h _ (.head _)
  clear h
  first | omega | (simp only [Go.Ev.tmod_e] at *; omega)
def dead128 : List Fact := [⟨(.bin .sub (.bin .add (.bin .mul (.bin .mul (.bin .add (.lit 1) (.bin .rem (.var 4) (.lit 1000))) (.lit (-106))) (.lit (-106))) (.bin .mul (.bin .mul (.bin .add (.lit 1) (.bin .rem (.var 4) (.lit 1000))) (.lit 71)) (.lit 71))) (.bin .mul (.bin .add (.lit 1) (.bin .rem (.var 4) (.lit 1000))) (.lit 16277))), 0, false⟩]
theorem dead128_no (v : Nat → Int) : ¬ ∀ f ∈ dead128, f.holds v := by
  intro h
  have h0 : 0 < (((((1 + Int.tmod (v 4) (1000)) * (-106)) * (-106)) + (((1 + Int.tmod (v 4) (1000)) * 71) * 71)) - ((1 + Int.tmod (v 4) (1000)) * 16277)) := h _ (.head _)
  clear h
  first | omega | (simp only [Go.Ev.tmod_e] at *; omega)
def dead129 : List Fact := [⟨(.bin .sub (.bin .mul (.bin .mul (.bin .add (.lit 1) (.bin .rem (.var 4) (.lit 1000))) (.lit 71)) (.lit (-106))) (.bin .mul (.bin .mul (.bin .add (.lit 1) (.bin .rem (.var 4) (.lit 1000))) (.lit (-106))) (.lit 71))), 0, false⟩]
theorem dead129_no (v : Nat → Int) : ¬ ∀ f ∈ dead129, f.holds v := by
  intro h
  have h0 : 0 < ((((1 + Int.tmod (v 4) (1000)) * 71) * (-106)) - (((1 + Int.tmod (v 4) (1000)) * (-106)) * 71)) := h _ (.head _)
  clear h
  first | omega | (simp only [Go.Ev.tmod_e] at *; omega)
def dead130 : List Fact := [⟨(.bin .sub (.bin .mul (.bin .mul (.bin .add (.lit 1) (.bin .add (.bin .rem (.var 4) (.lit 1000)) (.lit 1000))) (.lit 60)) (.lit (-112))) (.bin .mul (.bin .mul (.bin .add (.lit 1) (.bin .add (.bin .rem (.var 4) (.lit 1000)) (.lit 1000))) (.lit (-112))) (.lit 60))), (-1), true⟩]
theorem dead130_no (v : Nat → Int) : ¬ ∀ f ∈ dead130, f.holds v := by
  intro h
  have h0 : ((((1 + (Int.tmod (v 4) (1000) + 1000)) * 60) * (-112)) - (((1 + (Int.tmod (v 4) (1000) + 1000)) * (-112)) * 60)) ≤ (-1) := h _ (.head _)
  clear h
  first | omega | (simp only [Go.Ev.tmod_e] at *; omega)
def dead131 : List Fact := [⟨(.bin .sub (.bin .add (.bin .mul (.bin .mul (.bin .add (.lit 1) (.bin .add (.bin .rem (.var 4) (.lit 1000)) (.lit 1000))) (.lit (-112))) (.lit (-112))) (.bin .mul (.bin .mul (.bin .add (.lit 1) (.bin .add (.bin .rem (.var 4) (.lit 1000)) (.lit 1000))) (.lit 60)) (.lit 60))) (.bin .mul (.bin .add (.lit 1) (.bin .add (.bin .rem (.var 4) (.lit 1000)) (.lit 1000))) (.lit 16144))), (-1), true⟩]
theorem dead131_no (v : Nat → Int) : ¬ ∀ f ∈ dead131, f.holds v := by
  intro h
  have h0 : (((((1 + (Int.tmod (v 4) (1000) + 1000)) * (-112)) * (-112)) + (((1 + (Int.tmod (v 4) (1000) + 1000)) * 60) * 60)) - ((1 + (Int.tmod (v 4) (1000) + 1000)) * 16144)) ≤ (-1) := h _ (.head _)
  clear h
  first | omega | (simp only [Go.Ev.tmod_e] at *; omega)
def dead132 : List Fact := [⟨(.bin .sub (.bin .add (.bin .mul (.bin .mul (.bin .add (.lit 1) (.bin .add (.bin .rem (.var 4) (.lit 1000)) (.lit 1000))) (.lit (-112))) (.lit (-112))) (.bin .mul (.bin .mul (.bin .add (.lit 1) (.bin .add (.bin .rem (.var 4) (.lit 1000)) (.lit 1000))) (.lit 60)) (.lit 60))) (.bin .mul (.lit 16020) (.bin .add (.lit 1) (.bin .add (.bin .rem (.var 4) (.lit 1000)) (.lit 1000))))), (-1), true⟩]
theorem dead132_no (v : Nat → Int) : ¬ ∀ f ∈ dead132, f.holds v := by
  intro h
  have h0 : (((((1 + (Int.tmod (v 4) (1000) + 1000)) * (-112)) * (-112)) + (((1 + (Int.tmod (v 4) (1000) + 1000)) * 60) * 60)) - (16020 * (1 + (Int.tmod (v 4) (1000) + 1000)))) ≤ (-1) := h _ (.head _)
  clear h
  first | omega | (simp only [Go.Ev.tmod_e] at *; omega)
def dead133 : List Fact := [⟨(.bin .sub (.bin .mul (.lit 16277) (.bin .add (.lit 1) (.bin .add (.bin .rem (.var 4) (.lit 1000)) (.lit 1000)))) (.bin .add (.bin .mul (.bin .mul (.bin .add (.lit 1) (.bin .add (.bin .rem (.var 4) (.lit 1000)) (.lit 1000))) (.lit (-112))) (.lit (-112))) (.bin .mul (.bin .mul (.bin .add (.lit 1) (.bin .add (.bin .rem (.var 4) (.lit 1000)) (.lit 1000))) (.lit 60)) (.lit 60)))), (-1), true⟩]
theorem dead133_no (v : Nat → Int) : ¬ ∀ f ∈ dead133, f.holds v := by
  intro h
  have h0 : ((16277 * (1 + (Int.tmod (v 4) (1000) + 1000))) - ((((1 + (Int.tmod (v 4) (1000) + 1000)) * (-112)) * (-112)) + (((1 + (Int.tmod (v 4) (1000) + 1000)) * 60) * 60))) ≤ (-1) := h _ (.head _)
  clear h
  first | omega | (simp only [Go.Ev.tmod_e] at *; omega)
def dead134 : List Fact := [⟨(.bin .sub (.bin .add (.bin .mul (.bin .mul (.bin .add (.lit 1) (.bin .add (.bin .rem (.var 4) (.lit 1000)) (.lit 1000))) (.lit (-112))) (.lit (-112))) (.bin .mul (.bin .mul (.bin .add (.lit 1) (.bin .add (.bin .rem (.var 4) (.lit 1000)) (.lit 1000))) (.lit 60)) (.lit 60))) (.bin .mul (.bin .add (.lit 1) (.bin .add (.bin .rem (.var 4) (.lit 1000)) (.lit 1000))) (.lit 16144))), 0, false⟩]
theorem dead134_no (v : Nat → Int) : ¬ ∀ f ∈ dead134, f.holds v := by
  intro h
  have h0 : 0 < (((((1 + (Int.tmod (v 4) (1000) + 1000)) * (-112)) * (-112)) + (((1 + (Int.tmod (v 4) (1000) + 1000)) * 60) * 60)) - ((1 + (Int.tmod (v 4) (1000) + 1000)) * 16144)) := h _ (.head _)
  clear h
  first | omega | (simp only [Go.Ev.tmod_e] at *; omega)
def dead135 : List Fact := [⟨(.bin .sub (.bin .mul (.bin .mul (.bin .add (.lit 1) (.bin .add (.bin .rem (.var 4) (.lit 1000)) (.lit 1000))) (.lit 60)) (.lit (-112))) (.bin .mul (.bin .mul (.bin .add (.lit 1) (.bin .add (.bin .rem (.var 4) (.lit 1000)) (.lit 1000))) (.lit (-112))) (.lit 60))), 0, false⟩]
theorem dead135_no (v : Nat → Int) : ¬ ∀ f ∈ dead135, f.holds v := by
  intro h
  have h0 : 0 < ((((1 + (Int.tmod (v 4) (1000) + 1000)) * 60) * (-112)) - (((1 + (Int.tmod (v 4) (1000) + 1000)) * (-112)) * 60)) := h _ (.head _)
  clear h
  first | omega | (simp only [Go.Ev.tmod_e] at *; omega)
def dead136 : List Fact := [⟨(.bin .sub (.bin .mul (.bin .mul (.bin .add (.lit 1) (.bin .rem (.var 4) (.lit 1000))) (.lit 60)) (.lit (-112))) (.bin .mul (.bin .mul (.bin .add (.lit 1) (.bin .rem (.var 4) (.lit 1000))) (.lit (-112))) (.lit 60))), (-1), true⟩]
theorem dead136_no (v : Nat → Int) : ¬ ∀ f ∈ dead136, f.holds v := by
  intro h
  have h0 : ((((1 + Int.tmod (v 4) (1000)) * 60) * (-112)) - (((1 + Int.tmod (v 4) (1000)) * (-112)) * 60)) ≤ (-1) := h _ (.head _)
  clear h
  first | omega | (simp only [Go.Ev.tmod_e] at *; omega)
def dead137 : List Fact := [⟨(.bin .sub (.bin .add (.bin .mul (.bin .mul (.bin .add (.lit 1) (.bin .rem (.var 4) (.lit 1000))) (.lit (-112))) (.lit (-112))) (.bin .mul (.bin .mul (.bin .add (.lit 1) (.bin .rem (.var 4) (.lit 1000))) (.lit 60)) (.lit 60))) (.bin .mul (.bin .add (.lit 1) (.bin .rem (.var 4) (.lit 1000))) (.lit 16144))), (-1), true⟩]
theorem dead137_no (v : Nat → Int) : ¬ ∀ f ∈ dead137, f.holds v := by
  intro h
  have h0 : (((((1 + Int.tmod (v 4) (1000)) * (-112)) * (-112)) + (((1 + Int.tmod (v 4) (1000)) * 60) * 60)) - ((1 + Int.tmod (v 4) (1000)) * 16144)) ≤ (-1) := h _ (.head _)
  clear h
  first | omega | (simp only [Go.Ev.tmod_e] at *; omega)
def dead138 : List Fact := [⟨(.bin .sub (.bin .add (.bin .mul (.bin .mul (.bin .add (.lit 1) (.bin .rem (.var 4) (.lit 1000))) (.lit (-112))) (.lit (-112))) (.bin .mul (.bin .mul (.bin .add (.lit 1) (.bin .rem (.var 4) (.lit 1000))) (.lit 60)) (.lit 60))) (.bin .mul (.lit 16020) (.bin .add (.lit 1) (.bin .rem (.var 4) (.lit 1000))))), (-1), true⟩, ⟨(.bin .rem (.var 4) (.lit 1000)), (-1), false⟩]
theorem dead138_no (v : Nat → Int) : ¬ ∀ f ∈ dead138, f.holds v := by
  intro h
  have h0 : (((((1 + Int.tmod (v 4) (1000)) * (-112)) * (-112)) + (((1 + Int.tmod (v 4) (1000)) * 60) * 60)) - (16020 * (1 + Int.tmod (v 4) (1000)))) ≤ (-1) := h _ (.head _)
  have h1 : (-1) < Int.tmod (v 4) (1000) := h _ (.tail _ (.head _))
  clear h
  first | omega | (simp only [Go.Ev.tmod_e] at *; omega)
def dead139 : List Fact := [⟨(.bin .sub (.bin .mul (.lit 16277) (.bin .add (.lit 1) (.bin .rem (.var 4) (.lit 1000)))) (.bin .add (.bin .mul (.bin .mul (.bin .add (.lit 1) (.bin .rem (.var 4) (.lit 1000))) (.lit (-112))) (.lit (-112))) (.bin .mul (.bin .mul (.bin .add (.lit 1) (.bin .rem (.var 4) (.lit 1000))) (.lit 60)) (.lit 60)))), (-1), true⟩, ⟨(.bin .rem (.var 4) (.lit 1000)), (-1), false⟩]
theorem dead139_no (v : Nat → Int) : ¬ ∀ f ∈ dead139, f.holds v := by
  intro h
  have h0 : ((16277 * (1 + Int.tmod (v 4) (1000))) - ((((1 + Int.tmod (v 4) (1000)) * (-112)) * (-112)) + (((1 + Int.tmod (v 4) (1000)) * 60) * 60))) ≤ (-1) := h _ (.head _)
  have h1 : (-1) < Int.tmod (v 4) (1000) := h _ (.tail _ (.head _))
  clear h
  first | omega | (simp only [Go.Ev.tmod_e] at *; omega)
def dead140 : List Fact := [⟨(.bin .sub (.bin .add (.bin .mul (.bin .mul (.bin .add (.lit 1) (.bin .rem (.var 4) (.lit 1000))) (.lit (-112))) (.lit (-112))) (.bin .mul (.bin .mul (.bin .add (.lit 1) (.bin .rem (.var 4) (.lit 1000))) (.lit 60)) (.lit 60))) (.bin .mul (.bin .add (.lit 1) (.bin .rem (.var 4) (.lit 1000))) (.lit 16144))), 0, false⟩]
theorem dead140_no (v : Nat → Int) : ¬ ∀ f ∈ dead140, f.holds v := by
  intro h
  have h0 : 0 < (((((1 + Int.tmod (v 4) (1000)) * (-112)) * (-112)) + (((1 + Int.tmod (v 4) (1000)) * 60) * 60)) - ((1 + Int.tmod (v 4) (1000)) * 16144)) := h _ (.head _)
  clear h
  first | omega | (simp only [Go.Ev.tmod_e] at *; omega)
def dead141 : List Fact := [⟨(.bin .sub (.bin .mul (.bin .mul (.bin .add (.lit 1) (.bin .rem (.var 4) (.lit 1000))) (.lit 60)) (.lit (-112))) (.bin .mul (.bin .mul (.bin .add (.lit 1) (.bin .rem (.var 4) (.lit 1000))) (.lit (-112))) (.lit 60))), 0, false⟩]
theorem dead141_no (v : Nat → Int) : ¬ ∀ f ∈ dead141, f.holds v := by
  intro h
  have h0 : 0 < ((((1 + Int.tmod (v 4) (1000)) * 60) * (-112)) - (((1 + Int.tmod (v 4) (1000)) * (-112)) * 60)) := h _ (.head _)
  clear h
  first | omega | (simp only [Go.Ev.tmod_e] at *; omega)
def dead142 : List Fact := [⟨(.bin .sub (.bin .mul (.bin .mul (.bin .add (.lit 1) (.bin .add (.bin .rem (.var 4) (.lit 1000)) (.lit 1000))) (.lit 49)) (.lit (-117))) (.bin .mul (.bin .mul (.bin .add (.lit 1) (.bin .add (.bin .rem (.var 4) (.lit 1000)) (.lit 1000))) (.lit (-117))) (.lit 49))), (-1), true⟩]
theorem dead142_no (v : Nat → Int) : ¬ ∀ f ∈ dead142, f.holds v := by
  intro h
  have h0 : ((((1 + (Int.tmod (v 4) (1000) + 1000)) * 49) * (-117)) - (((1 + (Int.tmod (v 4) (1000) + 1000)) * (-117)) * 49)) ≤ (-1) := h _ (.head _)
  clear h
  first | omega | (simp only [Go.Ev.tmod_e] at *; omega)
def dead143 : List Fact := [⟨(.bin .sub (.bin .add (.bin .mul (.bin .mul (.bin .add (.lit 1) (.bin .add (.bin .rem (.var 4) (.lit 1000)) (.lit 1000))) (.lit (-117))) (.lit (-117))) (.bin .mul (.bin .mul (.bin .add (.lit 1) (.bin .add (.bin .rem (.var 4) (.lit 1000)) (.lit 1000))) (.lit 49)) (.lit 49))) (.bin .mul (.bin .add (.lit 1) (.bin .add (.bin .rem (.var 4) (.lit 1000)) (.lit 1000))) (.lit 16090))), (-1), true⟩]
theorem dead143_no (v : Nat → Int) : ¬ ∀ f ∈ dead143, f.holds v := by
  intro h
  have h0 : (((((1 + (Int.tmod (v 4) (1000) + 1000)) * (-117)) * (-117)) + (((1 + (Int.tmod (v 4) (1000) + 1000)) * 49) * 49)) - ((1 + (Int.tmod (v 4) (1000) + 1000)) * 16090)) ≤ (-1) := h _ (.head _)
  clear h
  first | omega | (simp only [Go.Ev.tmod_e] at *; omega)
def dead144 : List Fact := [⟨(.bin .sub (.bin .add (.bin .mul (.bin .mul (.bin .add (.lit 1) (.bin .add (.bin .rem (.var 4) (.lit 1000)) (.lit 1000))) (.lit (-117))) (.lit (-117))) (.bin .mul (.bin .mul (.bin .add (.lit 1) (.bin .add (.bin .rem (.var 4) (.lit 1000)) (.lit 1000))) (.lit 49)) (.lit 49))) (.bin .mul (.lit 16020) (.bin .add (.lit 1) (.bin .add (.bin .rem (.var 4) (.lit 1000)) (.lit 1000))))), (-1), true⟩]
theorem dead144_no (v : Nat → Int) : ¬ ∀ f ∈ dead144, f.holds v := by
  intro h
  have h0 : (((((1 + (Int.tmod (v 4) (1000) + 1000)) * (-117)) * (-117)) + (((1 + (Int.tmod (v 4) (1000) + 1000)) * 49) * 49)) - (16020 * (1 + (Int.tmod (v 4) (1000) + 1000)))) ≤ (-1) := h _ (.head _)
  clear h
  first | omega | (simp only [Go.Ev.tmod_e] at *; omega)
def dead145 : List Fact := [⟨(.bin .sub (.bin .mul (.lit 16277) (.bin .add (.lit 1) (.bin .add (.bin .rem (.var 4) (.lit 1000)) (.lit 1000)))) (.bin .add (.bin .mul (.bin .mul (.bin .add (.lit 1) (.bin .add (.bin .rem (.var 4) (.lit 1000)) (.lit 1000))) (.lit (-117))) (.lit (-117))) (.bin .mul (.bin .mul (.bin .add (.lit 1) (.bin .add (.bin .rem (.var 4) (.lit 1000)) (.lit 1000))) (.lit 49)) (.lit 49)))), (-1), true⟩]
theorem dead145_no (v : Nat → Int) : ¬ ∀ f ∈ dead145, f.holds v := by
  intro h
  have h0 : ((16277 * (1 + (Int.tmod (v 4) (1000) + 1000))) - ((((1 + (Int.tmod (v 4) (1000) + 1000)) * (-117)) * (-117)) + (((1 + (Int.tmod (v 4) (1000) + 1000)) * 49) * 49))) ≤ (-1) := h _ (.head _)
  clear h
  first | omega | (simp only [Go.Ev.tmod_e] at *; omega)
def dead146 : List Fact := [⟨(.bin .sub (.bin .add (.bin .mul (.bin .mul (.bin .add (.lit 1) (.bin .add (.bin .rem (.var 4) (.lit 1000)) (.lit 1000))) (.lit (-117))) (.lit (-117))) (.bin .mul (.bin .mul (.bin .add (.lit 1) (.bin .add (.bin .rem (.var 4) (.lit 1000)) (.lit 1000))) (.lit 49)) (.lit 49))) (.bin .mul (.bin .add (.lit 1) (.bin .add (.bin .rem (.var 4) (.lit 1000)) (.lit 1000))) (.lit 16090))), 0, false⟩]
theorem dead146_no (v : Nat → Int) : ¬ ∀ f ∈ dead146, f.holds v := by
  intro h
  have h0 : 0 < (((((1 + (Int.tmod (v 4) (1000) + 1000)) * (-117)) * (-117)) + (((1 + (Int.tmod (v 4) (1000) + 1000)) * 49) * 49)) - ((1 + (Int.tmod (v 4) (1000) + 1000)) * 16090)) := h _ (.head _)
  clear h
  first | omega | (simp only [Go.Ev.tmod_e] at *; omega)
def dead147 : List Fact := [⟨(.bin .sub (.bin .mul (.bin .mul (.bin .add (.lit 1) (.bin .add (.bin .rem (.var 4) (.lit 1000)) (.lit 1000))) (.lit 49)) (.lit (-117))) (.bin .mul (.bin .mul (.bin .add (.lit 1) (.bin .add (.bin .rem (.var 4) (.lit 1000)) (.lit 1000))) (.lit (-117))) (.lit 49))), 0, false⟩]
theorem dead147_no (v : Nat → Int) : ¬ ∀ f ∈ dead147, f.holds v := by
  intro h
  have h0 : 0 < ((((1 + (Int.tmod (v 4) (1000) + 1000)) * 49) * (-117)) - (((1 + (Int.tmod (v 4) (1000) + 1000)) * (-117)) * 49)) := h _ (.head _)
  clear h
  first | omega | (simp only [Go.Ev.tmod_e] at *; omega)
def dead148 : List Fact := [⟨(.bin .sub (.bin .mul (.bin .mul (.bin .add (.lit 1) (.bin .rem (.var 4) (.lit 1000))) (.lit 49)) (.lit (-117))) (.bin .mul (.bin .mul (.bin .add (.lit 1) (.bin .rem (.var 4) (.lit 1000))) (.lit (-117))) (.lit 49))), (-1), true⟩]
theorem dead148_no (v : Nat → Int) : ¬ ∀ f ∈ dead148, f.holds v := by
  intro h
  have h0 : ((((1 + Int.tmod (v 4) (1000)) * 49) * (-117)) - (((1 + Int.tmod (v 4) (1000)) * (-117)) * 49)) ≤ (-1) := h _ (.head _)
  clear h
  first | omega | (simp only [Go.Ev.tmod_e] at *; omega)
def dead149 : List Fact := [⟨(.bin .sub (.bin .add (.bin .mul (.bin .mul (.bin .add (.lit 1) (.bin .rem (.var 4) (.lit 1000))) (.lit (-117))) (.lit (-117))) (.bin .mul (.bin .mul (.bin .add (.lit 1) (.bin .rem (.var 4) (.lit 1000))) (.lit 49)) (.lit 49))) (.bin .mul (.bin .add (.lit 1) (.bin .rem (.var 4) (.lit 1000))) (.lit 16090))), (-1), true⟩]
theorem dead149_no (v : Nat → Int) : ¬ ∀ f ∈ dead149, f.holds v := by
  intro h
  have h0 : (((((1 + Int.tmod (v 4) (1000)) * (-117)) * (-117)) + (((1 + Int.tmod (v 4) (1000)) * 49) * 49)) - ((1 + Int.tmod (v 4) (1000)) * 16090)) ≤ (-1) := h _ (.head _)
  clear h
  first | omega | (simp only [Go.Ev.tmod_e] at *; omega)
def dead150 : List Fact := [⟨(.bin .sub (.bin .add (.bin .mul (.bin .mul (.bin .add (.lit 1) (.bin .rem (.var 4) (.lit 1000))) (.lit (-117))) (.lit (-117))) (.bin .mul (.bin .mul (.bin .add (.lit 1) (.bin .rem (.var 4) (.lit 1000))) (.lit 49)) (.lit 49))) (.bin .mul (.lit 16020) (.bin .add (.lit 1) (.bin .rem (.var 4) (.lit 1000))))), (-1), true⟩, ⟨(.bin .rem (.var 4) (.lit 1000)), (-1), false⟩]
theorem dead150_no (v : Nat → Int) : ¬ ∀ f ∈ dead150, f.holds v := by
  intro h
  have h0 : (((((1 + Int.tmod (v 4) (1000)) * (-117)) * (-117)) + (((1 + Int.tmod (v 4) (1000)) * 49) * 49)) - (16020 * (1 + Int.tmod (v 4) (1000)))) ≤ (-1) := h _ (.head _)
  have h1 : (-1) < Int.tmod (v 4) (1000) := h _ (.tail _ (.head _))
  clear h
  first | omega | (simp only [Go.Ev.tmod_e] at *; omega)
def dead151 : List Fact := [⟨(.bin .sub (.bin .mul (.lit 16277) (.bin .add (.lit 1) (.bin .rem (.var 4) (.lit 1000)))) (.bin .add (.bin .mul (.bin .mul (.bin .add (.lit 1) (.bin .rem (.var 4) (.lit 1000))) (.lit (-117))) (.lit (-117))) (.bin .mul (.bin .mul (.bin .add (.lit 1) (.bin .rem (.var 4) (.lit 1000))) (.lit 49)) (.lit 49)))), (-1), true⟩, ⟨(.bin .rem (.var 4) (.lit 1000)), (-1), false⟩]
theorem dead151_no (v : Nat → Int) : ¬ ∀ f ∈ dead151, f.holds v := by
  intro h
  have h0 : ((16277 * (1 + Int.tmod (v 4) (1000))) - ((((1 + Int.tmod (v 4) (1000)) * (-117)) * (-117)) + (((1 + Int.tmod (v 4) (1000)) * 49) * 49))) ≤ (-1) := h _ (.head _)
  have h1 : (-1) < Int.tmod (v 4) (1000) := h _ (.tail _ (.head _))
  clear h
  first | omega | (simp only [Go.Ev.tmod_e] at *; omega)
def dead152 : List Fact := [⟨(.bin .sub (.bin .add (.bin .mul (.bin .mul (.bin .add (.lit 1) (.bin .rem (.var 4) (.lit 1000))) (.lit (-117))) (.lit (-117))) (.bin .mul (.bin .mul (.bin .add (.lit 1) (.bin .rem (.var 4) (.lit 1000))) (.lit 49)) (.lit 49))) (.bin .mul (.bin .add (.lit 1) (.bin .rem (.var 4) (.lit 1000))) (.lit 16090))), 0, false⟩]
theorem dead152_no (v : Nat → Int) : ¬ ∀ f ∈ dead152, f.holds v := by
  intro h
  have h0 : 0 < (((((1 + Int.tmod (v 4) (1000)) * (-117)) * (-117)) + (((1 + Int.tmod (v 4) (1000)) * 49) * 49)) - ((1 + Int.tmod (v 4) (1000)) * 16090)) := h _ (.head _)
  clear h
  first | omega | (simp only [Go.Ev.tmod_e] at *; omega)
def dead153 : List Fact := [⟨(.bin .sub (.bin .mul (.bin .mul (.bin .add (.lit 1) (.bin .rem (.var 4) (.lit 1000))) (.lit 49)) (.lit (-117))) (.bin .mul (.bin .mul (.bin .add (.lit 1) (.bin .rem (.var 4) (.lit 1000))) (.lit (-117))) (.lit 49))), 0, false⟩]
theorem dead153_no (v : Nat → Int) : ¬ ∀ f ∈ dead153, f.holds v := by
  intro h
  have h0 : 0 < ((((1 + Int.tmod (v 4) (1000)) * 49) * (-117)) - (((1 + Int.tmod (v 4) (1000)) * (-117)) * 49)) := h _ (.head _)
  clear h
  first | omega | (simp only [Go.Ev.tmod_e] at *; omega)
def dead154 : List Fact := [⟨(.bin .sub (.bin .mul (.bin .mul (.bin .add (.lit 1) (.bin .add (.bin .rem (.var 4) (.lit 1000)) (.lit 1000))) (.lit 37)) (.lit (-122))) (.bin .mul (.bin .mul (.bin .add (.lit 1) (.bin .add (.bin .rem (.var 4) (.lit 1000)) (.lit 1000))) (.lit (-122))) (.lit 37))), (-1), true⟩]
theorem dead154_no (v : Nat → Int) : ¬ ∀ f ∈ dead154, f.holds v := by
  intro h
  have h0 : ((((1 + (Int.tmod (v 4) (1000) + 1000)) * 37) * (-122)) - (((1 + (Int.tmod (v 4) (1000) + 1000)) * (-122)) * 37)) ≤ (-1) := h _ (.head _)
  clear h
  first | omega | (simp only [Go.Ev.tmod_e] at *; omega)
def dead155 : List Fact := [⟨(.bin .sub (.bin .add (.bin .mul (.bin .mul (.bin .add (.lit 1) (.bin .add (.bin .rem (.var 4) (.lit 1000)) (.lit 1000))) (.lit (-122))) (.lit (-122))) (.bin .mul (.bin .mul (.bin .add (.lit 1) (.bin .add (.bin .rem (.var 4) (.lit 1000)) (.lit 1000))) (.lit 37)) (.lit 37))) (.bin .mul (.bin .add (.lit 1) (.bin .add (.bin .rem (.var 4) (.lit 1000)) (.lit 1000))) (.lit 16253))), (-1), true⟩]
theorem dead155_no (v : Nat → Int) : ¬ ∀ f ∈ dead155, f.holds v := by
  intro h
  have h0 : (((((1 + (Int.tmod (v 4) (1000) + 1000)) * (-122)) * (-122)) + (((1 + (Int.tmod (v 4) (1000) + 1000)) * 37) * 37)) - ((1 + (Int.tmod (v 4) (1000) + 1000)) * 16253)) ≤ (-1) := h _ (.head _)
  clear h
  first | omega | (simp only [Go.Ev.tmod_e] at *; omega)
def dead156 : List Fact := [⟨(.bin .sub (.bin .add (.bin .mul (.bin .mul (.bin .add (.lit 1) (.bin .add (.bin .rem (.var 4) (.lit 1000)) (.lit 1000))) (.lit (-122))) (.lit (-122))) (.bin .mul (.bin .mul (.bin .add (.lit 1) (.bin .add (.bin .rem (.var 4) (.lit 1000)) (.lit 1000))) (.lit 37)) (.lit 37))) (.bin .mul (.lit 16020) (.bin .add (.lit 1) (.bin .add (.bin .rem (.var 4) (.lit 1000)) (.lit 1000))))), (-1), true⟩]
theorem dead156_no (v : Nat → Int) : ¬ ∀ f ∈ dead156, f.holds v := by
  intro h
  have h0 : (((((1 + (Int.tmod (v 4) (1000) + 1000)) * (-122)) * (-122)) + (((1 + (Int.tmod (v 4) (1000) + 1000)) * 37) * 37)) - (16020 * (1 + (Int.tmod (v 4) (1000) + 1000)))) ≤ (-1) := h _ (.head _)
  clear h
  first | omega | (simp only [Go.Ev.tmod_e] at *; omega)
def dead157 : List Fact := [⟨(.bin .sub (.bin .mul (.lit 16277) (.bin .add (.lit 1) (.bin .add (.bin .rem (.var 4) (.lit 1000)) (.lit 1000)))) (.bin .add (.bin .mul (.bin .mul (.bin .add (.lit 1) (.bin .add (.bin .rem (.var 4) (.lit 1000)) (.lit 1000))) (.lit (-122))) (.lit (-122))) (.bin .mul (.bin .mul (.bin .add (.lit 1) (.bin .add (.bin .rem (.var 4) (.lit 1000)) (.lit 1000))) (.lit 37)) (.lit 37)))), (-1), true⟩]
theorem dead157_no (v : Nat → Int) : ¬ ∀ f ∈ dead157, f.holds v := by
  intro h
  have h0 : ((16277 * (1 + (Int.tmod (v 4) (1000) + 1000))) - ((((1 + (Int.tmod (v 4) (1000) + 1000)) * (-122)) * (-122)) + (((1 + (Int.tmod (v 4) (1000) + 1000)) * 37) * 37))) ≤ (-1) := h _ (.head _)
  clear h
  first | omega | (simp only [Go.Ev.tmod_e] at *; omega)
def dead158 : List Fact := [⟨(.bin .sub (.bin .add (.bin .mul (.bin .mul (.bin .add (.lit 1) (.bin .add (.bin .rem (.var 4) (.lit 1000)) (.lit 1000))) (.lit (-122))) (.lit (-122))) (.bin .mul (.bin .mul (.bin .add (.lit 1) (.bin .add (.bin .rem (.var 4) (.lit 1000)) (.lit 1000))) (.lit 37)) (.lit 37))) (.bin .mul (.bin .add (.lit 1) (.bin .add (.bin .rem (.var 4) (.lit 1000)) (.lit 1000))) (.lit 16253))), 0, false⟩]
theorem dead158_no (v : Nat → Int) : ¬ ∀ f ∈ dead158, f.holds v := by
  intro h
  have h0 : 0 < (((((1 + (Int.tmod (v 4) (1000) + 1000)) * (-122)) * (-122)) + (((1 + (Int.tmod (v 4) (1000) + 1000)) * 37) * 37)) - ((1 + (Int.tmod (v 4) (1000) + 1000)) * 16253)) := h _ (.head _)
  clear h
  first | omega | (simp only [Go.Ev.tmod_e] at *; omega)
def dead159 : List Fact := [⟨(.bin .sub (.bin .mul (.bin .mul (.bin .add (.lit 1) (.bin .add (.bin .rem (.var 4) (.lit 1000)) (.lit 1000))) (.lit 37)) (.lit (-122))) (.bin .mul (.bin .mul (.bin .add (.lit 1) (.bin .add (.bin .rem (.var 4) (.lit 1000)) (.lit 1000))) (.lit (-122))) (.lit 37))), 0, false⟩]
theorem dead159_no (v : Nat → Int) : ¬ ∀ f ∈ dead159, f.holds v := by
  intro h
  have h0 : 0 < ((((1 + (Int.tmod (v 4) (1000) + 1000)) * 37) * (-122)) - (((1 + (Int.tmod (v 4) (1000) + 1000)) * (-122)) * 37)) := h _ (.head _)
  clear h
  first | omega | (simp only [Go.Ev.tmod_e] at *; omega)
def dead160 : List Fact := [⟨(.bin .sub (.bin .mul (.bin .mul (.bin .add (.lit 1) (.bin .rem (.var 4) (.lit 1000))) (.lit 37)) (.lit (-122))) (.bin .mul (.bin .mul (.bin .add (.lit 1) (.bin .rem (.var 4) (.lit 1000))) (.lit (-122))) (.lit 37))), (-1), true⟩]
theorem dead160_no (v : Nat → Int) : ¬ ∀ f ∈ dead160, f.holds v := by
  intro h
  have h0 : ((((1 + Int.tmod (v 4) (1000)) * 37) * (-122)) - (((1 + Int.tmod (v 4) (1000)) * (-122)) * 37)) ≤ (-1) := h _ (.head _)
  clear h
  first | omega | (simp only [Go.Ev.tmod_e] at *; omega)
def dead161 : List Fact := [⟨(.bin .sub (.bin .add (.bin .mul (.bin .mul (.bin .add (.lit 1) (.bin .rem (.var 4) (.lit 1000))) (.lit (-122))) (.lit (-122))) (.bin .mul (.bin .mul (.bin .add (.lit 1) (.bin .rem (.var 4) (.lit 1000))) (.lit 37)) (.lit 37))) (.bin .mul (.bin .add (.lit 1) (.bin .rem (.var 4) (.lit 1000))) (.lit 16253))), (-1), true⟩]
theorem dead161_no (v : Nat → Int) : ¬ ∀ f ∈ dead161, f.holds v := by
  intro h
  have h0 : (((((1 + Int.tmod (v 4) (1000)) * (-122)) * (-122)) + (((1 + Int.tmod (v 4) (1000)) * 37) * 37)) - ((1 + Int.tmod (v 4) (1000)) * 16253)) ≤ (-1) := h _ (.head _)
  clear h
  first | omega | (simp only [Go.Ev.tmod_e] at *; omega)
def dead162 : List Fact := [⟨(.bin .sub (.bin .add (.bin .mul (.bin .mul (.bin .add (.lit 1) (.bin .rem (.var 4) (.lit 1000))) (.lit (-122))) (.lit (-122))) (.bin .mul (.bin .mul (.bin .add (.lit 1) (.bin .rem (.var 4) (.lit 1000))) (.lit 37)) (.lit 37))) (.bin .mul (.lit 16020) (.bin .add (.lit 1) (.bin .rem (.var 4) (.lit 1000))))), (-1), true⟩, ⟨(.bin .rem (.var 4) (.lit 1000)), (-1), false⟩]
theorem dead162_no (v : Nat → Int) : ¬ ∀ f ∈ dead162, f.holds v := by
  intro h
  have h0 : (((((1 + Int.tmod (v 4) (1000)) * (-122)) * (-122)) + (((1 + Int.tmod (v 4) (1000)) * 37) * 37)) - (16020 * (1 + Int.tmod (v 4) (1000)))) ≤ (-1) := h _ (.head _)
  have h1 : (-1) < Int.tmod (v 4) (1000) := h _ (.tail _ (.head _))
  clear h
  first | omega | (simp only [Go.Ev.tmod_e] at *; omega)
def dead163 : List Fact := [⟨(.bin .sub (.bin .mul (.lit 16277) (.bin .add (.lit 1) (.bin .rem (.var 4) (.lit 1000)))) (.bin .add (.bin .mul (.bin .mul (.bin .add (.lit 1) (.bin .rem (.var 4) (.lit 1000))) (.lit (-122))) (.lit (-122))) (.bin .mul (.bin .mul (.bin .add (.lit 1) (.bin .rem (.var 4) (.lit 1000))) (.lit 37)) (.lit 37)))), (-1), true⟩, ⟨(.bin .rem (.var 4) (.lit 1000)), (-1), false⟩]
theorem dead163_no (v : Nat → Int) : ¬ ∀ f ∈ dead163, f.holds v := by
  intro h
  have h0 : ((16277 * (1 + Int.tmod (v 4) (1000))) - ((((1 + Int.tmod (v 4) (1000)) * (-122)) * (-122)) + (((1 + Int.tmod (v 4) (1000)) * 37) * 37))) ≤ (-1) := h _ (.head _)
  have h1 : (-1) < Int.tmod (v 4) (1000) := h _ (.tail _ (.head _))
  clear h
  first | omega | (simp only [Go.Ev.tmod_e] at *; omega)
def dead164 : List Fact := [⟨(.bin .sub (.bin .add (.bin .mul (.bin .mul (.bin .add (.lit 1) (.bin .rem (.var 4) (.lit 1000))) (.lit (-122))) (.lit (-122))) (.bin .mul (.bin .mul (.bin .add (.lit 1) (.bin .rem (.var 4) (.lit 1000))) (.lit 37)) (.lit 37))) (.bin .mul (.bin .add (.lit 1) (.bin .rem (.var 4) (.lit 1000))) (.lit 16253))), 0, false⟩]
theorem dead164_no (v : Nat → Int) : ¬ ∀ f ∈ dead164, f.holds v := by
  intro h
  have h0 : 0 < (((((1 + Int.tmod (v 4) (1000)) * (-122)) * (-122)) + (((1 + Int.tmod (v 4) (1000)) * 37) * 37)) - ((1 + Int.tmod (v 4) (1000)) * 16253)) := h _ (.head _)
  clear h
  first | omega | (simp only [Go.Ev.tmod_e] at *; omega)
def dead165 : List Fact := [⟨(.bin .sub (.bin .mul (.bin .mul (.bin .add (.lit 1) (.bin .rem (.var 4) (.lit 1000))) (.lit 37)) (.lit (-122))) (.bin .mul (.bin .mul (.bin .add (.lit 1) (.bin .rem (.var 4) (.lit 1000))) (.lit (-122))) (.lit 37))), 0, false⟩]
theorem dead165_no (v : Nat → Int) : ¬ ∀ f ∈ dead165, f.holds v := by
  intro h
  have h0 : 0 < ((((1 + Int.tmod (v 4) (1000)) * 37) * (-122)) - (((1 + Int.tmod (v 4) (1000)) * (-122)) * 37)) := h _ (.head _)
  clear h
  first | omega | (simp only [Go.Ev.tmod_e] at *; omega)
def dead166 : List Fact := [⟨(.bin .sub (.bin .mul (.bin .mul (.bin .add (.lit 1) (.bin .add (.bin .rem (.var 4) (.lit 1000)) (.lit 1000))) (.lit 25)) (.lit (-125))) (.bin .mul (.bin .mul (.bin .add (.lit 1) (.bin .add (.bin .rem (.var 4) (.lit 1000)) (.lit 1000))) (.lit (-125))) (.lit 25))), (-1), true⟩]
theorem dead166_no (v : Nat → Int) : ¬ ∀ f ∈ dead166, f.holds v := by
  intro h
  have h0 : ((((1 + (Int.tmod (v 4) (1000) + 1000)) * 25) * (-125)) - (((1 + (Int.tmod (v 4) (1000) + 1000)) * (-125)) * 25)) ≤ (-1) := h _ (.head _)
  clear h
  first | omega | (simp only [Go.Ev.tmod_e] at *; omega)
def dead167 : List Fact := [⟨(.bin .sub (.bin .add (.bin .mul (.bin .mul (.bin .add (.lit 1) (.bin .add (.bin .rem (.var 4) (.lit 1000)) (.lit 1000))) (.lit (-125))) (.lit (-125))) (.bin .mul (.bin .mul (.bin .add (.lit 1) (.bin .add (.bin .rem (.var 4) (.lit 1000)) (.lit 1000))) (.lit 25)) (.lit 25))) (.bin .mul (.bin .add (.lit 1) (.bin .add (.bin .rem (.var 4) (.lit 1000)) (.lit 1000))) (.lit 16250))), (-1), true⟩]
theorem dead167_no (v : Nat → Int) : ¬ ∀ f ∈ dead167, f.holds v := by
  intro h
  have h0 : (((((1 + (Int.tmod (v 4) (1000) + 1000)) * (-125)) * (-125)) + (((1 + (Int.tmod (v 4) (1000) + 1000)) * 25) * 25)) - ((1 + (Int.tmod (v 4) (1000) + 1000)) * 16250)) ≤ (-1) := h _ (.head _)
  clear h
  first | omega | (simp only [Go.Ev.tmod_e] at *; omega)
def dead168 : List Fact := [⟨(.bin .sub (.bin .add (.bin .mul (.bin .mul (.bin .add (.lit 1) (.bin .add (.bin .rem (.var 4) (.lit 1000)) (.lit 1000))) (.lit (-125))) (.lit (-125))) (.bin .mul (.bin .mul (.bin .add (.lit 1) (.bin .add (.bin .rem (.var 4) (.lit 1000)) (.lit 1000))) (.lit 25)) (.lit 25))) (.bin .mul (.lit 16020) (.bin .add (.lit 1) (.bin .add (.bin .rem (.var 4) (.lit 1000)) (.lit 1000))))), (-1), true⟩]
theorem dead168_no (v : Nat → Int) : ¬ ∀ f ∈ dead168, f.holds v := by
  intro h
  have h0 : (((((1 + (Int.tmod (v 4) (1000) + 1000)) * (-125)) * (-125)) + (((1 + (Int.tmod (v 4) (1000) + 1000)) * 25) * 25)) - (16020 * (1 + (Int.tmod (v 4) (1000) + 1000)))) ≤ (-1) := h _ (.head _)
  clear h
  first | omega | (simp only [Go.Ev.tmod_e] at *; omega)
def dead169 : List Fact := [⟨(.bin .sub (.bin .mul (.lit 16277) (.bin .add (.lit 1) (.bin .add (.bin .rem (.var 4) (.lit 1000)) (.lit 1000)))) (.bin .add (.bin .mul (.bin .mul (.bin .add (.lit 1) (.bin .add (.bin .rem (.var 4) (.lit 1000)) (.lit 1000))) (.lit (-125))) (.lit (-125))) (.bin .mul (.bin .mul (.bin .add (.lit 1) (.bin .add (.bin .rem (.var 4) (.lit 1000)) (.lit 1000))) (.lit 25)) (.lit 25)))), (-1), true⟩]
theorem dead169_no (v : Nat → Int) : ¬ ∀ f ∈ dead169, f.holds v := by
  intro h
  have h0 : ((16277 * (1 + (Int.tmod (v 4) (1000) + 1000))) - ((((1 + (Int.tmod (v 4) (1000) + 1000)) * (-125)) * (-125)) + (((1 + (Int.tmod (v 4) (1000) + 1000)) * 25) * 25))) ≤ (-1) := h _ (.head _)
  clear h
  first | omega | (simp only [Go.Ev.tmod_e] at *; omega)
def dead170 : List Fact := [⟨(.bin .sub (.bin .add (.bin .mul (.bin .mul (.bin .add (.lit 1) (.bin .add (.bin .rem (.var 4) (.lit 1000)) (.lit 1000))) (.lit (-125))) (.lit (-125))) (.bin .mul (.bin .mul (.bin .add (.lit 1) (.bin .add (.bin .rem (.var 4) (.lit 1000)) (.lit 1000))) (.lit 25)) (.lit 25))) (.bin .mul (.bin .add (.lit 1) (.bin .add (.bin .rem (.var 4) (.lit 1000)) (.lit 1000))) (.lit 16250))), 0, false⟩]
theorem dead170_no (v : Nat → Int) : ¬ ∀ f ∈ dead170, f.holds v := by
  intro h
  have h0 : 0 < (((((1 + (Int.tmod (v 4) (1000) + 1000)) * (-125)) * (-125)) + (((1 + (Int.tmod (v 4) (1000) + 1000)) * 25) * 25)) - ((1 + (Int.tmod (v 4) (1000) + 1000)) * 16250)) := h _ (.head _)
  clear h
  first | omega | (simp only [Go.Ev.tmod_e] at *; omega)
def dead171 : List Fact := [⟨(.bin .sub (.bin .mul (.bin .mul (.bin .add (.lit 1) (.bin .add (.bin .rem (.var 4) (.lit 1000)) (.lit 1000))) (.lit 25)) (.lit (-125))) (.bin .mul (.bin .mul (.bin .add (.lit 1) (.bin .add (.bin .rem (.var 4) (.lit 1000)) (.lit 1000))) (.lit (-125))) (.lit 25))), 0, false⟩]
theorem dead171_no (v : Nat → Int) : ¬ ∀ f ∈ dead171, f.holds v := by
  intro h
  have h0 : 0 < ((((1 + (Int.tmod (v 4) (1000) + 1000)) * 25) * (-125)) - (((1 + (Int.tmod (v 4) (1000) + 1000)) * (-125)) * 25)) := h _ (.head _)
  clear h
  first | omega | (simp only [Go.Ev.tmod_e] at *; omega)
def dead172 : List Fact := [⟨(.bin .sub (.bin .mul (.bin .mul (.bin .add (.lit 1) (.bin .rem (.var 4) (.lit 1000))) (.lit 25)) (.lit (-125))) (.bin .mul (.bin .mul (.bin .add (.lit 1) (.bin .rem (.var 4) (.lit 1000))) (.lit (-125))) (.lit 25))), (-1), true⟩]
theorem dead172_no (v : Nat → Int) : ¬ ∀ f ∈ dead172, f.holds v := by
  intro h
  have h0 : ((((1 + Int.tmod (v 4) (1000)) * 25) * (-125)) - (((1 + Int.tmod (v 4) (1000)) * (-125)) * 25)) ≤ (-1) := h _ (.head _)
  clear h
  first | omega | (simp only [Go.Ev.tmod_e] at *; omega)
def dead173 : List Fact := [⟨(.bin .sub (.bin .add (.bin .mul (.bin .mul (.bin .add (.lit 1) (.bin .rem (.var 4) (.lit 1000))) (.lit (-125))) (.lit (-125))) (.bin .mul (.bin .mul (.bin .add (.lit 1) (.bin .rem (.var 4) (.lit 1000))) (.lit 25)) (.lit 25))) (.bin .mul (.bin .add (.lit 1) (.bin .rem (.var 4) (.lit 1000))) (.lit 16250))), (-1), true⟩]
theorem dead173_no (v : Nat → Int) : ¬ ∀ f ∈ dead173, f.holds v := by
  intro h
  have h0 : (((((1 + Int.tmod (v 4) (1000)) * (-125)) * (-125)) + (((1 + Int.tmod (v 4) (1000)) * 25) * 25)) - ((1 + Int.tmod (v 4) (1000)) * 16250)) ≤ (-1) := h _ (.head _)
  clear h
  first | omega | (simp only [Go.Ev.tmod_e] at *; omega)
def dead174 : List Fact := [⟨(.bin .sub (.bin .add (.bin .mul (.bin .mul (.bin .add (.lit 1) (.bin .rem (.var 4) (.lit 1000))) (.lit (-125))) (.lit (-125))) (.bin .mul (.bin .mul (.bin .add (.lit 1) (.bin .rem (.var 4) (.lit 1000))) (.lit 25)) (.lit 25))) (.bin .mul (.lit 16020) (.bin .add (.lit 1) (.bin .rem (.var 4) (.lit 1000))))), (-1), true⟩, ⟨(.bin .rem (.var 4) (.lit 1000)), (-1), false⟩]
theorem dead174_no (v : Nat → Int) : ¬ ∀ f ∈ dead174, f.holds v := by
  intro h
  have h0 : (((((1 + Int.tmod (v 4) (1000)) * (-125)) * (-125)) + (((1 + Int.tmod (v 4) (1000)) * 25) * 25)) - (16020 * (1 + Int.tmod (v 4) (1000)))) ≤ (-1) := h _ (.head _)
  have h1 : (-1) < Int.tmod (v 4) (1000) := h _ (.tail _ (.head _))
  clear h
  first | omega | (simp only [Go.Ev.tmod_e] at *; omega)
def dead175 : List Fact := [⟨(.bin .sub (.bin .mul (.lit 16277) (.bin .add (.lit 1) (.bin .rem (.var 4) (.lit 1000)))) (.bin .add (.bin .mul (.bin .mul (.bin .add (.lit 1) (.bin .rem (.var 4) (.lit 1000))) (.lit (-125))) (.lit (-125))) (.bin .mul (.bin .mul (.bin .add (.lit 1) (.bin .rem (.var 4) (.lit 1000))) (.lit 25)) (.lit 25)))), (-1), true⟩, ⟨(.bin .rem (.var 4) (.lit 1000)), (-1), false⟩]
theorem dead175_no (v : Nat → Int) : ¬ ∀ f ∈ dead175, f.holds v := by
  intro h
  have h0 : ((16277 * (1 + Int.tmod (v 4) (1000))) - ((((1 + Int.tmod (v 4) (1000)) * (-125)) * (-125)) + (((1 + Int.tmod (v 4) (1000)) * 25) * 25))) ≤ (-1) := h _ (.head _)
  have h1 : (-1) < Int.tmod (v 4) (1000) := h _ (.tail _ (.head _))
  clear h
  first | omega | (simp only [Go.Ev.tmod_e] at *; omega)
def dead176 : List Fact := [⟨(.bin .sub (.bin .add (.bin .mul (.bin .mul (.bin .add (.lit 1) (.bin .rem (.var 4) (.lit 1000))) (.lit (-125))) (.lit (-125))) (.bin .mul (.bin .mul (.bin .add (.lit 1) (.bin .rem (.var 4) (.lit 1000))) (.lit 25)) (.lit 25))) (.bin .mul (.bin .add (.lit 1) (.bin .rem (.var 4) (.lit 1000))) (.lit 16250))), 0, false⟩]
theorem dead176_no (v : Nat → Int) : ¬ ∀ f ∈ dead176, f.holds v := by
  intro h
  have h0 : 0 < (((((1 + Int.tmod (v 4) (1000)) * (-125)) * (-125)) + (((1 + Int.tmod (v 4) (1000)) * 25) * 25)) - ((1 + Int.tmod (v 4) (1000)) * 16250)) := h _ (.head _)
  clear h
  first | omega | (simp only [Go.Ev.tmod_e] at *; omega)
def dead177 : List Fact := [⟨(.bin .sub (.bin .mul (.bin .mul (.bin .add (.lit 1) (.bin .rem (.var 4) (.lit 1000))) (.lit 25)) (.lit (-125))) (.bin .mul (.bin .mul (.bin .add (.lit 1) (.bin .rem (.var 4) (.lit 1000))) (.lit (-125))) (.lit 25))), 0, false⟩]
theorem dead177_no (v : Nat → Int) : ¬ ∀ f ∈ dead177, f.holds v := by
  intro h
  have h0 : 0 < ((((1 + Int.tmod (v 4) (1000)) * 25) * (-125)) - (((1 + Int.tmod (v 4) (1000)) * (-125)) * 25)) := h _ (.head _)
  clear h
  first | omega | (simp only [Go.Ev.tmod_e] at *; omega)
def dead178 : List Fact := [⟨(.bin .sub (.bin .mul (.bin .mul (.bin .add (.lit 1) (.bin .add (.bin .rem (.var 4) (.lit 1000)) (.lit 1000))) (.lit 12)) (.lit (-126))) (.bin .mul (.bin .mul (.bin .add (.lit 1) (.bin .add (.bin .rem (.var 4) (.lit 1000)) (.lit 1000))) (.lit (-126))) (.lit 12))), (-1), true⟩]
theorem dead178_no (v : Nat → Int) : ¬ ∀ f ∈ dead178, f.holds v := by
  intro h
  have h0 : ((((1 + (Int.tmod (v 4) (1000) + 1000)) * 12) * (-126)) - (((1 + (Int.tmod (v 4) (1000) + 1000)) * (-126)) * 12)) ≤ (-1) := h _ (.head _)
  clear h
  first | omega | (simp only [Go.Ev.tmod_e] at *; omega)
def dead179 : List Fact := [⟨(.bin .sub (.bin .add (.bin .mul (.bin .mul (.bin .add (.lit 1) (.bin .add (.bin .rem (.var 4) (.lit 1000)) (.lit 1000))) (.lit (-126))) (.lit (-126))) (.bin .mul (.bin .mul (.bin .add (.lit 1) (.bin .add (.bin .rem (.var 4) (.lit 1000)) (.lit 1000))) (.lit 12)) (.lit 12))) (.bin .mul (.bin .add (.lit 1) (.bin .add (.bin .rem (.var 4) (.lit 1000)) (.lit 1000))) (.lit 16020))), (-1), true⟩]
theorem dead179_no (v : Nat → Int) : ¬ ∀ f ∈ dead179, f.holds v := by
  intro h
  have h0 : (((((1 + (Int.tmod (v 4) (1000) + 1000)) * (-126)) * (-126)) + (((1 + (Int.tmod (v 4) (1000) + 1000)) * 12) * 12)) - ((1 + (Int.tmod (v 4) (1000) + 1000)) * 16020)) ≤ (-1) := h _ (.head _)
  clear h
  first | omega | (simp only [Go.Ev.tmod_e] at *; omega)
def dead180 : List Fact := [⟨(.bin .sub (.bin .add (.bin .mul (.bin .mul (.bin .add (.lit 1) (.bin .add (.bin .rem (.var 4) (.lit 1000)) (.lit 1000))) (.lit (-126))) (.lit (-126))) (.bin .mul (.bin .mul (.bin .add (.lit 1) (.bin .add (.bin .rem (.var 4) (.lit 1000)) (.lit 1000))) (.lit 12)) (.lit 12))) (.bin .mul (.lit 16020) (.bin .add (.lit 1) (.bin .add (.bin .rem (.var 4) (.lit 1000)) (.lit 1000))))), (-1), true⟩]
theorem dead180_no (v : Nat → Int) : ¬ ∀ f ∈ dead180, f.holds v := by
  intro h
  have h0 : (((((1 + (Int.tmod (v 4) (1000) + 1000)) * (-126)) * (-126)) + (((1 + (Int.tmod (v 4) (1000) + 1000)) * 12) * 12)) - (16020 * (1 + (Int.tmod (v 4) (1000) + 1000)))) ≤ (-1) := h _ (.head _)
  clear h
  first | omega | (simp only [Go.Ev.tmod_e] at *; omega)
def dead181 : List Fact := [⟨(.bin .sub (.bin .mul (.lit 16277) (.bin .add (.lit 1) (.bin .add (.bin .rem (.var 4) (.lit 1000)) (.lit 1000)))) (.bin .add (.bin .mul (.bin .mul (.bin .add (.lit 1) (.bin .add (.bin .rem (.var 4) (.lit 1000)) (.lit 1000))) (.lit (-126))) (.lit (-126))) (.bin .mul (.bin .mul (.bin .add (.lit 1) (.bin .add (.bin .rem (.var 4) (.lit 1000)) (.lit 1000))) (.lit 12)) (.lit 12)))), (-1), true⟩]
theorem dead181_no (v : Nat → Int) : ¬ ∀ f ∈ dead181, f.holds v := by
  intro h
  have h0 : ((16277 * (1 + (Int.tmod (v 4) (1000) + 1000))) - ((((1 + (Int.tmod (v 4) (1000) + 1000)) * (-126)) * (-126)) + (((1 + (Int.tmod (v 4) (1000) + 1000)) * 12) * 12))) ≤ (-1) := h _ (.head _)
  clear h
  first | omega | (simp only [Go.Ev.tmod_e] at *; omega)
def dead182 : List Fact := [⟨(.bin .sub (.bin .add (.bin .mul (.bin .mul (.bin .add (.lit 1) (.bin .add (.bin .rem (.var 4) (.lit 1000)) (.lit 1000))) (.lit (-126))) (.lit (-126))) (.bin .mul (.bin .mul (.bin .add (.lit 1) (.bin .add (.bin .rem (.var 4) (.lit 1000)) (.lit 1000))) (.lit 12)) (.lit 12))) (.bin .mul (.bin .add (.lit 1) (.bin .add (.bin .rem (.var 4) (.lit 1000)) (.lit 1000))) (.lit 16020))), 0, false⟩]
theorem dead182_no (v : Nat → Int) : ¬ ∀ f ∈ dead182, f.holds v := by
  intro h
  have h0 : 0 < (((((1 + (Int.tmod (v 4) (1000) + 1000)) * (-126)) * (-126)) + (((1 + (Int.tmod (v 4) (1000) + 1000)) * 12) * 12)) - ((1 + (Int.tmod (v 4) (1000) + 1000)) * 16020)) := h _ (.head _)
  clear h
  first | omega | (simp only [Go.Ev.tmod_e] at *; omega)
def dead183 : List Fact := [⟨(.bin .sub (.bin .mul (.bin .mul (.bin .add (.lit 1) (.bin .add (.bin .rem (.var 4) (.lit 1000)) (.lit 1000))) (.lit 12)) (.lit (-126))) (.bin .mul (.bin .mul (.bin .add (.lit 1) (.bin .add (.bin .rem (.var 4) (.lit 1000)) (.lit 1000))) (.lit (-126))) (.lit 12))), 0, false⟩]
theorem dead183_no (v : Nat → Int) : ¬ ∀ f ∈ dead183, f.holds v := by
  intro h
  have h0 : 0 < ((((1 + (Int.tmod (v 4) (1000) + 1000)) * 12) * (-126)) - (((1 + (Int.tmod (v 4) (1000) + 1000)) * (-126)) * 12)) := h _ (.head _)
  clear h
  first | omega | (simp only [Go.Ev.tmod_e] at *; omega)
def dead184 : List Fact := [⟨(.bin .sub (.bin .mul (.bin .mul (.bin .add (.lit 1) (.bin .rem (.var 4) (.lit 1000))) (.lit 12)) (.lit (-126))) (.bin .mul (.bin .mul (.bin .add (.lit 1) (.bin .rem (.var 4) (.lit 1000))) (.lit (-126))) (.lit 12))), (-1), true⟩]
theorem dead184_no (v : Nat → Int) : ¬ ∀ f ∈ dead184, f.holds v := by
  intro h
  have h0 : ((((1 + Int.tmod (v 4) (1000)) * 12) * (-126)) - (((1 + Int.tmod (v 4) (1000)) * (-126)) * 12)) ≤ (-1) := h _ (.head _)
  clear h
  first | omega | (simp only [Go.Ev.tmod_e] at *; omega)
def dead185 : List Fact := [⟨(.bin .sub (.bin .add (.bin .mul (.bin .mul (.bin .add (.lit 1) (.bin .rem (.var 4) (.lit 1000))) (.lit (-126))) (.lit (-126))) (.bin .mul (.bin .mul (.bin .add (.lit 1) (.bin .rem (.var 4) (.lit 1000))) (.lit 12)) (.lit 12))) (.bin .mul (.bin .add (.lit 1) (.bin .rem (.var 4) (.lit 1000))) (.lit 16020))), (-1), true⟩]
theorem dead185_no (v : Nat → Int) : ¬ ∀ f ∈ dead185, f.holds v := by
  intro h
  have h0 : (((((1 + Int.tmod (v 4) (1000)) * (-126)) * (-126)) + (((1 + Int.tmod (v 4) (1000)) * 12) * 12)) - ((1 + Int.tmod (v 4) (1000)) * 16020)) ≤ (-1) := h _ (.head _)
  clear h
  first | omega | (simp only [Go.Ev.tmod_e] at *; omega)
def dead186 : List Fact := [⟨(.bin .sub (.bin .add (.bin .mul (.bin .mul (.bin .add (.lit 1) (.bin .rem (.var 4) (.lit 1000))) (.lit (-126))) (.lit (-126))) (.bin .mul (.bin .mul (.bin .add (.lit 1) (.bin .rem (.var 4) (.lit 1000))) (.lit 12)) (.lit 12))) (.bin .mul (.lit 16020) (.bin .add (.lit 1) (.bin .rem (.var 4) (.lit 1000))))), (-1), true⟩]
theorem dead186_no (v : Nat → Int) : ¬ ∀ f ∈ dead186, f.holds v := by
  intro h
  have h0 : (((((1 + Int.tmod (v 4) (1000)) * (-126)) * (-126)) + (((1 + Int.tmod (v 4) (1000)) * 12) * 12)) - (16020 * (1 + Int.tmod (v 4) (1000)))) ≤ (-1) := h _ (.head _)
  clear h
  first | omega | (simp only [Go.Ev.tmod_e] at *; omega)
def dead187 : List Fact := [⟨(.bin .sub (.bin .mul (.lit 16277) (.bin .add (.lit 1) (.bin .rem (.var 4) (.lit 1000)))) (.bin .add (.bin .mul (.bin .mul (.bin .add (.lit 1) (.bin .rem (.var 4) (.lit 1000))) (.lit (-126))) (.lit (-126))) (.bin .mul (.bin .mul (.bin .add (.lit 1) (.bin .rem (.var 4) (.lit 1000))) (.lit 12)) (.lit 12)))), (-1), true⟩, ⟨(.bin .rem (.var 4) (.lit 1000)), (-1), false⟩]
theorem dead187_no (v : Nat → Int) : ¬ ∀ f ∈ dead187, f.holds v := by
  intro h
  have h0 : ((16277 * (1 + Int.tmod (v 4) (1000))) - ((((1 + Int.tmod (v 4) (1000)) * (-126)) * (-126)) + (((1 + Int.tmod (v 4) (1000)) * 12) * 12))) ≤ (-1) := h _ (.head _)
  have h1 : (-1) < Int.tmod (v 4) (1000) := h _ (.tail _ (.head _))
  clear h
  first | omega | (simp only [Go.Ev.tmod_e] at *; omega)
def dead188 : List Fact := [⟨(.bin .sub (.bin .add (.bin .mul (.bin .mul (.bin .add (.lit 1) (.bin .rem (.var 4) (.lit 1000))) (.lit (-126))) (.lit (-126))) (.bin .mul (.bin .mul (.bin .add (.lit 1) (.bin .rem (.var 4) (.lit 1000))) (.lit 12)) (.lit 12))) (.bin .mul (.bin .add (.lit 1) (.bin .rem (.var 4) (.lit 1000))) (.lit 16020))), 0, false⟩]
theorem dead188_no (v : Nat → Int) : ¬ ∀ f ∈ dead188, f.holds v := by
  intro h
  have h0 : 0 < (((((1 + Int.tmod (v 4) (1000)) * (-126)) * (-126)) + (((1 + Int.tmod (v 4) (1000)) * 12) * 12)) - ((1 + Int.tmod (v 4) (1000)) * 16020)) := h _ (.head _)
  clear h
  first | omega | (simp only [Go.Ev.tmod_e] at *; omega)
def dead189 : List Fact := [⟨(.bin .sub (.bin .mul (.bin .mul (.bin .add (.lit 1) (.bin .rem (.var 4) (.lit 1000))) (.lit 12)) (.lit (-126))) (.bin .mul (.bin .mul (.bin .add (.lit 1) (.bin .rem (.var 4) (.lit 1000))) (.lit (-126))) (.lit 12))), 0, false⟩]
theorem dead189_no (v : Nat → Int) : ¬ ∀ f ∈ dead189, f.holds v := by
  intro h
  have h0 : 0 < ((((1 + Int.tmod (v 4) (1000)) * 12) * (-126)) - (((1 + Int.tmod (v 4) (1000)) * (-126)) * 12)) := h _ (.head _)
  clear h
  first | omega | (simp only [Go.Ev.tmod_e] at *; omega)
def dead190 : List Fact := [⟨(.bin .sub (.wrap .u32 (.wrap .i32 (.wrap .u32 (.bin .sub (.wrap .u32 (.bin .add (.var 0) (.bin .mul (.var 1) (.lit 1)))) (.var 0))))) (.var 1)), 0, false⟩, ⟨(.var 1), (-1), false⟩]
theorem dead190_no (v : Nat → Int) : ¬ ∀ f ∈ dead190, f.holds v := by
  intro h
  have h0 : 0 < (IntKind.wrap .u32 (IntKind.wrap .i32 (IntKind.wrap .u32 ((IntKind.wrap .u32 ((v 0 + (v 1 * 1))) - v 0)))) - v 1) := h _ (.head _)
  have h1 : (-1) < v 1 := h _ (.tail _ (.head _))
  clear h
  first | omega | (simp (disch := omega) only [Go.Ev.tmod_e, Go.Ev.fdiv_e, Go.Ev.w_u32, Go.Ev.w_i32, Go.Ev.w_i64] at *; omega)
def dead191 : List Fact := [⟨(.bin .sub (.wrap .u32 (.bin .add (.wrap .u32 (.bin .add (.var 0) (.wrap .u32 (.bin .mul (.var 1) (.wrap .u32 (.var 2)))))) (.wrap .u32 (.bin .mul (.var 1) (.wrap .u32 (.var 3)))))) (.wrap .u32 (.bin .add (.var 0) (.wrap .u32 (.bin .mul (.var 1) (.wrap .u32 (.wrap .i64 (.bin .add (.var 2) (.var 3))))))))), 0, false⟩]
theorem dead191_no (v : Nat → Int) : ¬ ∀ f ∈ dead191, f.holds v := by
  intro h
  have h0 : 0 < (IntKind.wrap .u32 ((IntKind.wrap .u32 ((v 0 + IntKind.wrap .u32 ((v 1 * IntKind.wrap .u32 (v 2))))) + IntKind.wrap .u32 ((v 1 * IntKind.wrap .u32 (v 3))))) - IntKind.wrap .u32 ((v 0 + IntKind.wrap .u32 ((v 1 * IntKind.wrap .u32 (IntKind.wrap .i64 ((v 2 + v 3)))))))) := h _ (.head _)
  clear h
  rw [turn_eq] at h0
  omega
end r16
end
end Go.Proofs.YtikcjpkocadfdaaDoor.angleTurns
