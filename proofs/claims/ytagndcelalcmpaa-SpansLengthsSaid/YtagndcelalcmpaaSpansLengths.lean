/- SpansLengths: for every input her call returns true: an evaluator of Go code with symbolic numbers, proved sound over every world, carries the call out on each path of a tree of cases; the paths that no numbers take are shown to be contradictory. Conditions: none beyond the statement's own. -/
import Derived.Test.YtagndcelalcmpaaRows
import Derived.WalkKit
import Derived.ProofKit
import Derived.OpenShut
import Derived.Test.YtagndcelalcmpaaEvU
namespace Go.Proofs.Ytagndcelalcmpaa.spansLengths
open Go.ChangeShapes Go.WideShapes Go.ChangeAt Go.RowKit
set_option linter.unusedVariables false
theorem own : ownKnob Try.prog.godebug = none := by kernel_rfl
section
open Go.Ev

namespace c
def dead0 : List Fact := [⟨(.bin .sub (.lit 0) (.bin .quo (.bin .add (.bin .mul (.lit 2) (.bin .sub (.lit 0) (.bin .mul (.lit 299792458) (.bin .add (.bin .mul (.bin .add (.bin .sub (.var 2) (.var 5)) (.bin .quo (.var 4) (.var 0))) (.var 0)) (.bin .rem (.var 4) (.var 0)))))) (.var 0)) (.bin .mul (.lit 2) (.var 0)))), (-10000000000001), false⟩, ⟨(.var 0), 8192, true⟩, ⟨(.var 0), 0, false⟩, ⟨(.bin .add (.bin .mul (.bin .sub (.var 2) (.var 5)) (.var 0)) (.var 4)), (-278528001), true⟩]
theorem dead0_no (v : Nat → Int) : ¬ ∀ f ∈ dead0, f.holds v := by
  intro h
  have h0 : (-10000000000001) < (0 - Int.tdiv (((2 * (0 - (299792458 * ((((v 2 - v 5) + Int.tdiv (v 4) (v 0)) * v 0) + Int.tmod (v 4) (v 0))))) + v 0)) ((2 * v 0))) := h _ (.head _)
  have h1 : v 0 ≤ 8192 := h _ (.tail _ (.head _))
  have h2 : 0 < v 0 := h _ (.tail _ (.tail _ (.head _)))
  have h3 : (((v 2 - v 5) * v 0) + v 4) ≤ (-278528001) := h _ (.tail _ (.tail _ (.tail _ (.head _))))
  have n0 := Int.mul_tdiv_add_tmod (((2 * (0 - (299792458 * ((((v 2 - v 5) + Int.tdiv (v 4) (v 0)) * v 0) + Int.tmod (v 4) (v 0))))) + v 0)) ((2 * v 0))
  have n1 := fun (x : 0 ≤ ((2 * (0 - (299792458 * ((((v 2 - v 5) + Int.tdiv (v 4) (v 0)) * v 0) + Int.tmod (v 4) (v 0))))) + v 0)) => Int.tmod_nonneg ((2 * v 0)) x
  have n2 := fun (x : 0 < (2 * v 0)) => Int.tmod_lt_of_pos (((2 * (0 - (299792458 * ((((v 2 - v 5) + Int.tdiv (v 4) (v 0)) * v 0) + Int.tmod (v 4) (v 0))))) + v 0)) x
  have n3 := Int.mul_tdiv_add_tmod (v 4) (v 0)
  have n4 := fun (x : 0 ≤ v 4) => Int.tmod_nonneg (v 0) x
  have n5 := fun (x : 0 < v 0) => Int.tmod_lt_of_pos (v 4) x
  have n6 := (Int.mul_nonneg (by omega) (by omega) : 0 ≤ ((0 - Int.tdiv (((2 * (0 - (299792458 * ((((v 2 - v 5) + Int.tdiv (v 4) (v 0)) * v 0) + Int.tmod (v 4) (v 0))))) + v 0)) ((2 * v 0))) - (-10000000000000)) * v 0)
  have n7 := (Int.mul_nonneg (by omega) (by omega) : 0 ≤ (8192 - v 0) * v 0)
  have n8 := (Int.mul_nonneg (by omega) (by omega) : 0 ≤ (v 0 - 1) * v 0)
  have r0 := Int.mul_tdiv_add_tmod (v 4) (v 0)
  clear h
  first | omega | (simp only [Int.mul_add, Int.add_mul, Int.mul_sub, Int.sub_mul, Int.mul_assoc, Int.mul_comm, Int.mul_left_comm] at *; omega) | (simp (disch := omega) only [Go.Ev.w_i64, Go.Ev.w_i32, Go.Ev.w_u64, Go.Ev.w_u32, Go.Ev.w_u8, Go.Ev.tdiv_e, Go.Ev.tmod_e, Go.Ev.fdiv_e] at *; omega) | (simp only [Int.mul_add, Int.add_mul, Int.mul_sub, Int.sub_mul, Int.mul_assoc, Int.mul_comm, Int.mul_left_comm] at *; simp (disch := omega) only [Go.Ev.w_i64, Go.Ev.w_i32, Go.Ev.w_u64, Go.Ev.w_u32, Go.Ev.w_u8, Go.Ev.tdiv_e, Go.Ev.tmod_e, Go.Ev.fdiv_e] at *; omega)
def dead1 : List Fact := [⟨(.bin .mul (.lit 299792458) (.bin .add (.bin .mul (.bin .add (.bin .sub (.var 2) (.var 5)) (.bin .quo (.var 4) (.var 0))) (.var 0)) (.bin .rem (.var 4) (.var 0)))), (-1), false⟩, ⟨(.bin .add (.bin .mul (.bin .sub (.var 2) (.var 5)) (.var 0)) (.var 4)), (-278528001), true⟩]
theorem dead1_no (v : Nat → Int) : ¬ ∀ f ∈ dead1, f.holds v := by
  intro h
  have h0 : (-1) < (299792458 * ((((v 2 - v 5) + Int.tdiv (v 4) (v 0)) * v 0) + Int.tmod (v 4) (v 0))) := h _ (.head _)
  have h1 : (((v 2 - v 5) * v 0) + v 4) ≤ (-278528001) := h _ (.tail _ (.head _))
  have r0 := Int.mul_tdiv_add_tmod (v 4) (v 0)
  clear h
  first | omega | (simp only [Int.mul_add, Int.add_mul, Int.mul_sub, Int.sub_mul, Int.mul_assoc, Int.mul_comm, Int.mul_left_comm] at *; omega) | (simp (disch := omega) only [Go.Ev.w_i64, Go.Ev.w_i32, Go.Ev.w_u64, Go.Ev.w_u32, Go.Ev.w_u8, Go.Ev.tdiv_e, Go.Ev.tmod_e, Go.Ev.fdiv_e] at *; omega) | (simp only [Int.mul_add, Int.add_mul, Int.mul_sub, Int.sub_mul, Int.mul_assoc, Int.mul_comm, Int.mul_left_comm] at *; simp (disch := omega) only [Go.Ev.w_i64, Go.Ev.w_i32, Go.Ev.w_u64, Go.Ev.w_u32, Go.Ev.w_u8, Go.Ev.tdiv_e, Go.Ev.tmod_e, Go.Ev.fdiv_e] at *; omega)
def dead2 : List Fact := [⟨(.bin .add (.bin .sub (.var 2) (.var 5)) (.bin .quo (.var 4) (.var 0))), 40000, false⟩, ⟨(.var 4), (-1), false⟩, ⟨(.var 0), 0, false⟩, ⟨(.bin .add (.bin .mul (.bin .sub (.var 2) (.var 5)) (.var 0)) (.var 4)), (-278528001), true⟩]
theorem dead2_no (v : Nat → Int) : ¬ ∀ f ∈ dead2, f.holds v := by
  intro h
  have h0 : 40000 < ((v 2 - v 5) + Int.tdiv (v 4) (v 0)) := h _ (.head _)
  have h1 : (-1) < v 4 := h _ (.tail _ (.head _))
  have h2 : 0 < v 0 := h _ (.tail _ (.tail _ (.head _)))
  have h3 : (((v 2 - v 5) * v 0) + v 4) ≤ (-278528001) := h _ (.tail _ (.tail _ (.tail _ (.head _))))
  have n0 := Int.mul_tdiv_add_tmod (v 4) (v 0)
  have n1 := fun (x : 0 ≤ v 4) => Int.tmod_nonneg (v 0) x
  have n2 := fun (x : 0 < v 0) => Int.tmod_lt_of_pos (v 4) x
  have n3 := (Int.mul_nonneg (by omega) (by omega) : 0 ≤ (((v 2 - v 5) + Int.tdiv (v 4) (v 0)) - 40001) * v 4)
  have n4 := (Int.mul_nonneg (by omega) (by omega) : 0 ≤ (v 4 - 0) * v 4)
  have n5 := (Int.mul_nonneg (by omega) (by omega) : 0 ≤ (v 0 - 1) * v 4)
  have n6 := (Int.mul_nonneg (by omega) (by omega) : 0 ≤ (((v 2 - v 5) + Int.tdiv (v 4) (v 0)) - 40001) * v 0)
  have n7 := (Int.mul_nonneg (by omega) (by omega) : 0 ≤ (v 4 - 0) * v 0)
  have n8 := (Int.mul_nonneg (by omega) (by omega) : 0 ≤ (v 0 - 1) * v 0)
  clear h
  first | omega | (simp only [Int.mul_add, Int.add_mul, Int.mul_sub, Int.sub_mul, Int.mul_assoc, Int.mul_comm, Int.mul_left_comm] at *; omega) | (simp (disch := omega) only [Go.Ev.w_i64, Go.Ev.w_i32, Go.Ev.w_u64, Go.Ev.w_u32, Go.Ev.w_u8, Go.Ev.tdiv_e, Go.Ev.tmod_e, Go.Ev.fdiv_e] at *; omega) | (simp only [Int.mul_add, Int.add_mul, Int.mul_sub, Int.sub_mul, Int.mul_assoc, Int.mul_comm, Int.mul_left_comm] at *; simp (disch := omega) only [Go.Ev.w_i64, Go.Ev.w_i32, Go.Ev.w_u64, Go.Ev.w_u32, Go.Ev.w_u8, Go.Ev.tdiv_e, Go.Ev.tmod_e, Go.Ev.fdiv_e] at *; omega)
def dead3 : List Fact := [⟨(.bin .sub (.bin .mul (.lit 34000) (.var 0)) (.bin .add (.bin .mul (.bin .sub (.var 2) (.var 5)) (.var 0)) (.var 4))), (-1), true⟩, ⟨(.bin .add (.bin .sub (.var 2) (.var 5)) (.bin .quo (.var 4) (.var 0))), (-40001), true⟩, ⟨(.var 0), 0, false⟩]
theorem dead3_no (v : Nat → Int) : ¬ ∀ f ∈ dead3, f.holds v := by
  intro h
  have h0 : ((34000 * v 0) - (((v 2 - v 5) * v 0) + v 4)) ≤ (-1) := h _ (.head _)
  have h1 : ((v 2 - v 5) + Int.tdiv (v 4) (v 0)) ≤ (-40001) := h _ (.tail _ (.head _))
  have h2 : 0 < v 0 := h _ (.tail _ (.tail _ (.head _)))
  have n0 := Int.mul_tdiv_add_tmod (v 4) (v 0)
  have n1 := fun (x : 0 ≤ v 4) => Int.tmod_nonneg (v 0) x
  have n2 := fun (x : 0 < v 0) => Int.tmod_lt_of_pos (v 4) x
  have n3 := (Int.mul_nonneg (by omega) (by omega) : 0 ≤ ((-40001) - ((v 2 - v 5) + Int.tdiv (v 4) (v 0))) * v 0)
  have n4 := (Int.mul_nonneg (by omega) (by omega) : 0 ≤ (v 0 - 1) * v 0)
  clear h
  first | omega | (simp only [Int.mul_add, Int.add_mul, Int.mul_sub, Int.sub_mul, Int.mul_assoc, Int.mul_comm, Int.mul_left_comm] at *; omega) | (simp (disch := omega) only [Go.Ev.w_i64, Go.Ev.w_i32, Go.Ev.w_u64, Go.Ev.w_u32, Go.Ev.w_u8, Go.Ev.tdiv_e, Go.Ev.tmod_e, Go.Ev.fdiv_e] at *; omega) | (simp only [Int.mul_add, Int.add_mul, Int.mul_sub, Int.sub_mul, Int.mul_assoc, Int.mul_comm, Int.mul_left_comm] at *; simp (disch := omega) only [Go.Ev.w_i64, Go.Ev.w_i32, Go.Ev.w_u64, Go.Ev.w_u32, Go.Ev.w_u8, Go.Ev.tdiv_e, Go.Ev.tmod_e, Go.Ev.fdiv_e] at *; omega)
def dead4 : List Fact := [⟨(.bin .sub (.bin .add (.bin .mul (.bin .sub (.var 2) (.var 5)) (.var 0)) (.var 4)) (.bin .mul (.lit (-34000)) (.var 0))), (-1), false⟩, ⟨(.bin .add (.bin .sub (.var 2) (.var 5)) (.bin .quo (.var 4) (.var 0))), (-40001), true⟩, ⟨(.var 0), 0, false⟩]
theorem dead4_no (v : Nat → Int) : ¬ ∀ f ∈ dead4, f.holds v := by
  intro h
  have h0 : (-1) < ((((v 2 - v 5) * v 0) + v 4) - ((-34000) * v 0)) := h _ (.head _)
  have h1 : ((v 2 - v 5) + Int.tdiv (v 4) (v 0)) ≤ (-40001) := h _ (.tail _ (.head _))
  have h2 : 0 < v 0 := h _ (.tail _ (.tail _ (.head _)))
  have n0 := Int.mul_tdiv_add_tmod (v 4) (v 0)
  have n1 := fun (x : 0 ≤ v 4) => Int.tmod_nonneg (v 0) x
  have n2 := fun (x : 0 < v 0) => Int.tmod_lt_of_pos (v 4) x
  have n3 := (Int.mul_nonneg (by omega) (by omega) : 0 ≤ ((-40001) - ((v 2 - v 5) + Int.tdiv (v 4) (v 0))) * v 0)
  have n4 := (Int.mul_nonneg (by omega) (by omega) : 0 ≤ (v 0 - 1) * v 0)
  clear h
  first | omega | (simp only [Int.mul_add, Int.add_mul, Int.mul_sub, Int.sub_mul, Int.mul_assoc, Int.mul_comm, Int.mul_left_comm] at *; omega) | (simp (disch := omega) only [Go.Ev.w_i64, Go.Ev.w_i32, Go.Ev.w_u64, Go.Ev.w_u32, Go.Ev.w_u8, Go.Ev.tdiv_e, Go.Ev.tmod_e, Go.Ev.fdiv_e] at *; omega) | (simp only [Int.mul_add, Int.add_mul, Int.mul_sub, Int.sub_mul, Int.mul_assoc, Int.mul_comm, Int.mul_left_comm] at *; simp (disch := omega) only [Go.Ev.w_i64, Go.Ev.w_i32, Go.Ev.w_u64, Go.Ev.w_u32, Go.Ev.w_u8, Go.Ev.tdiv_e, Go.Ev.tmod_e, Go.Ev.fdiv_e] at *; omega)
def dead5 : List Fact := [⟨(.bin .sub (.bin .mul (.lit 34000) (.var 0)) (.bin .add (.bin .mul (.bin .sub (.var 2) (.var 5)) (.var 0)) (.var 4))), (-1), true⟩, ⟨(.bin .mul (.lit 299792458) (.bin .add (.bin .mul (.bin .add (.bin .sub (.var 2) (.var 5)) (.bin .quo (.var 4) (.var 0))) (.var 0)) (.bin .rem (.var 4) (.var 0)))), (-1), true⟩, ⟨(.var 0), 0, false⟩]
theorem dead5_no (v : Nat → Int) : ¬ ∀ f ∈ dead5, f.holds v := by
  intro h
  have h0 : ((34000 * v 0) - (((v 2 - v 5) * v 0) + v 4)) ≤ (-1) := h _ (.head _)
  have h1 : (299792458 * ((((v 2 - v 5) + Int.tdiv (v 4) (v 0)) * v 0) + Int.tmod (v 4) (v 0))) ≤ (-1) := h _ (.tail _ (.head _))
  have h2 : 0 < v 0 := h _ (.tail _ (.tail _ (.head _)))
  have r0 := Int.mul_tdiv_add_tmod (v 4) (v 0)
  clear h
  first | omega | (simp only [Int.mul_add, Int.add_mul, Int.mul_sub, Int.sub_mul, Int.mul_assoc, Int.mul_comm, Int.mul_left_comm] at *; omega) | (simp (disch := omega) only [Go.Ev.w_i64, Go.Ev.w_i32, Go.Ev.w_u64, Go.Ev.w_u32, Go.Ev.w_u8, Go.Ev.tdiv_e, Go.Ev.tmod_e, Go.Ev.fdiv_e] at *; omega) | (simp only [Int.mul_add, Int.add_mul, Int.mul_sub, Int.sub_mul, Int.mul_assoc, Int.mul_comm, Int.mul_left_comm] at *; simp (disch := omega) only [Go.Ev.w_i64, Go.Ev.w_i32, Go.Ev.w_u64, Go.Ev.w_u32, Go.Ev.w_u8, Go.Ev.tdiv_e, Go.Ev.tmod_e, Go.Ev.fdiv_e] at *; omega)
def dead6 : List Fact := [⟨(.bin .mul (.lit (-1)) (.bin .quo (.bin .add (.bin .mul (.bin .mul (.lit 2) (.bin .sub (.lit 0) (.bin .add (.bin .mul (.bin .sub (.var 2) (.var 5)) (.var 0)) (.var 4)))) (.lit 299792458)) (.var 0)) (.bin .mul (.lit 2) (.var 0)))), (-10000000000001), false⟩, ⟨(.bin .sub (.lit 0) (.bin .quo (.bin .add (.bin .mul (.lit 2) (.bin .sub (.lit 0) (.bin .mul (.lit 299792458) (.bin .add (.bin .mul (.bin .add (.bin .sub (.var 2) (.var 5)) (.bin .quo (.var 4) (.var 0))) (.var 0)) (.bin .rem (.var 4) (.var 0)))))) (.var 0)) (.bin .mul (.lit 2) (.var 0)))), (-10000000000001), true⟩]
theorem dead6_no (v : Nat → Int) : ¬ ∀ f ∈ dead6, f.holds v := by
  intro h
  have h0 : (-10000000000001) < ((-1) * Int.tdiv ((((2 * (0 - (((v 2 - v 5) * v 0) + v 4))) * 299792458) + v 0)) ((2 * v 0))) := h _ (.head _)
  have h1 : (0 - Int.tdiv (((2 * (0 - (299792458 * ((((v 2 - v 5) + Int.tdiv (v 4) (v 0)) * v 0) + Int.tmod (v 4) (v 0))))) + v 0)) ((2 * v 0))) ≤ (-10000000000001) := h _ (.tail _ (.head _))
  have g0 : Int.tdiv (((2 * (0 - (299792458 * ((((v 2 - v 5) + Int.tdiv (v 4) (v 0)) * v 0) + Int.tmod (v 4) (v 0))))) + v 0)) ((2 * v 0)) = Int.tdiv ((((2 * (0 - (((v 2 - v 5) * v 0) + v 4))) * 299792458) + v 0)) ((2 * v 0)) := by
    have e1 : ((2 * (0 - (299792458 * ((((v 2 - v 5) + Int.tdiv (v 4) (v 0)) * v 0) + Int.tmod (v 4) (v 0))))) + v 0) = (((2 * (0 - (((v 2 - v 5) * v 0) + v 4))) * 299792458) + v 0) := by
      have y0 := Int.mul_tdiv_add_tmod (v 4) (v 0)
      try simp only [Int.mul_add, Int.add_mul, Int.mul_sub, Int.sub_mul, Int.mul_assoc, Int.mul_comm, Int.mul_left_comm] at y0 ⊢
      try omega
    rw [e1]
  have r0 := Int.mul_tdiv_add_tmod (v 4) (v 0)
  clear h
  first | omega | (simp only [Int.mul_add, Int.add_mul, Int.mul_sub, Int.sub_mul, Int.mul_assoc, Int.mul_comm, Int.mul_left_comm] at *; omega) | (simp (disch := omega) only [Go.Ev.w_i64, Go.Ev.w_i32, Go.Ev.w_u64, Go.Ev.w_u32, Go.Ev.w_u8, Go.Ev.tdiv_e, Go.Ev.tmod_e, Go.Ev.fdiv_e] at *; omega) | (simp only [Int.mul_add, Int.add_mul, Int.mul_sub, Int.sub_mul, Int.mul_assoc, Int.mul_comm, Int.mul_left_comm] at *; simp (disch := omega) only [Go.Ev.w_i64, Go.Ev.w_i32, Go.Ev.w_u64, Go.Ev.w_u32, Go.Ev.w_u8, Go.Ev.tdiv_e, Go.Ev.tmod_e, Go.Ev.fdiv_e] at *; omega)
def dead7 : List Fact := [⟨(.bin .add (.bin .mul (.bin .sub (.var 2) (.var 5)) (.var 0)) (.var 4)), (-1), false⟩, ⟨(.bin .mul (.lit 299792458) (.bin .add (.bin .mul (.bin .add (.bin .sub (.var 2) (.var 5)) (.bin .quo (.var 4) (.var 0))) (.var 0)) (.bin .rem (.var 4) (.var 0)))), (-1), true⟩]
theorem dead7_no (v : Nat → Int) : ¬ ∀ f ∈ dead7, f.holds v := by
  intro h
  have h0 : (-1) < (((v 2 - v 5) * v 0) + v 4) := h _ (.head _)
  have h1 : (299792458 * ((((v 2 - v 5) + Int.tdiv (v 4) (v 0)) * v 0) + Int.tmod (v 4) (v 0))) ≤ (-1) := h _ (.tail _ (.head _))
  have r0 := Int.mul_tdiv_add_tmod (v 4) (v 0)
  clear h
  first | omega | (simp only [Int.mul_add, Int.add_mul, Int.mul_sub, Int.sub_mul, Int.mul_assoc, Int.mul_comm, Int.mul_left_comm] at *; omega) | (simp (disch := omega) only [Go.Ev.w_i64, Go.Ev.w_i32, Go.Ev.w_u64, Go.Ev.w_u32, Go.Ev.w_u8, Go.Ev.tdiv_e, Go.Ev.tmod_e, Go.Ev.fdiv_e] at *; omega) | (simp only [Int.mul_add, Int.add_mul, Int.mul_sub, Int.sub_mul, Int.mul_assoc, Int.mul_comm, Int.mul_left_comm] at *; simp (disch := omega) only [Go.Ev.w_i64, Go.Ev.w_i32, Go.Ev.w_u64, Go.Ev.w_u32, Go.Ev.w_u8, Go.Ev.tdiv_e, Go.Ev.tmod_e, Go.Ev.fdiv_e] at *; omega)
def dead8 : List Fact := [⟨(.bin .sub (.bin .add (.bin .mul (.bin .sub (.var 2) (.var 5)) (.var 0)) (.var 4)) (.bin .mul (.lit (-34000)) (.var 0))), (-1), true⟩, ⟨(.bin .sub (.lit 0) (.bin .quo (.bin .add (.bin .mul (.lit 2) (.bin .sub (.lit 0) (.bin .mul (.lit 299792458) (.bin .add (.bin .mul (.bin .add (.bin .sub (.var 2) (.var 5)) (.bin .quo (.var 4) (.var 0))) (.var 0)) (.bin .rem (.var 4) (.var 0)))))) (.var 0)) (.bin .mul (.lit 2) (.var 0)))), (-10000000000001), false⟩, ⟨(.var 0), 0, false⟩]
theorem dead8_no (v : Nat → Int) : ¬ ∀ f ∈ dead8, f.holds v := by
  intro h
  have h0 : ((((v 2 - v 5) * v 0) + v 4) - ((-34000) * v 0)) ≤ (-1) := h _ (.head _)
  have h1 : (-10000000000001) < (0 - Int.tdiv (((2 * (0 - (299792458 * ((((v 2 - v 5) + Int.tdiv (v 4) (v 0)) * v 0) + Int.tmod (v 4) (v 0))))) + v 0)) ((2 * v 0))) := h _ (.tail _ (.head _))
  have h2 : 0 < v 0 := h _ (.tail _ (.tail _ (.head _)))
  have n0 := Int.mul_tdiv_add_tmod (((2 * (0 - (299792458 * ((((v 2 - v 5) + Int.tdiv (v 4) (v 0)) * v 0) + Int.tmod (v 4) (v 0))))) + v 0)) ((2 * v 0))
  have n1 := fun (x : 0 ≤ ((2 * (0 - (299792458 * ((((v 2 - v 5) + Int.tdiv (v 4) (v 0)) * v 0) + Int.tmod (v 4) (v 0))))) + v 0)) => Int.tmod_nonneg ((2 * v 0)) x
  have n2 := fun (x : 0 < (2 * v 0)) => Int.tmod_lt_of_pos (((2 * (0 - (299792458 * ((((v 2 - v 5) + Int.tdiv (v 4) (v 0)) * v 0) + Int.tmod (v 4) (v 0))))) + v 0)) x
  have n3 := Int.mul_tdiv_add_tmod (v 4) (v 0)
  have n4 := fun (x : 0 ≤ v 4) => Int.tmod_nonneg (v 0) x
  have n5 := fun (x : 0 < v 0) => Int.tmod_lt_of_pos (v 4) x
  have n6 := (Int.mul_nonneg (by omega) (by omega) : 0 ≤ ((0 - Int.tdiv (((2 * (0 - (299792458 * ((((v 2 - v 5) + Int.tdiv (v 4) (v 0)) * v 0) + Int.tmod (v 4) (v 0))))) + v 0)) ((2 * v 0))) - (-10000000000000)) * v 0)
  have n7 := (Int.mul_nonneg (by omega) (by omega) : 0 ≤ (v 0 - 1) * v 0)
  have r0 := Int.mul_tdiv_add_tmod (v 4) (v 0)
  clear h
  first | omega | (simp only [Int.mul_add, Int.add_mul, Int.mul_sub, Int.sub_mul, Int.mul_assoc, Int.mul_comm, Int.mul_left_comm] at *; omega) | (simp (disch := omega) only [Go.Ev.w_i64, Go.Ev.w_i32, Go.Ev.w_u64, Go.Ev.w_u32, Go.Ev.w_u8, Go.Ev.tdiv_e, Go.Ev.tmod_e, Go.Ev.fdiv_e] at *; omega) | (simp only [Int.mul_add, Int.add_mul, Int.mul_sub, Int.sub_mul, Int.mul_assoc, Int.mul_comm, Int.mul_left_comm] at *; simp (disch := omega) only [Go.Ev.w_i64, Go.Ev.w_i32, Go.Ev.w_u64, Go.Ev.w_u32, Go.Ev.w_u8, Go.Ev.tdiv_e, Go.Ev.tmod_e, Go.Ev.fdiv_e] at *; omega)
def dead9 : List Fact := [⟨(.bin .mul (.lit (-1)) (.bin .quo (.bin .add (.bin .mul (.bin .mul (.lit 2) (.bin .sub (.lit 0) (.bin .add (.bin .mul (.bin .sub (.var 2) (.var 5)) (.var 0)) (.var 4)))) (.lit 299792458)) (.var 0)) (.bin .mul (.lit 2) (.var 0)))), (-10000000000001), true⟩, ⟨(.bin .sub (.lit 0) (.bin .quo (.bin .add (.bin .mul (.lit 2) (.bin .sub (.lit 0) (.bin .mul (.lit 299792458) (.bin .add (.bin .mul (.bin .add (.bin .sub (.var 2) (.var 5)) (.bin .quo (.var 4) (.var 0))) (.var 0)) (.bin .rem (.var 4) (.var 0)))))) (.var 0)) (.bin .mul (.lit 2) (.var 0)))), (-10000000000001), false⟩]
theorem dead9_no (v : Nat → Int) : ¬ ∀ f ∈ dead9, f.holds v := by
  intro h
  have h0 : ((-1) * Int.tdiv ((((2 * (0 - (((v 2 - v 5) * v 0) + v 4))) * 299792458) + v 0)) ((2 * v 0))) ≤ (-10000000000001) := h _ (.head _)
  have h1 : (-10000000000001) < (0 - Int.tdiv (((2 * (0 - (299792458 * ((((v 2 - v 5) + Int.tdiv (v 4) (v 0)) * v 0) + Int.tmod (v 4) (v 0))))) + v 0)) ((2 * v 0))) := h _ (.tail _ (.head _))
  have g0 : Int.tdiv (((2 * (0 - (299792458 * ((((v 2 - v 5) + Int.tdiv (v 4) (v 0)) * v 0) + Int.tmod (v 4) (v 0))))) + v 0)) ((2 * v 0)) = Int.tdiv ((((2 * (0 - (((v 2 - v 5) * v 0) + v 4))) * 299792458) + v 0)) ((2 * v 0)) := by
    have e1 : ((2 * (0 - (299792458 * ((((v 2 - v 5) + Int.tdiv (v 4) (v 0)) * v 0) + Int.tmod (v 4) (v 0))))) + v 0) = (((2 * (0 - (((v 2 - v 5) * v 0) + v 4))) * 299792458) + v 0) := by
      have y0 := Int.mul_tdiv_add_tmod (v 4) (v 0)
      try simp only [Int.mul_add, Int.add_mul, Int.mul_sub, Int.sub_mul, Int.mul_assoc, Int.mul_comm, Int.mul_left_comm] at y0 ⊢
      try omega
    rw [e1]
  have r0 := Int.mul_tdiv_add_tmod (v 4) (v 0)
  clear h
  first | omega | (simp only [Int.mul_add, Int.add_mul, Int.mul_sub, Int.sub_mul, Int.mul_assoc, Int.mul_comm, Int.mul_left_comm] at *; omega) | (simp (disch := omega) only [Go.Ev.w_i64, Go.Ev.w_i32, Go.Ev.w_u64, Go.Ev.w_u32, Go.Ev.w_u8, Go.Ev.tdiv_e, Go.Ev.tmod_e, Go.Ev.fdiv_e] at *; omega) | (simp only [Int.mul_add, Int.add_mul, Int.mul_sub, Int.sub_mul, Int.mul_assoc, Int.mul_comm, Int.mul_left_comm] at *; simp (disch := omega) only [Go.Ev.w_i64, Go.Ev.w_i32, Go.Ev.w_u64, Go.Ev.w_u32, Go.Ev.w_u8, Go.Ev.tdiv_e, Go.Ev.tmod_e, Go.Ev.fdiv_e] at *; omega)
def dead10 : List Fact := [⟨(.bin .sub (.bin .sub (.lit 0) (.bin .quo (.bin .add (.bin .mul (.lit 2) (.bin .sub (.lit 0) (.bin .mul (.lit 299792458) (.bin .add (.bin .mul (.bin .add (.bin .sub (.var 2) (.var 5)) (.bin .quo (.var 4) (.var 0))) (.var 0)) (.bin .rem (.var 4) (.var 0)))))) (.var 0)) (.bin .mul (.lit 2) (.var 0)))) (.bin .mul (.lit (-1)) (.bin .quo (.bin .add (.bin .mul (.bin .mul (.lit 2) (.bin .sub (.lit 0) (.bin .add (.bin .mul (.bin .sub (.var 2) (.var 5)) (.var 0)) (.var 4)))) (.lit 299792458)) (.var 0)) (.bin .mul (.lit 2) (.var 0))))), (-1), true⟩]
theorem dead10_no (v : Nat → Int) : ¬ ∀ f ∈ dead10, f.holds v := by
  intro h
  have h0 : ((0 - Int.tdiv (((2 * (0 - (299792458 * ((((v 2 - v 5) + Int.tdiv (v 4) (v 0)) * v 0) + Int.tmod (v 4) (v 0))))) + v 0)) ((2 * v 0))) - ((-1) * Int.tdiv ((((2 * (0 - (((v 2 - v 5) * v 0) + v 4))) * 299792458) + v 0)) ((2 * v 0)))) ≤ (-1) := h _ (.head _)
  have g0 : Int.tdiv ((((2 * (0 - (((v 2 - v 5) * v 0) + v 4))) * 299792458) + v 0)) ((2 * v 0)) = Int.tdiv (((2 * (0 - (299792458 * ((((v 2 - v 5) + Int.tdiv (v 4) (v 0)) * v 0) + Int.tmod (v 4) (v 0))))) + v 0)) ((2 * v 0)) := by
    have e1 : (((2 * (0 - (((v 2 - v 5) * v 0) + v 4))) * 299792458) + v 0) = ((2 * (0 - (299792458 * ((((v 2 - v 5) + Int.tdiv (v 4) (v 0)) * v 0) + Int.tmod (v 4) (v 0))))) + v 0) := by
      have y0 := Int.mul_tdiv_add_tmod (v 4) (v 0)
      try simp only [Int.mul_add, Int.add_mul, Int.mul_sub, Int.sub_mul, Int.mul_assoc, Int.mul_comm, Int.mul_left_comm] at y0 ⊢
      try omega
    rw [e1]
  have r0 := Int.mul_tdiv_add_tmod (v 4) (v 0)
  clear h
  first | omega | (simp only [Int.mul_add, Int.add_mul, Int.mul_sub, Int.sub_mul, Int.mul_assoc, Int.mul_comm, Int.mul_left_comm] at *; omega) | (simp (disch := omega) only [Go.Ev.w_i64, Go.Ev.w_i32, Go.Ev.w_u64, Go.Ev.w_u32, Go.Ev.w_u8, Go.Ev.tdiv_e, Go.Ev.tmod_e, Go.Ev.fdiv_e] at *; omega) | (simp only [Int.mul_add, Int.add_mul, Int.mul_sub, Int.sub_mul, Int.mul_assoc, Int.mul_comm, Int.mul_left_comm] at *; simp (disch := omega) only [Go.Ev.w_i64, Go.Ev.w_i32, Go.Ev.w_u64, Go.Ev.w_u32, Go.Ev.w_u8, Go.Ev.tdiv_e, Go.Ev.tmod_e, Go.Ev.fdiv_e] at *; omega)
def dead11 : List Fact := [⟨(.bin .sub (.bin .sub (.lit 0) (.bin .quo (.bin .add (.bin .mul (.lit 2) (.bin .sub (.lit 0) (.bin .mul (.lit 299792458) (.bin .add (.bin .mul (.bin .add (.bin .sub (.var 2) (.var 5)) (.bin .quo (.var 4) (.var 0))) (.var 0)) (.bin .rem (.var 4) (.var 0)))))) (.var 0)) (.bin .mul (.lit 2) (.var 0)))) (.bin .mul (.lit (-1)) (.bin .quo (.bin .add (.bin .mul (.bin .mul (.lit 2) (.bin .sub (.lit 0) (.bin .add (.bin .mul (.bin .sub (.var 2) (.var 5)) (.var 0)) (.var 4)))) (.lit 299792458)) (.var 0)) (.bin .mul (.lit 2) (.var 0))))), 0, false⟩]
theorem dead11_no (v : Nat → Int) : ¬ ∀ f ∈ dead11, f.holds v := by
  intro h
  have h0 : 0 < ((0 - Int.tdiv (((2 * (0 - (299792458 * ((((v 2 - v 5) + Int.tdiv (v 4) (v 0)) * v 0) + Int.tmod (v 4) (v 0))))) + v 0)) ((2 * v 0))) - ((-1) * Int.tdiv ((((2 * (0 - (((v 2 - v 5) * v 0) + v 4))) * 299792458) + v 0)) ((2 * v 0)))) := h _ (.head _)
  have g0 : Int.tdiv ((((2 * (0 - (((v 2 - v 5) * v 0) + v 4))) * 299792458) + v 0)) ((2 * v 0)) = Int.tdiv (((2 * (0 - (299792458 * ((((v 2 - v 5) + Int.tdiv (v 4) (v 0)) * v 0) + Int.tmod (v 4) (v 0))))) + v 0)) ((2 * v 0)) := by
    have e1 : (((2 * (0 - (((v 2 - v 5) * v 0) + v 4))) * 299792458) + v 0) = ((2 * (0 - (299792458 * ((((v 2 - v 5) + Int.tdiv (v 4) (v 0)) * v 0) + Int.tmod (v 4) (v 0))))) + v 0) := by
      have y0 := Int.mul_tdiv_add_tmod (v 4) (v 0)
      try simp only [Int.mul_add, Int.add_mul, Int.mul_sub, Int.sub_mul, Int.mul_assoc, Int.mul_comm, Int.mul_left_comm] at y0 ⊢
      try omega
    rw [e1]
  have r0 := Int.mul_tdiv_add_tmod (v 4) (v 0)
  clear h
  first | omega | (simp only [Int.mul_add, Int.add_mul, Int.mul_sub, Int.sub_mul, Int.mul_assoc, Int.mul_comm, Int.mul_left_comm] at *; omega) | (simp (disch := omega) only [Go.Ev.w_i64, Go.Ev.w_i32, Go.Ev.w_u64, Go.Ev.w_u32, Go.Ev.w_u8, Go.Ev.tdiv_e, Go.Ev.tmod_e, Go.Ev.fdiv_e] at *; omega) | (simp only [Int.mul_add, Int.add_mul, Int.mul_sub, Int.sub_mul, Int.mul_assoc, Int.mul_comm, Int.mul_left_comm] at *; simp (disch := omega) only [Go.Ev.w_i64, Go.Ev.w_i32, Go.Ev.w_u64, Go.Ev.w_u32, Go.Ev.w_u8, Go.Ev.tdiv_e, Go.Ev.tmod_e, Go.Ev.fdiv_e] at *; omega)
def dead12 : List Fact := [⟨(.bin .sub (.bin .mul (.lit 34000) (.var 0)) (.bin .add (.bin .mul (.bin .sub (.var 2) (.var 5)) (.var 0)) (.var 4))), (-1), true⟩, ⟨(.bin .quo (.bin .add (.bin .mul (.lit 2) (.bin .mul (.lit 299792458) (.bin .add (.bin .mul (.bin .add (.bin .sub (.var 2) (.var 5)) (.bin .quo (.var 4) (.var 0))) (.var 0)) (.bin .rem (.var 4) (.var 0))))) (.var 0)) (.bin .mul (.lit 2) (.var 0))), 10000000000000, true⟩, ⟨(.var 0), 0, false⟩]
theorem dead12_no (v : Nat → Int) : ¬ ∀ f ∈ dead12, f.holds v := by
  intro h
  have h0 : ((34000 * v 0) - (((v 2 - v 5) * v 0) + v 4)) ≤ (-1) := h _ (.head _)
  have h1 : Int.tdiv (((2 * (299792458 * ((((v 2 - v 5) + Int.tdiv (v 4) (v 0)) * v 0) + Int.tmod (v 4) (v 0)))) + v 0)) ((2 * v 0)) ≤ 10000000000000 := h _ (.tail _ (.head _))
  have h2 : 0 < v 0 := h _ (.tail _ (.tail _ (.head _)))
  have n0 := Int.mul_tdiv_add_tmod (((2 * (299792458 * ((((v 2 - v 5) + Int.tdiv (v 4) (v 0)) * v 0) + Int.tmod (v 4) (v 0)))) + v 0)) ((2 * v 0))
  have n1 := fun (x : 0 ≤ ((2 * (299792458 * ((((v 2 - v 5) + Int.tdiv (v 4) (v 0)) * v 0) + Int.tmod (v 4) (v 0)))) + v 0)) => Int.tmod_nonneg ((2 * v 0)) x
  have n2 := fun (x : 0 < (2 * v 0)) => Int.tmod_lt_of_pos (((2 * (299792458 * ((((v 2 - v 5) + Int.tdiv (v 4) (v 0)) * v 0) + Int.tmod (v 4) (v 0)))) + v 0)) x
  have n3 := Int.mul_tdiv_add_tmod (v 4) (v 0)
  have n4 := fun (x : 0 ≤ v 4) => Int.tmod_nonneg (v 0) x
  have n5 := fun (x : 0 < v 0) => Int.tmod_lt_of_pos (v 4) x
  have n6 := (Int.mul_nonneg (by omega) (by omega) : 0 ≤ (10000000000000 - Int.tdiv (((2 * (299792458 * ((((v 2 - v 5) + Int.tdiv (v 4) (v 0)) * v 0) + Int.tmod (v 4) (v 0)))) + v 0)) ((2 * v 0))) * v 0)
  have n7 := (Int.mul_nonneg (by omega) (by omega) : 0 ≤ (v 0 - 1) * v 0)
  have r0 := Int.mul_tdiv_add_tmod (v 4) (v 0)
  clear h
  first | omega | (simp only [Int.mul_add, Int.add_mul, Int.mul_sub, Int.sub_mul, Int.mul_assoc, Int.mul_comm, Int.mul_left_comm] at *; omega) | (simp (disch := omega) only [Go.Ev.w_i64, Go.Ev.w_i32, Go.Ev.w_u64, Go.Ev.w_u32, Go.Ev.w_u8, Go.Ev.tdiv_e, Go.Ev.tmod_e, Go.Ev.fdiv_e] at *; omega) | (simp only [Int.mul_add, Int.add_mul, Int.mul_sub, Int.sub_mul, Int.mul_assoc, Int.mul_comm, Int.mul_left_comm] at *; simp (disch := omega) only [Go.Ev.w_i64, Go.Ev.w_i32, Go.Ev.w_u64, Go.Ev.w_u32, Go.Ev.w_u8, Go.Ev.tdiv_e, Go.Ev.tmod_e, Go.Ev.fdiv_e] at *; omega)
def dead13 : List Fact := [⟨(.bin .sub (.bin .add (.bin .mul (.bin .sub (.var 2) (.var 5)) (.var 0)) (.var 4)) (.bin .mul (.lit (-34000)) (.var 0))), (-1), true⟩, ⟨(.bin .mul (.lit 299792458) (.bin .add (.bin .mul (.bin .add (.bin .sub (.var 2) (.var 5)) (.bin .quo (.var 4) (.var 0))) (.var 0)) (.bin .rem (.var 4) (.var 0)))), (-1), false⟩, ⟨(.var 0), 0, false⟩]
theorem dead13_no (v : Nat → Int) : ¬ ∀ f ∈ dead13, f.holds v := by
  intro h
  have h0 : ((((v 2 - v 5) * v 0) + v 4) - ((-34000) * v 0)) ≤ (-1) := h _ (.head _)
  have h1 : (-1) < (299792458 * ((((v 2 - v 5) + Int.tdiv (v 4) (v 0)) * v 0) + Int.tmod (v 4) (v 0))) := h _ (.tail _ (.head _))
  have h2 : 0 < v 0 := h _ (.tail _ (.tail _ (.head _)))
  have r0 := Int.mul_tdiv_add_tmod (v 4) (v 0)
  clear h
  first | omega | (simp only [Int.mul_add, Int.add_mul, Int.mul_sub, Int.sub_mul, Int.mul_assoc, Int.mul_comm, Int.mul_left_comm] at *; omega) | (simp (disch := omega) only [Go.Ev.w_i64, Go.Ev.w_i32, Go.Ev.w_u64, Go.Ev.w_u32, Go.Ev.w_u8, Go.Ev.tdiv_e, Go.Ev.tmod_e, Go.Ev.fdiv_e] at *; omega) | (simp only [Int.mul_add, Int.add_mul, Int.mul_sub, Int.sub_mul, Int.mul_assoc, Int.mul_comm, Int.mul_left_comm] at *; simp (disch := omega) only [Go.Ev.w_i64, Go.Ev.w_i32, Go.Ev.w_u64, Go.Ev.w_u32, Go.Ev.w_u8, Go.Ev.tdiv_e, Go.Ev.tmod_e, Go.Ev.fdiv_e] at *; omega)
def dead14 : List Fact := [⟨(.bin .add (.bin .mul (.bin .sub (.var 2) (.var 5)) (.var 0)) (.var 4)), (-1), true⟩, ⟨(.bin .mul (.lit 299792458) (.bin .add (.bin .mul (.bin .add (.bin .sub (.var 2) (.var 5)) (.bin .quo (.var 4) (.var 0))) (.var 0)) (.bin .rem (.var 4) (.var 0)))), (-1), false⟩]
theorem dead14_no (v : Nat → Int) : ¬ ∀ f ∈ dead14, f.holds v := by
  intro h
  have h0 : (((v 2 - v 5) * v 0) + v 4) ≤ (-1) := h _ (.head _)
  have h1 : (-1) < (299792458 * ((((v 2 - v 5) + Int.tdiv (v 4) (v 0)) * v 0) + Int.tmod (v 4) (v 0))) := h _ (.tail _ (.head _))
  have r0 := Int.mul_tdiv_add_tmod (v 4) (v 0)
  clear h
  first | omega | (simp only [Int.mul_add, Int.add_mul, Int.mul_sub, Int.sub_mul, Int.mul_assoc, Int.mul_comm, Int.mul_left_comm] at *; omega) | (simp (disch := omega) only [Go.Ev.w_i64, Go.Ev.w_i32, Go.Ev.w_u64, Go.Ev.w_u32, Go.Ev.w_u8, Go.Ev.tdiv_e, Go.Ev.tmod_e, Go.Ev.fdiv_e] at *; omega) | (simp only [Int.mul_add, Int.add_mul, Int.mul_sub, Int.sub_mul, Int.mul_assoc, Int.mul_comm, Int.mul_left_comm] at *; simp (disch := omega) only [Go.Ev.w_i64, Go.Ev.w_i32, Go.Ev.w_u64, Go.Ev.w_u32, Go.Ev.w_u8, Go.Ev.tdiv_e, Go.Ev.tmod_e, Go.Ev.fdiv_e] at *; omega)
def dead15 : List Fact := [⟨(.bin .sub (.bin .quo (.bin .add (.bin .mul (.lit 2) (.bin .mul (.lit 299792458) (.bin .add (.bin .mul (.bin .add (.bin .sub (.var 2) (.var 5)) (.bin .quo (.var 4) (.var 0))) (.var 0)) (.bin .rem (.var 4) (.var 0))))) (.var 0)) (.bin .mul (.lit 2) (.var 0))) (.bin .mul (.lit 1) (.bin .quo (.bin .add (.bin .mul (.bin .mul (.lit 2) (.bin .add (.bin .mul (.bin .sub (.var 2) (.var 5)) (.var 0)) (.var 4))) (.lit 299792458)) (.var 0)) (.bin .mul (.lit 2) (.var 0))))), (-1), true⟩]
theorem dead15_no (v : Nat → Int) : ¬ ∀ f ∈ dead15, f.holds v := by
  intro h
  have h0 : (Int.tdiv (((2 * (299792458 * ((((v 2 - v 5) + Int.tdiv (v 4) (v 0)) * v 0) + Int.tmod (v 4) (v 0)))) + v 0)) ((2 * v 0)) - (1 * Int.tdiv ((((2 * (((v 2 - v 5) * v 0) + v 4)) * 299792458) + v 0)) ((2 * v 0)))) ≤ (-1) := h _ (.head _)
  have g0 : Int.tdiv ((((2 * (((v 2 - v 5) * v 0) + v 4)) * 299792458) + v 0)) ((2 * v 0)) = Int.tdiv (((2 * (299792458 * ((((v 2 - v 5) + Int.tdiv (v 4) (v 0)) * v 0) + Int.tmod (v 4) (v 0)))) + v 0)) ((2 * v 0)) := by
    have e1 : (((2 * (((v 2 - v 5) * v 0) + v 4)) * 299792458) + v 0) = ((2 * (299792458 * ((((v 2 - v 5) + Int.tdiv (v 4) (v 0)) * v 0) + Int.tmod (v 4) (v 0)))) + v 0) := by
      have y0 := Int.mul_tdiv_add_tmod (v 4) (v 0)
      try simp only [Int.mul_add, Int.add_mul, Int.mul_sub, Int.sub_mul, Int.mul_assoc, Int.mul_comm, Int.mul_left_comm] at y0 ⊢
      try omega
    rw [e1]
  have r0 := Int.mul_tdiv_add_tmod (v 4) (v 0)
  clear h
  first | omega | (simp only [Int.mul_add, Int.add_mul, Int.mul_sub, Int.sub_mul, Int.mul_assoc, Int.mul_comm, Int.mul_left_comm] at *; omega) | (simp (disch := omega) only [Go.Ev.w_i64, Go.Ev.w_i32, Go.Ev.w_u64, Go.Ev.w_u32, Go.Ev.w_u8, Go.Ev.tdiv_e, Go.Ev.tmod_e, Go.Ev.fdiv_e] at *; omega) | (simp only [Int.mul_add, Int.add_mul, Int.mul_sub, Int.sub_mul, Int.mul_assoc, Int.mul_comm, Int.mul_left_comm] at *; simp (disch := omega) only [Go.Ev.w_i64, Go.Ev.w_i32, Go.Ev.w_u64, Go.Ev.w_u32, Go.Ev.w_u8, Go.Ev.tdiv_e, Go.Ev.tmod_e, Go.Ev.fdiv_e] at *; omega)
def dead16 : List Fact := [⟨(.bin .sub (.bin .quo (.bin .add (.bin .mul (.lit 2) (.bin .mul (.lit 299792458) (.bin .add (.bin .mul (.bin .add (.bin .sub (.var 2) (.var 5)) (.bin .quo (.var 4) (.var 0))) (.var 0)) (.bin .rem (.var 4) (.var 0))))) (.var 0)) (.bin .mul (.lit 2) (.var 0))) (.bin .mul (.lit 1) (.bin .quo (.bin .add (.bin .mul (.bin .mul (.lit 2) (.bin .add (.bin .mul (.bin .sub (.var 2) (.var 5)) (.var 0)) (.var 4))) (.lit 299792458)) (.var 0)) (.bin .mul (.lit 2) (.var 0))))), 0, false⟩]
theorem dead16_no (v : Nat → Int) : ¬ ∀ f ∈ dead16, f.holds v := by
  intro h
  have h0 : 0 < (Int.tdiv (((2 * (299792458 * ((((v 2 - v 5) + Int.tdiv (v 4) (v 0)) * v 0) + Int.tmod (v 4) (v 0)))) + v 0)) ((2 * v 0)) - (1 * Int.tdiv ((((2 * (((v 2 - v 5) * v 0) + v 4)) * 299792458) + v 0)) ((2 * v 0)))) := h _ (.head _)
  have g0 : Int.tdiv ((((2 * (((v 2 - v 5) * v 0) + v 4)) * 299792458) + v 0)) ((2 * v 0)) = Int.tdiv (((2 * (299792458 * ((((v 2 - v 5) + Int.tdiv (v 4) (v 0)) * v 0) + Int.tmod (v 4) (v 0)))) + v 0)) ((2 * v 0)) := by
    have e1 : (((2 * (((v 2 - v 5) * v 0) + v 4)) * 299792458) + v 0) = ((2 * (299792458 * ((((v 2 - v 5) + Int.tdiv (v 4) (v 0)) * v 0) + Int.tmod (v 4) (v 0)))) + v 0) := by
      have y0 := Int.mul_tdiv_add_tmod (v 4) (v 0)
      try simp only [Int.mul_add, Int.add_mul, Int.mul_sub, Int.sub_mul, Int.mul_assoc, Int.mul_comm, Int.mul_left_comm] at y0 ⊢
      try omega
    rw [e1]
  have r0 := Int.mul_tdiv_add_tmod (v 4) (v 0)
  clear h
  first | omega | (simp only [Int.mul_add, Int.add_mul, Int.mul_sub, Int.sub_mul, Int.mul_assoc, Int.mul_comm, Int.mul_left_comm] at *; omega) | (simp (disch := omega) only [Go.Ev.w_i64, Go.Ev.w_i32, Go.Ev.w_u64, Go.Ev.w_u32, Go.Ev.w_u8, Go.Ev.tdiv_e, Go.Ev.tmod_e, Go.Ev.fdiv_e] at *; omega) | (simp only [Int.mul_add, Int.add_mul, Int.mul_sub, Int.sub_mul, Int.mul_assoc, Int.mul_comm, Int.mul_left_comm] at *; simp (disch := omega) only [Go.Ev.w_i64, Go.Ev.w_i32, Go.Ev.w_u64, Go.Ev.w_u32, Go.Ev.w_u8, Go.Ev.tdiv_e, Go.Ev.tmod_e, Go.Ev.fdiv_e] at *; omega)
def dead17 : List Fact := [⟨(.bin .mul (.lit 1) (.bin .quo (.bin .add (.bin .mul (.bin .mul (.lit 2) (.bin .add (.bin .mul (.bin .sub (.var 2) (.var 5)) (.var 0)) (.var 4))) (.lit 299792458)) (.var 0)) (.bin .mul (.lit 2) (.var 0)))), 10000000000000, false⟩, ⟨(.bin .quo (.bin .add (.bin .mul (.lit 2) (.bin .mul (.lit 299792458) (.bin .add (.bin .mul (.bin .add (.bin .sub (.var 2) (.var 5)) (.bin .quo (.var 4) (.var 0))) (.var 0)) (.bin .rem (.var 4) (.var 0))))) (.var 0)) (.bin .mul (.lit 2) (.var 0))), 10000000000000, true⟩]
theorem dead17_no (v : Nat → Int) : ¬ ∀ f ∈ dead17, f.holds v := by
  intro h
  have h0 : 10000000000000 < (1 * Int.tdiv ((((2 * (((v 2 - v 5) * v 0) + v 4)) * 299792458) + v 0)) ((2 * v 0))) := h _ (.head _)
  have h1 : Int.tdiv (((2 * (299792458 * ((((v 2 - v 5) + Int.tdiv (v 4) (v 0)) * v 0) + Int.tmod (v 4) (v 0)))) + v 0)) ((2 * v 0)) ≤ 10000000000000 := h _ (.tail _ (.head _))
  have g0 : Int.tdiv (((2 * (299792458 * ((((v 2 - v 5) + Int.tdiv (v 4) (v 0)) * v 0) + Int.tmod (v 4) (v 0)))) + v 0)) ((2 * v 0)) = Int.tdiv ((((2 * (((v 2 - v 5) * v 0) + v 4)) * 299792458) + v 0)) ((2 * v 0)) := by
    have e1 : ((2 * (299792458 * ((((v 2 - v 5) + Int.tdiv (v 4) (v 0)) * v 0) + Int.tmod (v 4) (v 0)))) + v 0) = (((2 * (((v 2 - v 5) * v 0) + v 4)) * 299792458) + v 0) := by
      have y0 := Int.mul_tdiv_add_tmod (v 4) (v 0)
      try simp only [Int.mul_add, Int.add_mul, Int.mul_sub, Int.sub_mul, Int.mul_assoc, Int.mul_comm, Int.mul_left_comm] at y0 ⊢
      try omega
    rw [e1]
  have r0 := Int.mul_tdiv_add_tmod (v 4) (v 0)
  clear h
  first | omega | (simp only [Int.mul_add, Int.add_mul, Int.mul_sub, Int.sub_mul, Int.mul_assoc, Int.mul_comm, Int.mul_left_comm] at *; omega) | (simp (disch := omega) only [Go.Ev.w_i64, Go.Ev.w_i32, Go.Ev.w_u64, Go.Ev.w_u32, Go.Ev.w_u8, Go.Ev.tdiv_e, Go.Ev.tmod_e, Go.Ev.fdiv_e] at *; omega) | (simp only [Int.mul_add, Int.add_mul, Int.mul_sub, Int.sub_mul, Int.mul_assoc, Int.mul_comm, Int.mul_left_comm] at *; simp (disch := omega) only [Go.Ev.w_i64, Go.Ev.w_i32, Go.Ev.w_u64, Go.Ev.w_u32, Go.Ev.w_u8, Go.Ev.tdiv_e, Go.Ev.tmod_e, Go.Ev.fdiv_e] at *; omega)
def dead18 : List Fact := [⟨(.bin .mul (.lit 1) (.bin .quo (.bin .add (.bin .mul (.bin .mul (.lit 2) (.bin .add (.bin .mul (.bin .sub (.var 2) (.var 5)) (.var 0)) (.var 4))) (.lit 299792458)) (.var 0)) (.bin .mul (.lit 2) (.var 0)))), 10000000000000, true⟩, ⟨(.bin .quo (.bin .add (.bin .mul (.lit 2) (.bin .mul (.lit 299792458) (.bin .add (.bin .mul (.bin .add (.bin .sub (.var 2) (.var 5)) (.bin .quo (.var 4) (.var 0))) (.var 0)) (.bin .rem (.var 4) (.var 0))))) (.var 0)) (.bin .mul (.lit 2) (.var 0))), 10000000000000, false⟩]
theorem dead18_no (v : Nat → Int) : ¬ ∀ f ∈ dead18, f.holds v := by
  intro h
  have h0 : (1 * Int.tdiv ((((2 * (((v 2 - v 5) * v 0) + v 4)) * 299792458) + v 0)) ((2 * v 0))) ≤ 10000000000000 := h _ (.head _)
  have h1 : 10000000000000 < Int.tdiv (((2 * (299792458 * ((((v 2 - v 5) + Int.tdiv (v 4) (v 0)) * v 0) + Int.tmod (v 4) (v 0)))) + v 0)) ((2 * v 0)) := h _ (.tail _ (.head _))
  have g0 : Int.tdiv (((2 * (299792458 * ((((v 2 - v 5) + Int.tdiv (v 4) (v 0)) * v 0) + Int.tmod (v 4) (v 0)))) + v 0)) ((2 * v 0)) = Int.tdiv ((((2 * (((v 2 - v 5) * v 0) + v 4)) * 299792458) + v 0)) ((2 * v 0)) := by
    have e1 : ((2 * (299792458 * ((((v 2 - v 5) + Int.tdiv (v 4) (v 0)) * v 0) + Int.tmod (v 4) (v 0)))) + v 0) = (((2 * (((v 2 - v 5) * v 0) + v 4)) * 299792458) + v 0) := by
      have y0 := Int.mul_tdiv_add_tmod (v 4) (v 0)
      try simp only [Int.mul_add, Int.add_mul, Int.mul_sub, Int.sub_mul, Int.mul_assoc, Int.mul_comm, Int.mul_left_comm] at y0 ⊢
      try omega
    rw [e1]
  have r0 := Int.mul_tdiv_add_tmod (v 4) (v 0)
  clear h
  first | omega | (simp only [Int.mul_add, Int.add_mul, Int.mul_sub, Int.sub_mul, Int.mul_assoc, Int.mul_comm, Int.mul_left_comm] at *; omega) | (simp (disch := omega) only [Go.Ev.w_i64, Go.Ev.w_i32, Go.Ev.w_u64, Go.Ev.w_u32, Go.Ev.w_u8, Go.Ev.tdiv_e, Go.Ev.tmod_e, Go.Ev.fdiv_e] at *; omega) | (simp only [Int.mul_add, Int.add_mul, Int.mul_sub, Int.sub_mul, Int.mul_assoc, Int.mul_comm, Int.mul_left_comm] at *; simp (disch := omega) only [Go.Ev.w_i64, Go.Ev.w_i32, Go.Ev.w_u64, Go.Ev.w_u32, Go.Ev.w_u8, Go.Ev.tdiv_e, Go.Ev.tmod_e, Go.Ev.fdiv_e] at *; omega)
def dead19 : List Fact := [⟨(.bin .sub (.bin .mul (.lit 34000) (.var 0)) (.bin .add (.bin .mul (.bin .sub (.var 2) (.var 5)) (.var 0)) (.var 4))), (-1), false⟩, ⟨(.bin .add (.bin .sub (.var 2) (.var 5)) (.bin .quo (.var 4) (.var 0))), 40000, false⟩, ⟨(.var 4), (-1), false⟩, ⟨(.var 0), 0, false⟩]
theorem dead19_no (v : Nat → Int) : ¬ ∀ f ∈ dead19, f.holds v := by
  intro h
  have h0 : (-1) < ((34000 * v 0) - (((v 2 - v 5) * v 0) + v 4)) := h _ (.head _)
  have h1 : 40000 < ((v 2 - v 5) + Int.tdiv (v 4) (v 0)) := h _ (.tail _ (.head _))
  have h2 : (-1) < v 4 := h _ (.tail _ (.tail _ (.head _)))
  have h3 : 0 < v 0 := h _ (.tail _ (.tail _ (.tail _ (.head _))))
  have n0 := Int.mul_tdiv_add_tmod (v 4) (v 0)
  have n1 := fun (x : 0 ≤ v 4) => Int.tmod_nonneg (v 0) x
  have n2 := fun (x : 0 < v 0) => Int.tmod_lt_of_pos (v 4) x
  have n3 := (Int.mul_nonneg (by omega) (by omega) : 0 ≤ (((v 2 - v 5) + Int.tdiv (v 4) (v 0)) - 40001) * v 4)
  have n4 := (Int.mul_nonneg (by omega) (by omega) : 0 ≤ (v 4 - 0) * v 4)
  have n5 := (Int.mul_nonneg (by omega) (by omega) : 0 ≤ (v 0 - 1) * v 4)
  have n6 := (Int.mul_nonneg (by omega) (by omega) : 0 ≤ (((v 2 - v 5) + Int.tdiv (v 4) (v 0)) - 40001) * v 0)
  have n7 := (Int.mul_nonneg (by omega) (by omega) : 0 ≤ (v 4 - 0) * v 0)
  have n8 := (Int.mul_nonneg (by omega) (by omega) : 0 ≤ (v 0 - 1) * v 0)
  clear h
  first | omega | (simp only [Int.mul_add, Int.add_mul, Int.mul_sub, Int.sub_mul, Int.mul_assoc, Int.mul_comm, Int.mul_left_comm] at *; omega) | (simp (disch := omega) only [Go.Ev.w_i64, Go.Ev.w_i32, Go.Ev.w_u64, Go.Ev.w_u32, Go.Ev.w_u8, Go.Ev.tdiv_e, Go.Ev.tmod_e, Go.Ev.fdiv_e] at *; omega) | (simp only [Int.mul_add, Int.add_mul, Int.mul_sub, Int.sub_mul, Int.mul_assoc, Int.mul_comm, Int.mul_left_comm] at *; simp (disch := omega) only [Go.Ev.w_i64, Go.Ev.w_i32, Go.Ev.w_u64, Go.Ev.w_u32, Go.Ev.w_u8, Go.Ev.tdiv_e, Go.Ev.tmod_e, Go.Ev.fdiv_e] at *; omega)
def dead20 : List Fact := [⟨(.bin .add (.bin .mul (.bin .sub (.var 2) (.var 5)) (.var 0)) (.var 4)), (-278528001), true⟩, ⟨(.bin .add (.bin .mul (.bin .sub (.var 2) (.var 5)) (.var 0)) (.var 4)), 278528000, false⟩]
theorem dead20_no (v : Nat → Int) : ¬ ∀ f ∈ dead20, f.holds v := by
  intro h
  have h0 : (((v 2 - v 5) * v 0) + v 4) ≤ (-278528001) := h _ (.head _)
  have h1 : 278528000 < (((v 2 - v 5) * v 0) + v 4) := h _ (.tail _ (.head _))
  clear h
  first | omega | (simp only [Int.mul_add, Int.add_mul, Int.mul_sub, Int.sub_mul, Int.mul_assoc, Int.mul_comm, Int.mul_left_comm] at *; omega) | (simp (disch := omega) only [Go.Ev.w_i64, Go.Ev.w_i32, Go.Ev.w_u64, Go.Ev.w_u32, Go.Ev.w_u8, Go.Ev.tdiv_e, Go.Ev.tmod_e, Go.Ev.fdiv_e] at *; omega) | (simp only [Int.mul_add, Int.add_mul, Int.mul_sub, Int.sub_mul, Int.mul_assoc, Int.mul_comm, Int.mul_left_comm] at *; simp (disch := omega) only [Go.Ev.w_i64, Go.Ev.w_i32, Go.Ev.w_u64, Go.Ev.w_u32, Go.Ev.w_u8, Go.Ev.tdiv_e, Go.Ev.tmod_e, Go.Ev.fdiv_e] at *; omega)
def dead21 : List Fact := [⟨(.bin .add (.bin .sub (.var 2) (.var 5)) (.bin .quo (.var 4) (.var 0))), (-40001), true⟩, ⟨(.var 0), 0, false⟩, ⟨(.bin .add (.bin .mul (.bin .sub (.var 2) (.var 5)) (.var 0)) (.var 4)), 278528000, false⟩]
theorem dead21_no (v : Nat → Int) : ¬ ∀ f ∈ dead21, f.holds v := by
  intro h
  have h0 : ((v 2 - v 5) + Int.tdiv (v 4) (v 0)) ≤ (-40001) := h _ (.head _)
  have h1 : 0 < v 0 := h _ (.tail _ (.head _))
  have h2 : 278528000 < (((v 2 - v 5) * v 0) + v 4) := h _ (.tail _ (.tail _ (.head _)))
  have n0 := Int.mul_tdiv_add_tmod (v 4) (v 0)
  have n1 := fun (x : 0 ≤ v 4) => Int.tmod_nonneg (v 0) x
  have n2 := fun (x : 0 < v 0) => Int.tmod_lt_of_pos (v 4) x
  have n3 := (Int.mul_nonneg (by omega) (by omega) : 0 ≤ ((-40001) - ((v 2 - v 5) + Int.tdiv (v 4) (v 0))) * v 0)
  have n4 := (Int.mul_nonneg (by omega) (by omega) : 0 ≤ (v 0 - 1) * v 0)
  clear h
  first | omega | (simp only [Int.mul_add, Int.add_mul, Int.mul_sub, Int.sub_mul, Int.mul_assoc, Int.mul_comm, Int.mul_left_comm] at *; omega) | (simp (disch := omega) only [Go.Ev.w_i64, Go.Ev.w_i32, Go.Ev.w_u64, Go.Ev.w_u32, Go.Ev.w_u8, Go.Ev.tdiv_e, Go.Ev.tmod_e, Go.Ev.fdiv_e] at *; omega) | (simp only [Int.mul_add, Int.add_mul, Int.mul_sub, Int.sub_mul, Int.mul_assoc, Int.mul_comm, Int.mul_left_comm] at *; simp (disch := omega) only [Go.Ev.w_i64, Go.Ev.w_i32, Go.Ev.w_u64, Go.Ev.w_u32, Go.Ev.w_u8, Go.Ev.tdiv_e, Go.Ev.tmod_e, Go.Ev.fdiv_e] at *; omega)
def dead22 : List Fact := [⟨(.bin .mul (.lit 299792458) (.bin .add (.bin .mul (.bin .add (.bin .sub (.var 2) (.var 5)) (.bin .quo (.var 4) (.var 0))) (.var 0)) (.bin .rem (.var 4) (.var 0)))), (-1), true⟩, ⟨(.bin .add (.bin .mul (.bin .sub (.var 2) (.var 5)) (.var 0)) (.var 4)), 278528000, false⟩]
theorem dead22_no (v : Nat → Int) : ¬ ∀ f ∈ dead22, f.holds v := by
  intro h
  have h0 : (299792458 * ((((v 2 - v 5) + Int.tdiv (v 4) (v 0)) * v 0) + Int.tmod (v 4) (v 0))) ≤ (-1) := h _ (.head _)
  have h1 : 278528000 < (((v 2 - v 5) * v 0) + v 4) := h _ (.tail _ (.head _))
  have r0 := Int.mul_tdiv_add_tmod (v 4) (v 0)
  clear h
  first | omega | (simp only [Int.mul_add, Int.add_mul, Int.mul_sub, Int.sub_mul, Int.mul_assoc, Int.mul_comm, Int.mul_left_comm] at *; omega) | (simp (disch := omega) only [Go.Ev.w_i64, Go.Ev.w_i32, Go.Ev.w_u64, Go.Ev.w_u32, Go.Ev.w_u8, Go.Ev.tdiv_e, Go.Ev.tmod_e, Go.Ev.fdiv_e] at *; omega) | (simp only [Int.mul_add, Int.add_mul, Int.mul_sub, Int.sub_mul, Int.mul_assoc, Int.mul_comm, Int.mul_left_comm] at *; simp (disch := omega) only [Go.Ev.w_i64, Go.Ev.w_i32, Go.Ev.w_u64, Go.Ev.w_u32, Go.Ev.w_u8, Go.Ev.tdiv_e, Go.Ev.tmod_e, Go.Ev.fdiv_e] at *; omega)
def dead23 : List Fact := [⟨(.bin .quo (.bin .add (.bin .mul (.lit 2) (.bin .mul (.lit 299792458) (.bin .add (.bin .mul (.bin .add (.bin .sub (.var 2) (.var 5)) (.bin .quo (.var 4) (.var 0))) (.var 0)) (.bin .rem (.var 4) (.var 0))))) (.var 0)) (.bin .mul (.lit 2) (.var 0))), 10000000000000, true⟩, ⟨(.var 0), 8192, true⟩, ⟨(.var 0), 0, false⟩, ⟨(.bin .add (.bin .mul (.bin .sub (.var 2) (.var 5)) (.var 0)) (.var 4)), 278528000, false⟩]
theorem dead23_no (v : Nat → Int) : ¬ ∀ f ∈ dead23, f.holds v := by
  intro h
  have h0 : Int.tdiv (((2 * (299792458 * ((((v 2 - v 5) + Int.tdiv (v 4) (v 0)) * v 0) + Int.tmod (v 4) (v 0)))) + v 0)) ((2 * v 0)) ≤ 10000000000000 := h _ (.head _)
  have h1 : v 0 ≤ 8192 := h _ (.tail _ (.head _))
  have h2 : 0 < v 0 := h _ (.tail _ (.tail _ (.head _)))
  have h3 : 278528000 < (((v 2 - v 5) * v 0) + v 4) := h _ (.tail _ (.tail _ (.tail _ (.head _))))
  have n0 := Int.mul_tdiv_add_tmod (((2 * (299792458 * ((((v 2 - v 5) + Int.tdiv (v 4) (v 0)) * v 0) + Int.tmod (v 4) (v 0)))) + v 0)) ((2 * v 0))
  have n1 := fun (x : 0 ≤ ((2 * (299792458 * ((((v 2 - v 5) + Int.tdiv (v 4) (v 0)) * v 0) + Int.tmod (v 4) (v 0)))) + v 0)) => Int.tmod_nonneg ((2 * v 0)) x
  have n2 := fun (x : 0 < (2 * v 0)) => Int.tmod_lt_of_pos (((2 * (299792458 * ((((v 2 - v 5) + Int.tdiv (v 4) (v 0)) * v 0) + Int.tmod (v 4) (v 0)))) + v 0)) x
  have n3 := Int.mul_tdiv_add_tmod (v 4) (v 0)
  have n4 := fun (x : 0 ≤ v 4) => Int.tmod_nonneg (v 0) x
  have n5 := fun (x : 0 < v 0) => Int.tmod_lt_of_pos (v 4) x
  have n6 := (Int.mul_nonneg (by omega) (by omega) : 0 ≤ (10000000000000 - Int.tdiv (((2 * (299792458 * ((((v 2 - v 5) + Int.tdiv (v 4) (v 0)) * v 0) + Int.tmod (v 4) (v 0)))) + v 0)) ((2 * v 0))) * v 0)
  have n7 := (Int.mul_nonneg (by omega) (by omega) : 0 ≤ (8192 - v 0) * v 0)
  have n8 := (Int.mul_nonneg (by omega) (by omega) : 0 ≤ (v 0 - 1) * v 0)
  have r0 := Int.mul_tdiv_add_tmod (v 4) (v 0)
  clear h
  first | omega | (simp only [Int.mul_add, Int.add_mul, Int.mul_sub, Int.sub_mul, Int.mul_assoc, Int.mul_comm, Int.mul_left_comm] at *; omega) | (simp (disch := omega) only [Go.Ev.w_i64, Go.Ev.w_i32, Go.Ev.w_u64, Go.Ev.w_u32, Go.Ev.w_u8, Go.Ev.tdiv_e, Go.Ev.tmod_e, Go.Ev.fdiv_e] at *; omega) | (simp only [Int.mul_add, Int.add_mul, Int.mul_sub, Int.sub_mul, Int.mul_assoc, Int.mul_comm, Int.mul_left_comm] at *; simp (disch := omega) only [Go.Ev.w_i64, Go.Ev.w_i32, Go.Ev.w_u64, Go.Ev.w_u32, Go.Ev.w_u8, Go.Ev.tdiv_e, Go.Ev.tmod_e, Go.Ev.fdiv_e] at *; omega)
def deads : List (List Fact) := [dead0, dead1, dead2, dead3, dead4, dead5, dead6, dead7, dead8, dead9, dead10, dead11, dead12, dead13, dead14, dead15, dead16, dead17, dead18, dead19, dead20, dead21, dead22, dead23]
def facts0 : List Fact := []

theorem deads_no (v : Nat → Int) : ∀ cl ∈ deads, ¬ ∀ f ∈ cl, f.holds v := by
  intro cl h
  rcases List.mem_cons.1 h with rfl | h
  · exact dead0_no v
  rcases List.mem_cons.1 h with rfl | h
  · exact dead1_no v
  rcases List.mem_cons.1 h with rfl | h
  · exact dead2_no v
  rcases List.mem_cons.1 h with rfl | h
  · exact dead3_no v
  rcases List.mem_cons.1 h with rfl | h
  · exact dead4_no v
  rcases List.mem_cons.1 h with rfl | h
  · exact dead5_no v
  rcases List.mem_cons.1 h with rfl | h
  · exact dead6_no v
  rcases List.mem_cons.1 h with rfl | h
  · exact dead7_no v
  rcases List.mem_cons.1 h with rfl | h
  · exact dead8_no v
  rcases List.mem_cons.1 h with rfl | h
  · exact dead9_no v
  rcases List.mem_cons.1 h with rfl | h
  · exact dead10_no v
  rcases List.mem_cons.1 h with rfl | h
  · exact dead11_no v
  rcases List.mem_cons.1 h with rfl | h
  · exact dead12_no v
  rcases List.mem_cons.1 h with rfl | h
  · exact dead13_no v
  rcases List.mem_cons.1 h with rfl | h
  · exact dead14_no v
  rcases List.mem_cons.1 h with rfl | h
  · exact dead15_no v
  rcases List.mem_cons.1 h with rfl | h
  · exact dead16_no v
  rcases List.mem_cons.1 h with rfl | h
  · exact dead17_no v
  rcases List.mem_cons.1 h with rfl | h
  · exact dead18_no v
  rcases List.mem_cons.1 h with rfl | h
  · exact dead19_no v
  rcases List.mem_cons.1 h with rfl | h
  · exact dead20_no v
  rcases List.mem_cons.1 h with rfl | h
  · exact dead21_no v
  rcases List.mem_cons.1 h with rfl | h
  · exact dead22_no v
  rcases List.mem_cons.1 h with rfl | h
  · exact dead23_no v
  cases h
def args0 : List EV := [.sym .i64 (.var 0) (IntKind.min .i64) (IntKind.max .i64), .sym .i64 (.var 1) (IntKind.min .i64) (IntKind.max .i64), .sym .i64 (.var 2) (IntKind.min .i64) (IntKind.max .i64), .agg [.sym .i64 (.var 3) (IntKind.min .i64) (IntKind.max .i64), .sym .i64 (.var 4) (IntKind.min .i64) (IntKind.max .i64), .sym .i64 (.var 5) (IntKind.min .i64) (IntKind.max .i64)]]
noncomputable def theRun : List Fact → Bool := fun F => @runS ⟨F⟩ Try.prog [(14, Go.Ev.Ext.known true)] [] 300 4 args0 isTrue
def part0 : STree := (.split (.var 0) 0 .leaf (.split (.var 0) 8192 (.split (.var 2) (-604800001) (.split (.var 1) 0 .leaf (.split (.var 1) 8 .leaf .leaf)) (.split (.var 2) 1209600000 (.split (.var 3) 0 (.split (.var 1) 0 .leaf (.split (.var 1) 8 .leaf .leaf)) (.split (.var 3) 2048 (.split (.var 4) (-1) (.split (.var 1) 0 .leaf (.split (.var 1) 8 .leaf .leaf)) (.split (.var 4) 1099511627776 (.split (.var 5) (-1) (.split (.var 1) 0 .leaf (.split (.var 1) 8 .leaf .leaf)) (.split (.var 5) 604799999 (.split (.bin .add (.bin .sub (.var 2) (.var 5)) (.bin .quo (.var 4) (.var 0))) (-40001) (.split (.var 1) 0 .leaf (.split (.var 1) 8 .leaf .leaf)) (.split (.bin .add (.bin .sub (.var 2) (.var 5)) (.bin .quo (.var 4) (.var 0))) 40000 (.split (.bin .mul (.lit 299792458) (.bin .add (.bin .mul (.bin .add (.bin .sub (.var 2) (.var 5)) (.bin .quo (.var 4) (.var 0))) (.var 0)) (.bin .rem (.var 4) (.var 0)))) (-1) (.split (.bin .sub (.lit 0) (.bin .quo (.bin .add (.bin .mul (.lit 2) (.bin .sub (.lit 0) (.bin .mul (.lit 299792458) (.bin .add (.bin .mul (.bin .add (.bin .sub (.var 2) (.var 5)) (.bin .quo (.var 4) (.var 0))) (.var 0)) (.bin .rem (.var 4) (.var 0)))))) (.var 0)) (.bin .mul (.lit 2) (.var 0)))) (-10000000000001) (.split (.var 1) 0 .leaf (.split (.var 1) 8 .leaf .leaf)) (.dead 0)) (.dead 1)) (.dead 2))) (.split (.var 1) 0 .leaf (.split (.var 1) 8 .leaf .leaf)))) (.split (.var 1) 0 .leaf (.split (.var 1) 8 .leaf .leaf)))) (.split (.var 1) 0 .leaf (.split (.var 1) 8 .leaf .leaf)))) (.split (.var 1) 0 .leaf (.split (.var 1) 8 .leaf .leaf)))) .leaf))
set_option maxRecDepth 100000 in
theorem ranp0 : checkT theRun deads part0 (⟨(.bin .add (.bin .mul (.bin .sub (.var 2) (.var 5)) (.var 0)) (.var 4)), (-278528001), true⟩ :: ⟨(.bin .add (.bin .mul (.bin .sub (.var 2) (.var 5)) (.var 0)) (.var 4)), 278528000, true⟩ :: facts0) = true := by kernel_rfl
def part1 : STree := (.split (.var 0) 0 .leaf (.split (.var 0) 8192 (.split (.var 2) (-604800001) (.split (.var 1) 0 .leaf (.split (.var 1) 8 .leaf .leaf)) (.split (.var 2) 1209600000 (.split (.var 3) 0 (.split (.var 1) 0 .leaf (.split (.var 1) 8 .leaf .leaf)) (.split (.var 3) 2048 (.split (.var 4) (-1) (.split (.var 1) 0 .leaf (.split (.var 1) 8 .leaf .leaf)) (.split (.var 4) 1099511627776 (.split (.var 5) (-1) (.split (.var 1) 0 .leaf (.split (.var 1) 8 .leaf .leaf)) (.split (.var 5) 604799999 (.split (.bin .add (.bin .sub (.var 2) (.var 5)) (.bin .quo (.var 4) (.var 0))) (-40001) (.split (.bin .sub (.bin .mul (.lit 34000) (.var 0)) (.bin .add (.bin .mul (.bin .sub (.var 2) (.var 5)) (.var 0)) (.var 4))) (-1) (.dead 3) (.split (.bin .sub (.bin .add (.bin .mul (.bin .sub (.var 2) (.var 5)) (.var 0)) (.var 4)) (.bin .mul (.lit (-34000)) (.var 0))) (-1) (.split (.var 1) 0 .leaf (.split (.var 1) 8 .leaf .leaf)) (.dead 4))) (.split (.bin .add (.bin .sub (.var 2) (.var 5)) (.bin .quo (.var 4) (.var 0))) 40000 (.split (.bin .mul (.lit 299792458) (.bin .add (.bin .mul (.bin .add (.bin .sub (.var 2) (.var 5)) (.bin .quo (.var 4) (.var 0))) (.var 0)) (.bin .rem (.var 4) (.var 0)))) (-1) (.split (.bin .sub (.lit 0) (.bin .quo (.bin .add (.bin .mul (.lit 2) (.bin .sub (.lit 0) (.bin .mul (.lit 299792458) (.bin .add (.bin .mul (.bin .add (.bin .sub (.var 2) (.var 5)) (.bin .quo (.var 4) (.var 0))) (.var 0)) (.bin .rem (.var 4) (.var 0)))))) (.var 0)) (.bin .mul (.lit 2) (.var 0)))) (-10000000000001) (.split (.bin .sub (.bin .mul (.lit 34000) (.var 0)) (.bin .add (.bin .mul (.bin .sub (.var 2) (.var 5)) (.var 0)) (.var 4))) (-1) (.dead 5) (.split (.bin .sub (.bin .add (.bin .mul (.bin .sub (.var 2) (.var 5)) (.var 0)) (.var 4)) (.bin .mul (.lit (-34000)) (.var 0))) (-1) (.split (.var 1) 0 .leaf (.split (.var 1) 8 .leaf .leaf)) (.split (.bin .add (.bin .mul (.bin .sub (.var 2) (.var 5)) (.var 0)) (.var 4)) (-1) (.split (.bin .mul (.lit (-1)) (.bin .quo (.bin .add (.bin .mul (.bin .mul (.lit 2) (.bin .sub (.lit 0) (.bin .add (.bin .mul (.bin .sub (.var 2) (.var 5)) (.var 0)) (.var 4)))) (.lit 299792458)) (.var 0)) (.bin .mul (.lit 2) (.var 0)))) (-10000000000001) (.split (.var 1) 0 .leaf (.split (.var 1) 8 .leaf .leaf)) (.dead 6)) (.dead 7)))) (.split (.bin .sub (.bin .mul (.lit 34000) (.var 0)) (.bin .add (.bin .mul (.bin .sub (.var 2) (.var 5)) (.var 0)) (.var 4))) (-1) (.dead 5) (.split (.bin .sub (.bin .add (.bin .mul (.bin .sub (.var 2) (.var 5)) (.var 0)) (.var 4)) (.bin .mul (.lit (-34000)) (.var 0))) (-1) (.dead 8) (.split (.bin .add (.bin .mul (.bin .sub (.var 2) (.var 5)) (.var 0)) (.var 4)) (-1) (.split (.bin .mul (.lit (-1)) (.bin .quo (.bin .add (.bin .mul (.bin .mul (.lit 2) (.bin .sub (.lit 0) (.bin .add (.bin .mul (.bin .sub (.var 2) (.var 5)) (.var 0)) (.var 4)))) (.lit 299792458)) (.var 0)) (.bin .mul (.lit 2) (.var 0)))) (-10000000000001) (.dead 9) (.split (.var 1) 0 (.split (.bin .sub (.bin .sub (.lit 0) (.bin .quo (.bin .add (.bin .mul (.lit 2) (.bin .sub (.lit 0) (.bin .mul (.lit 299792458) (.bin .add (.bin .mul (.bin .add (.bin .sub (.var 2) (.var 5)) (.bin .quo (.var 4) (.var 0))) (.var 0)) (.bin .rem (.var 4) (.var 0)))))) (.var 0)) (.bin .mul (.lit 2) (.var 0)))) (.bin .mul (.lit (-1)) (.bin .quo (.bin .add (.bin .mul (.bin .mul (.lit 2) (.bin .sub (.lit 0) (.bin .add (.bin .mul (.bin .sub (.var 2) (.var 5)) (.var 0)) (.var 4)))) (.lit 299792458)) (.var 0)) (.bin .mul (.lit 2) (.var 0))))) (-1) (.dead 10) (.split (.bin .sub (.bin .sub (.lit 0) (.bin .quo (.bin .add (.bin .mul (.lit 2) (.bin .sub (.lit 0) (.bin .mul (.lit 299792458) (.bin .add (.bin .mul (.bin .add (.bin .sub (.var 2) (.var 5)) (.bin .quo (.var 4) (.var 0))) (.var 0)) (.bin .rem (.var 4) (.var 0)))))) (.var 0)) (.bin .mul (.lit 2) (.var 0)))) (.bin .mul (.lit (-1)) (.bin .quo (.bin .add (.bin .mul (.bin .mul (.lit 2) (.bin .sub (.lit 0) (.bin .add (.bin .mul (.bin .sub (.var 2) (.var 5)) (.var 0)) (.var 4)))) (.lit 299792458)) (.var 0)) (.bin .mul (.lit 2) (.var 0))))) 0 .leaf (.dead 11))) (.split (.var 1) 8 (.split (.bin .sub (.bin .sub (.lit 0) (.bin .quo (.bin .add (.bin .mul (.lit 2) (.bin .sub (.lit 0) (.bin .mul (.lit 299792458) (.bin .add (.bin .mul (.bin .add (.bin .sub (.var 2) (.var 5)) (.bin .quo (.var 4) (.var 0))) (.var 0)) (.bin .rem (.var 4) (.var 0)))))) (.var 0)) (.bin .mul (.lit 2) (.var 0)))) (.bin .mul (.lit (-1)) (.bin .quo (.bin .add (.bin .mul (.bin .mul (.lit 2) (.bin .sub (.lit 0) (.bin .add (.bin .mul (.bin .sub (.var 2) (.var 5)) (.var 0)) (.var 4)))) (.lit 299792458)) (.var 0)) (.bin .mul (.lit 2) (.var 0))))) (-1) (.dead 10) (.split (.bin .sub (.bin .sub (.lit 0) (.bin .quo (.bin .add (.bin .mul (.lit 2) (.bin .sub (.lit 0) (.bin .mul (.lit 299792458) (.bin .add (.bin .mul (.bin .add (.bin .sub (.var 2) (.var 5)) (.bin .quo (.var 4) (.var 0))) (.var 0)) (.bin .rem (.var 4) (.var 0)))))) (.var 0)) (.bin .mul (.lit 2) (.var 0)))) (.bin .mul (.lit (-1)) (.bin .quo (.bin .add (.bin .mul (.bin .mul (.lit 2) (.bin .sub (.lit 0) (.bin .add (.bin .mul (.bin .sub (.var 2) (.var 5)) (.var 0)) (.var 4)))) (.lit 299792458)) (.var 0)) (.bin .mul (.lit 2) (.var 0))))) 0 .leaf (.dead 11))) (.split (.bin .sub (.bin .sub (.lit 0) (.bin .quo (.bin .add (.bin .mul (.lit 2) (.bin .sub (.lit 0) (.bin .mul (.lit 299792458) (.bin .add (.bin .mul (.bin .add (.bin .sub (.var 2) (.var 5)) (.bin .quo (.var 4) (.var 0))) (.var 0)) (.bin .rem (.var 4) (.var 0)))))) (.var 0)) (.bin .mul (.lit 2) (.var 0)))) (.bin .mul (.lit (-1)) (.bin .quo (.bin .add (.bin .mul (.bin .mul (.lit 2) (.bin .sub (.lit 0) (.bin .add (.bin .mul (.bin .sub (.var 2) (.var 5)) (.var 0)) (.var 4)))) (.lit 299792458)) (.var 0)) (.bin .mul (.lit 2) (.var 0))))) (-1) (.dead 10) (.split (.bin .sub (.bin .sub (.lit 0) (.bin .quo (.bin .add (.bin .mul (.lit 2) (.bin .sub (.lit 0) (.bin .mul (.lit 299792458) (.bin .add (.bin .mul (.bin .add (.bin .sub (.var 2) (.var 5)) (.bin .quo (.var 4) (.var 0))) (.var 0)) (.bin .rem (.var 4) (.var 0)))))) (.var 0)) (.bin .mul (.lit 2) (.var 0)))) (.bin .mul (.lit (-1)) (.bin .quo (.bin .add (.bin .mul (.bin .mul (.lit 2) (.bin .sub (.lit 0) (.bin .add (.bin .mul (.bin .sub (.var 2) (.var 5)) (.var 0)) (.var 4)))) (.lit 299792458)) (.var 0)) (.bin .mul (.lit 2) (.var 0))))) 0 .leaf (.dead 11)))))) (.dead 7))))) (.split (.bin .quo (.bin .add (.bin .mul (.lit 2) (.bin .mul (.lit 299792458) (.bin .add (.bin .mul (.bin .add (.bin .sub (.var 2) (.var 5)) (.bin .quo (.var 4) (.var 0))) (.var 0)) (.bin .rem (.var 4) (.var 0))))) (.var 0)) (.bin .mul (.lit 2) (.var 0))) 10000000000000 (.split (.bin .sub (.bin .mul (.lit 34000) (.var 0)) (.bin .add (.bin .mul (.bin .sub (.var 2) (.var 5)) (.var 0)) (.var 4))) (-1) (.dead 12) (.split (.bin .sub (.bin .add (.bin .mul (.bin .sub (.var 2) (.var 5)) (.var 0)) (.var 4)) (.bin .mul (.lit (-34000)) (.var 0))) (-1) (.dead 13) (.split (.bin .add (.bin .mul (.bin .sub (.var 2) (.var 5)) (.var 0)) (.var 4)) (-1) (.dead 14) (.split (.bin .mul (.lit 1) (.bin .quo (.bin .add (.bin .mul (.bin .mul (.lit 2) (.bin .add (.bin .mul (.bin .sub (.var 2) (.var 5)) (.var 0)) (.var 4))) (.lit 299792458)) (.var 0)) (.bin .mul (.lit 2) (.var 0)))) 10000000000000 (.split (.var 1) 0 (.split (.bin .sub (.bin .quo (.bin .add (.bin .mul (.lit 2) (.bin .mul (.lit 299792458) (.bin .add (.bin .mul (.bin .add (.bin .sub (.var 2) (.var 5)) (.bin .quo (.var 4) (.var 0))) (.var 0)) (.bin .rem (.var 4) (.var 0))))) (.var 0)) (.bin .mul (.lit 2) (.var 0))) (.bin .mul (.lit 1) (.bin .quo (.bin .add (.bin .mul (.bin .mul (.lit 2) (.bin .add (.bin .mul (.bin .sub (.var 2) (.var 5)) (.var 0)) (.var 4))) (.lit 299792458)) (.var 0)) (.bin .mul (.lit 2) (.var 0))))) (-1) (.dead 15) (.split (.bin .sub (.bin .quo (.bin .add (.bin .mul (.lit 2) (.bin .mul (.lit 299792458) (.bin .add (.bin .mul (.bin .add (.bin .sub (.var 2) (.var 5)) (.bin .quo (.var 4) (.var 0))) (.var 0)) (.bin .rem (.var 4) (.var 0))))) (.var 0)) (.bin .mul (.lit 2) (.var 0))) (.bin .mul (.lit 1) (.bin .quo (.bin .add (.bin .mul (.bin .mul (.lit 2) (.bin .add (.bin .mul (.bin .sub (.var 2) (.var 5)) (.var 0)) (.var 4))) (.lit 299792458)) (.var 0)) (.bin .mul (.lit 2) (.var 0))))) 0 .leaf (.dead 16))) (.split (.var 1) 8 (.split (.bin .sub (.bin .quo (.bin .add (.bin .mul (.lit 2) (.bin .mul (.lit 299792458) (.bin .add (.bin .mul (.bin .add (.bin .sub (.var 2) (.var 5)) (.bin .quo (.var 4) (.var 0))) (.var 0)) (.bin .rem (.var 4) (.var 0))))) (.var 0)) (.bin .mul (.lit 2) (.var 0))) (.bin .mul (.lit 1) (.bin .quo (.bin .add (.bin .mul (.bin .mul (.lit 2) (.bin .add (.bin .mul (.bin .sub (.var 2) (.var 5)) (.var 0)) (.var 4))) (.lit 299792458)) (.var 0)) (.bin .mul (.lit 2) (.var 0))))) (-1) (.dead 15) (.split (.bin .sub (.bin .quo (.bin .add (.bin .mul (.lit 2) (.bin .mul (.lit 299792458) (.bin .add (.bin .mul (.bin .add (.bin .sub (.var 2) (.var 5)) (.bin .quo (.var 4) (.var 0))) (.var 0)) (.bin .rem (.var 4) (.var 0))))) (.var 0)) (.bin .mul (.lit 2) (.var 0))) (.bin .mul (.lit 1) (.bin .quo (.bin .add (.bin .mul (.bin .mul (.lit 2) (.bin .add (.bin .mul (.bin .sub (.var 2) (.var 5)) (.var 0)) (.var 4))) (.lit 299792458)) (.var 0)) (.bin .mul (.lit 2) (.var 0))))) 0 .leaf (.dead 16))) (.split (.bin .sub (.bin .quo (.bin .add (.bin .mul (.lit 2) (.bin .mul (.lit 299792458) (.bin .add (.bin .mul (.bin .add (.bin .sub (.var 2) (.var 5)) (.bin .quo (.var 4) (.var 0))) (.var 0)) (.bin .rem (.var 4) (.var 0))))) (.var 0)) (.bin .mul (.lit 2) (.var 0))) (.bin .mul (.lit 1) (.bin .quo (.bin .add (.bin .mul (.bin .mul (.lit 2) (.bin .add (.bin .mul (.bin .sub (.var 2) (.var 5)) (.var 0)) (.var 4))) (.lit 299792458)) (.var 0)) (.bin .mul (.lit 2) (.var 0))))) (-1) (.dead 15) (.split (.bin .sub (.bin .quo (.bin .add (.bin .mul (.lit 2) (.bin .mul (.lit 299792458) (.bin .add (.bin .mul (.bin .add (.bin .sub (.var 2) (.var 5)) (.bin .quo (.var 4) (.var 0))) (.var 0)) (.bin .rem (.var 4) (.var 0))))) (.var 0)) (.bin .mul (.lit 2) (.var 0))) (.bin .mul (.lit 1) (.bin .quo (.bin .add (.bin .mul (.bin .mul (.lit 2) (.bin .add (.bin .mul (.bin .sub (.var 2) (.var 5)) (.var 0)) (.var 4))) (.lit 299792458)) (.var 0)) (.bin .mul (.lit 2) (.var 0))))) 0 .leaf (.dead 16))))) (.dead 17))))) (.split (.bin .sub (.bin .mul (.lit 34000) (.var 0)) (.bin .add (.bin .mul (.bin .sub (.var 2) (.var 5)) (.var 0)) (.var 4))) (-1) (.split (.var 1) 0 .leaf (.split (.var 1) 8 .leaf .leaf)) (.split (.bin .sub (.bin .add (.bin .mul (.bin .sub (.var 2) (.var 5)) (.var 0)) (.var 4)) (.bin .mul (.lit (-34000)) (.var 0))) (-1) (.dead 13) (.split (.bin .add (.bin .mul (.bin .sub (.var 2) (.var 5)) (.var 0)) (.var 4)) (-1) (.dead 14) (.split (.bin .mul (.lit 1) (.bin .quo (.bin .add (.bin .mul (.bin .mul (.lit 2) (.bin .add (.bin .mul (.bin .sub (.var 2) (.var 5)) (.var 0)) (.var 4))) (.lit 299792458)) (.var 0)) (.bin .mul (.lit 2) (.var 0)))) 10000000000000 (.dead 18) (.split (.var 1) 0 .leaf (.split (.var 1) 8 .leaf .leaf)))))))) (.split (.bin .sub (.bin .mul (.lit 34000) (.var 0)) (.bin .add (.bin .mul (.bin .sub (.var 2) (.var 5)) (.var 0)) (.var 4))) (-1) (.split (.var 1) 0 .leaf (.split (.var 1) 8 .leaf .leaf)) (.dead 19)))) (.split (.var 1) 0 .leaf (.split (.var 1) 8 .leaf .leaf)))) (.split (.var 1) 0 .leaf (.split (.var 1) 8 .leaf .leaf)))) (.split (.var 1) 0 .leaf (.split (.var 1) 8 .leaf .leaf)))) (.split (.var 1) 0 .leaf (.split (.var 1) 8 .leaf .leaf)))) .leaf))
set_option maxRecDepth 100000 in
theorem ranp1 : checkT theRun deads part1 (⟨(.bin .add (.bin .mul (.bin .sub (.var 2) (.var 5)) (.var 0)) (.var 4)), (-278528001), false⟩ :: ⟨(.bin .add (.bin .mul (.bin .sub (.var 2) (.var 5)) (.var 0)) (.var 4)), 278528000, true⟩ :: facts0) = true := by kernel_rfl
def part2 : STree := (.split (.bin .add (.bin .mul (.bin .sub (.var 2) (.var 5)) (.var 0)) (.var 4)) (-278528001) (.dead 20) (.split (.var 0) 0 .leaf (.split (.var 0) 8192 (.split (.var 2) (-604800001) (.split (.var 1) 0 .leaf (.split (.var 1) 8 .leaf .leaf)) (.split (.var 2) 1209600000 (.split (.var 3) 0 (.split (.var 1) 0 .leaf (.split (.var 1) 8 .leaf .leaf)) (.split (.var 3) 2048 (.split (.var 4) (-1) (.split (.var 1) 0 .leaf (.split (.var 1) 8 .leaf .leaf)) (.split (.var 4) 1099511627776 (.split (.var 5) (-1) (.split (.var 1) 0 .leaf (.split (.var 1) 8 .leaf .leaf)) (.split (.var 5) 604799999 (.split (.bin .add (.bin .sub (.var 2) (.var 5)) (.bin .quo (.var 4) (.var 0))) (-40001) (.dead 21) (.split (.bin .add (.bin .sub (.var 2) (.var 5)) (.bin .quo (.var 4) (.var 0))) 40000 (.split (.bin .mul (.lit 299792458) (.bin .add (.bin .mul (.bin .add (.bin .sub (.var 2) (.var 5)) (.bin .quo (.var 4) (.var 0))) (.var 0)) (.bin .rem (.var 4) (.var 0)))) (-1) (.dead 22) (.split (.bin .quo (.bin .add (.bin .mul (.lit 2) (.bin .mul (.lit 299792458) (.bin .add (.bin .mul (.bin .add (.bin .sub (.var 2) (.var 5)) (.bin .quo (.var 4) (.var 0))) (.var 0)) (.bin .rem (.var 4) (.var 0))))) (.var 0)) (.bin .mul (.lit 2) (.var 0))) 10000000000000 (.dead 23) (.split (.var 1) 0 .leaf (.split (.var 1) 8 .leaf .leaf)))) (.split (.var 1) 0 .leaf (.split (.var 1) 8 .leaf .leaf)))) (.split (.var 1) 0 .leaf (.split (.var 1) 8 .leaf .leaf)))) (.split (.var 1) 0 .leaf (.split (.var 1) 8 .leaf .leaf)))) (.split (.var 1) 0 .leaf (.split (.var 1) 8 .leaf .leaf)))) (.split (.var 1) 0 .leaf (.split (.var 1) 8 .leaf .leaf)))) .leaf)))
set_option maxRecDepth 100000 in
theorem ranp2 : checkT theRun deads part2 (⟨(.bin .add (.bin .mul (.bin .sub (.var 2) (.var 5)) (.var 0)) (.var 4)), 278528000, false⟩ :: facts0) = true := by kernel_rfl
def top0 : STree := .split (.bin .add (.bin .mul (.bin .sub (.var 2) (.var 5)) (.var 0)) (.var 4)) (-278528001) part0 part1
theorem rant0 : checkT theRun deads top0 (⟨(.bin .add (.bin .mul (.bin .sub (.var 2) (.var 5)) (.var 0)) (.var 4)), 278528000, true⟩ :: facts0) = true := (checkT_split _ _ _ _ _ _ _).trans (andB_mk ranp0 ranp1)
def top1 : STree := .split (.bin .add (.bin .mul (.bin .sub (.var 2) (.var 5)) (.var 0)) (.var 4)) 278528000 top0 part2
theorem rant1 : checkT theRun deads top1 (facts0) = true := (checkT_split _ _ _ _ _ _ _).trans (andB_mk rant0 ranp2)
theorem ran : checkT (fun F => @runS ⟨F⟩ Try.prog [(14, Go.Ev.Ext.known true)] [] 300 4 args0 isTrue) deads top1 facts0 = true := rant1
end c
theorem names : namesB Try.prog = true := by kernel_rfl
end
theorem exts : ∀ p ∈ ([(14, Go.Ev.Ext.known true)] : List (Nat × Go.Ev.Ext)), Go.Ev.ExtRow Try.prog p.1 p.2 := by
  intro p hp
  simp only [List.mem_cons, List.not_mem_nil, or_false] at hp
  rcases hp with rfl
  · exact .inl ⟨_, rfl⟩
theorem exts0 : ∀ p ∈ ([] : List (Nat × Go.Ev.Ext)), Go.Ev.ExtRow Try.prog p.1 p.2 := by
  intro p hp
  cases hp
set_option maxRecDepth 100000 in
theorem ran14 : @Go.Ev.run1 ⟨[]⟩ Try.prog [] [] 5000 14 = true := by kernel_rfl
theorem known14 (w : World) : Calls Try.prog 14 #[] w fun e w' => e = .returned (.bool true) ∧ Below w.heap.size w w' := by
  letI : Go.Ev.FactsC := ⟨[]⟩
  letI : Go.Ev.Env := ⟨fun _ => 0, fun f hf => by cases hf⟩
  exact Go.Ev.run0_sound (by kernel_rfl) exts0 (Go.Ev.knownOk_none rfl) names Try.func14 (by kernel_rfl) ran14 w
theorem knowns : Go.Ev.KnownOk Try.prog [(14, Go.Ev.Ext.known true)] := Go.Ev.knownOk_cons known14 (Go.Ev.knownOk_none rfl)
theorem walk (x0 : Int) (x1 : Int) (x2 : Int) (x3 : Int) (x4 : Int) (x5 : Int)  (w0 : (Lit.int .i64 x0).wf = true) (w1 : (Lit.int .i64 x1).wf = true) (w2 : (Lit.int .i64 x2).wf = true) (w3 : (Lit.int .i64 x3).wf = true) (w4 : (Lit.int .i64 x4).wf = true) (w5 : (Lit.int .i64 x5).wf = true) (w : World) :
    Calls Try.prog 4 #[.int .i64 x0, .int .i64 x1, .int .i64 x2, .agg #[.int .i64 x3, .int .i64 x4, .int .i64 x5]] w fun e w' => e = .returned (.bool true) ∧ Below w.heap.size w w' := by
  let v : Nat → Int := fun k => match k with | 0 => x0 | 1 => x1 | 2 => x2 | 3 => x3 | 4 => x4 | 5 => x5 | _ => 0
  refine Go.Ev.checkT_ok (v := v) (fun F hrun hF => ?_) (c.deads_no v) c.ran (fun f hf => by cases hf)
  letI : Go.Ev.FactsC := ⟨F⟩
  letI : Go.Ev.Env := ⟨v, hF⟩
  refine (Go.Ev.runS_sound (args' := [.int .i64 x0, .int .i64 x1, .int .i64 x2, .agg #[.int .i64 x3, .int .i64 x4, .int .i64 x5]]) (by kernel_rfl) exts knowns names Try.func4 (by kernel_rfl) hrun w (fun p hp => by cases hp) (fun φ => .cons (Go.Ev.num_vr .i64 0 rfl w0 φ) (.cons (Go.Ev.num_vr .i64 1 rfl w1 φ) (.cons (Go.Ev.num_vr .i64 2 rfl w2 φ) (.cons (Go.Ev.VR.agg (.cons (Go.Ev.num_vr .i64 3 rfl w3 φ) (.cons (Go.Ev.num_vr .i64 4 rfl w4 φ) (.cons (Go.Ev.num_vr .i64 5 rfl w5 φ) (.nil))))) (.nil)))))).mono fun e w' ⟨⟨u, φ, r, h1, h2, h3⟩, hb⟩ => ⟨?_, hb⟩
  obtain ⟨b, rfl, hb'⟩ := Go.Ev.asBool_ok (show Go.Ev.asBool u (fun b => b) = true from h1)
  subst hb'
  cases h2
  exact h3

set_option maxRecDepth 100000 in
theorem lifted (os : Os) (started : os.Started) (H : Type) (enc : TypeId × Value → H) :
    ReturnsInHanded {} Try.checked os 4 .any (Rows.spansLengthsSpec.pre6 enc Try.prog Try.f4 Rows.spansLengthsRow.domain false) (Rows.spansLengthsSpec.post enc Try.prog Try.f4 false true false false) := by
  refine returnsInHanded_of_change (C := Try.checked) own started (by kernel_rfl) Try.func4
    (ChangeSpec.witness6 (enc := enc) (C := Try.checked) false ⟨#[], #[.int .i64 0, .int .i64 0, .int .i64 0, .agg #[.int .i64 0, .int .i64 0, .int .i64 0]], []⟩ 8 (by kernel_rfl) (by kernel_rfl) (by kernel_rfl) (by kernel_rfl)) ?_
  intro W base args ds gs before hval0 hW hcnd _
  have hval : ∀ (j : Nat) t v, Try.f4.params[j]? = some t → args[j]? = some v → Value.okWide Try.prog W .any base t v := hval0
  have hW' := hW
  obtain ⟨p, q, hA0, hV, rfl, hfz, hnd⟩ := hW
  have hA : DataW.TrodAll enc Try.prog W 0 (fun _ => true) true Try.f4.params.toList args.toList ds p := hA0
  rw [Try.params4] at hA hval
  obtain ⟨v0, vs0, d0, ds0, p0, q0, hargs, rfl, rfl, h0, r0⟩ := trodAll_cons hA
  obtain ⟨v1, vs1, d1, ds1, p1, q1, rfl, rfl, rfl, h1, r1⟩ := trodAll_cons r0
  obtain ⟨v2, vs2, d2, ds2, p2, q2, rfl, rfl, rfl, h2, r2⟩ := trodAll_cons r1
  obtain ⟨v3, vs3, d3, ds3, p3, q3, rfl, rfl, rfl, h3, r3⟩ := trodAll_cons r2
  obtain ⟨rfl, rfl, rfl⟩ := trodAll_nil r3
  obtain rfl : args = #[v0, v1, v2, v3] := by cases args; simp_all
  obtain ⟨rfl, rfl⟩ := trodVars_none hV
  obtain ⟨x0, rfl, rfl, rfl, w0⟩ := open_int Try.underlying3 (hval 0 3 v0 rfl rfl) h0
  obtain ⟨x1, rfl, rfl, rfl, w1⟩ := open_int Try.underlying3 (hval 1 3 v1 rfl rfl) h1
  obtain ⟨x2, rfl, rfl, rfl, w2⟩ := open_int Try.underlying3 (hval 2 3 v2 rfl rfl) h2
  obtain ⟨cs3, rfl, hc3, rfl, sh3⟩ := Go.Ev.open_plain (n := 6) Try.underlying30 (by kernel_rfl : Go.Ev.plainK Try.prog 6 30 = some [.int .i64, .int .i64, .int .i64]) (hval 3 30 v3 rfl rfl) h3
  obtain ⟨x3, tl3x0, rfl, w3, hc3x0⟩ := hc3.int_inv
  obtain ⟨x4, tl3x1, rfl, w4, hc3x1⟩ := hc3x0.int_inv
  obtain ⟨x5, tl3x2, rfl, w5, hc3x2⟩ := hc3x1.int_inv
  obtain rfl := hc3x2.nil_inv
  clear hA0 hval0
  simp only [List.append_nil, List.nil_append] at hW'
  refine (walk x0 x1 x2 x3 x4 x5  w0 w1 w2 w3 w4 w5 W).mono fun e W' ⟨he, hg⟩ => ?_
  subst he
  exact ⟨_, rfl, Go.Ev.post_below (pa := []) (pv := []) hW' (fun _ _ _ => (trodAll_cons_mk (shut_bool Try.underlying4 _) trodAll_mk0)) (fun sp _ => (trodAll_cons_mk (shut_int Try.underlying3 w0) (trodAll_cons_mk (shut_int Try.underlying3 w1) (trodAll_cons_mk (shut_int Try.underlying3 w2) (trodAll_cons_mk (sh3 _ _ _ _) trodAll_mk0))))) (fun _ _ => rfl) rfl
    hg (ok_one (by kernel_rfl) rfl (okWide_bool_mk Try.underlying4 _))⟩

theorem over : Rows.spansLengthsRow.holds Try.pinned (OpenSpec.ofChange Rows.spansLengthsSpec) :=
  OpenClaim.holds_of_wide 4 Try.f4 rfl rfl rfl rfl rfl rfl rfl ⟨rfl, rfl, rfl, rfl, rfl⟩ rfl rfl rfl rfl rfl (by kernel_rfl) Try.func4 (by kernel_rfl)
    (of_decide_eq_true (by kernel_rfl)) (by unfold Func.isWrapper; first | (rw [if_pos (by decide +kernel)]; kernel_rfl) | (rw [if_neg (by decide +kernel)]; exact ⟨rfl, rfl⟩))
    (fun os started H enc _ => lifted os started H enc)

/-- the statement -/
theorem proved : Rows.SpansLengthsSaid :=
  over
#print axioms proved
end Go.Proofs.Ytagndcelalcmpaa.spansLengths
