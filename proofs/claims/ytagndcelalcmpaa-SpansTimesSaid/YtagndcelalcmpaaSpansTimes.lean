/- SpansTimes: for every input her call returns true: an evaluator of Go code with symbolic numbers, proved sound over every world, carries the call out on each path of a tree of cases; the paths that no numbers take are shown to be contradictory. Conditions: none beyond the statement's own. -/
import Derived.Test.YtagndcelalcmpaaRows
import Derived.WalkKit
import Derived.ProofKit
import Derived.OpenShut
import Derived.Test.YtagndcelalcmpaaEvT
namespace Go.Proofs.Ytagndcelalcmpaa.spansTimes
open Go.ChangeShapes Go.WideShapes Go.ChangeAt Go.RowKit
set_option linter.unusedVariables false      -- a walk need not use every 'w<i>' (that an integer argument fits its kind)

theorem own : ownKnob Try.prog.godebug = none := by kernel_rfl

/-! ### STEP 1: THE WALK: the Go text returns true. 'Grown w w'': the world has at most new blocks (Derived/RowKit3.lean). Part the cases AHEAD of 'go_enter' where a test parts the walk; take each callee by a contract of your own. -/
section
open Go.Ev

def dead0 : List Fact := [⟨(.var 1), 20, false⟩, ⟨(.var 1), 0, true⟩]
theorem dead0_no (v : Nat → Int) : ¬ ∀ f ∈ dead0, f.holds v := by
  intro h
  have h0 : 20 < v 1 := h _ (.head _)
  have h1 : v 1 ≤ 0 := h _ (.tail _ (.head _))
  clear h
  first | omega | (simp only [Int.mul_add, Int.add_mul, Int.mul_sub, Int.sub_mul, Int.mul_assoc, Int.mul_comm, Int.mul_left_comm] at *; omega) | (simp (disch := omega) only [Go.Ev.w_i64, Go.Ev.w_i32, Go.Ev.w_u64, Go.Ev.w_u32, Go.Ev.w_u8, Go.Ev.tdiv_e, Go.Ev.tmod_e, Go.Ev.fdiv_e] at *; omega) | (simp only [Int.mul_add, Int.add_mul, Int.mul_sub, Int.sub_mul, Int.mul_assoc, Int.mul_comm, Int.mul_left_comm] at *; simp (disch := omega) only [Go.Ev.w_i64, Go.Ev.w_i32, Go.Ev.w_u64, Go.Ev.w_u32, Go.Ev.w_u8, Go.Ev.tdiv_e, Go.Ev.tmod_e, Go.Ev.fdiv_e] at *; omega)
def dead1 : List Fact := [⟨(.var 0), 10, false⟩, ⟨(.var 0), 1, true⟩]
theorem dead1_no (v : Nat → Int) : ¬ ∀ f ∈ dead1, f.holds v := by
  intro h
  have h0 : 10 < v 0 := h _ (.head _)
  have h1 : v 0 ≤ 1 := h _ (.tail _ (.head _))
  clear h
  first | omega | (simp only [Int.mul_add, Int.add_mul, Int.mul_sub, Int.sub_mul, Int.mul_assoc, Int.mul_comm, Int.mul_left_comm] at *; omega) | (simp (disch := omega) only [Go.Ev.w_i64, Go.Ev.w_i32, Go.Ev.w_u64, Go.Ev.w_u32, Go.Ev.w_u8, Go.Ev.tdiv_e, Go.Ev.tmod_e, Go.Ev.fdiv_e] at *; omega) | (simp only [Int.mul_add, Int.add_mul, Int.mul_sub, Int.sub_mul, Int.mul_assoc, Int.mul_comm, Int.mul_left_comm] at *; simp (disch := omega) only [Go.Ev.w_i64, Go.Ev.w_i32, Go.Ev.w_u64, Go.Ev.w_u32, Go.Ev.w_u8, Go.Ev.tdiv_e, Go.Ev.tmod_e, Go.Ev.fdiv_e] at *; omega)
def dead2 : List Fact := [⟨(.bin .sub (.var 3) (.bin .mul (.lit 30) (.var 0))), (-1), true⟩, ⟨(.bin .sub (.bin .sub (.bin .mul (.lit 30) (.var 0)) (.lit 1)) (.var 3)), (-1), true⟩]
theorem dead2_no (v : Nat → Int) : ¬ ∀ f ∈ dead2, f.holds v := by
  intro h
  have h0 : (v 3 - (30 * v 0)) ≤ (-1) := h _ (.head _)
  have h1 : (((30 * v 0) - 1) - v 3) ≤ (-1) := h _ (.tail _ (.head _))
  clear h
  first | omega | (simp only [Int.mul_add, Int.add_mul, Int.mul_sub, Int.sub_mul, Int.mul_assoc, Int.mul_comm, Int.mul_left_comm] at *; omega) | (simp (disch := omega) only [Go.Ev.w_i64, Go.Ev.w_i32, Go.Ev.w_u64, Go.Ev.w_u32, Go.Ev.w_u8, Go.Ev.tdiv_e, Go.Ev.tmod_e, Go.Ev.fdiv_e] at *; omega) | (simp only [Int.mul_add, Int.add_mul, Int.mul_sub, Int.sub_mul, Int.mul_assoc, Int.mul_comm, Int.mul_left_comm] at *; simp (disch := omega) only [Go.Ev.w_i64, Go.Ev.w_i32, Go.Ev.w_u64, Go.Ev.w_u32, Go.Ev.w_u8, Go.Ev.tdiv_e, Go.Ev.tmod_e, Go.Ev.fdiv_e] at *; omega)
def dead3 : List Fact := [⟨(.bin .sub (.var 3) (.bin .mul (.lit 30) (.var 0))), (-1), false⟩, ⟨(.bin .sub (.bin .sub (.bin .mul (.lit 30) (.var 0)) (.lit 1)) (.var 3)), (-1), false⟩]
theorem dead3_no (v : Nat → Int) : ¬ ∀ f ∈ dead3, f.holds v := by
  intro h
  have h0 : (-1) < (v 3 - (30 * v 0)) := h _ (.head _)
  have h1 : (-1) < (((30 * v 0) - 1) - v 3) := h _ (.tail _ (.head _))
  clear h
  first | omega | (simp only [Int.mul_add, Int.add_mul, Int.mul_sub, Int.sub_mul, Int.mul_assoc, Int.mul_comm, Int.mul_left_comm] at *; omega) | (simp (disch := omega) only [Go.Ev.w_i64, Go.Ev.w_i32, Go.Ev.w_u64, Go.Ev.w_u32, Go.Ev.w_u8, Go.Ev.tdiv_e, Go.Ev.tmod_e, Go.Ev.fdiv_e] at *; omega) | (simp only [Int.mul_add, Int.add_mul, Int.mul_sub, Int.sub_mul, Int.mul_assoc, Int.mul_comm, Int.mul_left_comm] at *; simp (disch := omega) only [Go.Ev.w_i64, Go.Ev.w_i32, Go.Ev.w_u64, Go.Ev.w_u32, Go.Ev.w_u8, Go.Ev.tdiv_e, Go.Ev.tmod_e, Go.Ev.fdiv_e] at *; omega)
def dead4 : List Fact := [⟨(.bin .sub (.var 4) (.var 1)), (-1), true⟩, ⟨(.bin .sub (.bin .sub (.var 1) (.lit 1)) (.var 4)), (-1), true⟩]
theorem dead4_no (v : Nat → Int) : ¬ ∀ f ∈ dead4, f.holds v := by
  intro h
  have h0 : (v 4 - v 1) ≤ (-1) := h _ (.head _)
  have h1 : ((v 1 - 1) - v 4) ≤ (-1) := h _ (.tail _ (.head _))
  clear h
  first | omega | (simp only [Int.mul_add, Int.add_mul, Int.mul_sub, Int.sub_mul, Int.mul_assoc, Int.mul_comm, Int.mul_left_comm] at *; omega) | (simp (disch := omega) only [Go.Ev.w_i64, Go.Ev.w_i32, Go.Ev.w_u64, Go.Ev.w_u32, Go.Ev.w_u8, Go.Ev.tdiv_e, Go.Ev.tmod_e, Go.Ev.fdiv_e] at *; omega) | (simp only [Int.mul_add, Int.add_mul, Int.mul_sub, Int.sub_mul, Int.mul_assoc, Int.mul_comm, Int.mul_left_comm] at *; simp (disch := omega) only [Go.Ev.w_i64, Go.Ev.w_i32, Go.Ev.w_u64, Go.Ev.w_u32, Go.Ev.w_u8, Go.Ev.tdiv_e, Go.Ev.tmod_e, Go.Ev.fdiv_e] at *; omega)
def dead5 : List Fact := [⟨(.bin .sub (.bin .add (.bin .mul (.bin .add (.bin .mul (.var 2) (.bin .mul (.lit 30) (.var 0))) (.var 3)) (.var 1)) (.var 4)) (.bin .add (.bin .mul (.bin .add (.bin .mul (.bin .mul (.var 2) (.lit 30)) (.var 0)) (.var 3)) (.var 1)) (.var 4))), (-1), true⟩]
theorem dead5_no (v : Nat → Int) : ¬ ∀ f ∈ dead5, f.holds v := by
  intro h
  have h0 : (((((v 2 * (30 * v 0)) + v 3) * v 1) + v 4) - (((((v 2 * 30) * v 0) + v 3) * v 1) + v 4)) ≤ (-1) := h _ (.head _)
  clear h
  first | omega | (simp only [Int.mul_add, Int.add_mul, Int.mul_sub, Int.sub_mul, Int.mul_assoc, Int.mul_comm, Int.mul_left_comm] at *; omega) | (simp (disch := omega) only [Go.Ev.w_i64, Go.Ev.w_i32, Go.Ev.w_u64, Go.Ev.w_u32, Go.Ev.w_u8, Go.Ev.tdiv_e, Go.Ev.tmod_e, Go.Ev.fdiv_e] at *; omega) | (simp only [Int.mul_add, Int.add_mul, Int.mul_sub, Int.sub_mul, Int.mul_assoc, Int.mul_comm, Int.mul_left_comm] at *; simp (disch := omega) only [Go.Ev.w_i64, Go.Ev.w_i32, Go.Ev.w_u64, Go.Ev.w_u32, Go.Ev.w_u8, Go.Ev.tdiv_e, Go.Ev.tmod_e, Go.Ev.fdiv_e] at *; omega)
def dead6 : List Fact := [⟨(.bin .sub (.bin .add (.bin .mul (.bin .add (.bin .mul (.var 2) (.bin .mul (.lit 30) (.var 0))) (.var 3)) (.var 1)) (.var 4)) (.bin .add (.bin .mul (.bin .add (.bin .mul (.bin .mul (.var 2) (.lit 30)) (.var 0)) (.var 3)) (.var 1)) (.var 4))), 0, false⟩]
theorem dead6_no (v : Nat → Int) : ¬ ∀ f ∈ dead6, f.holds v := by
  intro h
  have h0 : 0 < (((((v 2 * (30 * v 0)) + v 3) * v 1) + v 4) - (((((v 2 * 30) * v 0) + v 3) * v 1) + v 4)) := h _ (.head _)
  clear h
  first | omega | (simp only [Int.mul_add, Int.add_mul, Int.mul_sub, Int.sub_mul, Int.mul_assoc, Int.mul_comm, Int.mul_left_comm] at *; omega) | (simp (disch := omega) only [Go.Ev.w_i64, Go.Ev.w_i32, Go.Ev.w_u64, Go.Ev.w_u32, Go.Ev.w_u8, Go.Ev.tdiv_e, Go.Ev.tmod_e, Go.Ev.fdiv_e] at *; omega) | (simp only [Int.mul_add, Int.add_mul, Int.mul_sub, Int.sub_mul, Int.mul_assoc, Int.mul_comm, Int.mul_left_comm] at *; simp (disch := omega) only [Go.Ev.w_i64, Go.Ev.w_i32, Go.Ev.w_u64, Go.Ev.w_u32, Go.Ev.w_u8, Go.Ev.tdiv_e, Go.Ev.tmod_e, Go.Ev.fdiv_e] at *; omega)
def dead7 : List Fact := [⟨(.bin .add (.bin .mul (.bin .add (.bin .mul (.bin .mul (.var 2) (.lit 30)) (.var 0)) (.var 3)) (.var 1)) (.var 4)), 604799999, false⟩, ⟨(.bin .add (.bin .mul (.bin .add (.bin .mul (.var 2) (.bin .mul (.lit 30) (.var 0))) (.var 3)) (.var 1)) (.var 4)), 604799999, true⟩]
theorem dead7_no (v : Nat → Int) : ¬ ∀ f ∈ dead7, f.holds v := by
  intro h
  have h0 : 604799999 < (((((v 2 * 30) * v 0) + v 3) * v 1) + v 4) := h _ (.head _)
  have h1 : ((((v 2 * (30 * v 0)) + v 3) * v 1) + v 4) ≤ 604799999 := h _ (.tail _ (.head _))
  clear h
  first | omega | (simp only [Int.mul_add, Int.add_mul, Int.mul_sub, Int.sub_mul, Int.mul_assoc, Int.mul_comm, Int.mul_left_comm] at *; omega) | (simp (disch := omega) only [Go.Ev.w_i64, Go.Ev.w_i32, Go.Ev.w_u64, Go.Ev.w_u32, Go.Ev.w_u8, Go.Ev.tdiv_e, Go.Ev.tmod_e, Go.Ev.fdiv_e] at *; omega) | (simp only [Int.mul_add, Int.add_mul, Int.mul_sub, Int.sub_mul, Int.mul_assoc, Int.mul_comm, Int.mul_left_comm] at *; simp (disch := omega) only [Go.Ev.w_i64, Go.Ev.w_i32, Go.Ev.w_u64, Go.Ev.w_u32, Go.Ev.w_u8, Go.Ev.tdiv_e, Go.Ev.tmod_e, Go.Ev.fdiv_e] at *; omega)
def dead8 : List Fact := [⟨(.bin .sub (.var 4) (.var 1)), (-1), false⟩, ⟨(.bin .sub (.bin .sub (.var 1) (.lit 1)) (.var 4)), (-1), false⟩]
theorem dead8_no (v : Nat → Int) : ¬ ∀ f ∈ dead8, f.holds v := by
  intro h
  have h0 : (-1) < (v 4 - v 1) := h _ (.head _)
  have h1 : (-1) < ((v 1 - 1) - v 4) := h _ (.tail _ (.head _))
  clear h
  first | omega | (simp only [Int.mul_add, Int.add_mul, Int.mul_sub, Int.sub_mul, Int.mul_assoc, Int.mul_comm, Int.mul_left_comm] at *; omega) | (simp (disch := omega) only [Go.Ev.w_i64, Go.Ev.w_i32, Go.Ev.w_u64, Go.Ev.w_u32, Go.Ev.w_u8, Go.Ev.tdiv_e, Go.Ev.tmod_e, Go.Ev.fdiv_e] at *; omega) | (simp only [Int.mul_add, Int.add_mul, Int.mul_sub, Int.sub_mul, Int.mul_assoc, Int.mul_comm, Int.mul_left_comm] at *; simp (disch := omega) only [Go.Ev.w_i64, Go.Ev.w_i32, Go.Ev.w_u64, Go.Ev.w_u32, Go.Ev.w_u8, Go.Ev.tdiv_e, Go.Ev.tmod_e, Go.Ev.fdiv_e] at *; omega)
def dead9 : List Fact := [⟨(.bin .add (.bin .mul (.bin .add (.bin .mul (.bin .mul (.var 2) (.lit 30)) (.var 0)) (.var 3)) (.var 1)) (.var 4)), 604799999, true⟩, ⟨(.bin .add (.bin .mul (.bin .add (.bin .mul (.var 2) (.bin .mul (.lit 30) (.var 0))) (.var 3)) (.var 1)) (.var 4)), 604799999, false⟩]
theorem dead9_no (v : Nat → Int) : ¬ ∀ f ∈ dead9, f.holds v := by
  intro h
  have h0 : (((((v 2 * 30) * v 0) + v 3) * v 1) + v 4) ≤ 604799999 := h _ (.head _)
  have h1 : 604799999 < ((((v 2 * (30 * v 0)) + v 3) * v 1) + v 4) := h _ (.tail _ (.head _))
  clear h
  first | omega | (simp only [Int.mul_add, Int.add_mul, Int.mul_sub, Int.sub_mul, Int.mul_assoc, Int.mul_comm, Int.mul_left_comm] at *; omega) | (simp (disch := omega) only [Go.Ev.w_i64, Go.Ev.w_i32, Go.Ev.w_u64, Go.Ev.w_u32, Go.Ev.w_u8, Go.Ev.tdiv_e, Go.Ev.tmod_e, Go.Ev.fdiv_e] at *; omega) | (simp only [Int.mul_add, Int.add_mul, Int.mul_sub, Int.sub_mul, Int.mul_assoc, Int.mul_comm, Int.mul_left_comm] at *; simp (disch := omega) only [Go.Ev.w_i64, Go.Ev.w_i32, Go.Ev.w_u64, Go.Ev.w_u32, Go.Ev.w_u8, Go.Ev.tdiv_e, Go.Ev.tmod_e, Go.Ev.fdiv_e] at *; omega)
def deads : List (List Fact) := [dead0, dead1, dead2, dead3, dead4, dead5, dead6, dead7, dead8, dead9]
def tree : STree := (.split (.var 0) 1 (.split (.var 0) 10 (.split (.var 1) 0 (.split (.var 1) 20 (.split (.var 3) 299 (.split (.var 4) 19 .leaf .leaf) (.split (.var 4) 19 .leaf .leaf)) (.dead 0)) (.split (.var 1) 20 (.split (.var 3) 299 (.split (.var 4) 19 .leaf .leaf) (.split (.var 4) 19 .leaf .leaf)) (.split (.var 3) 299 (.split (.var 4) 19 .leaf .leaf) (.split (.var 4) 19 .leaf .leaf)))) (.dead 1)) (.split (.var 0) 10 (.split (.var 1) 0 (.split (.var 1) 20 (.split (.var 3) 299 (.split (.var 4) 19 .leaf .leaf) (.split (.var 4) 19 .leaf .leaf)) (.dead 0)) (.split (.var 1) 20 (.split (.var 3) 299 (.split (.var 4) 19 (.split (.var 2) (-1) (.split (.var 5) (-1) .leaf (.split (.var 5) 604799999 .leaf .leaf)) (.split (.var 3) (-1) (.split (.var 5) (-1) .leaf (.split (.var 5) 604799999 .leaf .leaf)) (.split (.bin .sub (.bin .sub (.bin .mul (.lit 30) (.var 0)) (.lit 1)) (.var 3)) (-1) (.split (.bin .sub (.var 3) (.bin .mul (.lit 30) (.var 0))) (-1) (.dead 2) (.split (.var 5) (-1) .leaf (.split (.var 5) 604799999 .leaf .leaf))) (.split (.var 4) (-1) (.split (.bin .sub (.var 3) (.bin .mul (.lit 30) (.var 0))) (-1) (.split (.var 5) (-1) .leaf (.split (.var 5) 604799999 .leaf .leaf)) (.dead 3)) (.split (.bin .sub (.bin .sub (.var 1) (.lit 1)) (.var 4)) (-1) (.split (.bin .sub (.var 3) (.bin .mul (.lit 30) (.var 0))) (-1) (.split (.bin .sub (.var 4) (.var 1)) (-1) (.dead 4) (.split (.var 5) (-1) .leaf (.split (.var 5) 604799999 .leaf .leaf))) (.dead 3)) (.split (.var 2) 604800000 (.split (.bin .add (.bin .mul (.bin .add (.bin .mul (.var 2) (.bin .mul (.lit 30) (.var 0))) (.var 3)) (.var 1)) (.var 4)) 604799999 (.split (.bin .sub (.var 3) (.bin .mul (.lit 30) (.var 0))) (-1) (.split (.bin .sub (.var 4) (.var 1)) (-1) (.split (.bin .add (.bin .mul (.bin .add (.bin .mul (.bin .mul (.var 2) (.lit 30)) (.var 0)) (.var 3)) (.var 1)) (.var 4)) 604799999 (.split (.var 5) (-1) (.split (.bin .sub (.bin .add (.bin .mul (.bin .add (.bin .mul (.var 2) (.bin .mul (.lit 30) (.var 0))) (.var 3)) (.var 1)) (.var 4)) (.bin .add (.bin .mul (.bin .add (.bin .mul (.bin .mul (.var 2) (.lit 30)) (.var 0)) (.var 3)) (.var 1)) (.var 4))) (-1) (.dead 5) (.split (.bin .sub (.bin .add (.bin .mul (.bin .add (.bin .mul (.var 2) (.bin .mul (.lit 30) (.var 0))) (.var 3)) (.var 1)) (.var 4)) (.bin .add (.bin .mul (.bin .add (.bin .mul (.bin .mul (.var 2) (.lit 30)) (.var 0)) (.var 3)) (.var 1)) (.var 4))) 0 .leaf (.dead 6))) (.split (.var 5) 604799999 (.split (.bin .sub (.bin .add (.bin .mul (.bin .add (.bin .mul (.var 2) (.bin .mul (.lit 30) (.var 0))) (.var 3)) (.var 1)) (.var 4)) (.bin .add (.bin .mul (.bin .add (.bin .mul (.bin .mul (.var 2) (.lit 30)) (.var 0)) (.var 3)) (.var 1)) (.var 4))) (-1) (.dead 5) (.split (.bin .sub (.bin .add (.bin .mul (.bin .add (.bin .mul (.var 2) (.bin .mul (.lit 30) (.var 0))) (.var 3)) (.var 1)) (.var 4)) (.bin .add (.bin .mul (.bin .add (.bin .mul (.bin .mul (.var 2) (.lit 30)) (.var 0)) (.var 3)) (.var 1)) (.var 4))) 0 .leaf (.dead 6))) (.split (.bin .sub (.bin .add (.bin .mul (.bin .add (.bin .mul (.var 2) (.bin .mul (.lit 30) (.var 0))) (.var 3)) (.var 1)) (.var 4)) (.bin .add (.bin .mul (.bin .add (.bin .mul (.bin .mul (.var 2) (.lit 30)) (.var 0)) (.var 3)) (.var 1)) (.var 4))) (-1) (.dead 5) (.split (.bin .sub (.bin .add (.bin .mul (.bin .add (.bin .mul (.var 2) (.bin .mul (.lit 30) (.var 0))) (.var 3)) (.var 1)) (.var 4)) (.bin .add (.bin .mul (.bin .add (.bin .mul (.bin .mul (.var 2) (.lit 30)) (.var 0)) (.var 3)) (.var 1)) (.var 4))) 0 .leaf (.dead 6))))) (.dead 7)) (.dead 8)) (.dead 3)) (.split (.bin .sub (.var 3) (.bin .mul (.lit 30) (.var 0))) (-1) (.split (.bin .sub (.var 4) (.var 1)) (-1) (.split (.bin .add (.bin .mul (.bin .add (.bin .mul (.bin .mul (.var 2) (.lit 30)) (.var 0)) (.var 3)) (.var 1)) (.var 4)) 604799999 (.dead 9) (.split (.var 5) (-1) .leaf (.split (.var 5) 604799999 .leaf .leaf))) (.dead 8)) (.dead 3))) (.split (.bin .sub (.var 3) (.bin .mul (.lit 30) (.var 0))) (-1) (.split (.bin .sub (.var 4) (.var 1)) (-1) (.split (.var 5) (-1) .leaf (.split (.var 5) 604799999 .leaf .leaf)) (.dead 8)) (.dead 3)))))))) (.split (.var 2) (-1) (.split (.var 5) (-1) .leaf (.split (.var 5) 604799999 .leaf .leaf)) (.split (.var 3) (-1) (.split (.var 5) (-1) .leaf (.split (.var 5) 604799999 .leaf .leaf)) (.split (.bin .sub (.bin .sub (.bin .mul (.lit 30) (.var 0)) (.lit 1)) (.var 3)) (-1) (.split (.bin .sub (.var 3) (.bin .mul (.lit 30) (.var 0))) (-1) (.dead 2) (.split (.var 5) (-1) .leaf (.split (.var 5) 604799999 .leaf .leaf))) (.split (.bin .sub (.var 3) (.bin .mul (.lit 30) (.var 0))) (-1) (.split (.var 5) (-1) .leaf (.split (.var 5) 604799999 .leaf .leaf)) (.dead 3)))))) (.split (.var 4) 19 (.split (.var 2) (-1) (.split (.var 5) (-1) .leaf (.split (.var 5) 604799999 .leaf .leaf)) (.split (.var 5) (-1) .leaf (.split (.var 5) 604799999 .leaf .leaf))) (.split (.var 2) (-1) (.split (.var 5) (-1) .leaf (.split (.var 5) 604799999 .leaf .leaf)) (.split (.var 5) (-1) .leaf (.split (.var 5) 604799999 .leaf .leaf))))) (.split (.var 3) 299 (.split (.var 4) 19 .leaf .leaf) (.split (.var 4) 19 .leaf .leaf)))) (.split (.var 1) 0 (.split (.var 1) 20 (.split (.var 3) 299 (.split (.var 4) 19 .leaf .leaf) (.split (.var 4) 19 .leaf .leaf)) (.dead 0)) (.split (.var 1) 20 (.split (.var 3) 299 (.split (.var 4) 19 .leaf .leaf) (.split (.var 4) 19 .leaf .leaf)) (.split (.var 3) 299 (.split (.var 4) 19 .leaf .leaf) (.split (.var 4) 19 .leaf .leaf))))))
def facts0 : List Fact := []

theorem deads_no (v : Nat → Int) : ∀ cl ∈ deads, ¬ ∀ f ∈ cl, f.holds v := by
  intro cl h
  rcases List.mem_cons.1 h with rfl | h
  · exact dead0_no v
  rcases List.mem_cons.1 h with rfl | h
  · exact dead1_no v
  rcases List.mem_cons.1 h with rfl | h
  · exact dead2_no v
  rcases List.mem_cons.1 h with rfl | h
  · exact dead3_no v
  rcases List.mem_cons.1 h with rfl | h
  · exact dead4_no v
  rcases List.mem_cons.1 h with rfl | h
  · exact dead5_no v
  rcases List.mem_cons.1 h with rfl | h
  · exact dead6_no v
  rcases List.mem_cons.1 h with rfl | h
  · exact dead7_no v
  rcases List.mem_cons.1 h with rfl | h
  · exact dead8_no v
  rcases List.mem_cons.1 h with rfl | h
  · exact dead9_no v
  cases h

def args0 : List EV := [.sym .i64 (.var 0) (-9223372036854775808) 9223372036854775807, .sym .i64 (.var 1) (-9223372036854775808) 9223372036854775807, .sym .i64 (.var 2) (-9223372036854775808) 9223372036854775807, .sym .i64 (.var 3) (-9223372036854775808) 9223372036854775807, .sym .i64 (.var 4) (-9223372036854775808) 9223372036854775807, .sym .i64 (.var 5) (-9223372036854775808) 9223372036854775807]
set_option maxRecDepth 100000 in
theorem ran : checkT (fun F => @runS ⟨F⟩ Try.prog [] [] 300 3 args0 isTrue) deads tree facts0 = true := by kernel_rfl
theorem names : namesB Try.prog = true := by kernel_rfl
end
theorem exts : ∀ p ∈ ([] : List (Nat × Go.Ev.Ext)), Go.Ev.ExtRow Try.prog p.1 p.2 := by
  intro p hp
  cases hp
theorem walk  (a0 : Int) (a1 : Int) (a2 : Int) (a3 : Int) (a4 : Int) (a5 : Int) (w0 : (Lit.int .i64 a0).wf = true) (w1 : (Lit.int .i64 a1).wf = true) (w2 : (Lit.int .i64 a2).wf = true) (w3 : (Lit.int .i64 a3).wf = true) (w4 : (Lit.int .i64 a4).wf = true) (w5 : (Lit.int .i64 a5).wf = true) (w : World) :
    Calls Try.prog 3 #[.int .i64 a0, .int .i64 a1, .int .i64 a2, .int .i64 a3, .int .i64 a4, .int .i64 a5] w fun e w' => e = .returned (.bool true) ∧ Below w.heap.size w w' := by
  let v : Nat → Int := fun k => match k with | 0 => a0 | 1 => a1 | 2 => a2 | 3 => a3 | 4 => a4 | 5 => a5 | _ => 0
  refine Go.Ev.checkT_ok (v := v) (fun F hrun hF => ?_) (deads_no v) ran (fun f hf => by cases hf)
  letI : Go.Ev.FactsC := ⟨F⟩
  letI : Go.Ev.Env := ⟨v, hF⟩
  refine (Go.Ev.runS_sound (args' := [.int .i64 a0, .int .i64 a1, .int .i64 a2, .int .i64 a3, .int .i64 a4, .int .i64 a5]) (by kernel_rfl) exts names Try.func3 (by kernel_rfl) hrun w (fun p hp => by cases hp) (fun φ => .cons (Go.Ev.int_vr 0 rfl w0 φ) (.cons (Go.Ev.int_vr 1 rfl w1 φ) (.cons (Go.Ev.int_vr 2 rfl w2 φ) (.cons (Go.Ev.int_vr 3 rfl w3 φ) (.cons (Go.Ev.int_vr 4 rfl w4 φ) (.cons (Go.Ev.int_vr 5 rfl w5 φ) (.nil)))))))).mono fun e w' ⟨⟨u, φ, r, h1, h2, h3⟩, hb⟩ => ⟨?_, hb⟩
  obtain ⟨b, rfl, hb'⟩ := Go.Ev.asBool_ok (show Go.Ev.asBool u (fun b => b) = true from h1)
  subst hb'
  cases h2
  exact h3

/-! ### THE ROW's STEP: WRITTEN OUT: LEAVE IT -/
set_option maxRecDepth 100000 in
theorem lifted (os : Os) (started : os.Started) (H : Type) (enc : TypeId × Value → H) :
    ReturnsInHanded {} Try.checked os 3 .any (Rows.spansTimesSpec.pre6 enc Try.prog Try.f3 Rows.spansTimesRow.domain false) (Rows.spansTimesSpec.post enc Try.prog Try.f3 false true false false) := by
  refine returnsInHanded_of_change (C := Try.checked) own started (by kernel_rfl) Try.func3
    (ChangeSpec.witness6 (enc := enc) (C := Try.checked) false ⟨#[], #[.int .i64 0, .int .i64 0, .int .i64 0, .int .i64 0, .int .i64 0, .int .i64 0], []⟩ 8 (by kernel_rfl) (by kernel_rfl) (by kernel_rfl) (by kernel_rfl)) ?_
  intro W base args ds gs before hval0 hW hcnd _
  have hval : ∀ (j : Nat) t v, Try.f3.params[j]? = some t → args[j]? = some v → Value.okWide Try.prog W .any base t v := hval0
  have hW' := hW
  obtain ⟨p, q, hA0, hV, rfl, hfz, hnd⟩ := hW
  have hA : DataW.TrodAll enc Try.prog W 0 (fun _ => true) true Try.f3.params.toList args.toList ds p := hA0
  rw [Try.params3] at hA hval
  obtain ⟨v0, vs0, d0, ds0, p0, q0, hargs, rfl, rfl, h0, r0⟩ := trodAll_cons hA
  obtain ⟨v1, vs1, d1, ds1, p1, q1, rfl, rfl, rfl, h1, r1⟩ := trodAll_cons r0
  obtain ⟨v2, vs2, d2, ds2, p2, q2, rfl, rfl, rfl, h2, r2⟩ := trodAll_cons r1
  obtain ⟨v3, vs3, d3, ds3, p3, q3, rfl, rfl, rfl, h3, r3⟩ := trodAll_cons r2
  obtain ⟨v4, vs4, d4, ds4, p4, q4, rfl, rfl, rfl, h4, r4⟩ := trodAll_cons r3
  obtain ⟨v5, vs5, d5, ds5, p5, q5, rfl, rfl, rfl, h5, r5⟩ := trodAll_cons r4
  obtain ⟨rfl, rfl, rfl⟩ := trodAll_nil r5
  obtain rfl : args = #[v0, v1, v2, v3, v4, v5] := by cases args; simp_all
  obtain ⟨rfl, rfl⟩ := trodVars_none hV
  obtain ⟨a0, rfl, rfl, rfl, w0⟩ := open_int Try.underlying3 (hval 0 3 v0 rfl rfl) h0
  obtain ⟨a1, rfl, rfl, rfl, w1⟩ := open_int Try.underlying3 (hval 1 3 v1 rfl rfl) h1
  obtain ⟨a2, rfl, rfl, rfl, w2⟩ := open_int Try.underlying3 (hval 2 3 v2 rfl rfl) h2
  obtain ⟨a3, rfl, rfl, rfl, w3⟩ := open_int Try.underlying3 (hval 3 3 v3 rfl rfl) h3
  obtain ⟨a4, rfl, rfl, rfl, w4⟩ := open_int Try.underlying3 (hval 4 3 v4 rfl rfl) h4
  obtain ⟨a5, rfl, rfl, rfl, w5⟩ := open_int Try.underlying3 (hval 5 3 v5 rfl rfl) h5
  clear hA0 hval0
  simp only [List.append_nil] at hW'
  refine (walk a0 a1 a2 a3 a4 a5 w0 w1 w2 w3 w4 w5 W).mono fun e W' ⟨he, hg⟩ => ?_
  subst he
  exact ⟨_, rfl, Go.Ev.post_below (pa := []) (pv := []) hW' (fun _ _ _ => (trodAll_cons_mk (shut_bool Try.underlying4 _) trodAll_mk0)) (fun sp _ => (trodAll_cons_mk (shut_int Try.underlying3 w0) (trodAll_cons_mk (shut_int Try.underlying3 w1) (trodAll_cons_mk (shut_int Try.underlying3 w2) (trodAll_cons_mk (shut_int Try.underlying3 w3) (trodAll_cons_mk (shut_int Try.underlying3 w4) (trodAll_cons_mk (shut_int Try.underlying3 w5) trodAll_mk0))))))) (fun _ _ => rfl) rfl
    hg (ok_one (by kernel_rfl) rfl (okWide_bool_mk Try.underlying4 _))⟩

theorem over : Rows.spansTimesRow.holds Try.pinned (OpenSpec.ofChange Rows.spansTimesSpec) :=
  OpenClaim.holds_of_wide 3 Try.f3 rfl rfl rfl rfl rfl rfl rfl ⟨rfl, rfl, rfl, rfl, rfl⟩ rfl rfl rfl rfl rfl (by kernel_rfl) Try.func3 (by kernel_rfl)
    (of_decide_eq_true (by kernel_rfl)) (by unfold Func.isWrapper; first | (rw [if_pos (by decide +kernel)]; kernel_rfl) | (rw [if_neg (by decide +kernel)]; exact ⟨rfl, rfl⟩))
    (fun os started H enc _ => lifted os started H enc)

/-- ████ THE STATEMENT ████ -/
theorem proved : Rows.SpansTimesSaid :=
  over
#print axioms proved
end Go.Proofs.Ytagndcelalcmpaa.spansTimes
