/- Parts of the run of LockSteps. -/
import Derived.Test.YtlhcjklfcpbcaaaRows
import Derived.WalkKit
import Derived.ProofKit
import Derived.OpenShut
import Derived.Test.YtlhcjklfcpbcaaaEvU
namespace Go.Proofs.Ytlhcjklfcpbcaaa.lockSteps
open Go.ChangeShapes Go.WideShapes Go.ChangeAt Go.RowKit
set_option linter.unusedVariables false
section
open Go.Ev

end
section
open Go.Ev
namespace ct
def dead0 : List Fact := [⟨(.bin .sub (.var 1) (.wrap .i64 (.bin .add (.var 3) (.lit 1)))), (-1), true⟩, ⟨(.bin .sub (.var 3) (.var 1)), (-1), true⟩, ⟨(.var 3), (-1), false⟩]
theorem dead0_no (v : Nat → Int) : ¬ ∀ f ∈ dead0, f.holds v := by
  intro h
  have h0 : (v 1 - IntKind.wrap .i64 ((v 3 + 1))) ≤ (-1) := h _ (.head _)
  have h1 : (v 3 - v 1) ≤ (-1) := h _ (.tail _ (.head _))
  have h2 : (-1) < v 3 := h _ (.tail _ (.tail _ (.head _)))
  clear h
  first | omega | (simp only [Int.mul_add, Int.add_mul, Int.mul_sub, Int.sub_mul, Int.mul_assoc, Int.mul_comm, Int.mul_left_comm] at *; omega) | (simp (disch := omega) only [Go.Ev.w_i64, Go.Ev.w_i32, Go.Ev.w_u64, Go.Ev.w_u32, Go.Ev.w_u8, Go.Ev.tdiv_e, Go.Ev.tmod_e, Go.Ev.fdiv_e] at *; omega) | (simp only [Int.mul_add, Int.add_mul, Int.mul_sub, Int.sub_mul, Int.mul_assoc, Int.mul_comm, Int.mul_left_comm] at *; simp (disch := omega) only [Go.Ev.w_i64, Go.Ev.w_i32, Go.Ev.w_u64, Go.Ev.w_u32, Go.Ev.w_u8, Go.Ev.tdiv_e, Go.Ev.tmod_e, Go.Ev.fdiv_e] at *; omega)
def dead1 : List Fact := [⟨(.bin .sub (.bin .add (.bin .add (.bin .sub (.var 6) (.lit 1)) (.bin .sub (.var 1) (.lit 1))) (.bin .add (.bin .quo (.bin .sub (.bin .add (.bin .mul (.bin .sub (.var 1) (.lit 1)) (.lit 64)) (.lit 1024)) (.lit 1)) (.lit 1024)) (.lit 1))) (.bin .add (.bin .add (.bin .add (.bin .sub (.var 6) (.lit 1)) (.bin .sub (.var 1) (.lit 1))) (.bin .quo (.bin .add (.bin .mul (.lit 64) (.bin .sub (.var 1) (.lit 1))) (.lit 1023)) (.lit 1024))) (.lit 1))), (-1), true⟩]
theorem dead1_no (v : Nat → Int) : ¬ ∀ f ∈ dead1, f.holds v := by
  intro h
  have h0 : ((((v 6 - 1) + (v 1 - 1)) + (Int.tdiv (((((v 1 - 1) * 64) + 1024) - 1)) (1024) + 1)) - ((((v 6 - 1) + (v 1 - 1)) + Int.tdiv (((64 * (v 1 - 1)) + 1023)) (1024)) + 1)) ≤ (-1) := h _ (.head _)
  clear h
  first | omega | (simp only [Int.mul_add, Int.add_mul, Int.mul_sub, Int.sub_mul, Int.mul_assoc, Int.mul_comm, Int.mul_left_comm] at *; omega) | (simp (disch := omega) only [Go.Ev.w_i64, Go.Ev.w_i32, Go.Ev.w_u64, Go.Ev.w_u32, Go.Ev.w_u8, Go.Ev.tdiv_e, Go.Ev.tmod_e, Go.Ev.fdiv_e] at *; omega) | (simp only [Int.mul_add, Int.add_mul, Int.mul_sub, Int.sub_mul, Int.mul_assoc, Int.mul_comm, Int.mul_left_comm] at *; simp (disch := omega) only [Go.Ev.w_i64, Go.Ev.w_i32, Go.Ev.w_u64, Go.Ev.w_u32, Go.Ev.w_u8, Go.Ev.tdiv_e, Go.Ev.tmod_e, Go.Ev.fdiv_e] at *; omega)
def dead2 : List Fact := [⟨(.bin .sub (.bin .add (.bin .add (.bin .sub (.var 6) (.lit 1)) (.bin .sub (.var 1) (.lit 1))) (.bin .add (.bin .quo (.bin .sub (.bin .add (.bin .mul (.bin .sub (.var 1) (.lit 1)) (.lit 64)) (.lit 1024)) (.lit 1)) (.lit 1024)) (.lit 1))) (.bin .add (.bin .add (.bin .add (.bin .sub (.var 6) (.lit 1)) (.bin .sub (.var 1) (.lit 1))) (.bin .quo (.bin .add (.bin .mul (.lit 64) (.bin .sub (.var 1) (.lit 1))) (.lit 1023)) (.lit 1024))) (.lit 1))), 0, false⟩]
theorem dead2_no (v : Nat → Int) : ¬ ∀ f ∈ dead2, f.holds v := by
  intro h
  have h0 : 0 < ((((v 6 - 1) + (v 1 - 1)) + (Int.tdiv (((((v 1 - 1) * 64) + 1024) - 1)) (1024) + 1)) - ((((v 6 - 1) + (v 1 - 1)) + Int.tdiv (((64 * (v 1 - 1)) + 1023)) (1024)) + 1)) := h _ (.head _)
  clear h
  first | omega | (simp only [Int.mul_add, Int.add_mul, Int.mul_sub, Int.sub_mul, Int.mul_assoc, Int.mul_comm, Int.mul_left_comm] at *; omega) | (simp (disch := omega) only [Go.Ev.w_i64, Go.Ev.w_i32, Go.Ev.w_u64, Go.Ev.w_u32, Go.Ev.w_u8, Go.Ev.tdiv_e, Go.Ev.tmod_e, Go.Ev.fdiv_e] at *; omega) | (simp only [Int.mul_add, Int.add_mul, Int.mul_sub, Int.sub_mul, Int.mul_assoc, Int.mul_comm, Int.mul_left_comm] at *; simp (disch := omega) only [Go.Ev.w_i64, Go.Ev.w_i32, Go.Ev.w_u64, Go.Ev.w_u32, Go.Ev.w_u8, Go.Ev.tdiv_e, Go.Ev.tmod_e, Go.Ev.fdiv_e] at *; omega)
def dead3 : List Fact := [⟨(.bin .sub (.var 0) (.wrap .i64 (.bin .add (.var 2) (.lit 1)))), (-1), true⟩, ⟨(.bin .sub (.var 2) (.var 0)), (-1), true⟩, ⟨(.var 2), (-1), false⟩]
theorem dead3_no (v : Nat → Int) : ¬ ∀ f ∈ dead3, f.holds v := by
  intro h
  have h0 : (v 0 - IntKind.wrap .i64 ((v 2 + 1))) ≤ (-1) := h _ (.head _)
  have h1 : (v 2 - v 0) ≤ (-1) := h _ (.tail _ (.head _))
  have h2 : (-1) < v 2 := h _ (.tail _ (.tail _ (.head _)))
  clear h
  first | omega | (simp only [Int.mul_add, Int.add_mul, Int.mul_sub, Int.sub_mul, Int.mul_assoc, Int.mul_comm, Int.mul_left_comm] at *; omega) | (simp (disch := omega) only [Go.Ev.w_i64, Go.Ev.w_i32, Go.Ev.w_u64, Go.Ev.w_u32, Go.Ev.w_u8, Go.Ev.tdiv_e, Go.Ev.tmod_e, Go.Ev.fdiv_e] at *; omega) | (simp only [Int.mul_add, Int.add_mul, Int.mul_sub, Int.sub_mul, Int.mul_assoc, Int.mul_comm, Int.mul_left_comm] at *; simp (disch := omega) only [Go.Ev.w_i64, Go.Ev.w_i32, Go.Ev.w_u64, Go.Ev.w_u32, Go.Ev.w_u8, Go.Ev.tdiv_e, Go.Ev.tmod_e, Go.Ev.fdiv_e] at *; omega)
def dead4 : List Fact := [⟨(.bin .sub (.bin .add (.bin .add (.bin .sub (.var 6) (.lit 1)) (.lit 0)) (.lit 1)) (.bin .add (.bin .add (.bin .add (.bin .sub (.var 6) (.lit 1)) (.lit 0)) (.lit 0)) (.lit 1))), (-1), true⟩]
theorem dead4_no (v : Nat → Int) : ¬ ∀ f ∈ dead4, f.holds v := by
  intro h
  have h0 : ((((v 6 - 1) + 0) + 1) - ((((v 6 - 1) + 0) + 0) + 1)) ≤ (-1) := h _ (.head _)
  clear h
  first | omega | (simp only [Int.mul_add, Int.add_mul, Int.mul_sub, Int.sub_mul, Int.mul_assoc, Int.mul_comm, Int.mul_left_comm] at *; omega) | (simp (disch := omega) only [Go.Ev.w_i64, Go.Ev.w_i32, Go.Ev.w_u64, Go.Ev.w_u32, Go.Ev.w_u8, Go.Ev.tdiv_e, Go.Ev.tmod_e, Go.Ev.fdiv_e] at *; omega) | (simp only [Int.mul_add, Int.add_mul, Int.mul_sub, Int.sub_mul, Int.mul_assoc, Int.mul_comm, Int.mul_left_comm] at *; simp (disch := omega) only [Go.Ev.w_i64, Go.Ev.w_i32, Go.Ev.w_u64, Go.Ev.w_u32, Go.Ev.w_u8, Go.Ev.tdiv_e, Go.Ev.tmod_e, Go.Ev.fdiv_e] at *; omega)
def dead5 : List Fact := [⟨(.bin .sub (.bin .add (.bin .add (.bin .sub (.var 6) (.lit 1)) (.lit 0)) (.lit 1)) (.bin .add (.bin .add (.bin .add (.bin .sub (.var 6) (.lit 1)) (.lit 0)) (.lit 0)) (.lit 1))), 0, false⟩]
theorem dead5_no (v : Nat → Int) : ¬ ∀ f ∈ dead5, f.holds v := by
  intro h
  have h0 : 0 < ((((v 6 - 1) + 0) + 1) - ((((v 6 - 1) + 0) + 0) + 1)) := h _ (.head _)
  clear h
  first | omega | (simp only [Int.mul_add, Int.add_mul, Int.mul_sub, Int.sub_mul, Int.mul_assoc, Int.mul_comm, Int.mul_left_comm] at *; omega) | (simp (disch := omega) only [Go.Ev.w_i64, Go.Ev.w_i32, Go.Ev.w_u64, Go.Ev.w_u32, Go.Ev.w_u8, Go.Ev.tdiv_e, Go.Ev.tmod_e, Go.Ev.fdiv_e] at *; omega) | (simp only [Int.mul_add, Int.add_mul, Int.mul_sub, Int.sub_mul, Int.mul_assoc, Int.mul_comm, Int.mul_left_comm] at *; simp (disch := omega) only [Go.Ev.w_i64, Go.Ev.w_i32, Go.Ev.w_u64, Go.Ev.w_u32, Go.Ev.w_u8, Go.Ev.tdiv_e, Go.Ev.tmod_e, Go.Ev.fdiv_e] at *; omega)
def dead6 : List Fact := [⟨(.bin .sub (.var 0) (.wrap .i64 (.bin .add (.var 2) (.lit 1)))), (-1), false⟩, ⟨(.bin .sub (.var 2) (.var 0)), 0, true⟩, ⟨(.bin .sub (.var 2) (.var 0)), (-1), false⟩, ⟨(.var 0), 100, true⟩]
theorem dead6_no (v : Nat → Int) : ¬ ∀ f ∈ dead6, f.holds v := by
  intro h
  have h0 : (-1) < (v 0 - IntKind.wrap .i64 ((v 2 + 1))) := h _ (.head _)
  have h1 : (v 2 - v 0) ≤ 0 := h _ (.tail _ (.head _))
  have h2 : (-1) < (v 2 - v 0) := h _ (.tail _ (.tail _ (.head _)))
  have h3 : v 0 ≤ 100 := h _ (.tail _ (.tail _ (.tail _ (.head _))))
  clear h
  first | omega | (simp only [Int.mul_add, Int.add_mul, Int.mul_sub, Int.sub_mul, Int.mul_assoc, Int.mul_comm, Int.mul_left_comm] at *; omega) | (simp (disch := omega) only [Go.Ev.w_i64, Go.Ev.w_i32, Go.Ev.w_u64, Go.Ev.w_u32, Go.Ev.w_u8, Go.Ev.tdiv_e, Go.Ev.tmod_e, Go.Ev.fdiv_e] at *; omega) | (simp only [Int.mul_add, Int.add_mul, Int.mul_sub, Int.sub_mul, Int.mul_assoc, Int.mul_comm, Int.mul_left_comm] at *; simp (disch := omega) only [Go.Ev.w_i64, Go.Ev.w_i32, Go.Ev.w_u64, Go.Ev.w_u32, Go.Ev.w_u8, Go.Ev.tdiv_e, Go.Ev.tmod_e, Go.Ev.fdiv_e] at *; omega)
def deads : List (List Fact) := [dead0, dead1, dead2, dead3, dead4, dead5, dead6]
def facts0 : List Fact := []

theorem deads_no (v : Nat → Int) : ∀ cl ∈ deads, ¬ ∀ f ∈ cl, f.holds v := by
  intro cl h
  rcases List.mem_cons.1 h with rfl | h
  · exact dead0_no v
  rcases List.mem_cons.1 h with rfl | h
  · exact dead1_no v
  rcases List.mem_cons.1 h with rfl | h
  · exact dead2_no v
  rcases List.mem_cons.1 h with rfl | h
  · exact dead3_no v
  rcases List.mem_cons.1 h with rfl | h
  · exact dead4_no v
  rcases List.mem_cons.1 h with rfl | h
  · exact dead5_no v
  rcases List.mem_cons.1 h with rfl | h
  · exact dead6_no v
  cases h
def args0 : List EV := [.agg [.sym .i64 (.var 0) (IntKind.min .i64) (IntKind.max .i64), .sym .i64 (.var 1) (IntKind.min .i64) (IntKind.max .i64), .sym .i64 (.var 2) (IntKind.min .i64) (IntKind.max .i64), .sym .i64 (.var 3) (IntKind.min .i64) (IntKind.max .i64), .bool true], .sym .i64 (.var 4) (IntKind.min .i64) (IntKind.max .i64), .sym .i64 (.var 5) (IntKind.min .i64) (IntKind.max .i64), .sym .i64 (.var 6) (IntKind.min .i64) (IntKind.max .i64)]
noncomputable def theRun : List Fact → Bool := fun F => @runS ⟨F⟩ Try.prog [(17, Go.Ev.Ext.known true)] [] 300 3 args0 isTrue
end ct
end
end Go.Proofs.Ytlhcjklfcpbcaaa.lockSteps
