/- QuantLevels: for every input her call returns true: an evaluator of Go code with symbolic numbers, proved sound over every world, carries the call out on each path of a tree of cases; the paths that no numbers take are shown to be contradictory. Conditions: none beyond the statement's own. -/
import Derived.Test.YtemcaojbhfgpgaaRows
import Derived.WalkKit
import Derived.ProofKit
import Derived.OpenShut
import Derived.Test.YtemcaojbhfgpgaaEvU
namespace Go.Proofs.Ytemcaojbhfgpgaa.quantLevels
open Go.ChangeShapes Go.WideShapes Go.ChangeAt Go.RowKit
set_option linter.unusedVariables false
theorem own : ownKnob Try.prog.godebug = none := by kernel_rfl
section
open Go.Ev
theorem shr0 (a : Int) : SO.eval (.shr .i64) a 0 = a / 1 := Int.fdiv_eq_ediv_of_nonneg a (by decide : (0 : Int) ≤ 1)
theorem shl0 : SO.eval (.shl .i64) 1 0 = 1 := by decide
theorem shr1 (a : Int) : SO.eval (.shr .i64) a 1 = a / 2 := Int.fdiv_eq_ediv_of_nonneg a (by decide : (0 : Int) ≤ 2)
theorem shl1 : SO.eval (.shl .i64) 1 1 = 2 := by decide
theorem shr2 (a : Int) : SO.eval (.shr .i64) a 2 = a / 4 := Int.fdiv_eq_ediv_of_nonneg a (by decide : (0 : Int) ≤ 4)
theorem shl2 : SO.eval (.shl .i64) 1 2 = 4 := by decide
theorem shr3 (a : Int) : SO.eval (.shr .i64) a 3 = a / 8 := Int.fdiv_eq_ediv_of_nonneg a (by decide : (0 : Int) ≤ 8)
theorem shl3 : SO.eval (.shl .i64) 1 3 = 8 := by decide
theorem shr4 (a : Int) : SO.eval (.shr .i64) a 4 = a / 16 := Int.fdiv_eq_ediv_of_nonneg a (by decide : (0 : Int) ≤ 16)
theorem shl4 : SO.eval (.shl .i64) 1 4 = 16 := by decide
theorem shr5 (a : Int) : SO.eval (.shr .i64) a 5 = a / 32 := Int.fdiv_eq_ediv_of_nonneg a (by decide : (0 : Int) ≤ 32)
theorem shl5 : SO.eval (.shl .i64) 1 5 = 32 := by decide
theorem shr6 (a : Int) : SO.eval (.shr .i64) a 6 = a / 64 := Int.fdiv_eq_ediv_of_nonneg a (by decide : (0 : Int) ≤ 64)
theorem shl6 : SO.eval (.shl .i64) 1 6 = 64 := by decide
theorem shr7 (a : Int) : SO.eval (.shr .i64) a 7 = a / 128 := Int.fdiv_eq_ediv_of_nonneg a (by decide : (0 : Int) ≤ 128)
theorem shl7 : SO.eval (.shl .i64) 1 7 = 128 := by decide
theorem shr8 (a : Int) : SO.eval (.shr .i64) a 8 = a / 256 := Int.fdiv_eq_ediv_of_nonneg a (by decide : (0 : Int) ≤ 256)
theorem shl8 : SO.eval (.shl .i64) 1 8 = 256 := by decide
theorem shr9 (a : Int) : SO.eval (.shr .i64) a 9 = a / 512 := Int.fdiv_eq_ediv_of_nonneg a (by decide : (0 : Int) ≤ 512)
theorem shl9 : SO.eval (.shl .i64) 1 9 = 512 := by decide
theorem shr10 (a : Int) : SO.eval (.shr .i64) a 10 = a / 1024 := Int.fdiv_eq_ediv_of_nonneg a (by decide : (0 : Int) ≤ 1024)
theorem shl10 : SO.eval (.shl .i64) 1 10 = 1024 := by decide
theorem shr11 (a : Int) : SO.eval (.shr .i64) a 11 = a / 2048 := Int.fdiv_eq_ediv_of_nonneg a (by decide : (0 : Int) ≤ 2048)
theorem shl11 : SO.eval (.shl .i64) 1 11 = 2048 := by decide
theorem shr12 (a : Int) : SO.eval (.shr .i64) a 12 = a / 4096 := Int.fdiv_eq_ediv_of_nonneg a (by decide : (0 : Int) ≤ 4096)
theorem shl12 : SO.eval (.shl .i64) 1 12 = 4096 := by decide
theorem shr13 (a : Int) : SO.eval (.shr .i64) a 13 = a / 8192 := Int.fdiv_eq_ediv_of_nonneg a (by decide : (0 : Int) ≤ 8192)
theorem shl13 : SO.eval (.shl .i64) 1 13 = 8192 := by decide
theorem shr14 (a : Int) : SO.eval (.shr .i64) a 14 = a / 16384 := Int.fdiv_eq_ediv_of_nonneg a (by decide : (0 : Int) ≤ 16384)
theorem shl14 : SO.eval (.shl .i64) 1 14 = 16384 := by decide
theorem shr15 (a : Int) : SO.eval (.shr .i64) a 15 = a / 32768 := Int.fdiv_eq_ediv_of_nonneg a (by decide : (0 : Int) ≤ 32768)
theorem shl15 : SO.eval (.shl .i64) 1 15 = 32768 := by decide
theorem shr16 (a : Int) : SO.eval (.shr .i64) a 16 = a / 65536 := Int.fdiv_eq_ediv_of_nonneg a (by decide : (0 : Int) ≤ 65536)
theorem shl16 : SO.eval (.shl .i64) 1 16 = 65536 := by decide
theorem shr17 (a : Int) : SO.eval (.shr .i64) a 17 = a / 131072 := Int.fdiv_eq_ediv_of_nonneg a (by decide : (0 : Int) ≤ 131072)
theorem shl17 : SO.eval (.shl .i64) 1 17 = 131072 := by decide
theorem shr18 (a : Int) : SO.eval (.shr .i64) a 18 = a / 262144 := Int.fdiv_eq_ediv_of_nonneg a (by decide : (0 : Int) ≤ 262144)
theorem shl18 : SO.eval (.shl .i64) 1 18 = 262144 := by decide
theorem shr19 (a : Int) : SO.eval (.shr .i64) a 19 = a / 524288 := Int.fdiv_eq_ediv_of_nonneg a (by decide : (0 : Int) ≤ 524288)
theorem shl19 : SO.eval (.shl .i64) 1 19 = 524288 := by decide
theorem shr20 (a : Int) : SO.eval (.shr .i64) a 20 = a / 1048576 := Int.fdiv_eq_ediv_of_nonneg a (by decide : (0 : Int) ≤ 1048576)
theorem shl20 : SO.eval (.shl .i64) 1 20 = 1048576 := by decide
theorem shr21 (a : Int) : SO.eval (.shr .i64) a 21 = a / 2097152 := Int.fdiv_eq_ediv_of_nonneg a (by decide : (0 : Int) ≤ 2097152)
theorem shl21 : SO.eval (.shl .i64) 1 21 = 2097152 := by decide
theorem shr22 (a : Int) : SO.eval (.shr .i64) a 22 = a / 4194304 := Int.fdiv_eq_ediv_of_nonneg a (by decide : (0 : Int) ≤ 4194304)
theorem shl22 : SO.eval (.shl .i64) 1 22 = 4194304 := by decide
theorem shr23 (a : Int) : SO.eval (.shr .i64) a 23 = a / 8388608 := Int.fdiv_eq_ediv_of_nonneg a (by decide : (0 : Int) ≤ 8388608)
theorem shl23 : SO.eval (.shl .i64) 1 23 = 8388608 := by decide
theorem shr24 (a : Int) : SO.eval (.shr .i64) a 24 = a / 16777216 := Int.fdiv_eq_ediv_of_nonneg a (by decide : (0 : Int) ≤ 16777216)
theorem shl24 : SO.eval (.shl .i64) 1 24 = 16777216 := by decide
theorem shr25 (a : Int) : SO.eval (.shr .i64) a 25 = a / 33554432 := Int.fdiv_eq_ediv_of_nonneg a (by decide : (0 : Int) ≤ 33554432)
theorem shl25 : SO.eval (.shl .i64) 1 25 = 33554432 := by decide
theorem shr26 (a : Int) : SO.eval (.shr .i64) a 26 = a / 67108864 := Int.fdiv_eq_ediv_of_nonneg a (by decide : (0 : Int) ≤ 67108864)
theorem shl26 : SO.eval (.shl .i64) 1 26 = 67108864 := by decide
theorem shr27 (a : Int) : SO.eval (.shr .i64) a 27 = a / 134217728 := Int.fdiv_eq_ediv_of_nonneg a (by decide : (0 : Int) ≤ 134217728)
theorem shl27 : SO.eval (.shl .i64) 1 27 = 134217728 := by decide
theorem shr28 (a : Int) : SO.eval (.shr .i64) a 28 = a / 268435456 := Int.fdiv_eq_ediv_of_nonneg a (by decide : (0 : Int) ≤ 268435456)
theorem shl28 : SO.eval (.shl .i64) 1 28 = 268435456 := by decide
theorem shr29 (a : Int) : SO.eval (.shr .i64) a 29 = a / 536870912 := Int.fdiv_eq_ediv_of_nonneg a (by decide : (0 : Int) ≤ 536870912)
theorem shl29 : SO.eval (.shl .i64) 1 29 = 536870912 := by decide
theorem shr30 (a : Int) : SO.eval (.shr .i64) a 30 = a / 1073741824 := Int.fdiv_eq_ediv_of_nonneg a (by decide : (0 : Int) ≤ 1073741824)
theorem shl30 : SO.eval (.shl .i64) 1 30 = 1073741824 := by decide

namespace c
def dead0 : List Fact := [⟨(.bin .sub (.bin .sub (.lit 0) (.bin .sub (.bin (.shl .i64) (.lit 1) (.bin .sub (.var 0) (.lit 1))) (.lit 1))) (.bin .sub (.lit 0) (.bin (.shr .i64) (.bin .sub (.bin .fdiv (.bin (.shl .i64) (.lit 1) (.var 1)) (.lit 2)) (.var 2)) (.var 1)))), (-1), true⟩, ⟨(.bin .sub (.bin .sub (.lit 0) (.bin (.shr .i64) (.bin .sub (.bin .fdiv (.bin (.shl .i64) (.lit 1) (.var 1)) (.lit 2)) (.var 2)) (.var 1))) (.bin .sub (.lit 0) (.bin .sub (.bin (.shl .i64) (.lit 1) (.bin .sub (.var 0) (.lit 1))) (.lit 1)))), (-1), true⟩]
theorem dead0_no (v : Nat → Int) : ¬ ∀ f ∈ dead0, f.holds v := by
  intro h
  have h0 : ((0 - (SO.eval (.shl .i64) (1) ((v 0 - 1)) - 1)) - (0 - SO.eval (.shr .i64) ((Int.fdiv (SO.eval (.shl .i64) (1) (v 1)) (2) - v 2)) (v 1))) ≤ (-1) := h _ (.head _)
  have h1 : ((0 - SO.eval (.shr .i64) ((Int.fdiv (SO.eval (.shl .i64) (1) (v 1)) (2) - v 2)) (v 1)) - (0 - (SO.eval (.shl .i64) (1) ((v 0 - 1)) - 1))) ≤ (-1) := h _ (.tail _ (.head _))
  clear h
  first | omega | (simp only [Int.mul_add, Int.add_mul, Int.mul_sub, Int.sub_mul, Int.mul_assoc, Int.mul_comm, Int.mul_left_comm] at *; omega) | (simp (disch := omega) only [Go.Ev.w_i64, Go.Ev.w_i32, Go.Ev.w_u64, Go.Ev.w_u32, Go.Ev.w_u8, Go.Ev.tdiv_e, Go.Ev.tmod_e, Go.Ev.fdiv_e] at *; omega) | (simp only [Int.mul_add, Int.add_mul, Int.mul_sub, Int.sub_mul, Int.mul_assoc, Int.mul_comm, Int.mul_left_comm] at *; simp (disch := omega) only [Go.Ev.w_i64, Go.Ev.w_i32, Go.Ev.w_u64, Go.Ev.w_u32, Go.Ev.w_u8, Go.Ev.tdiv_e, Go.Ev.tmod_e, Go.Ev.fdiv_e] at *; omega)
def dead1 : List Fact := [⟨(.bin .sub (.bin .sub (.lit 0) (.bin .sub (.bin (.shl .i64) (.lit 1) (.bin .sub (.var 0) (.lit 1))) (.lit 1))) (.bin .sub (.lit 0) (.bin (.shr .i64) (.bin .sub (.bin .fdiv (.bin (.shl .i64) (.lit 1) (.var 1)) (.lit 2)) (.var 2)) (.var 1)))), 0, true⟩, ⟨(.bin .sub (.bin .sub (.lit 0) (.bin (.shr .i64) (.bin .sub (.bin .fdiv (.bin (.shl .i64) (.lit 1) (.var 1)) (.lit 2)) (.var 2)) (.var 1))) (.bin .sub (.lit 0) (.bin .sub (.bin (.shl .i64) (.lit 1) (.bin .sub (.var 0) (.lit 1))) (.lit 1)))), (-1), true⟩]
theorem dead1_no (v : Nat → Int) : ¬ ∀ f ∈ dead1, f.holds v := by
  intro h
  have h0 : ((0 - (SO.eval (.shl .i64) (1) ((v 0 - 1)) - 1)) - (0 - SO.eval (.shr .i64) ((Int.fdiv (SO.eval (.shl .i64) (1) (v 1)) (2) - v 2)) (v 1))) ≤ 0 := h _ (.head _)
  have h1 : ((0 - SO.eval (.shr .i64) ((Int.fdiv (SO.eval (.shl .i64) (1) (v 1)) (2) - v 2)) (v 1)) - (0 - (SO.eval (.shl .i64) (1) ((v 0 - 1)) - 1))) ≤ (-1) := h _ (.tail _ (.head _))
  clear h
  first | omega | (simp only [Int.mul_add, Int.add_mul, Int.mul_sub, Int.sub_mul, Int.mul_assoc, Int.mul_comm, Int.mul_left_comm] at *; omega) | (simp (disch := omega) only [Go.Ev.w_i64, Go.Ev.w_i32, Go.Ev.w_u64, Go.Ev.w_u32, Go.Ev.w_u8, Go.Ev.tdiv_e, Go.Ev.tmod_e, Go.Ev.fdiv_e] at *; omega) | (simp only [Int.mul_add, Int.add_mul, Int.mul_sub, Int.sub_mul, Int.mul_assoc, Int.mul_comm, Int.mul_left_comm] at *; simp (disch := omega) only [Go.Ev.w_i64, Go.Ev.w_i32, Go.Ev.w_u64, Go.Ev.w_u32, Go.Ev.w_u8, Go.Ev.tdiv_e, Go.Ev.tmod_e, Go.Ev.fdiv_e] at *; omega)
def dead2 : List Fact := [⟨(.bin .sub (.bin .sub (.lit 0) (.bin .sub (.bin (.shl .i64) (.lit 1) (.bin .sub (.var 0) (.lit 1))) (.lit 1))) (.bin .sub (.lit 0) (.bin .fdiv (.bin .sub (.lit 0) (.var 2)) (.lit 1)))), (-1), true⟩, ⟨(.bin .sub (.bin .sub (.lit 0) (.bin .fdiv (.bin .sub (.lit 0) (.var 2)) (.lit 1))) (.bin .sub (.lit 0) (.bin .sub (.bin (.shl .i64) (.lit 1) (.bin .sub (.var 0) (.lit 1))) (.lit 1)))), (-1), true⟩]
theorem dead2_no (v : Nat → Int) : ¬ ∀ f ∈ dead2, f.holds v := by
  intro h
  have h0 : ((0 - (SO.eval (.shl .i64) (1) ((v 0 - 1)) - 1)) - (0 - Int.fdiv ((0 - v 2)) (1))) ≤ (-1) := h _ (.head _)
  have h1 : ((0 - Int.fdiv ((0 - v 2)) (1)) - (0 - (SO.eval (.shl .i64) (1) ((v 0 - 1)) - 1))) ≤ (-1) := h _ (.tail _ (.head _))
  clear h
  first | omega | (simp only [Int.mul_add, Int.add_mul, Int.mul_sub, Int.sub_mul, Int.mul_assoc, Int.mul_comm, Int.mul_left_comm] at *; omega) | (simp (disch := omega) only [Go.Ev.w_i64, Go.Ev.w_i32, Go.Ev.w_u64, Go.Ev.w_u32, Go.Ev.w_u8, Go.Ev.tdiv_e, Go.Ev.tmod_e, Go.Ev.fdiv_e] at *; omega) | (simp only [Int.mul_add, Int.add_mul, Int.mul_sub, Int.sub_mul, Int.mul_assoc, Int.mul_comm, Int.mul_left_comm] at *; simp (disch := omega) only [Go.Ev.w_i64, Go.Ev.w_i32, Go.Ev.w_u64, Go.Ev.w_u32, Go.Ev.w_u8, Go.Ev.tdiv_e, Go.Ev.tmod_e, Go.Ev.fdiv_e] at *; omega)
def dead3 : List Fact := [⟨(.bin .sub (.bin .sub (.lit 0) (.bin .sub (.bin (.shl .i64) (.lit 1) (.bin .sub (.var 0) (.lit 1))) (.lit 1))) (.bin .sub (.lit 0) (.bin .fdiv (.bin .sub (.lit 0) (.var 2)) (.lit 1)))), 0, true⟩, ⟨(.bin .sub (.bin .sub (.lit 0) (.bin .fdiv (.bin .sub (.lit 0) (.var 2)) (.lit 1))) (.bin .sub (.lit 0) (.bin .sub (.bin (.shl .i64) (.lit 1) (.bin .sub (.var 0) (.lit 1))) (.lit 1)))), (-1), true⟩]
theorem dead3_no (v : Nat → Int) : ¬ ∀ f ∈ dead3, f.holds v := by
  intro h
  have h0 : ((0 - (SO.eval (.shl .i64) (1) ((v 0 - 1)) - 1)) - (0 - Int.fdiv ((0 - v 2)) (1))) ≤ 0 := h _ (.head _)
  have h1 : ((0 - Int.fdiv ((0 - v 2)) (1)) - (0 - (SO.eval (.shl .i64) (1) ((v 0 - 1)) - 1))) ≤ (-1) := h _ (.tail _ (.head _))
  clear h
  first | omega | (simp only [Int.mul_add, Int.add_mul, Int.mul_sub, Int.sub_mul, Int.mul_assoc, Int.mul_comm, Int.mul_left_comm] at *; omega) | (simp (disch := omega) only [Go.Ev.w_i64, Go.Ev.w_i32, Go.Ev.w_u64, Go.Ev.w_u32, Go.Ev.w_u8, Go.Ev.tdiv_e, Go.Ev.tmod_e, Go.Ev.fdiv_e] at *; omega) | (simp only [Int.mul_add, Int.add_mul, Int.mul_sub, Int.sub_mul, Int.mul_assoc, Int.mul_comm, Int.mul_left_comm] at *; simp (disch := omega) only [Go.Ev.w_i64, Go.Ev.w_i32, Go.Ev.w_u64, Go.Ev.w_u32, Go.Ev.w_u8, Go.Ev.tdiv_e, Go.Ev.tmod_e, Go.Ev.fdiv_e] at *; omega)
def dead4 : List Fact := [⟨(.bin .sub (.bin .sub (.lit 0) (.bin .sub (.lit 0) (.var 2))) (.bin .sub (.lit 0) (.bin .sub (.bin (.shl .i64) (.lit 1) (.bin .sub (.var 0) (.lit 1))) (.lit 1)))), (-1), false⟩, ⟨(.bin .sub (.bin .sub (.lit 0) (.bin .fdiv (.bin .sub (.lit 0) (.var 2)) (.lit 1))) (.bin .sub (.lit 0) (.bin .sub (.bin (.shl .i64) (.lit 1) (.bin .sub (.var 0) (.lit 1))) (.lit 1)))), (-1), true⟩]
theorem dead4_no (v : Nat → Int) : ¬ ∀ f ∈ dead4, f.holds v := by
  intro h
  have h0 : (-1) < ((0 - (0 - v 2)) - (0 - (SO.eval (.shl .i64) (1) ((v 0 - 1)) - 1))) := h _ (.head _)
  have h1 : ((0 - Int.fdiv ((0 - v 2)) (1)) - (0 - (SO.eval (.shl .i64) (1) ((v 0 - 1)) - 1))) ≤ (-1) := h _ (.tail _ (.head _))
  clear h
  first | omega | (simp only [Int.mul_add, Int.add_mul, Int.mul_sub, Int.sub_mul, Int.mul_assoc, Int.mul_comm, Int.mul_left_comm] at *; omega) | (simp (disch := omega) only [Go.Ev.w_i64, Go.Ev.w_i32, Go.Ev.w_u64, Go.Ev.w_u32, Go.Ev.w_u8, Go.Ev.tdiv_e, Go.Ev.tmod_e, Go.Ev.fdiv_e] at *; omega) | (simp only [Int.mul_add, Int.add_mul, Int.mul_sub, Int.sub_mul, Int.mul_assoc, Int.mul_comm, Int.mul_left_comm] at *; simp (disch := omega) only [Go.Ev.w_i64, Go.Ev.w_i32, Go.Ev.w_u64, Go.Ev.w_u32, Go.Ev.w_u8, Go.Ev.tdiv_e, Go.Ev.tmod_e, Go.Ev.fdiv_e] at *; omega)
def dead5 : List Fact := [⟨(.bin .sub (.bin .sub (.lit 0) (.bin .sub (.lit 0) (.var 2))) (.bin .sub (.lit 0) (.bin .sub (.bin (.shl .i64) (.lit 1) (.bin .sub (.var 0) (.lit 1))) (.lit 1)))), (-1), true⟩, ⟨(.bin .sub (.bin .sub (.lit 0) (.bin .fdiv (.bin .sub (.lit 0) (.var 2)) (.lit 1))) (.bin .sub (.lit 0) (.bin .sub (.bin (.shl .i64) (.lit 1) (.bin .sub (.var 0) (.lit 1))) (.lit 1)))), (-1), false⟩]
theorem dead5_no (v : Nat → Int) : ¬ ∀ f ∈ dead5, f.holds v := by
  intro h
  have h0 : ((0 - (0 - v 2)) - (0 - (SO.eval (.shl .i64) (1) ((v 0 - 1)) - 1))) ≤ (-1) := h _ (.head _)
  have h1 : (-1) < ((0 - Int.fdiv ((0 - v 2)) (1)) - (0 - (SO.eval (.shl .i64) (1) ((v 0 - 1)) - 1))) := h _ (.tail _ (.head _))
  clear h
  first | omega | (simp only [Int.mul_add, Int.add_mul, Int.mul_sub, Int.sub_mul, Int.mul_assoc, Int.mul_comm, Int.mul_left_comm] at *; omega) | (simp (disch := omega) only [Go.Ev.w_i64, Go.Ev.w_i32, Go.Ev.w_u64, Go.Ev.w_u32, Go.Ev.w_u8, Go.Ev.tdiv_e, Go.Ev.tmod_e, Go.Ev.fdiv_e] at *; omega) | (simp only [Int.mul_add, Int.add_mul, Int.mul_sub, Int.sub_mul, Int.mul_assoc, Int.mul_comm, Int.mul_left_comm] at *; simp (disch := omega) only [Go.Ev.w_i64, Go.Ev.w_i32, Go.Ev.w_u64, Go.Ev.w_u32, Go.Ev.w_u8, Go.Ev.tdiv_e, Go.Ev.tmod_e, Go.Ev.fdiv_e] at *; omega)
def dead6 : List Fact := [⟨(.bin .sub (.bin .sub (.lit 0) (.bin .fdiv (.bin .sub (.lit 0) (.var 2)) (.lit 1))) (.bin .sub (.lit 0) (.bin .sub (.lit 0) (.var 2)))), (-1), true⟩]
theorem dead6_no (v : Nat → Int) : ¬ ∀ f ∈ dead6, f.holds v := by
  intro h
  have h0 : ((0 - Int.fdiv ((0 - v 2)) (1)) - (0 - (0 - v 2))) ≤ (-1) := h _ (.head _)
  clear h
  first | omega | (simp only [Int.mul_add, Int.add_mul, Int.mul_sub, Int.sub_mul, Int.mul_assoc, Int.mul_comm, Int.mul_left_comm] at *; omega) | (simp (disch := omega) only [Go.Ev.w_i64, Go.Ev.w_i32, Go.Ev.w_u64, Go.Ev.w_u32, Go.Ev.w_u8, Go.Ev.tdiv_e, Go.Ev.tmod_e, Go.Ev.fdiv_e] at *; omega) | (simp only [Int.mul_add, Int.add_mul, Int.mul_sub, Int.sub_mul, Int.mul_assoc, Int.mul_comm, Int.mul_left_comm] at *; simp (disch := omega) only [Go.Ev.w_i64, Go.Ev.w_i32, Go.Ev.w_u64, Go.Ev.w_u32, Go.Ev.w_u8, Go.Ev.tdiv_e, Go.Ev.tmod_e, Go.Ev.fdiv_e] at *; omega)
def dead7 : List Fact := [⟨(.bin .sub (.bin .sub (.lit 0) (.bin .fdiv (.bin .sub (.lit 0) (.var 2)) (.lit 1))) (.bin .sub (.lit 0) (.bin .sub (.lit 0) (.var 2)))), 0, false⟩]
theorem dead7_no (v : Nat → Int) : ¬ ∀ f ∈ dead7, f.holds v := by
  intro h
  have h0 : 0 < ((0 - Int.fdiv ((0 - v 2)) (1)) - (0 - (0 - v 2))) := h _ (.head _)
  clear h
  first | omega | (simp only [Int.mul_add, Int.add_mul, Int.mul_sub, Int.sub_mul, Int.mul_assoc, Int.mul_comm, Int.mul_left_comm] at *; omega) | (simp (disch := omega) only [Go.Ev.w_i64, Go.Ev.w_i32, Go.Ev.w_u64, Go.Ev.w_u32, Go.Ev.w_u8, Go.Ev.tdiv_e, Go.Ev.tmod_e, Go.Ev.fdiv_e] at *; omega) | (simp only [Int.mul_add, Int.add_mul, Int.mul_sub, Int.sub_mul, Int.mul_assoc, Int.mul_comm, Int.mul_left_comm] at *; simp (disch := omega) only [Go.Ev.w_i64, Go.Ev.w_i32, Go.Ev.w_u64, Go.Ev.w_u32, Go.Ev.w_u8, Go.Ev.tdiv_e, Go.Ev.tmod_e, Go.Ev.fdiv_e] at *; omega)
def dead8 : List Fact := [⟨(.bin .sub (.bin .sub (.lit 0) (.bin .sub (.bin (.shl .i64) (.lit 1) (.bin .sub (.var 0) (.lit 1))) (.lit 1))) (.bin .sub (.lit 0) (.bin (.shr .i64) (.bin .add (.bin .sub (.lit 0) (.var 2)) (.bin (.shl .i64) (.lit 1) (.bin .sub (.var 1) (.lit 1)))) (.var 1)))), (-1), true⟩, ⟨(.bin .sub (.bin .sub (.lit 0) (.bin (.shr .i64) (.bin .add (.bin .sub (.lit 0) (.var 2)) (.bin (.shl .i64) (.lit 1) (.bin .sub (.var 1) (.lit 1)))) (.var 1))) (.bin .sub (.lit 0) (.bin .sub (.bin (.shl .i64) (.lit 1) (.bin .sub (.var 0) (.lit 1))) (.lit 1)))), (-1), false⟩, ⟨(.var 1), 0, false⟩, ⟨(.bin .sub (.bin .sub (.lit 0) (.bin .sub (.bin (.shl .i64) (.lit 1) (.bin .sub (.var 0) (.lit 1))) (.lit 1))) (.bin .sub (.lit 0) (.bin (.shr .i64) (.bin .sub (.bin .fdiv (.bin (.shl .i64) (.lit 1) (.var 1)) (.lit 2)) (.var 2)) (.var 1)))), 0, false⟩, ⟨(.bin .sub (.bin .sub (.lit 0) (.bin .sub (.bin (.shl .i64) (.lit 1) (.bin .sub (.var 0) (.lit 1))) (.lit 1))) (.bin .sub (.lit 0) (.bin (.shr .i64) (.bin .sub (.bin .fdiv (.bin (.shl .i64) (.lit 1) (.var 1)) (.lit 2)) (.var 2)) (.var 1)))), (-1), false⟩, ⟨(.bin .sub (.bin .sub (.lit 0) (.bin (.shr .i64) (.bin .sub (.bin .fdiv (.bin (.shl .i64) (.lit 1) (.var 1)) (.lit 2)) (.var 2)) (.var 1))) (.bin .sub (.lit 0) (.bin .sub (.bin (.shl .i64) (.lit 1) (.bin .sub (.var 0) (.lit 1))) (.lit 1)))), (-1), true⟩, ⟨(.var 2), (-1), true⟩, ⟨(.var 2), (-70368744177665), false⟩, ⟨(.var 2), 0, true⟩, ⟨(.var 1), 30, true⟩, ⟨(.var 1), (-1), false⟩, ⟨(.var 0), 8, true⟩, ⟨(.var 0), 1, false⟩]
theorem dead8_no (v : Nat → Int) : ¬ ∀ f ∈ dead8, f.holds v := by
  intro h
  have h0 : ((0 - (SO.eval (.shl .i64) (1) ((v 0 - 1)) - 1)) - (0 - SO.eval (.shr .i64) (((0 - v 2) + SO.eval (.shl .i64) (1) ((v 1 - 1)))) (v 1))) ≤ (-1) := h _ (.head _)
  have h1 : (-1) < ((0 - SO.eval (.shr .i64) (((0 - v 2) + SO.eval (.shl .i64) (1) ((v 1 - 1)))) (v 1)) - (0 - (SO.eval (.shl .i64) (1) ((v 0 - 1)) - 1))) := h _ (.tail _ (.head _))
  have h2 : 0 < v 1 := h _ (.tail _ (.tail _ (.head _)))
  have h3 : 0 < ((0 - (SO.eval (.shl .i64) (1) ((v 0 - 1)) - 1)) - (0 - SO.eval (.shr .i64) ((Int.fdiv (SO.eval (.shl .i64) (1) (v 1)) (2) - v 2)) (v 1))) := h _ (.tail _ (.tail _ (.tail _ (.head _))))
  have h4 : (-1) < ((0 - (SO.eval (.shl .i64) (1) ((v 0 - 1)) - 1)) - (0 - SO.eval (.shr .i64) ((Int.fdiv (SO.eval (.shl .i64) (1) (v 1)) (2) - v 2)) (v 1))) := h _ (.tail _ (.tail _ (.tail _ (.tail _ (.head _)))))
  have h5 : ((0 - SO.eval (.shr .i64) ((Int.fdiv (SO.eval (.shl .i64) (1) (v 1)) (2) - v 2)) (v 1)) - (0 - (SO.eval (.shl .i64) (1) ((v 0 - 1)) - 1))) ≤ (-1) := h _ (.tail _ (.tail _ (.tail _ (.tail _ (.tail _ (.head _))))))
  have h6 : v 2 ≤ (-1) := h _ (.tail _ (.tail _ (.tail _ (.tail _ (.tail _ (.tail _ (.head _)))))))
  have h7 : (-70368744177665) < v 2 := h _ (.tail _ (.tail _ (.tail _ (.tail _ (.tail _ (.tail _ (.tail _ (.head _))))))))
  have h8 : v 2 ≤ 0 := h _ (.tail _ (.tail _ (.tail _ (.tail _ (.tail _ (.tail _ (.tail _ (.tail _ (.head _)))))))))
  have h9 : v 1 ≤ 30 := h _ (.tail _ (.tail _ (.tail _ (.tail _ (.tail _ (.tail _ (.tail _ (.tail _ (.tail _ (.head _))))))))))
  have h10 : (-1) < v 1 := h _ (.tail _ (.tail _ (.tail _ (.tail _ (.tail _ (.tail _ (.tail _ (.tail _ (.tail _ (.tail _ (.head _)))))))))))
  have h11 : v 0 ≤ 8 := h _ (.tail _ (.tail _ (.tail _ (.tail _ (.tail _ (.tail _ (.tail _ (.tail _ (.tail _ (.tail _ (.tail _ (.head _))))))))))))
  have h12 : 1 < v 0 := h _ (.tail _ (.tail _ (.tail _ (.tail _ (.tail _ (.tail _ (.tail _ (.tail _ (.tail _ (.tail _ (.tail _ (.tail _ (.head _)))))))))))))
  clear h
  have hv : v 1 = 0 ∨ v 1 = 1 ∨ v 1 = 2 ∨ v 1 = 3 ∨ v 1 = 4 ∨ v 1 = 5 ∨ v 1 = 6 ∨ v 1 = 7 ∨ v 1 = 8 ∨ v 1 = 9 ∨ v 1 = 10 ∨ v 1 = 11 ∨ v 1 = 12 ∨ v 1 = 13 ∨ v 1 = 14 ∨ v 1 = 15 ∨ v 1 = 16 ∨ v 1 = 17 ∨ v 1 = 18 ∨ v 1 = 19 ∨ v 1 = 20 ∨ v 1 = 21 ∨ v 1 = 22 ∨ v 1 = 23 ∨ v 1 = 24 ∨ v 1 = 25 ∨ v 1 = 26 ∨ v 1 = 27 ∨ v 1 = 28 ∨ v 1 = 29 ∨ v 1 = 30 := by omega
  rcases hv with e | e | e | e | e | e | e | e | e | e | e | e | e | e | e | e | e | e | e | e | e | e | e | e | e | e | e | e | e | e | e
  · try simp only [e, Int.reduceSub, shr0, shl0] at *
    try simp (disch := omega) only [Go.Ev.fdiv_e] at *
    omega
  · try simp only [e, Int.reduceSub, shr1, shl1, shr0, shl0] at *
    try simp (disch := omega) only [Go.Ev.fdiv_e] at *
    omega
  · try simp only [e, Int.reduceSub, shr2, shl2, shr1, shl1] at *
    try simp (disch := omega) only [Go.Ev.fdiv_e] at *
    omega
  · try simp only [e, Int.reduceSub, shr3, shl3, shr2, shl2] at *
    try simp (disch := omega) only [Go.Ev.fdiv_e] at *
    omega
  · try simp only [e, Int.reduceSub, shr4, shl4, shr3, shl3] at *
    try simp (disch := omega) only [Go.Ev.fdiv_e] at *
    omega
  · try simp only [e, Int.reduceSub, shr5, shl5, shr4, shl4] at *
    try simp (disch := omega) only [Go.Ev.fdiv_e] at *
    omega
  · try simp only [e, Int.reduceSub, shr6, shl6, shr5, shl5] at *
    try simp (disch := omega) only [Go.Ev.fdiv_e] at *
    omega
  · try simp only [e, Int.reduceSub, shr7, shl7, shr6, shl6] at *
    try simp (disch := omega) only [Go.Ev.fdiv_e] at *
    omega
  · try simp only [e, Int.reduceSub, shr8, shl8, shr7, shl7] at *
    try simp (disch := omega) only [Go.Ev.fdiv_e] at *
    omega
  · try simp only [e, Int.reduceSub, shr9, shl9, shr8, shl8] at *
    try simp (disch := omega) only [Go.Ev.fdiv_e] at *
    omega
  · try simp only [e, Int.reduceSub, shr10, shl10, shr9, shl9] at *
    try simp (disch := omega) only [Go.Ev.fdiv_e] at *
    omega
  · try simp only [e, Int.reduceSub, shr11, shl11, shr10, shl10] at *
    try simp (disch := omega) only [Go.Ev.fdiv_e] at *
    omega
  · try simp only [e, Int.reduceSub, shr12, shl12, shr11, shl11] at *
    try simp (disch := omega) only [Go.Ev.fdiv_e] at *
    omega
  · try simp only [e, Int.reduceSub, shr13, shl13, shr12, shl12] at *
    try simp (disch := omega) only [Go.Ev.fdiv_e] at *
    omega
  · try simp only [e, Int.reduceSub, shr14, shl14, shr13, shl13] at *
    try simp (disch := omega) only [Go.Ev.fdiv_e] at *
    omega
  · try simp only [e, Int.reduceSub, shr15, shl15, shr14, shl14] at *
    try simp (disch := omega) only [Go.Ev.fdiv_e] at *
    omega
  · try simp only [e, Int.reduceSub, shr16, shl16, shr15, shl15] at *
    try simp (disch := omega) only [Go.Ev.fdiv_e] at *
    omega
  · try simp only [e, Int.reduceSub, shr17, shl17, shr16, shl16] at *
    try simp (disch := omega) only [Go.Ev.fdiv_e] at *
    omega
  · try simp only [e, Int.reduceSub, shr18, shl18, shr17, shl17] at *
    try simp (disch := omega) only [Go.Ev.fdiv_e] at *
    omega
  · try simp only [e, Int.reduceSub, shr19, shl19, shr18, shl18] at *
    try simp (disch := omega) only [Go.Ev.fdiv_e] at *
    omega
  · try simp only [e, Int.reduceSub, shr20, shl20, shr19, shl19] at *
    try simp (disch := omega) only [Go.Ev.fdiv_e] at *
    omega
  · try simp only [e, Int.reduceSub, shr21, shl21, shr20, shl20] at *
    try simp (disch := omega) only [Go.Ev.fdiv_e] at *
    omega
  · try simp only [e, Int.reduceSub, shr22, shl22, shr21, shl21] at *
    try simp (disch := omega) only [Go.Ev.fdiv_e] at *
    omega
  · try simp only [e, Int.reduceSub, shr23, shl23, shr22, shl22] at *
    try simp (disch := omega) only [Go.Ev.fdiv_e] at *
    omega
  · try simp only [e, Int.reduceSub, shr24, shl24, shr23, shl23] at *
    try simp (disch := omega) only [Go.Ev.fdiv_e] at *
    omega
  · try simp only [e, Int.reduceSub, shr25, shl25, shr24, shl24] at *
    try simp (disch := omega) only [Go.Ev.fdiv_e] at *
    omega
  · try simp only [e, Int.reduceSub, shr26, shl26, shr25, shl25] at *
    try simp (disch := omega) only [Go.Ev.fdiv_e] at *
    omega
  · try simp only [e, Int.reduceSub, shr27, shl27, shr26, shl26] at *
    try simp (disch := omega) only [Go.Ev.fdiv_e] at *
    omega
  · try simp only [e, Int.reduceSub, shr28, shl28, shr27, shl27] at *
    try simp (disch := omega) only [Go.Ev.fdiv_e] at *
    omega
  · try simp only [e, Int.reduceSub, shr29, shl29, shr28, shl28] at *
    try simp (disch := omega) only [Go.Ev.fdiv_e] at *
    omega
  · try simp only [e, Int.reduceSub, shr30, shl30, shr29, shl29] at *
    try simp (disch := omega) only [Go.Ev.fdiv_e] at *
    omega
def dead9 : List Fact := [⟨(.bin .sub (.bin .sub (.lit 0) (.bin .sub (.bin (.shl .i64) (.lit 1) (.bin .sub (.var 0) (.lit 1))) (.lit 1))) (.bin .sub (.lit 0) (.bin (.shr .i64) (.bin .add (.bin .sub (.lit 0) (.var 2)) (.bin (.shl .i64) (.lit 1) (.bin .sub (.var 1) (.lit 1)))) (.var 1)))), 0, true⟩, ⟨(.bin .sub (.bin .sub (.lit 0) (.bin .sub (.bin (.shl .i64) (.lit 1) (.bin .sub (.var 0) (.lit 1))) (.lit 1))) (.bin .sub (.lit 0) (.bin (.shr .i64) (.bin .add (.bin .sub (.lit 0) (.var 2)) (.bin (.shl .i64) (.lit 1) (.bin .sub (.var 1) (.lit 1)))) (.var 1)))), (-1), false⟩, ⟨(.bin .sub (.bin .sub (.lit 0) (.bin (.shr .i64) (.bin .add (.bin .sub (.lit 0) (.var 2)) (.bin (.shl .i64) (.lit 1) (.bin .sub (.var 1) (.lit 1)))) (.var 1))) (.bin .sub (.lit 0) (.bin .sub (.bin (.shl .i64) (.lit 1) (.bin .sub (.var 0) (.lit 1))) (.lit 1)))), (-1), false⟩, ⟨(.var 1), 0, false⟩, ⟨(.bin .sub (.bin .sub (.lit 0) (.bin .sub (.bin (.shl .i64) (.lit 1) (.bin .sub (.var 0) (.lit 1))) (.lit 1))) (.bin .sub (.lit 0) (.bin (.shr .i64) (.bin .sub (.bin .fdiv (.bin (.shl .i64) (.lit 1) (.var 1)) (.lit 2)) (.var 2)) (.var 1)))), 0, false⟩, ⟨(.bin .sub (.bin .sub (.lit 0) (.bin .sub (.bin (.shl .i64) (.lit 1) (.bin .sub (.var 0) (.lit 1))) (.lit 1))) (.bin .sub (.lit 0) (.bin (.shr .i64) (.bin .sub (.bin .fdiv (.bin (.shl .i64) (.lit 1) (.var 1)) (.lit 2)) (.var 2)) (.var 1)))), (-1), false⟩, ⟨(.bin .sub (.bin .sub (.lit 0) (.bin (.shr .i64) (.bin .sub (.bin .fdiv (.bin (.shl .i64) (.lit 1) (.var 1)) (.lit 2)) (.var 2)) (.var 1))) (.bin .sub (.lit 0) (.bin .sub (.bin (.shl .i64) (.lit 1) (.bin .sub (.var 0) (.lit 1))) (.lit 1)))), (-1), true⟩, ⟨(.var 2), (-1), true⟩, ⟨(.var 2), (-70368744177665), false⟩, ⟨(.var 2), 0, true⟩, ⟨(.var 1), 30, true⟩, ⟨(.var 1), (-1), false⟩, ⟨(.var 0), 8, true⟩, ⟨(.var 0), 1, false⟩]
theorem dead9_no (v : Nat → Int) : ¬ ∀ f ∈ dead9, f.holds v := by
  intro h
  have h0 : ((0 - (SO.eval (.shl .i64) (1) ((v 0 - 1)) - 1)) - (0 - SO.eval (.shr .i64) (((0 - v 2) + SO.eval (.shl .i64) (1) ((v 1 - 1)))) (v 1))) ≤ 0 := h _ (.head _)
  have h1 : (-1) < ((0 - (SO.eval (.shl .i64) (1) ((v 0 - 1)) - 1)) - (0 - SO.eval (.shr .i64) (((0 - v 2) + SO.eval (.shl .i64) (1) ((v 1 - 1)))) (v 1))) := h _ (.tail _ (.head _))
  have h2 : (-1) < ((0 - SO.eval (.shr .i64) (((0 - v 2) + SO.eval (.shl .i64) (1) ((v 1 - 1)))) (v 1)) - (0 - (SO.eval (.shl .i64) (1) ((v 0 - 1)) - 1))) := h _ (.tail _ (.tail _ (.head _)))
  have h3 : 0 < v 1 := h _ (.tail _ (.tail _ (.tail _ (.head _))))
  have h4 : 0 < ((0 - (SO.eval (.shl .i64) (1) ((v 0 - 1)) - 1)) - (0 - SO.eval (.shr .i64) ((Int.fdiv (SO.eval (.shl .i64) (1) (v 1)) (2) - v 2)) (v 1))) := h _ (.tail _ (.tail _ (.tail _ (.tail _ (.head _)))))
  have h5 : (-1) < ((0 - (SO.eval (.shl .i64) (1) ((v 0 - 1)) - 1)) - (0 - SO.eval (.shr .i64) ((Int.fdiv (SO.eval (.shl .i64) (1) (v 1)) (2) - v 2)) (v 1))) := h _ (.tail _ (.tail _ (.tail _ (.tail _ (.tail _ (.head _))))))
  have h6 : ((0 - SO.eval (.shr .i64) ((Int.fdiv (SO.eval (.shl .i64) (1) (v 1)) (2) - v 2)) (v 1)) - (0 - (SO.eval (.shl .i64) (1) ((v 0 - 1)) - 1))) ≤ (-1) := h _ (.tail _ (.tail _ (.tail _ (.tail _ (.tail _ (.tail _ (.head _)))))))
  have h7 : v 2 ≤ (-1) := h _ (.tail _ (.tail _ (.tail _ (.tail _ (.tail _ (.tail _ (.tail _ (.head _))))))))
  have h8 : (-70368744177665) < v 2 := h _ (.tail _ (.tail _ (.tail _ (.tail _ (.tail _ (.tail _ (.tail _ (.tail _ (.head _)))))))))
  have h9 : v 2 ≤ 0 := h _ (.tail _ (.tail _ (.tail _ (.tail _ (.tail _ (.tail _ (.tail _ (.tail _ (.tail _ (.head _))))))))))
  have h10 : v 1 ≤ 30 := h _ (.tail _ (.tail _ (.tail _ (.tail _ (.tail _ (.tail _ (.tail _ (.tail _ (.tail _ (.tail _ (.head _)))))))))))
  have h11 : (-1) < v 1 := h _ (.tail _ (.tail _ (.tail _ (.tail _ (.tail _ (.tail _ (.tail _ (.tail _ (.tail _ (.tail _ (.tail _ (.head _))))))))))))
  have h12 : v 0 ≤ 8 := h _ (.tail _ (.tail _ (.tail _ (.tail _ (.tail _ (.tail _ (.tail _ (.tail _ (.tail _ (.tail _ (.tail _ (.tail _ (.head _)))))))))))))
  have h13 : 1 < v 0 := h _ (.tail _ (.tail _ (.tail _ (.tail _ (.tail _ (.tail _ (.tail _ (.tail _ (.tail _ (.tail _ (.tail _ (.tail _ (.tail _ (.head _))))))))))))))
  clear h
  have hv : v 1 = 0 ∨ v 1 = 1 ∨ v 1 = 2 ∨ v 1 = 3 ∨ v 1 = 4 ∨ v 1 = 5 ∨ v 1 = 6 ∨ v 1 = 7 ∨ v 1 = 8 ∨ v 1 = 9 ∨ v 1 = 10 ∨ v 1 = 11 ∨ v 1 = 12 ∨ v 1 = 13 ∨ v 1 = 14 ∨ v 1 = 15 ∨ v 1 = 16 ∨ v 1 = 17 ∨ v 1 = 18 ∨ v 1 = 19 ∨ v 1 = 20 ∨ v 1 = 21 ∨ v 1 = 22 ∨ v 1 = 23 ∨ v 1 = 24 ∨ v 1 = 25 ∨ v 1 = 26 ∨ v 1 = 27 ∨ v 1 = 28 ∨ v 1 = 29 ∨ v 1 = 30 := by omega
  rcases hv with e | e | e | e | e | e | e | e | e | e | e | e | e | e | e | e | e | e | e | e | e | e | e | e | e | e | e | e | e | e | e
  · try simp only [e, Int.reduceSub, shr0, shl0] at *
    try simp (disch := omega) only [Go.Ev.fdiv_e] at *
    omega
  · try simp only [e, Int.reduceSub, shr1, shl1, shr0, shl0] at *
    try simp (disch := omega) only [Go.Ev.fdiv_e] at *
    omega
  · try simp only [e, Int.reduceSub, shr2, shl2, shr1, shl1] at *
    try simp (disch := omega) only [Go.Ev.fdiv_e] at *
    omega
  · try simp only [e, Int.reduceSub, shr3, shl3, shr2, shl2] at *
    try simp (disch := omega) only [Go.Ev.fdiv_e] at *
    omega
  · try simp only [e, Int.reduceSub, shr4, shl4, shr3, shl3] at *
    try simp (disch := omega) only [Go.Ev.fdiv_e] at *
    omega
  · try simp only [e, Int.reduceSub, shr5, shl5, shr4, shl4] at *
    try simp (disch := omega) only [Go.Ev.fdiv_e] at *
    omega
  · try simp only [e, Int.reduceSub, shr6, shl6, shr5, shl5] at *
    try simp (disch := omega) only [Go.Ev.fdiv_e] at *
    omega
  · try simp only [e, Int.reduceSub, shr7, shl7, shr6, shl6] at *
    try simp (disch := omega) only [Go.Ev.fdiv_e] at *
    omega
  · try simp only [e, Int.reduceSub, shr8, shl8, shr7, shl7] at *
    try simp (disch := omega) only [Go.Ev.fdiv_e] at *
    omega
  · try simp only [e, Int.reduceSub, shr9, shl9, shr8, shl8] at *
    try simp (disch := omega) only [Go.Ev.fdiv_e] at *
    omega
  · try simp only [e, Int.reduceSub, shr10, shl10, shr9, shl9] at *
    try simp (disch := omega) only [Go.Ev.fdiv_e] at *
    omega
  · try simp only [e, Int.reduceSub, shr11, shl11, shr10, shl10] at *
    try simp (disch := omega) only [Go.Ev.fdiv_e] at *
    omega
  · try simp only [e, Int.reduceSub, shr12, shl12, shr11, shl11] at *
    try simp (disch := omega) only [Go.Ev.fdiv_e] at *
    omega
  · try simp only [e, Int.reduceSub, shr13, shl13, shr12, shl12] at *
    try simp (disch := omega) only [Go.Ev.fdiv_e] at *
    omega
  · try simp only [e, Int.reduceSub, shr14, shl14, shr13, shl13] at *
    try simp (disch := omega) only [Go.Ev.fdiv_e] at *
    omega
  · try simp only [e, Int.reduceSub, shr15, shl15, shr14, shl14] at *
    try simp (disch := omega) only [Go.Ev.fdiv_e] at *
    omega
  · try simp only [e, Int.reduceSub, shr16, shl16, shr15, shl15] at *
    try simp (disch := omega) only [Go.Ev.fdiv_e] at *
    omega
  · try simp only [e, Int.reduceSub, shr17, shl17, shr16, shl16] at *
    try simp (disch := omega) only [Go.Ev.fdiv_e] at *
    omega
  · try simp only [e, Int.reduceSub, shr18, shl18, shr17, shl17] at *
    try simp (disch := omega) only [Go.Ev.fdiv_e] at *
    omega
  · try simp only [e, Int.reduceSub, shr19, shl19, shr18, shl18] at *
    try simp (disch := omega) only [Go.Ev.fdiv_e] at *
    omega
  · try simp only [e, Int.reduceSub, shr20, shl20, shr19, shl19] at *
    try simp (disch := omega) only [Go.Ev.fdiv_e] at *
    omega
  · try simp only [e, Int.reduceSub, shr21, shl21, shr20, shl20] at *
    try simp (disch := omega) only [Go.Ev.fdiv_e] at *
    omega
  · try simp only [e, Int.reduceSub, shr22, shl22, shr21, shl21] at *
    try simp (disch := omega) only [Go.Ev.fdiv_e] at *
    omega
  · try simp only [e, Int.reduceSub, shr23, shl23, shr22, shl22] at *
    try simp (disch := omega) only [Go.Ev.fdiv_e] at *
    omega
  · try simp only [e, Int.reduceSub, shr24, shl24, shr23, shl23] at *
    try simp (disch := omega) only [Go.Ev.fdiv_e] at *
    omega
  · try simp only [e, Int.reduceSub, shr25, shl25, shr24, shl24] at *
    try simp (disch := omega) only [Go.Ev.fdiv_e] at *
    omega
  · try simp only [e, Int.reduceSub, shr26, shl26, shr25, shl25] at *
    try simp (disch := omega) only [Go.Ev.fdiv_e] at *
    omega
  · try simp only [e, Int.reduceSub, shr27, shl27, shr26, shl26] at *
    try simp (disch := omega) only [Go.Ev.fdiv_e] at *
    omega
  · try simp only [e, Int.reduceSub, shr28, shl28, shr27, shl27] at *
    try simp (disch := omega) only [Go.Ev.fdiv_e] at *
    omega
  · try simp only [e, Int.reduceSub, shr29, shl29, shr28, shl28] at *
    try simp (disch := omega) only [Go.Ev.fdiv_e] at *
    omega
  · try simp only [e, Int.reduceSub, shr30, shl30, shr29, shl29] at *
    try simp (disch := omega) only [Go.Ev.fdiv_e] at *
    omega
def dead10 : List Fact := [⟨(.bin .sub (.bin .sub (.lit 0) (.bin .sub (.bin (.shl .i64) (.lit 1) (.bin .sub (.var 0) (.lit 1))) (.lit 1))) (.bin .sub (.lit 0) (.bin (.shr .i64) (.bin .add (.bin .sub (.lit 0) (.var 2)) (.bin (.shl .i64) (.lit 1) (.bin .sub (.var 1) (.lit 1)))) (.var 1)))), 0, false⟩, ⟨(.bin .sub (.bin .sub (.lit 0) (.bin (.shr .i64) (.bin .add (.bin .sub (.lit 0) (.var 2)) (.bin (.shl .i64) (.lit 1) (.bin .sub (.var 1) (.lit 1)))) (.var 1))) (.bin .sub (.lit 0) (.bin .sub (.bin (.shl .i64) (.lit 1) (.bin .sub (.var 0) (.lit 1))) (.lit 1)))), (-1), false⟩]
theorem dead10_no (v : Nat → Int) : ¬ ∀ f ∈ dead10, f.holds v := by
  intro h
  have h0 : 0 < ((0 - (SO.eval (.shl .i64) (1) ((v 0 - 1)) - 1)) - (0 - SO.eval (.shr .i64) (((0 - v 2) + SO.eval (.shl .i64) (1) ((v 1 - 1)))) (v 1))) := h _ (.head _)
  have h1 : (-1) < ((0 - SO.eval (.shr .i64) (((0 - v 2) + SO.eval (.shl .i64) (1) ((v 1 - 1)))) (v 1)) - (0 - (SO.eval (.shl .i64) (1) ((v 0 - 1)) - 1))) := h _ (.tail _ (.head _))
  clear h
  first | omega | (simp only [Int.mul_add, Int.add_mul, Int.mul_sub, Int.sub_mul, Int.mul_assoc, Int.mul_comm, Int.mul_left_comm] at *; omega) | (simp (disch := omega) only [Go.Ev.w_i64, Go.Ev.w_i32, Go.Ev.w_u64, Go.Ev.w_u32, Go.Ev.w_u8, Go.Ev.tdiv_e, Go.Ev.tmod_e, Go.Ev.fdiv_e] at *; omega) | (simp only [Int.mul_add, Int.add_mul, Int.mul_sub, Int.sub_mul, Int.mul_assoc, Int.mul_comm, Int.mul_left_comm] at *; simp (disch := omega) only [Go.Ev.w_i64, Go.Ev.w_i32, Go.Ev.w_u64, Go.Ev.w_u32, Go.Ev.w_u8, Go.Ev.tdiv_e, Go.Ev.tmod_e, Go.Ev.fdiv_e] at *; omega)
def dead11 : List Fact := [⟨(.bin .sub (.bin .sub (.lit 0) (.bin (.shr .i64) (.bin .sub (.bin .fdiv (.bin (.shl .i64) (.lit 1) (.var 1)) (.lit 2)) (.var 2)) (.var 1))) (.bin .sub (.lit 0) (.bin .sub (.bin (.shl .i64) (.lit 1) (.bin .sub (.var 0) (.lit 1))) (.lit 1)))), 0, true⟩, ⟨(.bin .sub (.bin .sub (.lit 0) (.bin (.shr .i64) (.bin .add (.bin .sub (.lit 0) (.var 2)) (.bin (.shl .i64) (.lit 1) (.bin .sub (.var 1) (.lit 1)))) (.var 1))) (.bin .sub (.lit 0) (.bin .sub (.bin (.shl .i64) (.lit 1) (.bin .sub (.var 0) (.lit 1))) (.lit 1)))), (-1), true⟩, ⟨(.var 1), 0, false⟩, ⟨(.bin .sub (.bin .sub (.lit 0) (.bin (.shr .i64) (.bin .sub (.bin .fdiv (.bin (.shl .i64) (.lit 1) (.var 1)) (.lit 2)) (.var 2)) (.var 1))) (.bin .sub (.lit 0) (.bin .sub (.bin (.shl .i64) (.lit 1) (.bin .sub (.var 0) (.lit 1))) (.lit 1)))), (-1), false⟩, ⟨(.var 2), (-1), true⟩, ⟨(.var 2), (-70368744177665), false⟩, ⟨(.var 2), 0, true⟩, ⟨(.var 1), 30, true⟩, ⟨(.var 1), (-1), false⟩, ⟨(.var 0), 8, true⟩, ⟨(.var 0), 1, false⟩]
theorem dead11_no (v : Nat → Int) : ¬ ∀ f ∈ dead11, f.holds v := by
  intro h
  have h0 : ((0 - SO.eval (.shr .i64) ((Int.fdiv (SO.eval (.shl .i64) (1) (v 1)) (2) - v 2)) (v 1)) - (0 - (SO.eval (.shl .i64) (1) ((v 0 - 1)) - 1))) ≤ 0 := h _ (.head _)
  have h1 : ((0 - SO.eval (.shr .i64) (((0 - v 2) + SO.eval (.shl .i64) (1) ((v 1 - 1)))) (v 1)) - (0 - (SO.eval (.shl .i64) (1) ((v 0 - 1)) - 1))) ≤ (-1) := h _ (.tail _ (.head _))
  have h2 : 0 < v 1 := h _ (.tail _ (.tail _ (.head _)))
  have h3 : (-1) < ((0 - SO.eval (.shr .i64) ((Int.fdiv (SO.eval (.shl .i64) (1) (v 1)) (2) - v 2)) (v 1)) - (0 - (SO.eval (.shl .i64) (1) ((v 0 - 1)) - 1))) := h _ (.tail _ (.tail _ (.tail _ (.head _))))
  have h4 : v 2 ≤ (-1) := h _ (.tail _ (.tail _ (.tail _ (.tail _ (.head _)))))
  have h5 : (-70368744177665) < v 2 := h _ (.tail _ (.tail _ (.tail _ (.tail _ (.tail _ (.head _))))))
  have h6 : v 2 ≤ 0 := h _ (.tail _ (.tail _ (.tail _ (.tail _ (.tail _ (.tail _ (.head _)))))))
  have h7 : v 1 ≤ 30 := h _ (.tail _ (.tail _ (.tail _ (.tail _ (.tail _ (.tail _ (.tail _ (.head _))))))))
  have h8 : (-1) < v 1 := h _ (.tail _ (.tail _ (.tail _ (.tail _ (.tail _ (.tail _ (.tail _ (.tail _ (.head _)))))))))
  have h9 : v 0 ≤ 8 := h _ (.tail _ (.tail _ (.tail _ (.tail _ (.tail _ (.tail _ (.tail _ (.tail _ (.tail _ (.head _))))))))))
  have h10 : 1 < v 0 := h _ (.tail _ (.tail _ (.tail _ (.tail _ (.tail _ (.tail _ (.tail _ (.tail _ (.tail _ (.tail _ (.head _)))))))))))
  clear h
  have hv : v 1 = 0 ∨ v 1 = 1 ∨ v 1 = 2 ∨ v 1 = 3 ∨ v 1 = 4 ∨ v 1 = 5 ∨ v 1 = 6 ∨ v 1 = 7 ∨ v 1 = 8 ∨ v 1 = 9 ∨ v 1 = 10 ∨ v 1 = 11 ∨ v 1 = 12 ∨ v 1 = 13 ∨ v 1 = 14 ∨ v 1 = 15 ∨ v 1 = 16 ∨ v 1 = 17 ∨ v 1 = 18 ∨ v 1 = 19 ∨ v 1 = 20 ∨ v 1 = 21 ∨ v 1 = 22 ∨ v 1 = 23 ∨ v 1 = 24 ∨ v 1 = 25 ∨ v 1 = 26 ∨ v 1 = 27 ∨ v 1 = 28 ∨ v 1 = 29 ∨ v 1 = 30 := by omega
  rcases hv with e | e | e | e | e | e | e | e | e | e | e | e | e | e | e | e | e | e | e | e | e | e | e | e | e | e | e | e | e | e | e
  · try simp only [e, Int.reduceSub, shr0, shl0] at *
    try simp (disch := omega) only [Go.Ev.fdiv_e] at *
    omega
  · try simp only [e, Int.reduceSub, shr1, shl1, shr0, shl0] at *
    try simp (disch := omega) only [Go.Ev.fdiv_e] at *
    omega
  · try simp only [e, Int.reduceSub, shr2, shl2, shr1, shl1] at *
    try simp (disch := omega) only [Go.Ev.fdiv_e] at *
    omega
  · try simp only [e, Int.reduceSub, shr3, shl3, shr2, shl2] at *
    try simp (disch := omega) only [Go.Ev.fdiv_e] at *
    omega
  · try simp only [e, Int.reduceSub, shr4, shl4, shr3, shl3] at *
    try simp (disch := omega) only [Go.Ev.fdiv_e] at *
    omega
  · try simp only [e, Int.reduceSub, shr5, shl5, shr4, shl4] at *
    try simp (disch := omega) only [Go.Ev.fdiv_e] at *
    omega
  · try simp only [e, Int.reduceSub, shr6, shl6, shr5, shl5] at *
    try simp (disch := omega) only [Go.Ev.fdiv_e] at *
    omega
  · try simp only [e, Int.reduceSub, shr7, shl7, shr6, shl6] at *
    try simp (disch := omega) only [Go.Ev.fdiv_e] at *
    omega
  · try simp only [e, Int.reduceSub, shr8, shl8, shr7, shl7] at *
    try simp (disch := omega) only [Go.Ev.fdiv_e] at *
    omega
  · try simp only [e, Int.reduceSub, shr9, shl9, shr8, shl8] at *
    try simp (disch := omega) only [Go.Ev.fdiv_e] at *
    omega
  · try simp only [e, Int.reduceSub, shr10, shl10, shr9, shl9] at *
    try simp (disch := omega) only [Go.Ev.fdiv_e] at *
    omega
  · try simp only [e, Int.reduceSub, shr11, shl11, shr10, shl10] at *
    try simp (disch := omega) only [Go.Ev.fdiv_e] at *
    omega
  · try simp only [e, Int.reduceSub, shr12, shl12, shr11, shl11] at *
    try simp (disch := omega) only [Go.Ev.fdiv_e] at *
    omega
  · try simp only [e, Int.reduceSub, shr13, shl13, shr12, shl12] at *
    try simp (disch := omega) only [Go.Ev.fdiv_e] at *
    omega
  · try simp only [e, Int.reduceSub, shr14, shl14, shr13, shl13] at *
    try simp (disch := omega) only [Go.Ev.fdiv_e] at *
    omega
  · try simp only [e, Int.reduceSub, shr15, shl15, shr14, shl14] at *
    try simp (disch := omega) only [Go.Ev.fdiv_e] at *
    omega
  · try simp only [e, Int.reduceSub, shr16, shl16, shr15, shl15] at *
    try simp (disch := omega) only [Go.Ev.fdiv_e] at *
    omega
  · try simp only [e, Int.reduceSub, shr17, shl17, shr16, shl16] at *
    try simp (disch := omega) only [Go.Ev.fdiv_e] at *
    omega
  · try simp only [e, Int.reduceSub, shr18, shl18, shr17, shl17] at *
    try simp (disch := omega) only [Go.Ev.fdiv_e] at *
    omega
  · try simp only [e, Int.reduceSub, shr19, shl19, shr18, shl18] at *
    try simp (disch := omega) only [Go.Ev.fdiv_e] at *
    omega
  · try simp only [e, Int.reduceSub, shr20, shl20, shr19, shl19] at *
    try simp (disch := omega) only [Go.Ev.fdiv_e] at *
    omega
  · try simp only [e, Int.reduceSub, shr21, shl21, shr20, shl20] at *
    try simp (disch := omega) only [Go.Ev.fdiv_e] at *
    omega
  · try simp only [e, Int.reduceSub, shr22, shl22, shr21, shl21] at *
    try simp (disch := omega) only [Go.Ev.fdiv_e] at *
    omega
  · try simp only [e, Int.reduceSub, shr23, shl23, shr22, shl22] at *
    try simp (disch := omega) only [Go.Ev.fdiv_e] at *
    omega
  · try simp only [e, Int.reduceSub, shr24, shl24, shr23, shl23] at *
    try simp (disch := omega) only [Go.Ev.fdiv_e] at *
    omega
  · try simp only [e, Int.reduceSub, shr25, shl25, shr24, shl24] at *
    try simp (disch := omega) only [Go.Ev.fdiv_e] at *
    omega
  · try simp only [e, Int.reduceSub, shr26, shl26, shr25, shl25] at *
    try simp (disch := omega) only [Go.Ev.fdiv_e] at *
    omega
  · try simp only [e, Int.reduceSub, shr27, shl27, shr26, shl26] at *
    try simp (disch := omega) only [Go.Ev.fdiv_e] at *
    omega
  · try simp only [e, Int.reduceSub, shr28, shl28, shr27, shl27] at *
    try simp (disch := omega) only [Go.Ev.fdiv_e] at *
    omega
  · try simp only [e, Int.reduceSub, shr29, shl29, shr28, shl28] at *
    try simp (disch := omega) only [Go.Ev.fdiv_e] at *
    omega
  · try simp only [e, Int.reduceSub, shr30, shl30, shr29, shl29] at *
    try simp (disch := omega) only [Go.Ev.fdiv_e] at *
    omega
def dead12 : List Fact := [⟨(.bin .sub (.bin .sub (.lit 0) (.bin (.shr .i64) (.bin .sub (.bin .fdiv (.bin (.shl .i64) (.lit 1) (.var 1)) (.lit 2)) (.var 2)) (.var 1))) (.bin .sub (.lit 0) (.bin .sub (.bin (.shl .i64) (.lit 1) (.bin .sub (.var 0) (.lit 1))) (.lit 1)))), 0, false⟩, ⟨(.bin .sub (.bin .sub (.lit 0) (.bin (.shr .i64) (.bin .add (.bin .sub (.lit 0) (.var 2)) (.bin (.shl .i64) (.lit 1) (.bin .sub (.var 1) (.lit 1)))) (.var 1))) (.bin .sub (.lit 0) (.bin .sub (.bin (.shl .i64) (.lit 1) (.bin .sub (.var 0) (.lit 1))) (.lit 1)))), (-1), true⟩, ⟨(.var 1), 0, false⟩, ⟨(.bin .sub (.bin .sub (.lit 0) (.bin (.shr .i64) (.bin .sub (.bin .fdiv (.bin (.shl .i64) (.lit 1) (.var 1)) (.lit 2)) (.var 2)) (.var 1))) (.bin .sub (.lit 0) (.bin .sub (.bin (.shl .i64) (.lit 1) (.bin .sub (.var 0) (.lit 1))) (.lit 1)))), (-1), false⟩, ⟨(.var 2), (-1), true⟩, ⟨(.var 2), (-70368744177665), false⟩, ⟨(.var 2), 0, true⟩, ⟨(.var 1), 30, true⟩, ⟨(.var 1), (-1), false⟩, ⟨(.var 0), 8, true⟩, ⟨(.var 0), 1, false⟩]
theorem dead12_no (v : Nat → Int) : ¬ ∀ f ∈ dead12, f.holds v := by
  intro h
  have h0 : 0 < ((0 - SO.eval (.shr .i64) ((Int.fdiv (SO.eval (.shl .i64) (1) (v 1)) (2) - v 2)) (v 1)) - (0 - (SO.eval (.shl .i64) (1) ((v 0 - 1)) - 1))) := h _ (.head _)
  have h1 : ((0 - SO.eval (.shr .i64) (((0 - v 2) + SO.eval (.shl .i64) (1) ((v 1 - 1)))) (v 1)) - (0 - (SO.eval (.shl .i64) (1) ((v 0 - 1)) - 1))) ≤ (-1) := h _ (.tail _ (.head _))
  have h2 : 0 < v 1 := h _ (.tail _ (.tail _ (.head _)))
  have h3 : (-1) < ((0 - SO.eval (.shr .i64) ((Int.fdiv (SO.eval (.shl .i64) (1) (v 1)) (2) - v 2)) (v 1)) - (0 - (SO.eval (.shl .i64) (1) ((v 0 - 1)) - 1))) := h _ (.tail _ (.tail _ (.tail _ (.head _))))
  have h4 : v 2 ≤ (-1) := h _ (.tail _ (.tail _ (.tail _ (.tail _ (.head _)))))
  have h5 : (-70368744177665) < v 2 := h _ (.tail _ (.tail _ (.tail _ (.tail _ (.tail _ (.head _))))))
  have h6 : v 2 ≤ 0 := h _ (.tail _ (.tail _ (.tail _ (.tail _ (.tail _ (.tail _ (.head _)))))))
  have h7 : v 1 ≤ 30 := h _ (.tail _ (.tail _ (.tail _ (.tail _ (.tail _ (.tail _ (.tail _ (.head _))))))))
  have h8 : (-1) < v 1 := h _ (.tail _ (.tail _ (.tail _ (.tail _ (.tail _ (.tail _ (.tail _ (.tail _ (.head _)))))))))
  have h9 : v 0 ≤ 8 := h _ (.tail _ (.tail _ (.tail _ (.tail _ (.tail _ (.tail _ (.tail _ (.tail _ (.tail _ (.head _))))))))))
  have h10 : 1 < v 0 := h _ (.tail _ (.tail _ (.tail _ (.tail _ (.tail _ (.tail _ (.tail _ (.tail _ (.tail _ (.tail _ (.head _)))))))))))
  clear h
  have hv : v 1 = 0 ∨ v 1 = 1 ∨ v 1 = 2 ∨ v 1 = 3 ∨ v 1 = 4 ∨ v 1 = 5 ∨ v 1 = 6 ∨ v 1 = 7 ∨ v 1 = 8 ∨ v 1 = 9 ∨ v 1 = 10 ∨ v 1 = 11 ∨ v 1 = 12 ∨ v 1 = 13 ∨ v 1 = 14 ∨ v 1 = 15 ∨ v 1 = 16 ∨ v 1 = 17 ∨ v 1 = 18 ∨ v 1 = 19 ∨ v 1 = 20 ∨ v 1 = 21 ∨ v 1 = 22 ∨ v 1 = 23 ∨ v 1 = 24 ∨ v 1 = 25 ∨ v 1 = 26 ∨ v 1 = 27 ∨ v 1 = 28 ∨ v 1 = 29 ∨ v 1 = 30 := by omega
  rcases hv with e | e | e | e | e | e | e | e | e | e | e | e | e | e | e | e | e | e | e | e | e | e | e | e | e | e | e | e | e | e | e
  · try simp only [e, Int.reduceSub, shr0, shl0] at *
    try simp (disch := omega) only [Go.Ev.fdiv_e] at *
    omega
  · try simp only [e, Int.reduceSub, shr1, shl1, shr0, shl0] at *
    try simp (disch := omega) only [Go.Ev.fdiv_e] at *
    omega
  · try simp only [e, Int.reduceSub, shr2, shl2, shr1, shl1] at *
    try simp (disch := omega) only [Go.Ev.fdiv_e] at *
    omega
  · try simp only [e, Int.reduceSub, shr3, shl3, shr2, shl2] at *
    try simp (disch := omega) only [Go.Ev.fdiv_e] at *
    omega
  · try simp only [e, Int.reduceSub, shr4, shl4, shr3, shl3] at *
    try simp (disch := omega) only [Go.Ev.fdiv_e] at *
    omega
  · try simp only [e, Int.reduceSub, shr5, shl5, shr4, shl4] at *
    try simp (disch := omega) only [Go.Ev.fdiv_e] at *
    omega
  · try simp only [e, Int.reduceSub, shr6, shl6, shr5, shl5] at *
    try simp (disch := omega) only [Go.Ev.fdiv_e] at *
    omega
  · try simp only [e, Int.reduceSub, shr7, shl7, shr6, shl6] at *
    try simp (disch := omega) only [Go.Ev.fdiv_e] at *
    omega
  · try simp only [e, Int.reduceSub, shr8, shl8, shr7, shl7] at *
    try simp (disch := omega) only [Go.Ev.fdiv_e] at *
    omega
  · try simp only [e, Int.reduceSub, shr9, shl9, shr8, shl8] at *
    try simp (disch := omega) only [Go.Ev.fdiv_e] at *
    omega
  · try simp only [e, Int.reduceSub, shr10, shl10, shr9, shl9] at *
    try simp (disch := omega) only [Go.Ev.fdiv_e] at *
    omega
  · try simp only [e, Int.reduceSub, shr11, shl11, shr10, shl10] at *
    try simp (disch := omega) only [Go.Ev.fdiv_e] at *
    omega
  · try simp only [e, Int.reduceSub, shr12, shl12, shr11, shl11] at *
    try simp (disch := omega) only [Go.Ev.fdiv_e] at *
    omega
  · try simp only [e, Int.reduceSub, shr13, shl13, shr12, shl12] at *
    try simp (disch := omega) only [Go.Ev.fdiv_e] at *
    omega
  · try simp only [e, Int.reduceSub, shr14, shl14, shr13, shl13] at *
    try simp (disch := omega) only [Go.Ev.fdiv_e] at *
    omega
  · try simp only [e, Int.reduceSub, shr15, shl15, shr14, shl14] at *
    try simp (disch := omega) only [Go.Ev.fdiv_e] at *
    omega
  · try simp only [e, Int.reduceSub, shr16, shl16, shr15, shl15] at *
    try simp (disch := omega) only [Go.Ev.fdiv_e] at *
    omega
  · try simp only [e, Int.reduceSub, shr17, shl17, shr16, shl16] at *
    try simp (disch := omega) only [Go.Ev.fdiv_e] at *
    omega
  · try simp only [e, Int.reduceSub, shr18, shl18, shr17, shl17] at *
    try simp (disch := omega) only [Go.Ev.fdiv_e] at *
    omega
  · try simp only [e, Int.reduceSub, shr19, shl19, shr18, shl18] at *
    try simp (disch := omega) only [Go.Ev.fdiv_e] at *
    omega
  · try simp only [e, Int.reduceSub, shr20, shl20, shr19, shl19] at *
    try simp (disch := omega) only [Go.Ev.fdiv_e] at *
    omega
  · try simp only [e, Int.reduceSub, shr21, shl21, shr20, shl20] at *
    try simp (disch := omega) only [Go.Ev.fdiv_e] at *
    omega
  · try simp only [e, Int.reduceSub, shr22, shl22, shr21, shl21] at *
    try simp (disch := omega) only [Go.Ev.fdiv_e] at *
    omega
  · try simp only [e, Int.reduceSub, shr23, shl23, shr22, shl22] at *
    try simp (disch := omega) only [Go.Ev.fdiv_e] at *
    omega
  · try simp only [e, Int.reduceSub, shr24, shl24, shr23, shl23] at *
    try simp (disch := omega) only [Go.Ev.fdiv_e] at *
    omega
  · try simp only [e, Int.reduceSub, shr25, shl25, shr24, shl24] at *
    try simp (disch := omega) only [Go.Ev.fdiv_e] at *
    omega
  · try simp only [e, Int.reduceSub, shr26, shl26, shr25, shl25] at *
    try simp (disch := omega) only [Go.Ev.fdiv_e] at *
    omega
  · try simp only [e, Int.reduceSub, shr27, shl27, shr26, shl26] at *
    try simp (disch := omega) only [Go.Ev.fdiv_e] at *
    omega
  · try simp only [e, Int.reduceSub, shr28, shl28, shr27, shl27] at *
    try simp (disch := omega) only [Go.Ev.fdiv_e] at *
    omega
  · try simp only [e, Int.reduceSub, shr29, shl29, shr28, shl28] at *
    try simp (disch := omega) only [Go.Ev.fdiv_e] at *
    omega
  · try simp only [e, Int.reduceSub, shr30, shl30, shr29, shl29] at *
    try simp (disch := omega) only [Go.Ev.fdiv_e] at *
    omega
def dead13 : List Fact := [⟨(.bin .sub (.bin .sub (.lit 0) (.bin (.shr .i64) (.bin .sub (.bin .fdiv (.bin (.shl .i64) (.lit 1) (.var 1)) (.lit 2)) (.var 2)) (.var 1))) (.bin .sub (.lit 0) (.bin (.shr .i64) (.bin .add (.bin .sub (.lit 0) (.var 2)) (.bin (.shl .i64) (.lit 1) (.bin .sub (.var 1) (.lit 1)))) (.var 1)))), (-1), true⟩, ⟨(.bin .sub (.bin .sub (.lit 0) (.bin (.shr .i64) (.bin .add (.bin .sub (.lit 0) (.var 2)) (.bin (.shl .i64) (.lit 1) (.bin .sub (.var 1) (.lit 1)))) (.var 1))) (.bin .sub (.lit 0) (.bin .sub (.bin (.shl .i64) (.lit 1) (.bin .sub (.var 0) (.lit 1))) (.lit 1)))), (-1), false⟩, ⟨(.var 1), 0, false⟩, ⟨(.bin .sub (.bin .sub (.lit 0) (.bin (.shr .i64) (.bin .sub (.bin .fdiv (.bin (.shl .i64) (.lit 1) (.var 1)) (.lit 2)) (.var 2)) (.var 1))) (.bin .sub (.lit 0) (.bin .sub (.bin (.shl .i64) (.lit 1) (.bin .sub (.var 0) (.lit 1))) (.lit 1)))), (-1), false⟩, ⟨(.var 2), (-1), true⟩, ⟨(.var 2), (-70368744177665), false⟩, ⟨(.var 2), 0, true⟩, ⟨(.var 1), 30, true⟩, ⟨(.var 1), (-1), false⟩, ⟨(.var 0), 8, true⟩, ⟨(.var 0), 1, false⟩]
theorem dead13_no (v : Nat → Int) : ¬ ∀ f ∈ dead13, f.holds v := by
  intro h
  have h0 : ((0 - SO.eval (.shr .i64) ((Int.fdiv (SO.eval (.shl .i64) (1) (v 1)) (2) - v 2)) (v 1)) - (0 - SO.eval (.shr .i64) (((0 - v 2) + SO.eval (.shl .i64) (1) ((v 1 - 1)))) (v 1))) ≤ (-1) := h _ (.head _)
  have h1 : (-1) < ((0 - SO.eval (.shr .i64) (((0 - v 2) + SO.eval (.shl .i64) (1) ((v 1 - 1)))) (v 1)) - (0 - (SO.eval (.shl .i64) (1) ((v 0 - 1)) - 1))) := h _ (.tail _ (.head _))
  have h2 : 0 < v 1 := h _ (.tail _ (.tail _ (.head _)))
  have h3 : (-1) < ((0 - SO.eval (.shr .i64) ((Int.fdiv (SO.eval (.shl .i64) (1) (v 1)) (2) - v 2)) (v 1)) - (0 - (SO.eval (.shl .i64) (1) ((v 0 - 1)) - 1))) := h _ (.tail _ (.tail _ (.tail _ (.head _))))
  have h4 : v 2 ≤ (-1) := h _ (.tail _ (.tail _ (.tail _ (.tail _ (.head _)))))
  have h5 : (-70368744177665) < v 2 := h _ (.tail _ (.tail _ (.tail _ (.tail _ (.tail _ (.head _))))))
  have h6 : v 2 ≤ 0 := h _ (.tail _ (.tail _ (.tail _ (.tail _ (.tail _ (.tail _ (.head _)))))))
  have h7 : v 1 ≤ 30 := h _ (.tail _ (.tail _ (.tail _ (.tail _ (.tail _ (.tail _ (.tail _ (.head _))))))))
  have h8 : (-1) < v 1 := h _ (.tail _ (.tail _ (.tail _ (.tail _ (.tail _ (.tail _ (.tail _ (.tail _ (.head _)))))))))
  have h9 : v 0 ≤ 8 := h _ (.tail _ (.tail _ (.tail _ (.tail _ (.tail _ (.tail _ (.tail _ (.tail _ (.tail _ (.head _))))))))))
  have h10 : 1 < v 0 := h _ (.tail _ (.tail _ (.tail _ (.tail _ (.tail _ (.tail _ (.tail _ (.tail _ (.tail _ (.tail _ (.head _)))))))))))
  clear h
  have hv : v 1 = 0 ∨ v 1 = 1 ∨ v 1 = 2 ∨ v 1 = 3 ∨ v 1 = 4 ∨ v 1 = 5 ∨ v 1 = 6 ∨ v 1 = 7 ∨ v 1 = 8 ∨ v 1 = 9 ∨ v 1 = 10 ∨ v 1 = 11 ∨ v 1 = 12 ∨ v 1 = 13 ∨ v 1 = 14 ∨ v 1 = 15 ∨ v 1 = 16 ∨ v 1 = 17 ∨ v 1 = 18 ∨ v 1 = 19 ∨ v 1 = 20 ∨ v 1 = 21 ∨ v 1 = 22 ∨ v 1 = 23 ∨ v 1 = 24 ∨ v 1 = 25 ∨ v 1 = 26 ∨ v 1 = 27 ∨ v 1 = 28 ∨ v 1 = 29 ∨ v 1 = 30 := by omega
  rcases hv with e | e | e | e | e | e | e | e | e | e | e | e | e | e | e | e | e | e | e | e | e | e | e | e | e | e | e | e | e | e | e
  · try simp only [e, Int.reduceSub, shr0, shl0] at *
    try simp (disch := omega) only [Go.Ev.fdiv_e] at *
    omega
  · try simp only [e, Int.reduceSub, shr1, shl1, shr0, shl0] at *
    try simp (disch := omega) only [Go.Ev.fdiv_e] at *
    omega
  · try simp only [e, Int.reduceSub, shr2, shl2, shr1, shl1] at *
    try simp (disch := omega) only [Go.Ev.fdiv_e] at *
    omega
  · try simp only [e, Int.reduceSub, shr3, shl3, shr2, shl2] at *
    try simp (disch := omega) only [Go.Ev.fdiv_e] at *
    omega
  · try simp only [e, Int.reduceSub, shr4, shl4, shr3, shl3] at *
    try simp (disch := omega) only [Go.Ev.fdiv_e] at *
    omega
  · try simp only [e, Int.reduceSub, shr5, shl5, shr4, shl4] at *
    try simp (disch := omega) only [Go.Ev.fdiv_e] at *
    omega
  · try simp only [e, Int.reduceSub, shr6, shl6, shr5, shl5] at *
    try simp (disch := omega) only [Go.Ev.fdiv_e] at *
    omega
  · try simp only [e, Int.reduceSub, shr7, shl7, shr6, shl6] at *
    try simp (disch := omega) only [Go.Ev.fdiv_e] at *
    omega
  · try simp only [e, Int.reduceSub, shr8, shl8, shr7, shl7] at *
    try simp (disch := omega) only [Go.Ev.fdiv_e] at *
    omega
  · try simp only [e, Int.reduceSub, shr9, shl9, shr8, shl8] at *
    try simp (disch := omega) only [Go.Ev.fdiv_e] at *
    omega
  · try simp only [e, Int.reduceSub, shr10, shl10, shr9, shl9] at *
    try simp (disch := omega) only [Go.Ev.fdiv_e] at *
    omega
  · try simp only [e, Int.reduceSub, shr11, shl11, shr10, shl10] at *
    try simp (disch := omega) only [Go.Ev.fdiv_e] at *
    omega
  · try simp only [e, Int.reduceSub, shr12, shl12, shr11, shl11] at *
    try simp (disch := omega) only [Go.Ev.fdiv_e] at *
    omega
  · try simp only [e, Int.reduceSub, shr13, shl13, shr12, shl12] at *
    try simp (disch := omega) only [Go.Ev.fdiv_e] at *
    omega
  · try simp only [e, Int.reduceSub, shr14, shl14, shr13, shl13] at *
    try simp (disch := omega) only [Go.Ev.fdiv_e] at *
    omega
  · try simp only [e, Int.reduceSub, shr15, shl15, shr14, shl14] at *
    try simp (disch := omega) only [Go.Ev.fdiv_e] at *
    omega
  · try simp only [e, Int.reduceSub, shr16, shl16, shr15, shl15] at *
    try simp (disch := omega) only [Go.Ev.fdiv_e] at *
    omega
  · try simp only [e, Int.reduceSub, shr17, shl17, shr16, shl16] at *
    try simp (disch := omega) only [Go.Ev.fdiv_e] at *
    omega
  · try simp only [e, Int.reduceSub, shr18, shl18, shr17, shl17] at *
    try simp (disch := omega) only [Go.Ev.fdiv_e] at *
    omega
  · try simp only [e, Int.reduceSub, shr19, shl19, shr18, shl18] at *
    try simp (disch := omega) only [Go.Ev.fdiv_e] at *
    omega
  · try simp only [e, Int.reduceSub, shr20, shl20, shr19, shl19] at *
    try simp (disch := omega) only [Go.Ev.fdiv_e] at *
    omega
  · try simp only [e, Int.reduceSub, shr21, shl21, shr20, shl20] at *
    try simp (disch := omega) only [Go.Ev.fdiv_e] at *
    omega
  · try simp only [e, Int.reduceSub, shr22, shl22, shr21, shl21] at *
    try simp (disch := omega) only [Go.Ev.fdiv_e] at *
    omega
  · try simp only [e, Int.reduceSub, shr23, shl23, shr22, shl22] at *
    try simp (disch := omega) only [Go.Ev.fdiv_e] at *
    omega
  · try simp only [e, Int.reduceSub, shr24, shl24, shr23, shl23] at *
    try simp (disch := omega) only [Go.Ev.fdiv_e] at *
    omega
  · try simp only [e, Int.reduceSub, shr25, shl25, shr24, shl24] at *
    try simp (disch := omega) only [Go.Ev.fdiv_e] at *
    omega
  · try simp only [e, Int.reduceSub, shr26, shl26, shr25, shl25] at *
    try simp (disch := omega) only [Go.Ev.fdiv_e] at *
    omega
  · try simp only [e, Int.reduceSub, shr27, shl27, shr26, shl26] at *
    try simp (disch := omega) only [Go.Ev.fdiv_e] at *
    omega
  · try simp only [e, Int.reduceSub, shr28, shl28, shr27, shl27] at *
    try simp (disch := omega) only [Go.Ev.fdiv_e] at *
    omega
  · try simp only [e, Int.reduceSub, shr29, shl29, shr28, shl28] at *
    try simp (disch := omega) only [Go.Ev.fdiv_e] at *
    omega
  · try simp only [e, Int.reduceSub, shr30, shl30, shr29, shl29] at *
    try simp (disch := omega) only [Go.Ev.fdiv_e] at *
    omega
def dead14 : List Fact := [⟨(.bin .sub (.bin .sub (.lit 0) (.bin (.shr .i64) (.bin .sub (.bin .fdiv (.bin (.shl .i64) (.lit 1) (.var 1)) (.lit 2)) (.var 2)) (.var 1))) (.bin .sub (.lit 0) (.bin (.shr .i64) (.bin .add (.bin .sub (.lit 0) (.var 2)) (.bin (.shl .i64) (.lit 1) (.bin .sub (.var 1) (.lit 1)))) (.var 1)))), 0, false⟩, ⟨(.bin .sub (.bin .sub (.lit 0) (.bin (.shr .i64) (.bin .sub (.bin .fdiv (.bin (.shl .i64) (.lit 1) (.var 1)) (.lit 2)) (.var 2)) (.var 1))) (.bin .sub (.lit 0) (.bin (.shr .i64) (.bin .add (.bin .sub (.lit 0) (.var 2)) (.bin (.shl .i64) (.lit 1) (.bin .sub (.var 1) (.lit 1)))) (.var 1)))), (-1), false⟩, ⟨(.bin .sub (.bin .sub (.lit 0) (.bin (.shr .i64) (.bin .add (.bin .sub (.lit 0) (.var 2)) (.bin (.shl .i64) (.lit 1) (.bin .sub (.var 1) (.lit 1)))) (.var 1))) (.bin .sub (.lit 0) (.bin .sub (.bin (.shl .i64) (.lit 1) (.bin .sub (.var 0) (.lit 1))) (.lit 1)))), (-1), false⟩, ⟨(.var 1), 0, false⟩, ⟨(.bin .sub (.bin .sub (.lit 0) (.bin (.shr .i64) (.bin .sub (.bin .fdiv (.bin (.shl .i64) (.lit 1) (.var 1)) (.lit 2)) (.var 2)) (.var 1))) (.bin .sub (.lit 0) (.bin .sub (.bin (.shl .i64) (.lit 1) (.bin .sub (.var 0) (.lit 1))) (.lit 1)))), (-1), false⟩, ⟨(.var 2), (-1), true⟩, ⟨(.var 2), (-70368744177665), false⟩, ⟨(.var 2), 0, true⟩, ⟨(.var 1), 30, true⟩, ⟨(.var 1), (-1), false⟩, ⟨(.var 0), 8, true⟩, ⟨(.var 0), 1, false⟩]
theorem dead14_no (v : Nat → Int) : ¬ ∀ f ∈ dead14, f.holds v := by
  intro h
  have h0 : 0 < ((0 - SO.eval (.shr .i64) ((Int.fdiv (SO.eval (.shl .i64) (1) (v 1)) (2) - v 2)) (v 1)) - (0 - SO.eval (.shr .i64) (((0 - v 2) + SO.eval (.shl .i64) (1) ((v 1 - 1)))) (v 1))) := h _ (.head _)
  have h1 : (-1) < ((0 - SO.eval (.shr .i64) ((Int.fdiv (SO.eval (.shl .i64) (1) (v 1)) (2) - v 2)) (v 1)) - (0 - SO.eval (.shr .i64) (((0 - v 2) + SO.eval (.shl .i64) (1) ((v 1 - 1)))) (v 1))) := h _ (.tail _ (.head _))
  have h2 : (-1) < ((0 - SO.eval (.shr .i64) (((0 - v 2) + SO.eval (.shl .i64) (1) ((v 1 - 1)))) (v 1)) - (0 - (SO.eval (.shl .i64) (1) ((v 0 - 1)) - 1))) := h _ (.tail _ (.tail _ (.head _)))
  have h3 : 0 < v 1 := h _ (.tail _ (.tail _ (.tail _ (.head _))))
  have h4 : (-1) < ((0 - SO.eval (.shr .i64) ((Int.fdiv (SO.eval (.shl .i64) (1) (v 1)) (2) - v 2)) (v 1)) - (0 - (SO.eval (.shl .i64) (1) ((v 0 - 1)) - 1))) := h _ (.tail _ (.tail _ (.tail _ (.tail _ (.head _)))))
  have h5 : v 2 ≤ (-1) := h _ (.tail _ (.tail _ (.tail _ (.tail _ (.tail _ (.head _))))))
  have h6 : (-70368744177665) < v 2 := h _ (.tail _ (.tail _ (.tail _ (.tail _ (.tail _ (.tail _ (.head _)))))))
  have h7 : v 2 ≤ 0 := h _ (.tail _ (.tail _ (.tail _ (.tail _ (.tail _ (.tail _ (.tail _ (.head _))))))))
  have h8 : v 1 ≤ 30 := h _ (.tail _ (.tail _ (.tail _ (.tail _ (.tail _ (.tail _ (.tail _ (.tail _ (.head _)))))))))
  have h9 : (-1) < v 1 := h _ (.tail _ (.tail _ (.tail _ (.tail _ (.tail _ (.tail _ (.tail _ (.tail _ (.tail _ (.head _))))))))))
  have h10 : v 0 ≤ 8 := h _ (.tail _ (.tail _ (.tail _ (.tail _ (.tail _ (.tail _ (.tail _ (.tail _ (.tail _ (.tail _ (.head _)))))))))))
  have h11 : 1 < v 0 := h _ (.tail _ (.tail _ (.tail _ (.tail _ (.tail _ (.tail _ (.tail _ (.tail _ (.tail _ (.tail _ (.tail _ (.head _))))))))))))
  clear h
  have hv : v 1 = 0 ∨ v 1 = 1 ∨ v 1 = 2 ∨ v 1 = 3 ∨ v 1 = 4 ∨ v 1 = 5 ∨ v 1 = 6 ∨ v 1 = 7 ∨ v 1 = 8 ∨ v 1 = 9 ∨ v 1 = 10 ∨ v 1 = 11 ∨ v 1 = 12 ∨ v 1 = 13 ∨ v 1 = 14 ∨ v 1 = 15 ∨ v 1 = 16 ∨ v 1 = 17 ∨ v 1 = 18 ∨ v 1 = 19 ∨ v 1 = 20 ∨ v 1 = 21 ∨ v 1 = 22 ∨ v 1 = 23 ∨ v 1 = 24 ∨ v 1 = 25 ∨ v 1 = 26 ∨ v 1 = 27 ∨ v 1 = 28 ∨ v 1 = 29 ∨ v 1 = 30 := by omega
  rcases hv with e | e | e | e | e | e | e | e | e | e | e | e | e | e | e | e | e | e | e | e | e | e | e | e | e | e | e | e | e | e | e
  · try simp only [e, Int.reduceSub, shr0, shl0] at *
    try simp (disch := omega) only [Go.Ev.fdiv_e] at *
    omega
  · try simp only [e, Int.reduceSub, shr1, shl1, shr0, shl0] at *
    try simp (disch := omega) only [Go.Ev.fdiv_e] at *
    omega
  · try simp only [e, Int.reduceSub, shr2, shl2, shr1, shl1] at *
    try simp (disch := omega) only [Go.Ev.fdiv_e] at *
    omega
  · try simp only [e, Int.reduceSub, shr3, shl3, shr2, shl2] at *
    try simp (disch := omega) only [Go.Ev.fdiv_e] at *
    omega
  · try simp only [e, Int.reduceSub, shr4, shl4, shr3, shl3] at *
    try simp (disch := omega) only [Go.Ev.fdiv_e] at *
    omega
  · try simp only [e, Int.reduceSub, shr5, shl5, shr4, shl4] at *
    try simp (disch := omega) only [Go.Ev.fdiv_e] at *
    omega
  · try simp only [e, Int.reduceSub, shr6, shl6, shr5, shl5] at *
    try simp (disch := omega) only [Go.Ev.fdiv_e] at *
    omega
  · try simp only [e, Int.reduceSub, shr7, shl7, shr6, shl6] at *
    try simp (disch := omega) only [Go.Ev.fdiv_e] at *
    omega
  · try simp only [e, Int.reduceSub, shr8, shl8, shr7, shl7] at *
    try simp (disch := omega) only [Go.Ev.fdiv_e] at *
    omega
  · try simp only [e, Int.reduceSub, shr9, shl9, shr8, shl8] at *
    try simp (disch := omega) only [Go.Ev.fdiv_e] at *
    omega
  · try simp only [e, Int.reduceSub, shr10, shl10, shr9, shl9] at *
    try simp (disch := omega) only [Go.Ev.fdiv_e] at *
    omega
  · try simp only [e, Int.reduceSub, shr11, shl11, shr10, shl10] at *
    try simp (disch := omega) only [Go.Ev.fdiv_e] at *
    omega
  · try simp only [e, Int.reduceSub, shr12, shl12, shr11, shl11] at *
    try simp (disch := omega) only [Go.Ev.fdiv_e] at *
    omega
  · try simp only [e, Int.reduceSub, shr13, shl13, shr12, shl12] at *
    try simp (disch := omega) only [Go.Ev.fdiv_e] at *
    omega
  · try simp only [e, Int.reduceSub, shr14, shl14, shr13, shl13] at *
    try simp (disch := omega) only [Go.Ev.fdiv_e] at *
    omega
  · try simp only [e, Int.reduceSub, shr15, shl15, shr14, shl14] at *
    try simp (disch := omega) only [Go.Ev.fdiv_e] at *
    omega
  · try simp only [e, Int.reduceSub, shr16, shl16, shr15, shl15] at *
    try simp (disch := omega) only [Go.Ev.fdiv_e] at *
    omega
  · try simp only [e, Int.reduceSub, shr17, shl17, shr16, shl16] at *
    try simp (disch := omega) only [Go.Ev.fdiv_e] at *
    omega
  · try simp only [e, Int.reduceSub, shr18, shl18, shr17, shl17] at *
    try simp (disch := omega) only [Go.Ev.fdiv_e] at *
    omega
  · try simp only [e, Int.reduceSub, shr19, shl19, shr18, shl18] at *
    try simp (disch := omega) only [Go.Ev.fdiv_e] at *
    omega
  · try simp only [e, Int.reduceSub, shr20, shl20, shr19, shl19] at *
    try simp (disch := omega) only [Go.Ev.fdiv_e] at *
    omega
  · try simp only [e, Int.reduceSub, shr21, shl21, shr20, shl20] at *
    try simp (disch := omega) only [Go.Ev.fdiv_e] at *
    omega
  · try simp only [e, Int.reduceSub, shr22, shl22, shr21, shl21] at *
    try simp (disch := omega) only [Go.Ev.fdiv_e] at *
    omega
  · try simp only [e, Int.reduceSub, shr23, shl23, shr22, shl22] at *
    try simp (disch := omega) only [Go.Ev.fdiv_e] at *
    omega
  · try simp only [e, Int.reduceSub, shr24, shl24, shr23, shl23] at *
    try simp (disch := omega) only [Go.Ev.fdiv_e] at *
    omega
  · try simp only [e, Int.reduceSub, shr25, shl25, shr24, shl24] at *
    try simp (disch := omega) only [Go.Ev.fdiv_e] at *
    omega
  · try simp only [e, Int.reduceSub, shr26, shl26, shr25, shl25] at *
    try simp (disch := omega) only [Go.Ev.fdiv_e] at *
    omega
  · try simp only [e, Int.reduceSub, shr27, shl27, shr26, shl26] at *
    try simp (disch := omega) only [Go.Ev.fdiv_e] at *
    omega
  · try simp only [e, Int.reduceSub, shr28, shl28, shr27, shl27] at *
    try simp (disch := omega) only [Go.Ev.fdiv_e] at *
    omega
  · try simp only [e, Int.reduceSub, shr29, shl29, shr28, shl28] at *
    try simp (disch := omega) only [Go.Ev.fdiv_e] at *
    omega
  · try simp only [e, Int.reduceSub, shr30, shl30, shr29, shl29] at *
    try simp (disch := omega) only [Go.Ev.fdiv_e] at *
    omega
def dead15 : List Fact := [⟨(.bin .sub (.bin .sub (.bin (.shl .i64) (.lit 1) (.bin .sub (.var 0) (.lit 1))) (.lit 1)) (.bin (.shr .i64) (.bin .add (.lit 0) (.bin (.shl .i64) (.lit 1) (.bin .sub (.var 1) (.lit 1)))) (.var 1))), 0, true⟩, ⟨(.bin .sub (.bin .sub (.bin (.shl .i64) (.lit 1) (.bin .sub (.var 0) (.lit 1))) (.lit 1)) (.bin (.shr .i64) (.bin .add (.lit 0) (.bin (.shl .i64) (.lit 1) (.bin .sub (.var 1) (.lit 1)))) (.var 1))), (-1), false⟩, ⟨(.var 1), 0, false⟩, ⟨(.bin .sub (.bin .sub (.bin (.shl .i64) (.lit 1) (.bin .sub (.var 0) (.lit 1))) (.lit 1)) (.bin (.shr .i64) (.bin .add (.lit 0) (.bin .fdiv (.bin (.shl .i64) (.lit 1) (.var 1)) (.lit 2))) (.var 1))), (-1), true⟩, ⟨(.var 2), (-1), false⟩, ⟨(.var 2), (-70368744177665), false⟩, ⟨(.var 2), 0, true⟩, ⟨(.var 1), 30, true⟩, ⟨(.var 1), (-1), false⟩, ⟨(.var 0), 8, true⟩, ⟨(.var 0), 1, false⟩]
theorem dead15_no (v : Nat → Int) : ¬ ∀ f ∈ dead15, f.holds v := by
  intro h
  have h0 : ((SO.eval (.shl .i64) (1) ((v 0 - 1)) - 1) - SO.eval (.shr .i64) ((0 + SO.eval (.shl .i64) (1) ((v 1 - 1)))) (v 1)) ≤ 0 := h _ (.head _)
  have h1 : (-1) < ((SO.eval (.shl .i64) (1) ((v 0 - 1)) - 1) - SO.eval (.shr .i64) ((0 + SO.eval (.shl .i64) (1) ((v 1 - 1)))) (v 1)) := h _ (.tail _ (.head _))
  have h2 : 0 < v 1 := h _ (.tail _ (.tail _ (.head _)))
  have h3 : ((SO.eval (.shl .i64) (1) ((v 0 - 1)) - 1) - SO.eval (.shr .i64) ((0 + Int.fdiv (SO.eval (.shl .i64) (1) (v 1)) (2))) (v 1)) ≤ (-1) := h _ (.tail _ (.tail _ (.tail _ (.head _))))
  have h4 : (-1) < v 2 := h _ (.tail _ (.tail _ (.tail _ (.tail _ (.head _)))))
  have h5 : (-70368744177665) < v 2 := h _ (.tail _ (.tail _ (.tail _ (.tail _ (.tail _ (.head _))))))
  have h6 : v 2 ≤ 0 := h _ (.tail _ (.tail _ (.tail _ (.tail _ (.tail _ (.tail _ (.head _)))))))
  have h7 : v 1 ≤ 30 := h _ (.tail _ (.tail _ (.tail _ (.tail _ (.tail _ (.tail _ (.tail _ (.head _))))))))
  have h8 : (-1) < v 1 := h _ (.tail _ (.tail _ (.tail _ (.tail _ (.tail _ (.tail _ (.tail _ (.tail _ (.head _)))))))))
  have h9 : v 0 ≤ 8 := h _ (.tail _ (.tail _ (.tail _ (.tail _ (.tail _ (.tail _ (.tail _ (.tail _ (.tail _ (.head _))))))))))
  have h10 : 1 < v 0 := h _ (.tail _ (.tail _ (.tail _ (.tail _ (.tail _ (.tail _ (.tail _ (.tail _ (.tail _ (.tail _ (.head _)))))))))))
  clear h
  have hv : v 1 = 0 ∨ v 1 = 1 ∨ v 1 = 2 ∨ v 1 = 3 ∨ v 1 = 4 ∨ v 1 = 5 ∨ v 1 = 6 ∨ v 1 = 7 ∨ v 1 = 8 ∨ v 1 = 9 ∨ v 1 = 10 ∨ v 1 = 11 ∨ v 1 = 12 ∨ v 1 = 13 ∨ v 1 = 14 ∨ v 1 = 15 ∨ v 1 = 16 ∨ v 1 = 17 ∨ v 1 = 18 ∨ v 1 = 19 ∨ v 1 = 20 ∨ v 1 = 21 ∨ v 1 = 22 ∨ v 1 = 23 ∨ v 1 = 24 ∨ v 1 = 25 ∨ v 1 = 26 ∨ v 1 = 27 ∨ v 1 = 28 ∨ v 1 = 29 ∨ v 1 = 30 := by omega
  rcases hv with e | e | e | e | e | e | e | e | e | e | e | e | e | e | e | e | e | e | e | e | e | e | e | e | e | e | e | e | e | e | e
  · try simp only [e, Int.reduceSub, shr0, shl0] at *
    try simp (disch := omega) only [Go.Ev.fdiv_e] at *
    omega
  · try simp only [e, Int.reduceSub, shr1, shl1, shr0, shl0] at *
    try simp (disch := omega) only [Go.Ev.fdiv_e] at *
    omega
  · try simp only [e, Int.reduceSub, shr2, shl2, shr1, shl1] at *
    try simp (disch := omega) only [Go.Ev.fdiv_e] at *
    omega
  · try simp only [e, Int.reduceSub, shr3, shl3, shr2, shl2] at *
    try simp (disch := omega) only [Go.Ev.fdiv_e] at *
    omega
  · try simp only [e, Int.reduceSub, shr4, shl4, shr3, shl3] at *
    try simp (disch := omega) only [Go.Ev.fdiv_e] at *
    omega
  · try simp only [e, Int.reduceSub, shr5, shl5, shr4, shl4] at *
    try simp (disch := omega) only [Go.Ev.fdiv_e] at *
    omega
  · try simp only [e, Int.reduceSub, shr6, shl6, shr5, shl5] at *
    try simp (disch := omega) only [Go.Ev.fdiv_e] at *
    omega
  · try simp only [e, Int.reduceSub, shr7, shl7, shr6, shl6] at *
    try simp (disch := omega) only [Go.Ev.fdiv_e] at *
    omega
  · try simp only [e, Int.reduceSub, shr8, shl8, shr7, shl7] at *
    try simp (disch := omega) only [Go.Ev.fdiv_e] at *
    omega
  · try simp only [e, Int.reduceSub, shr9, shl9, shr8, shl8] at *
    try simp (disch := omega) only [Go.Ev.fdiv_e] at *
    omega
  · try simp only [e, Int.reduceSub, shr10, shl10, shr9, shl9] at *
    try simp (disch := omega) only [Go.Ev.fdiv_e] at *
    omega
  · try simp only [e, Int.reduceSub, shr11, shl11, shr10, shl10] at *
    try simp (disch := omega) only [Go.Ev.fdiv_e] at *
    omega
  · try simp only [e, Int.reduceSub, shr12, shl12, shr11, shl11] at *
    try simp (disch := omega) only [Go.Ev.fdiv_e] at *
    omega
  · try simp only [e, Int.reduceSub, shr13, shl13, shr12, shl12] at *
    try simp (disch := omega) only [Go.Ev.fdiv_e] at *
    omega
  · try simp only [e, Int.reduceSub, shr14, shl14, shr13, shl13] at *
    try simp (disch := omega) only [Go.Ev.fdiv_e] at *
    omega
  · try simp only [e, Int.reduceSub, shr15, shl15, shr14, shl14] at *
    try simp (disch := omega) only [Go.Ev.fdiv_e] at *
    omega
  · try simp only [e, Int.reduceSub, shr16, shl16, shr15, shl15] at *
    try simp (disch := omega) only [Go.Ev.fdiv_e] at *
    omega
  · try simp only [e, Int.reduceSub, shr17, shl17, shr16, shl16] at *
    try simp (disch := omega) only [Go.Ev.fdiv_e] at *
    omega
  · try simp only [e, Int.reduceSub, shr18, shl18, shr17, shl17] at *
    try simp (disch := omega) only [Go.Ev.fdiv_e] at *
    omega
  · try simp only [e, Int.reduceSub, shr19, shl19, shr18, shl18] at *
    try simp (disch := omega) only [Go.Ev.fdiv_e] at *
    omega
  · try simp only [e, Int.reduceSub, shr20, shl20, shr19, shl19] at *
    try simp (disch := omega) only [Go.Ev.fdiv_e] at *
    omega
  · try simp only [e, Int.reduceSub, shr21, shl21, shr20, shl20] at *
    try simp (disch := omega) only [Go.Ev.fdiv_e] at *
    omega
  · try simp only [e, Int.reduceSub, shr22, shl22, shr21, shl21] at *
    try simp (disch := omega) only [Go.Ev.fdiv_e] at *
    omega
  · try simp only [e, Int.reduceSub, shr23, shl23, shr22, shl22] at *
    try simp (disch := omega) only [Go.Ev.fdiv_e] at *
    omega
  · try simp only [e, Int.reduceSub, shr24, shl24, shr23, shl23] at *
    try simp (disch := omega) only [Go.Ev.fdiv_e] at *
    omega
  · try simp only [e, Int.reduceSub, shr25, shl25, shr24, shl24] at *
    try simp (disch := omega) only [Go.Ev.fdiv_e] at *
    omega
  · try simp only [e, Int.reduceSub, shr26, shl26, shr25, shl25] at *
    try simp (disch := omega) only [Go.Ev.fdiv_e] at *
    omega
  · try simp only [e, Int.reduceSub, shr27, shl27, shr26, shl26] at *
    try simp (disch := omega) only [Go.Ev.fdiv_e] at *
    omega
  · try simp only [e, Int.reduceSub, shr28, shl28, shr27, shl27] at *
    try simp (disch := omega) only [Go.Ev.fdiv_e] at *
    omega
  · try simp only [e, Int.reduceSub, shr29, shl29, shr28, shl28] at *
    try simp (disch := omega) only [Go.Ev.fdiv_e] at *
    omega
  · try simp only [e, Int.reduceSub, shr30, shl30, shr29, shl29] at *
    try simp (disch := omega) only [Go.Ev.fdiv_e] at *
    omega
def dead16 : List Fact := [⟨(.bin .sub (.bin .sub (.bin (.shl .i64) (.lit 1) (.bin .sub (.var 0) (.lit 1))) (.lit 1)) (.bin (.shr .i64) (.bin .add (.lit 0) (.bin (.shl .i64) (.lit 1) (.bin .sub (.var 1) (.lit 1)))) (.var 1))), 0, false⟩, ⟨(.bin .sub (.bin .sub (.bin (.shl .i64) (.lit 1) (.bin .sub (.var 0) (.lit 1))) (.lit 1)) (.bin (.shr .i64) (.bin .add (.lit 0) (.bin (.shl .i64) (.lit 1) (.bin .sub (.var 1) (.lit 1)))) (.var 1))), (-1), false⟩, ⟨(.var 1), 0, false⟩, ⟨(.bin .sub (.bin .sub (.bin (.shl .i64) (.lit 1) (.bin .sub (.var 0) (.lit 1))) (.lit 1)) (.bin (.shr .i64) (.bin .add (.lit 0) (.bin .fdiv (.bin (.shl .i64) (.lit 1) (.var 1)) (.lit 2))) (.var 1))), (-1), true⟩, ⟨(.var 2), (-1), false⟩, ⟨(.var 2), (-70368744177665), false⟩, ⟨(.var 2), 0, true⟩, ⟨(.var 1), 30, true⟩, ⟨(.var 1), (-1), false⟩, ⟨(.var 0), 8, true⟩, ⟨(.var 0), 1, false⟩]
theorem dead16_no (v : Nat → Int) : ¬ ∀ f ∈ dead16, f.holds v := by
  intro h
  have h0 : 0 < ((SO.eval (.shl .i64) (1) ((v 0 - 1)) - 1) - SO.eval (.shr .i64) ((0 + SO.eval (.shl .i64) (1) ((v 1 - 1)))) (v 1)) := h _ (.head _)
  have h1 : (-1) < ((SO.eval (.shl .i64) (1) ((v 0 - 1)) - 1) - SO.eval (.shr .i64) ((0 + SO.eval (.shl .i64) (1) ((v 1 - 1)))) (v 1)) := h _ (.tail _ (.head _))
  have h2 : 0 < v 1 := h _ (.tail _ (.tail _ (.head _)))
  have h3 : ((SO.eval (.shl .i64) (1) ((v 0 - 1)) - 1) - SO.eval (.shr .i64) ((0 + Int.fdiv (SO.eval (.shl .i64) (1) (v 1)) (2))) (v 1)) ≤ (-1) := h _ (.tail _ (.tail _ (.tail _ (.head _))))
  have h4 : (-1) < v 2 := h _ (.tail _ (.tail _ (.tail _ (.tail _ (.head _)))))
  have h5 : (-70368744177665) < v 2 := h _ (.tail _ (.tail _ (.tail _ (.tail _ (.tail _ (.head _))))))
  have h6 : v 2 ≤ 0 := h _ (.tail _ (.tail _ (.tail _ (.tail _ (.tail _ (.tail _ (.head _)))))))
  have h7 : v 1 ≤ 30 := h _ (.tail _ (.tail _ (.tail _ (.tail _ (.tail _ (.tail _ (.tail _ (.head _))))))))
  have h8 : (-1) < v 1 := h _ (.tail _ (.tail _ (.tail _ (.tail _ (.tail _ (.tail _ (.tail _ (.tail _ (.head _)))))))))
  have h9 : v 0 ≤ 8 := h _ (.tail _ (.tail _ (.tail _ (.tail _ (.tail _ (.tail _ (.tail _ (.tail _ (.tail _ (.head _))))))))))
  have h10 : 1 < v 0 := h _ (.tail _ (.tail _ (.tail _ (.tail _ (.tail _ (.tail _ (.tail _ (.tail _ (.tail _ (.tail _ (.head _)))))))))))
  clear h
  have hv : v 1 = 0 ∨ v 1 = 1 ∨ v 1 = 2 ∨ v 1 = 3 ∨ v 1 = 4 ∨ v 1 = 5 ∨ v 1 = 6 ∨ v 1 = 7 ∨ v 1 = 8 ∨ v 1 = 9 ∨ v 1 = 10 ∨ v 1 = 11 ∨ v 1 = 12 ∨ v 1 = 13 ∨ v 1 = 14 ∨ v 1 = 15 ∨ v 1 = 16 ∨ v 1 = 17 ∨ v 1 = 18 ∨ v 1 = 19 ∨ v 1 = 20 ∨ v 1 = 21 ∨ v 1 = 22 ∨ v 1 = 23 ∨ v 1 = 24 ∨ v 1 = 25 ∨ v 1 = 26 ∨ v 1 = 27 ∨ v 1 = 28 ∨ v 1 = 29 ∨ v 1 = 30 := by omega
  rcases hv with e | e | e | e | e | e | e | e | e | e | e | e | e | e | e | e | e | e | e | e | e | e | e | e | e | e | e | e | e | e | e
  · try simp only [e, Int.reduceSub, shr0, shl0] at *
    try simp (disch := omega) only [Go.Ev.fdiv_e] at *
    omega
  · try simp only [e, Int.reduceSub, shr1, shl1, shr0, shl0] at *
    try simp (disch := omega) only [Go.Ev.fdiv_e] at *
    omega
  · try simp only [e, Int.reduceSub, shr2, shl2, shr1, shl1] at *
    try simp (disch := omega) only [Go.Ev.fdiv_e] at *
    omega
  · try simp only [e, Int.reduceSub, shr3, shl3, shr2, shl2] at *
    try simp (disch := omega) only [Go.Ev.fdiv_e] at *
    omega
  · try simp only [e, Int.reduceSub, shr4, shl4, shr3, shl3] at *
    try simp (disch := omega) only [Go.Ev.fdiv_e] at *
    omega
  · try simp only [e, Int.reduceSub, shr5, shl5, shr4, shl4] at *
    try simp (disch := omega) only [Go.Ev.fdiv_e] at *
    omega
  · try simp only [e, Int.reduceSub, shr6, shl6, shr5, shl5] at *
    try simp (disch := omega) only [Go.Ev.fdiv_e] at *
    omega
  · try simp only [e, Int.reduceSub, shr7, shl7, shr6, shl6] at *
    try simp (disch := omega) only [Go.Ev.fdiv_e] at *
    omega
  · try simp only [e, Int.reduceSub, shr8, shl8, shr7, shl7] at *
    try simp (disch := omega) only [Go.Ev.fdiv_e] at *
    omega
  · try simp only [e, Int.reduceSub, shr9, shl9, shr8, shl8] at *
    try simp (disch := omega) only [Go.Ev.fdiv_e] at *
    omega
  · try simp only [e, Int.reduceSub, shr10, shl10, shr9, shl9] at *
    try simp (disch := omega) only [Go.Ev.fdiv_e] at *
    omega
  · try simp only [e, Int.reduceSub, shr11, shl11, shr10, shl10] at *
    try simp (disch := omega) only [Go.Ev.fdiv_e] at *
    omega
  · try simp only [e, Int.reduceSub, shr12, shl12, shr11, shl11] at *
    try simp (disch := omega) only [Go.Ev.fdiv_e] at *
    omega
  · try simp only [e, Int.reduceSub, shr13, shl13, shr12, shl12] at *
    try simp (disch := omega) only [Go.Ev.fdiv_e] at *
    omega
  · try simp only [e, Int.reduceSub, shr14, shl14, shr13, shl13] at *
    try simp (disch := omega) only [Go.Ev.fdiv_e] at *
    omega
  · try simp only [e, Int.reduceSub, shr15, shl15, shr14, shl14] at *
    try simp (disch := omega) only [Go.Ev.fdiv_e] at *
    omega
  · try simp only [e, Int.reduceSub, shr16, shl16, shr15, shl15] at *
    try simp (disch := omega) only [Go.Ev.fdiv_e] at *
    omega
  · try simp only [e, Int.reduceSub, shr17, shl17, shr16, shl16] at *
    try simp (disch := omega) only [Go.Ev.fdiv_e] at *
    omega
  · try simp only [e, Int.reduceSub, shr18, shl18, shr17, shl17] at *
    try simp (disch := omega) only [Go.Ev.fdiv_e] at *
    omega
  · try simp only [e, Int.reduceSub, shr19, shl19, shr18, shl18] at *
    try simp (disch := omega) only [Go.Ev.fdiv_e] at *
    omega
  · try simp only [e, Int.reduceSub, shr20, shl20, shr19, shl19] at *
    try simp (disch := omega) only [Go.Ev.fdiv_e] at *
    omega
  · try simp only [e, Int.reduceSub, shr21, shl21, shr20, shl20] at *
    try simp (disch := omega) only [Go.Ev.fdiv_e] at *
    omega
  · try simp only [e, Int.reduceSub, shr22, shl22, shr21, shl21] at *
    try simp (disch := omega) only [Go.Ev.fdiv_e] at *
    omega
  · try simp only [e, Int.reduceSub, shr23, shl23, shr22, shl22] at *
    try simp (disch := omega) only [Go.Ev.fdiv_e] at *
    omega
  · try simp only [e, Int.reduceSub, shr24, shl24, shr23, shl23] at *
    try simp (disch := omega) only [Go.Ev.fdiv_e] at *
    omega
  · try simp only [e, Int.reduceSub, shr25, shl25, shr24, shl24] at *
    try simp (disch := omega) only [Go.Ev.fdiv_e] at *
    omega
  · try simp only [e, Int.reduceSub, shr26, shl26, shr25, shl25] at *
    try simp (disch := omega) only [Go.Ev.fdiv_e] at *
    omega
  · try simp only [e, Int.reduceSub, shr27, shl27, shr26, shl26] at *
    try simp (disch := omega) only [Go.Ev.fdiv_e] at *
    omega
  · try simp only [e, Int.reduceSub, shr28, shl28, shr27, shl27] at *
    try simp (disch := omega) only [Go.Ev.fdiv_e] at *
    omega
  · try simp only [e, Int.reduceSub, shr29, shl29, shr28, shl28] at *
    try simp (disch := omega) only [Go.Ev.fdiv_e] at *
    omega
  · try simp only [e, Int.reduceSub, shr30, shl30, shr29, shl29] at *
    try simp (disch := omega) only [Go.Ev.fdiv_e] at *
    omega
def dead17 : List Fact := [⟨(.bin .sub (.bin (.shr .i64) (.bin .add (.lit 0) (.bin .fdiv (.bin (.shl .i64) (.lit 1) (.var 1)) (.lit 2))) (.var 1)) (.bin .sub (.bin (.shl .i64) (.lit 1) (.bin .sub (.var 0) (.lit 1))) (.lit 1))), (-1), true⟩, ⟨(.bin .sub (.bin .sub (.bin (.shl .i64) (.lit 1) (.bin .sub (.var 0) (.lit 1))) (.lit 1)) (.bin (.shr .i64) (.bin .add (.lit 0) (.bin (.shl .i64) (.lit 1) (.bin .sub (.var 1) (.lit 1)))) (.var 1))), (-1), true⟩, ⟨(.var 1), 0, false⟩, ⟨(.bin .sub (.bin .sub (.bin (.shl .i64) (.lit 1) (.bin .sub (.var 0) (.lit 1))) (.lit 1)) (.bin (.shr .i64) (.bin .add (.lit 0) (.bin .fdiv (.bin (.shl .i64) (.lit 1) (.var 1)) (.lit 2))) (.var 1))), (-1), false⟩, ⟨(.var 2), (-1), false⟩, ⟨(.var 2), (-70368744177665), false⟩, ⟨(.var 2), 0, true⟩, ⟨(.var 1), 30, true⟩, ⟨(.var 1), (-1), false⟩, ⟨(.var 0), 8, true⟩, ⟨(.var 0), 1, false⟩]
theorem dead17_no (v : Nat → Int) : ¬ ∀ f ∈ dead17, f.holds v := by
  intro h
  have h0 : (SO.eval (.shr .i64) ((0 + Int.fdiv (SO.eval (.shl .i64) (1) (v 1)) (2))) (v 1) - (SO.eval (.shl .i64) (1) ((v 0 - 1)) - 1)) ≤ (-1) := h _ (.head _)
  have h1 : ((SO.eval (.shl .i64) (1) ((v 0 - 1)) - 1) - SO.eval (.shr .i64) ((0 + SO.eval (.shl .i64) (1) ((v 1 - 1)))) (v 1)) ≤ (-1) := h _ (.tail _ (.head _))
  have h2 : 0 < v 1 := h _ (.tail _ (.tail _ (.head _)))
  have h3 : (-1) < ((SO.eval (.shl .i64) (1) ((v 0 - 1)) - 1) - SO.eval (.shr .i64) ((0 + Int.fdiv (SO.eval (.shl .i64) (1) (v 1)) (2))) (v 1)) := h _ (.tail _ (.tail _ (.tail _ (.head _))))
  have h4 : (-1) < v 2 := h _ (.tail _ (.tail _ (.tail _ (.tail _ (.head _)))))
  have h5 : (-70368744177665) < v 2 := h _ (.tail _ (.tail _ (.tail _ (.tail _ (.tail _ (.head _))))))
  have h6 : v 2 ≤ 0 := h _ (.tail _ (.tail _ (.tail _ (.tail _ (.tail _ (.tail _ (.head _)))))))
  have h7 : v 1 ≤ 30 := h _ (.tail _ (.tail _ (.tail _ (.tail _ (.tail _ (.tail _ (.tail _ (.head _))))))))
  have h8 : (-1) < v 1 := h _ (.tail _ (.tail _ (.tail _ (.tail _ (.tail _ (.tail _ (.tail _ (.tail _ (.head _)))))))))
  have h9 : v 0 ≤ 8 := h _ (.tail _ (.tail _ (.tail _ (.tail _ (.tail _ (.tail _ (.tail _ (.tail _ (.tail _ (.head _))))))))))
  have h10 : 1 < v 0 := h _ (.tail _ (.tail _ (.tail _ (.tail _ (.tail _ (.tail _ (.tail _ (.tail _ (.tail _ (.tail _ (.head _)))))))))))
  clear h
  have hv : v 1 = 0 ∨ v 1 = 1 ∨ v 1 = 2 ∨ v 1 = 3 ∨ v 1 = 4 ∨ v 1 = 5 ∨ v 1 = 6 ∨ v 1 = 7 ∨ v 1 = 8 ∨ v 1 = 9 ∨ v 1 = 10 ∨ v 1 = 11 ∨ v 1 = 12 ∨ v 1 = 13 ∨ v 1 = 14 ∨ v 1 = 15 ∨ v 1 = 16 ∨ v 1 = 17 ∨ v 1 = 18 ∨ v 1 = 19 ∨ v 1 = 20 ∨ v 1 = 21 ∨ v 1 = 22 ∨ v 1 = 23 ∨ v 1 = 24 ∨ v 1 = 25 ∨ v 1 = 26 ∨ v 1 = 27 ∨ v 1 = 28 ∨ v 1 = 29 ∨ v 1 = 30 := by omega
  rcases hv with e | e | e | e | e | e | e | e | e | e | e | e | e | e | e | e | e | e | e | e | e | e | e | e | e | e | e | e | e | e | e
  · try simp only [e, Int.reduceSub, shr0, shl0] at *
    try simp (disch := omega) only [Go.Ev.fdiv_e] at *
    omega
  · try simp only [e, Int.reduceSub, shr1, shl1, shr0, shl0] at *
    try simp (disch := omega) only [Go.Ev.fdiv_e] at *
    omega
  · try simp only [e, Int.reduceSub, shr2, shl2, shr1, shl1] at *
    try simp (disch := omega) only [Go.Ev.fdiv_e] at *
    omega
  · try simp only [e, Int.reduceSub, shr3, shl3, shr2, shl2] at *
    try simp (disch := omega) only [Go.Ev.fdiv_e] at *
    omega
  · try simp only [e, Int.reduceSub, shr4, shl4, shr3, shl3] at *
    try simp (disch := omega) only [Go.Ev.fdiv_e] at *
    omega
  · try simp only [e, Int.reduceSub, shr5, shl5, shr4, shl4] at *
    try simp (disch := omega) only [Go.Ev.fdiv_e] at *
    omega
  · try simp only [e, Int.reduceSub, shr6, shl6, shr5, shl5] at *
    try simp (disch := omega) only [Go.Ev.fdiv_e] at *
    omega
  · try simp only [e, Int.reduceSub, shr7, shl7, shr6, shl6] at *
    try simp (disch := omega) only [Go.Ev.fdiv_e] at *
    omega
  · try simp only [e, Int.reduceSub, shr8, shl8, shr7, shl7] at *
    try simp (disch := omega) only [Go.Ev.fdiv_e] at *
    omega
  · try simp only [e, Int.reduceSub, shr9, shl9, shr8, shl8] at *
    try simp (disch := omega) only [Go.Ev.fdiv_e] at *
    omega
  · try simp only [e, Int.reduceSub, shr10, shl10, shr9, shl9] at *
    try simp (disch := omega) only [Go.Ev.fdiv_e] at *
    omega
  · try simp only [e, Int.reduceSub, shr11, shl11, shr10, shl10] at *
    try simp (disch := omega) only [Go.Ev.fdiv_e] at *
    omega
  · try simp only [e, Int.reduceSub, shr12, shl12, shr11, shl11] at *
    try simp (disch := omega) only [Go.Ev.fdiv_e] at *
    omega
  · try simp only [e, Int.reduceSub, shr13, shl13, shr12, shl12] at *
    try simp (disch := omega) only [Go.Ev.fdiv_e] at *
    omega
  · try simp only [e, Int.reduceSub, shr14, shl14, shr13, shl13] at *
    try simp (disch := omega) only [Go.Ev.fdiv_e] at *
    omega
  · try simp only [e, Int.reduceSub, shr15, shl15, shr14, shl14] at *
    try simp (disch := omega) only [Go.Ev.fdiv_e] at *
    omega
  · try simp only [e, Int.reduceSub, shr16, shl16, shr15, shl15] at *
    try simp (disch := omega) only [Go.Ev.fdiv_e] at *
    omega
  · try simp only [e, Int.reduceSub, shr17, shl17, shr16, shl16] at *
    try simp (disch := omega) only [Go.Ev.fdiv_e] at *
    omega
  · try simp only [e, Int.reduceSub, shr18, shl18, shr17, shl17] at *
    try simp (disch := omega) only [Go.Ev.fdiv_e] at *
    omega
  · try simp only [e, Int.reduceSub, shr19, shl19, shr18, shl18] at *
    try simp (disch := omega) only [Go.Ev.fdiv_e] at *
    omega
  · try simp only [e, Int.reduceSub, shr20, shl20, shr19, shl19] at *
    try simp (disch := omega) only [Go.Ev.fdiv_e] at *
    omega
  · try simp only [e, Int.reduceSub, shr21, shl21, shr20, shl20] at *
    try simp (disch := omega) only [Go.Ev.fdiv_e] at *
    omega
  · try simp only [e, Int.reduceSub, shr22, shl22, shr21, shl21] at *
    try simp (disch := omega) only [Go.Ev.fdiv_e] at *
    omega
  · try simp only [e, Int.reduceSub, shr23, shl23, shr22, shl22] at *
    try simp (disch := omega) only [Go.Ev.fdiv_e] at *
    omega
  · try simp only [e, Int.reduceSub, shr24, shl24, shr23, shl23] at *
    try simp (disch := omega) only [Go.Ev.fdiv_e] at *
    omega
  · try simp only [e, Int.reduceSub, shr25, shl25, shr24, shl24] at *
    try simp (disch := omega) only [Go.Ev.fdiv_e] at *
    omega
  · try simp only [e, Int.reduceSub, shr26, shl26, shr25, shl25] at *
    try simp (disch := omega) only [Go.Ev.fdiv_e] at *
    omega
  · try simp only [e, Int.reduceSub, shr27, shl27, shr26, shl26] at *
    try simp (disch := omega) only [Go.Ev.fdiv_e] at *
    omega
  · try simp only [e, Int.reduceSub, shr28, shl28, shr27, shl27] at *
    try simp (disch := omega) only [Go.Ev.fdiv_e] at *
    omega
  · try simp only [e, Int.reduceSub, shr29, shl29, shr28, shl28] at *
    try simp (disch := omega) only [Go.Ev.fdiv_e] at *
    omega
  · try simp only [e, Int.reduceSub, shr30, shl30, shr29, shl29] at *
    try simp (disch := omega) only [Go.Ev.fdiv_e] at *
    omega
def dead18 : List Fact := [⟨(.bin .sub (.bin (.shr .i64) (.bin .add (.lit 0) (.bin .fdiv (.bin (.shl .i64) (.lit 1) (.var 1)) (.lit 2))) (.var 1)) (.bin .sub (.bin (.shl .i64) (.lit 1) (.bin .sub (.var 0) (.lit 1))) (.lit 1))), 0, true⟩, ⟨(.bin .sub (.bin (.shr .i64) (.bin .add (.lit 0) (.bin .fdiv (.bin (.shl .i64) (.lit 1) (.var 1)) (.lit 2))) (.var 1)) (.bin .sub (.bin (.shl .i64) (.lit 1) (.bin .sub (.var 0) (.lit 1))) (.lit 1))), (-1), false⟩, ⟨(.bin .sub (.bin .sub (.bin (.shl .i64) (.lit 1) (.bin .sub (.var 0) (.lit 1))) (.lit 1)) (.bin (.shr .i64) (.bin .add (.lit 0) (.bin (.shl .i64) (.lit 1) (.bin .sub (.var 1) (.lit 1)))) (.var 1))), (-1), true⟩, ⟨(.var 1), 0, false⟩, ⟨(.bin .sub (.bin .sub (.bin (.shl .i64) (.lit 1) (.bin .sub (.var 0) (.lit 1))) (.lit 1)) (.bin (.shr .i64) (.bin .add (.lit 0) (.bin .fdiv (.bin (.shl .i64) (.lit 1) (.var 1)) (.lit 2))) (.var 1))), (-1), false⟩, ⟨(.var 2), (-1), false⟩, ⟨(.var 2), (-70368744177665), false⟩, ⟨(.var 2), 0, true⟩, ⟨(.var 1), 30, true⟩, ⟨(.var 1), (-1), false⟩, ⟨(.var 0), 8, true⟩, ⟨(.var 0), 1, false⟩]
theorem dead18_no (v : Nat → Int) : ¬ ∀ f ∈ dead18, f.holds v := by
  intro h
  have h0 : (SO.eval (.shr .i64) ((0 + Int.fdiv (SO.eval (.shl .i64) (1) (v 1)) (2))) (v 1) - (SO.eval (.shl .i64) (1) ((v 0 - 1)) - 1)) ≤ 0 := h _ (.head _)
  have h1 : (-1) < (SO.eval (.shr .i64) ((0 + Int.fdiv (SO.eval (.shl .i64) (1) (v 1)) (2))) (v 1) - (SO.eval (.shl .i64) (1) ((v 0 - 1)) - 1)) := h _ (.tail _ (.head _))
  have h2 : ((SO.eval (.shl .i64) (1) ((v 0 - 1)) - 1) - SO.eval (.shr .i64) ((0 + SO.eval (.shl .i64) (1) ((v 1 - 1)))) (v 1)) ≤ (-1) := h _ (.tail _ (.tail _ (.head _)))
  have h3 : 0 < v 1 := h _ (.tail _ (.tail _ (.tail _ (.head _))))
  have h4 : (-1) < ((SO.eval (.shl .i64) (1) ((v 0 - 1)) - 1) - SO.eval (.shr .i64) ((0 + Int.fdiv (SO.eval (.shl .i64) (1) (v 1)) (2))) (v 1)) := h _ (.tail _ (.tail _ (.tail _ (.tail _ (.head _)))))
  have h5 : (-1) < v 2 := h _ (.tail _ (.tail _ (.tail _ (.tail _ (.tail _ (.head _))))))
  have h6 : (-70368744177665) < v 2 := h _ (.tail _ (.tail _ (.tail _ (.tail _ (.tail _ (.tail _ (.head _)))))))
  have h7 : v 2 ≤ 0 := h _ (.tail _ (.tail _ (.tail _ (.tail _ (.tail _ (.tail _ (.tail _ (.head _))))))))
  have h8 : v 1 ≤ 30 := h _ (.tail _ (.tail _ (.tail _ (.tail _ (.tail _ (.tail _ (.tail _ (.tail _ (.head _)))))))))
  have h9 : (-1) < v 1 := h _ (.tail _ (.tail _ (.tail _ (.tail _ (.tail _ (.tail _ (.tail _ (.tail _ (.tail _ (.head _))))))))))
  have h10 : v 0 ≤ 8 := h _ (.tail _ (.tail _ (.tail _ (.tail _ (.tail _ (.tail _ (.tail _ (.tail _ (.tail _ (.tail _ (.head _)))))))))))
  have h11 : 1 < v 0 := h _ (.tail _ (.tail _ (.tail _ (.tail _ (.tail _ (.tail _ (.tail _ (.tail _ (.tail _ (.tail _ (.tail _ (.head _))))))))))))
  clear h
  have hv : v 1 = 0 ∨ v 1 = 1 ∨ v 1 = 2 ∨ v 1 = 3 ∨ v 1 = 4 ∨ v 1 = 5 ∨ v 1 = 6 ∨ v 1 = 7 ∨ v 1 = 8 ∨ v 1 = 9 ∨ v 1 = 10 ∨ v 1 = 11 ∨ v 1 = 12 ∨ v 1 = 13 ∨ v 1 = 14 ∨ v 1 = 15 ∨ v 1 = 16 ∨ v 1 = 17 ∨ v 1 = 18 ∨ v 1 = 19 ∨ v 1 = 20 ∨ v 1 = 21 ∨ v 1 = 22 ∨ v 1 = 23 ∨ v 1 = 24 ∨ v 1 = 25 ∨ v 1 = 26 ∨ v 1 = 27 ∨ v 1 = 28 ∨ v 1 = 29 ∨ v 1 = 30 := by omega
  rcases hv with e | e | e | e | e | e | e | e | e | e | e | e | e | e | e | e | e | e | e | e | e | e | e | e | e | e | e | e | e | e | e
  · try simp only [e, Int.reduceSub, shr0, shl0] at *
    try simp (disch := omega) only [Go.Ev.fdiv_e] at *
    omega
  · try simp only [e, Int.reduceSub, shr1, shl1, shr0, shl0] at *
    try simp (disch := omega) only [Go.Ev.fdiv_e] at *
    omega
  · try simp only [e, Int.reduceSub, shr2, shl2, shr1, shl1] at *
    try simp (disch := omega) only [Go.Ev.fdiv_e] at *
    omega
  · try simp only [e, Int.reduceSub, shr3, shl3, shr2, shl2] at *
    try simp (disch := omega) only [Go.Ev.fdiv_e] at *
    omega
  · try simp only [e, Int.reduceSub, shr4, shl4, shr3, shl3] at *
    try simp (disch := omega) only [Go.Ev.fdiv_e] at *
    omega
  · try simp only [e, Int.reduceSub, shr5, shl5, shr4, shl4] at *
    try simp (disch := omega) only [Go.Ev.fdiv_e] at *
    omega
  · try simp only [e, Int.reduceSub, shr6, shl6, shr5, shl5] at *
    try simp (disch := omega) only [Go.Ev.fdiv_e] at *
    omega
  · try simp only [e, Int.reduceSub, shr7, shl7, shr6, shl6] at *
    try simp (disch := omega) only [Go.Ev.fdiv_e] at *
    omega
  · try simp only [e, Int.reduceSub, shr8, shl8, shr7, shl7] at *
    try simp (disch := omega) only [Go.Ev.fdiv_e] at *
    omega
  · try simp only [e, Int.reduceSub, shr9, shl9, shr8, shl8] at *
    try simp (disch := omega) only [Go.Ev.fdiv_e] at *
    omega
  · try simp only [e, Int.reduceSub, shr10, shl10, shr9, shl9] at *
    try simp (disch := omega) only [Go.Ev.fdiv_e] at *
    omega
  · try simp only [e, Int.reduceSub, shr11, shl11, shr10, shl10] at *
    try simp (disch := omega) only [Go.Ev.fdiv_e] at *
    omega
  · try simp only [e, Int.reduceSub, shr12, shl12, shr11, shl11] at *
    try simp (disch := omega) only [Go.Ev.fdiv_e] at *
    omega
  · try simp only [e, Int.reduceSub, shr13, shl13, shr12, shl12] at *
    try simp (disch := omega) only [Go.Ev.fdiv_e] at *
    omega
  · try simp only [e, Int.reduceSub, shr14, shl14, shr13, shl13] at *
    try simp (disch := omega) only [Go.Ev.fdiv_e] at *
    omega
  · try simp only [e, Int.reduceSub, shr15, shl15, shr14, shl14] at *
    try simp (disch := omega) only [Go.Ev.fdiv_e] at *
    omega
  · try simp only [e, Int.reduceSub, shr16, shl16, shr15, shl15] at *
    try simp (disch := omega) only [Go.Ev.fdiv_e] at *
    omega
  · try simp only [e, Int.reduceSub, shr17, shl17, shr16, shl16] at *
    try simp (disch := omega) only [Go.Ev.fdiv_e] at *
    omega
  · try simp only [e, Int.reduceSub, shr18, shl18, shr17, shl17] at *
    try simp (disch := omega) only [Go.Ev.fdiv_e] at *
    omega
  · try simp only [e, Int.reduceSub, shr19, shl19, shr18, shl18] at *
    try simp (disch := omega) only [Go.Ev.fdiv_e] at *
    omega
  · try simp only [e, Int.reduceSub, shr20, shl20, shr19, shl19] at *
    try simp (disch := omega) only [Go.Ev.fdiv_e] at *
    omega
  · try simp only [e, Int.reduceSub, shr21, shl21, shr20, shl20] at *
    try simp (disch := omega) only [Go.Ev.fdiv_e] at *
    omega
  · try simp only [e, Int.reduceSub, shr22, shl22, shr21, shl21] at *
    try simp (disch := omega) only [Go.Ev.fdiv_e] at *
    omega
  · try simp only [e, Int.reduceSub, shr23, shl23, shr22, shl22] at *
    try simp (disch := omega) only [Go.Ev.fdiv_e] at *
    omega
  · try simp only [e, Int.reduceSub, shr24, shl24, shr23, shl23] at *
    try simp (disch := omega) only [Go.Ev.fdiv_e] at *
    omega
  · try simp only [e, Int.reduceSub, shr25, shl25, shr24, shl24] at *
    try simp (disch := omega) only [Go.Ev.fdiv_e] at *
    omega
  · try simp only [e, Int.reduceSub, shr26, shl26, shr25, shl25] at *
    try simp (disch := omega) only [Go.Ev.fdiv_e] at *
    omega
  · try simp only [e, Int.reduceSub, shr27, shl27, shr26, shl26] at *
    try simp (disch := omega) only [Go.Ev.fdiv_e] at *
    omega
  · try simp only [e, Int.reduceSub, shr28, shl28, shr27, shl27] at *
    try simp (disch := omega) only [Go.Ev.fdiv_e] at *
    omega
  · try simp only [e, Int.reduceSub, shr29, shl29, shr28, shl28] at *
    try simp (disch := omega) only [Go.Ev.fdiv_e] at *
    omega
  · try simp only [e, Int.reduceSub, shr30, shl30, shr29, shl29] at *
    try simp (disch := omega) only [Go.Ev.fdiv_e] at *
    omega
def dead19 : List Fact := [⟨(.bin .sub (.bin (.shr .i64) (.bin .add (.lit 0) (.bin .fdiv (.bin (.shl .i64) (.lit 1) (.var 1)) (.lit 2))) (.var 1)) (.bin .sub (.bin (.shl .i64) (.lit 1) (.bin .sub (.var 0) (.lit 1))) (.lit 1))), 0, false⟩, ⟨(.bin .sub (.bin .sub (.bin (.shl .i64) (.lit 1) (.bin .sub (.var 0) (.lit 1))) (.lit 1)) (.bin (.shr .i64) (.bin .add (.lit 0) (.bin .fdiv (.bin (.shl .i64) (.lit 1) (.var 1)) (.lit 2))) (.var 1))), (-1), false⟩]
theorem dead19_no (v : Nat → Int) : ¬ ∀ f ∈ dead19, f.holds v := by
  intro h
  have h0 : 0 < (SO.eval (.shr .i64) ((0 + Int.fdiv (SO.eval (.shl .i64) (1) (v 1)) (2))) (v 1) - (SO.eval (.shl .i64) (1) ((v 0 - 1)) - 1)) := h _ (.head _)
  have h1 : (-1) < ((SO.eval (.shl .i64) (1) ((v 0 - 1)) - 1) - SO.eval (.shr .i64) ((0 + Int.fdiv (SO.eval (.shl .i64) (1) (v 1)) (2))) (v 1)) := h _ (.tail _ (.head _))
  clear h
  first | omega | (simp only [Int.mul_add, Int.add_mul, Int.mul_sub, Int.sub_mul, Int.mul_assoc, Int.mul_comm, Int.mul_left_comm] at *; omega) | (simp (disch := omega) only [Go.Ev.w_i64, Go.Ev.w_i32, Go.Ev.w_u64, Go.Ev.w_u32, Go.Ev.w_u8, Go.Ev.tdiv_e, Go.Ev.tmod_e, Go.Ev.fdiv_e] at *; omega) | (simp only [Int.mul_add, Int.add_mul, Int.mul_sub, Int.sub_mul, Int.mul_assoc, Int.mul_comm, Int.mul_left_comm] at *; simp (disch := omega) only [Go.Ev.w_i64, Go.Ev.w_i32, Go.Ev.w_u64, Go.Ev.w_u32, Go.Ev.w_u8, Go.Ev.tdiv_e, Go.Ev.tmod_e, Go.Ev.fdiv_e] at *; omega)
def dead20 : List Fact := [⟨(.bin .sub (.bin (.shr .i64) (.bin .add (.lit 0) (.bin .fdiv (.bin (.shl .i64) (.lit 1) (.var 1)) (.lit 2))) (.var 1)) (.bin (.shr .i64) (.bin .add (.lit 0) (.bin (.shl .i64) (.lit 1) (.bin .sub (.var 1) (.lit 1)))) (.var 1))), (-1), true⟩, ⟨(.bin .sub (.bin .sub (.bin (.shl .i64) (.lit 1) (.bin .sub (.var 0) (.lit 1))) (.lit 1)) (.bin (.shr .i64) (.bin .add (.lit 0) (.bin (.shl .i64) (.lit 1) (.bin .sub (.var 1) (.lit 1)))) (.var 1))), (-1), false⟩, ⟨(.var 1), 0, false⟩, ⟨(.bin .sub (.bin .sub (.bin (.shl .i64) (.lit 1) (.bin .sub (.var 0) (.lit 1))) (.lit 1)) (.bin (.shr .i64) (.bin .add (.lit 0) (.bin .fdiv (.bin (.shl .i64) (.lit 1) (.var 1)) (.lit 2))) (.var 1))), (-1), false⟩, ⟨(.var 2), (-1), false⟩, ⟨(.var 2), (-70368744177665), false⟩, ⟨(.var 2), 0, true⟩, ⟨(.var 1), 30, true⟩, ⟨(.var 1), (-1), false⟩, ⟨(.var 0), 8, true⟩, ⟨(.var 0), 1, false⟩]
theorem dead20_no (v : Nat → Int) : ¬ ∀ f ∈ dead20, f.holds v := by
  intro h
  have h0 : (SO.eval (.shr .i64) ((0 + Int.fdiv (SO.eval (.shl .i64) (1) (v 1)) (2))) (v 1) - SO.eval (.shr .i64) ((0 + SO.eval (.shl .i64) (1) ((v 1 - 1)))) (v 1)) ≤ (-1) := h _ (.head _)
  have h1 : (-1) < ((SO.eval (.shl .i64) (1) ((v 0 - 1)) - 1) - SO.eval (.shr .i64) ((0 + SO.eval (.shl .i64) (1) ((v 1 - 1)))) (v 1)) := h _ (.tail _ (.head _))
  have h2 : 0 < v 1 := h _ (.tail _ (.tail _ (.head _)))
  have h3 : (-1) < ((SO.eval (.shl .i64) (1) ((v 0 - 1)) - 1) - SO.eval (.shr .i64) ((0 + Int.fdiv (SO.eval (.shl .i64) (1) (v 1)) (2))) (v 1)) := h _ (.tail _ (.tail _ (.tail _ (.head _))))
  have h4 : (-1) < v 2 := h _ (.tail _ (.tail _ (.tail _ (.tail _ (.head _)))))
  have h5 : (-70368744177665) < v 2 := h _ (.tail _ (.tail _ (.tail _ (.tail _ (.tail _ (.head _))))))
  have h6 : v 2 ≤ 0 := h _ (.tail _ (.tail _ (.tail _ (.tail _ (.tail _ (.tail _ (.head _)))))))
  have h7 : v 1 ≤ 30 := h _ (.tail _ (.tail _ (.tail _ (.tail _ (.tail _ (.tail _ (.tail _ (.head _))))))))
  have h8 : (-1) < v 1 := h _ (.tail _ (.tail _ (.tail _ (.tail _ (.tail _ (.tail _ (.tail _ (.tail _ (.head _)))))))))
  have h9 : v 0 ≤ 8 := h _ (.tail _ (.tail _ (.tail _ (.tail _ (.tail _ (.tail _ (.tail _ (.tail _ (.tail _ (.head _))))))))))
  have h10 : 1 < v 0 := h _ (.tail _ (.tail _ (.tail _ (.tail _ (.tail _ (.tail _ (.tail _ (.tail _ (.tail _ (.tail _ (.head _)))))))))))
  clear h
  have hv : v 1 = 0 ∨ v 1 = 1 ∨ v 1 = 2 ∨ v 1 = 3 ∨ v 1 = 4 ∨ v 1 = 5 ∨ v 1 = 6 ∨ v 1 = 7 ∨ v 1 = 8 ∨ v 1 = 9 ∨ v 1 = 10 ∨ v 1 = 11 ∨ v 1 = 12 ∨ v 1 = 13 ∨ v 1 = 14 ∨ v 1 = 15 ∨ v 1 = 16 ∨ v 1 = 17 ∨ v 1 = 18 ∨ v 1 = 19 ∨ v 1 = 20 ∨ v 1 = 21 ∨ v 1 = 22 ∨ v 1 = 23 ∨ v 1 = 24 ∨ v 1 = 25 ∨ v 1 = 26 ∨ v 1 = 27 ∨ v 1 = 28 ∨ v 1 = 29 ∨ v 1 = 30 := by omega
  rcases hv with e | e | e | e | e | e | e | e | e | e | e | e | e | e | e | e | e | e | e | e | e | e | e | e | e | e | e | e | e | e | e
  · try simp only [e, Int.reduceSub, shr0, shl0] at *
    try simp (disch := omega) only [Go.Ev.fdiv_e] at *
    omega
  · try simp only [e, Int.reduceSub, shr1, shl1, shr0, shl0] at *
    try simp (disch := omega) only [Go.Ev.fdiv_e] at *
    omega
  · try simp only [e, Int.reduceSub, shr2, shl2, shr1, shl1] at *
    try simp (disch := omega) only [Go.Ev.fdiv_e] at *
    omega
  · try simp only [e, Int.reduceSub, shr3, shl3, shr2, shl2] at *
    try simp (disch := omega) only [Go.Ev.fdiv_e] at *
    omega
  · try simp only [e, Int.reduceSub, shr4, shl4, shr3, shl3] at *
    try simp (disch := omega) only [Go.Ev.fdiv_e] at *
    omega
  · try simp only [e, Int.reduceSub, shr5, shl5, shr4, shl4] at *
    try simp (disch := omega) only [Go.Ev.fdiv_e] at *
    omega
  · try simp only [e, Int.reduceSub, shr6, shl6, shr5, shl5] at *
    try simp (disch := omega) only [Go.Ev.fdiv_e] at *
    omega
  · try simp only [e, Int.reduceSub, shr7, shl7, shr6, shl6] at *
    try simp (disch := omega) only [Go.Ev.fdiv_e] at *
    omega
  · try simp only [e, Int.reduceSub, shr8, shl8, shr7, shl7] at *
    try simp (disch := omega) only [Go.Ev.fdiv_e] at *
    omega
  · try simp only [e, Int.reduceSub, shr9, shl9, shr8, shl8] at *
    try simp (disch := omega) only [Go.Ev.fdiv_e] at *
    omega
  · try simp only [e, Int.reduceSub, shr10, shl10, shr9, shl9] at *
    try simp (disch := omega) only [Go.Ev.fdiv_e] at *
    omega
  · try simp only [e, Int.reduceSub, shr11, shl11, shr10, shl10] at *
    try simp (disch := omega) only [Go.Ev.fdiv_e] at *
    omega
  · try simp only [e, Int.reduceSub, shr12, shl12, shr11, shl11] at *
    try simp (disch := omega) only [Go.Ev.fdiv_e] at *
    omega
  · try simp only [e, Int.reduceSub, shr13, shl13, shr12, shl12] at *
    try simp (disch := omega) only [Go.Ev.fdiv_e] at *
    omega
  · try simp only [e, Int.reduceSub, shr14, shl14, shr13, shl13] at *
    try simp (disch := omega) only [Go.Ev.fdiv_e] at *
    omega
  · try simp only [e, Int.reduceSub, shr15, shl15, shr14, shl14] at *
    try simp (disch := omega) only [Go.Ev.fdiv_e] at *
    omega
  · try simp only [e, Int.reduceSub, shr16, shl16, shr15, shl15] at *
    try simp (disch := omega) only [Go.Ev.fdiv_e] at *
    omega
  · try simp only [e, Int.reduceSub, shr17, shl17, shr16, shl16] at *
    try simp (disch := omega) only [Go.Ev.fdiv_e] at *
    omega
  · try simp only [e, Int.reduceSub, shr18, shl18, shr17, shl17] at *
    try simp (disch := omega) only [Go.Ev.fdiv_e] at *
    omega
  · try simp only [e, Int.reduceSub, shr19, shl19, shr18, shl18] at *
    try simp (disch := omega) only [Go.Ev.fdiv_e] at *
    omega
  · try simp only [e, Int.reduceSub, shr20, shl20, shr19, shl19] at *
    try simp (disch := omega) only [Go.Ev.fdiv_e] at *
    omega
  · try simp only [e, Int.reduceSub, shr21, shl21, shr20, shl20] at *
    try simp (disch := omega) only [Go.Ev.fdiv_e] at *
    omega
  · try simp only [e, Int.reduceSub, shr22, shl22, shr21, shl21] at *
    try simp (disch := omega) only [Go.Ev.fdiv_e] at *
    omega
  · try simp only [e, Int.reduceSub, shr23, shl23, shr22, shl22] at *
    try simp (disch := omega) only [Go.Ev.fdiv_e] at *
    omega
  · try simp only [e, Int.reduceSub, shr24, shl24, shr23, shl23] at *
    try simp (disch := omega) only [Go.Ev.fdiv_e] at *
    omega
  · try simp only [e, Int.reduceSub, shr25, shl25, shr24, shl24] at *
    try simp (disch := omega) only [Go.Ev.fdiv_e] at *
    omega
  · try simp only [e, Int.reduceSub, shr26, shl26, shr25, shl25] at *
    try simp (disch := omega) only [Go.Ev.fdiv_e] at *
    omega
  · try simp only [e, Int.reduceSub, shr27, shl27, shr26, shl26] at *
    try simp (disch := omega) only [Go.Ev.fdiv_e] at *
    omega
  · try simp only [e, Int.reduceSub, shr28, shl28, shr27, shl27] at *
    try simp (disch := omega) only [Go.Ev.fdiv_e] at *
    omega
  · try simp only [e, Int.reduceSub, shr29, shl29, shr28, shl28] at *
    try simp (disch := omega) only [Go.Ev.fdiv_e] at *
    omega
  · try simp only [e, Int.reduceSub, shr30, shl30, shr29, shl29] at *
    try simp (disch := omega) only [Go.Ev.fdiv_e] at *
    omega
def dead21 : List Fact := [⟨(.bin .sub (.bin (.shr .i64) (.bin .add (.lit 0) (.bin .fdiv (.bin (.shl .i64) (.lit 1) (.var 1)) (.lit 2))) (.var 1)) (.bin (.shr .i64) (.bin .add (.lit 0) (.bin (.shl .i64) (.lit 1) (.bin .sub (.var 1) (.lit 1)))) (.var 1))), 0, false⟩, ⟨(.bin .sub (.bin (.shr .i64) (.bin .add (.lit 0) (.bin .fdiv (.bin (.shl .i64) (.lit 1) (.var 1)) (.lit 2))) (.var 1)) (.bin (.shr .i64) (.bin .add (.lit 0) (.bin (.shl .i64) (.lit 1) (.bin .sub (.var 1) (.lit 1)))) (.var 1))), (-1), false⟩, ⟨(.bin .sub (.bin .sub (.bin (.shl .i64) (.lit 1) (.bin .sub (.var 0) (.lit 1))) (.lit 1)) (.bin (.shr .i64) (.bin .add (.lit 0) (.bin (.shl .i64) (.lit 1) (.bin .sub (.var 1) (.lit 1)))) (.var 1))), (-1), false⟩, ⟨(.var 1), 0, false⟩, ⟨(.bin .sub (.bin .sub (.bin (.shl .i64) (.lit 1) (.bin .sub (.var 0) (.lit 1))) (.lit 1)) (.bin (.shr .i64) (.bin .add (.lit 0) (.bin .fdiv (.bin (.shl .i64) (.lit 1) (.var 1)) (.lit 2))) (.var 1))), (-1), false⟩, ⟨(.var 2), (-1), false⟩, ⟨(.var 2), (-70368744177665), false⟩, ⟨(.var 2), 0, true⟩, ⟨(.var 1), 30, true⟩, ⟨(.var 1), (-1), false⟩, ⟨(.var 0), 8, true⟩, ⟨(.var 0), 1, false⟩]
theorem dead21_no (v : Nat → Int) : ¬ ∀ f ∈ dead21, f.holds v := by
  intro h
  have h0 : 0 < (SO.eval (.shr .i64) ((0 + Int.fdiv (SO.eval (.shl .i64) (1) (v 1)) (2))) (v 1) - SO.eval (.shr .i64) ((0 + SO.eval (.shl .i64) (1) ((v 1 - 1)))) (v 1)) := h _ (.head _)
  have h1 : (-1) < (SO.eval (.shr .i64) ((0 + Int.fdiv (SO.eval (.shl .i64) (1) (v 1)) (2))) (v 1) - SO.eval (.shr .i64) ((0 + SO.eval (.shl .i64) (1) ((v 1 - 1)))) (v 1)) := h _ (.tail _ (.head _))
  have h2 : (-1) < ((SO.eval (.shl .i64) (1) ((v 0 - 1)) - 1) - SO.eval (.shr .i64) ((0 + SO.eval (.shl .i64) (1) ((v 1 - 1)))) (v 1)) := h _ (.tail _ (.tail _ (.head _)))
  have h3 : 0 < v 1 := h _ (.tail _ (.tail _ (.tail _ (.head _))))
  have h4 : (-1) < ((SO.eval (.shl .i64) (1) ((v 0 - 1)) - 1) - SO.eval (.shr .i64) ((0 + Int.fdiv (SO.eval (.shl .i64) (1) (v 1)) (2))) (v 1)) := h _ (.tail _ (.tail _ (.tail _ (.tail _ (.head _)))))
  have h5 : (-1) < v 2 := h _ (.tail _ (.tail _ (.tail _ (.tail _ (.tail _ (.head _))))))
  have h6 : (-70368744177665) < v 2 := h _ (.tail _ (.tail _ (.tail _ (.tail _ (.tail _ (.tail _ (.head _)))))))
  have h7 : v 2 ≤ 0 := h _ (.tail _ (.tail _ (.tail _ (.tail _ (.tail _ (.tail _ (.tail _ (.head _))))))))
  have h8 : v 1 ≤ 30 := h _ (.tail _ (.tail _ (.tail _ (.tail _ (.tail _ (.tail _ (.tail _ (.tail _ (.head _)))))))))
  have h9 : (-1) < v 1 := h _ (.tail _ (.tail _ (.tail _ (.tail _ (.tail _ (.tail _ (.tail _ (.tail _ (.tail _ (.head _))))))))))
  have h10 : v 0 ≤ 8 := h _ (.tail _ (.tail _ (.tail _ (.tail _ (.tail _ (.tail _ (.tail _ (.tail _ (.tail _ (.tail _ (.head _)))))))))))
  have h11 : 1 < v 0 := h _ (.tail _ (.tail _ (.tail _ (.tail _ (.tail _ (.tail _ (.tail _ (.tail _ (.tail _ (.tail _ (.tail _ (.head _))))))))))))
  clear h
  have hv : v 1 = 0 ∨ v 1 = 1 ∨ v 1 = 2 ∨ v 1 = 3 ∨ v 1 = 4 ∨ v 1 = 5 ∨ v 1 = 6 ∨ v 1 = 7 ∨ v 1 = 8 ∨ v 1 = 9 ∨ v 1 = 10 ∨ v 1 = 11 ∨ v 1 = 12 ∨ v 1 = 13 ∨ v 1 = 14 ∨ v 1 = 15 ∨ v 1 = 16 ∨ v 1 = 17 ∨ v 1 = 18 ∨ v 1 = 19 ∨ v 1 = 20 ∨ v 1 = 21 ∨ v 1 = 22 ∨ v 1 = 23 ∨ v 1 = 24 ∨ v 1 = 25 ∨ v 1 = 26 ∨ v 1 = 27 ∨ v 1 = 28 ∨ v 1 = 29 ∨ v 1 = 30 := by omega
  rcases hv with e | e | e | e | e | e | e | e | e | e | e | e | e | e | e | e | e | e | e | e | e | e | e | e | e | e | e | e | e | e | e
  · try simp only [e, Int.reduceSub, shr0, shl0] at *
    try simp (disch := omega) only [Go.Ev.fdiv_e] at *
    omega
  · try simp only [e, Int.reduceSub, shr1, shl1, shr0, shl0] at *
    try simp (disch := omega) only [Go.Ev.fdiv_e] at *
    omega
  · try simp only [e, Int.reduceSub, shr2, shl2, shr1, shl1] at *
    try simp (disch := omega) only [Go.Ev.fdiv_e] at *
    omega
  · try simp only [e, Int.reduceSub, shr3, shl3, shr2, shl2] at *
    try simp (disch := omega) only [Go.Ev.fdiv_e] at *
    omega
  · try simp only [e, Int.reduceSub, shr4, shl4, shr3, shl3] at *
    try simp (disch := omega) only [Go.Ev.fdiv_e] at *
    omega
  · try simp only [e, Int.reduceSub, shr5, shl5, shr4, shl4] at *
    try simp (disch := omega) only [Go.Ev.fdiv_e] at *
    omega
  · try simp only [e, Int.reduceSub, shr6, shl6, shr5, shl5] at *
    try simp (disch := omega) only [Go.Ev.fdiv_e] at *
    omega
  · try simp only [e, Int.reduceSub, shr7, shl7, shr6, shl6] at *
    try simp (disch := omega) only [Go.Ev.fdiv_e] at *
    omega
  · try simp only [e, Int.reduceSub, shr8, shl8, shr7, shl7] at *
    try simp (disch := omega) only [Go.Ev.fdiv_e] at *
    omega
  · try simp only [e, Int.reduceSub, shr9, shl9, shr8, shl8] at *
    try simp (disch := omega) only [Go.Ev.fdiv_e] at *
    omega
  · try simp only [e, Int.reduceSub, shr10, shl10, shr9, shl9] at *
    try simp (disch := omega) only [Go.Ev.fdiv_e] at *
    omega
  · try simp only [e, Int.reduceSub, shr11, shl11, shr10, shl10] at *
    try simp (disch := omega) only [Go.Ev.fdiv_e] at *
    omega
  · try simp only [e, Int.reduceSub, shr12, shl12, shr11, shl11] at *
    try simp (disch := omega) only [Go.Ev.fdiv_e] at *
    omega
  · try simp only [e, Int.reduceSub, shr13, shl13, shr12, shl12] at *
    try simp (disch := omega) only [Go.Ev.fdiv_e] at *
    omega
  · try simp only [e, Int.reduceSub, shr14, shl14, shr13, shl13] at *
    try simp (disch := omega) only [Go.Ev.fdiv_e] at *
    omega
  · try simp only [e, Int.reduceSub, shr15, shl15, shr14, shl14] at *
    try simp (disch := omega) only [Go.Ev.fdiv_e] at *
    omega
  · try simp only [e, Int.reduceSub, shr16, shl16, shr15, shl15] at *
    try simp (disch := omega) only [Go.Ev.fdiv_e] at *
    omega
  · try simp only [e, Int.reduceSub, shr17, shl17, shr16, shl16] at *
    try simp (disch := omega) only [Go.Ev.fdiv_e] at *
    omega
  · try simp only [e, Int.reduceSub, shr18, shl18, shr17, shl17] at *
    try simp (disch := omega) only [Go.Ev.fdiv_e] at *
    omega
  · try simp only [e, Int.reduceSub, shr19, shl19, shr18, shl18] at *
    try simp (disch := omega) only [Go.Ev.fdiv_e] at *
    omega
  · try simp only [e, Int.reduceSub, shr20, shl20, shr19, shl19] at *
    try simp (disch := omega) only [Go.Ev.fdiv_e] at *
    omega
  · try simp only [e, Int.reduceSub, shr21, shl21, shr20, shl20] at *
    try simp (disch := omega) only [Go.Ev.fdiv_e] at *
    omega
  · try simp only [e, Int.reduceSub, shr22, shl22, shr21, shl21] at *
    try simp (disch := omega) only [Go.Ev.fdiv_e] at *
    omega
  · try simp only [e, Int.reduceSub, shr23, shl23, shr22, shl22] at *
    try simp (disch := omega) only [Go.Ev.fdiv_e] at *
    omega
  · try simp only [e, Int.reduceSub, shr24, shl24, shr23, shl23] at *
    try simp (disch := omega) only [Go.Ev.fdiv_e] at *
    omega
  · try simp only [e, Int.reduceSub, shr25, shl25, shr24, shl24] at *
    try simp (disch := omega) only [Go.Ev.fdiv_e] at *
    omega
  · try simp only [e, Int.reduceSub, shr26, shl26, shr25, shl25] at *
    try simp (disch := omega) only [Go.Ev.fdiv_e] at *
    omega
  · try simp only [e, Int.reduceSub, shr27, shl27, shr26, shl26] at *
    try simp (disch := omega) only [Go.Ev.fdiv_e] at *
    omega
  · try simp only [e, Int.reduceSub, shr28, shl28, shr27, shl27] at *
    try simp (disch := omega) only [Go.Ev.fdiv_e] at *
    omega
  · try simp only [e, Int.reduceSub, shr29, shl29, shr28, shl28] at *
    try simp (disch := omega) only [Go.Ev.fdiv_e] at *
    omega
  · try simp only [e, Int.reduceSub, shr30, shl30, shr29, shl29] at *
    try simp (disch := omega) only [Go.Ev.fdiv_e] at *
    omega
def dead22 : List Fact := [⟨(.bin .sub (.bin .sub (.bin (.shl .i64) (.lit 1) (.bin .sub (.var 0) (.lit 1))) (.lit 1)) (.var 2)), (-1), false⟩, ⟨(.bin .sub (.bin .sub (.bin (.shl .i64) (.lit 1) (.bin .sub (.var 0) (.lit 1))) (.lit 1)) (.bin .fdiv (.bin .add (.var 2) (.lit 0)) (.lit 1))), (-1), true⟩]
theorem dead22_no (v : Nat → Int) : ¬ ∀ f ∈ dead22, f.holds v := by
  intro h
  have h0 : (-1) < ((SO.eval (.shl .i64) (1) ((v 0 - 1)) - 1) - v 2) := h _ (.head _)
  have h1 : ((SO.eval (.shl .i64) (1) ((v 0 - 1)) - 1) - Int.fdiv ((v 2 + 0)) (1)) ≤ (-1) := h _ (.tail _ (.head _))
  clear h
  first | omega | (simp only [Int.mul_add, Int.add_mul, Int.mul_sub, Int.sub_mul, Int.mul_assoc, Int.mul_comm, Int.mul_left_comm] at *; omega) | (simp (disch := omega) only [Go.Ev.w_i64, Go.Ev.w_i32, Go.Ev.w_u64, Go.Ev.w_u32, Go.Ev.w_u8, Go.Ev.tdiv_e, Go.Ev.tmod_e, Go.Ev.fdiv_e] at *; omega) | (simp only [Int.mul_add, Int.add_mul, Int.mul_sub, Int.sub_mul, Int.mul_assoc, Int.mul_comm, Int.mul_left_comm] at *; simp (disch := omega) only [Go.Ev.w_i64, Go.Ev.w_i32, Go.Ev.w_u64, Go.Ev.w_u32, Go.Ev.w_u8, Go.Ev.tdiv_e, Go.Ev.tmod_e, Go.Ev.fdiv_e] at *; omega)
def dead23 : List Fact := [⟨(.bin .sub (.bin .sub (.bin (.shl .i64) (.lit 1) (.bin .sub (.var 0) (.lit 1))) (.lit 1)) (.var 2)), (-1), true⟩, ⟨(.bin .sub (.bin .sub (.bin (.shl .i64) (.lit 1) (.bin .sub (.var 0) (.lit 1))) (.lit 1)) (.bin .fdiv (.bin .add (.var 2) (.lit 0)) (.lit 1))), (-1), false⟩]
theorem dead23_no (v : Nat → Int) : ¬ ∀ f ∈ dead23, f.holds v := by
  intro h
  have h0 : ((SO.eval (.shl .i64) (1) ((v 0 - 1)) - 1) - v 2) ≤ (-1) := h _ (.head _)
  have h1 : (-1) < ((SO.eval (.shl .i64) (1) ((v 0 - 1)) - 1) - Int.fdiv ((v 2 + 0)) (1)) := h _ (.tail _ (.head _))
  clear h
  first | omega | (simp only [Int.mul_add, Int.add_mul, Int.mul_sub, Int.sub_mul, Int.mul_assoc, Int.mul_comm, Int.mul_left_comm] at *; omega) | (simp (disch := omega) only [Go.Ev.w_i64, Go.Ev.w_i32, Go.Ev.w_u64, Go.Ev.w_u32, Go.Ev.w_u8, Go.Ev.tdiv_e, Go.Ev.tmod_e, Go.Ev.fdiv_e] at *; omega) | (simp only [Int.mul_add, Int.add_mul, Int.mul_sub, Int.sub_mul, Int.mul_assoc, Int.mul_comm, Int.mul_left_comm] at *; simp (disch := omega) only [Go.Ev.w_i64, Go.Ev.w_i32, Go.Ev.w_u64, Go.Ev.w_u32, Go.Ev.w_u8, Go.Ev.tdiv_e, Go.Ev.tmod_e, Go.Ev.fdiv_e] at *; omega)
def dead24 : List Fact := [⟨(.bin .sub (.bin .fdiv (.bin .add (.var 2) (.lit 0)) (.lit 1)) (.var 2)), (-1), true⟩]
theorem dead24_no (v : Nat → Int) : ¬ ∀ f ∈ dead24, f.holds v := by
  intro h
  have h0 : (Int.fdiv ((v 2 + 0)) (1) - v 2) ≤ (-1) := h _ (.head _)
  clear h
  first | omega | (simp only [Int.mul_add, Int.add_mul, Int.mul_sub, Int.sub_mul, Int.mul_assoc, Int.mul_comm, Int.mul_left_comm] at *; omega) | (simp (disch := omega) only [Go.Ev.w_i64, Go.Ev.w_i32, Go.Ev.w_u64, Go.Ev.w_u32, Go.Ev.w_u8, Go.Ev.tdiv_e, Go.Ev.tmod_e, Go.Ev.fdiv_e] at *; omega) | (simp only [Int.mul_add, Int.add_mul, Int.mul_sub, Int.sub_mul, Int.mul_assoc, Int.mul_comm, Int.mul_left_comm] at *; simp (disch := omega) only [Go.Ev.w_i64, Go.Ev.w_i32, Go.Ev.w_u64, Go.Ev.w_u32, Go.Ev.w_u8, Go.Ev.tdiv_e, Go.Ev.tmod_e, Go.Ev.fdiv_e] at *; omega)
def dead25 : List Fact := [⟨(.bin .sub (.bin .fdiv (.bin .add (.var 2) (.lit 0)) (.lit 1)) (.var 2)), 0, false⟩]
theorem dead25_no (v : Nat → Int) : ¬ ∀ f ∈ dead25, f.holds v := by
  intro h
  have h0 : 0 < (Int.fdiv ((v 2 + 0)) (1) - v 2) := h _ (.head _)
  clear h
  first | omega | (simp only [Int.mul_add, Int.add_mul, Int.mul_sub, Int.sub_mul, Int.mul_assoc, Int.mul_comm, Int.mul_left_comm] at *; omega) | (simp (disch := omega) only [Go.Ev.w_i64, Go.Ev.w_i32, Go.Ev.w_u64, Go.Ev.w_u32, Go.Ev.w_u8, Go.Ev.tdiv_e, Go.Ev.tmod_e, Go.Ev.fdiv_e] at *; omega) | (simp only [Int.mul_add, Int.add_mul, Int.mul_sub, Int.sub_mul, Int.mul_assoc, Int.mul_comm, Int.mul_left_comm] at *; simp (disch := omega) only [Go.Ev.w_i64, Go.Ev.w_i32, Go.Ev.w_u64, Go.Ev.w_u32, Go.Ev.w_u8, Go.Ev.tdiv_e, Go.Ev.tmod_e, Go.Ev.fdiv_e] at *; omega)
def dead26 : List Fact := [⟨(.bin .sub (.bin .sub (.bin (.shl .i64) (.lit 1) (.bin .sub (.var 0) (.lit 1))) (.lit 1)) (.bin (.shr .i64) (.bin .add (.var 2) (.bin (.shl .i64) (.lit 1) (.bin .sub (.var 1) (.lit 1)))) (.var 1))), 0, true⟩, ⟨(.bin .sub (.bin .sub (.bin (.shl .i64) (.lit 1) (.bin .sub (.var 0) (.lit 1))) (.lit 1)) (.bin (.shr .i64) (.bin .add (.var 2) (.bin (.shl .i64) (.lit 1) (.bin .sub (.var 1) (.lit 1)))) (.var 1))), (-1), false⟩, ⟨(.var 1), 0, false⟩, ⟨(.bin .sub (.bin .sub (.bin (.shl .i64) (.lit 1) (.bin .sub (.var 0) (.lit 1))) (.lit 1)) (.bin (.shr .i64) (.bin .add (.var 2) (.bin .fdiv (.bin (.shl .i64) (.lit 1) (.var 1)) (.lit 2))) (.var 1))), (-1), true⟩, ⟨(.var 2), 70368744177664, true⟩, ⟨(.var 2), 0, false⟩, ⟨(.var 1), 30, true⟩, ⟨(.var 1), (-1), false⟩, ⟨(.var 0), 8, true⟩, ⟨(.var 0), 1, false⟩]
theorem dead26_no (v : Nat → Int) : ¬ ∀ f ∈ dead26, f.holds v := by
  intro h
  have h0 : ((SO.eval (.shl .i64) (1) ((v 0 - 1)) - 1) - SO.eval (.shr .i64) ((v 2 + SO.eval (.shl .i64) (1) ((v 1 - 1)))) (v 1)) ≤ 0 := h _ (.head _)
  have h1 : (-1) < ((SO.eval (.shl .i64) (1) ((v 0 - 1)) - 1) - SO.eval (.shr .i64) ((v 2 + SO.eval (.shl .i64) (1) ((v 1 - 1)))) (v 1)) := h _ (.tail _ (.head _))
  have h2 : 0 < v 1 := h _ (.tail _ (.tail _ (.head _)))
  have h3 : ((SO.eval (.shl .i64) (1) ((v 0 - 1)) - 1) - SO.eval (.shr .i64) ((v 2 + Int.fdiv (SO.eval (.shl .i64) (1) (v 1)) (2))) (v 1)) ≤ (-1) := h _ (.tail _ (.tail _ (.tail _ (.head _))))
  have h4 : v 2 ≤ 70368744177664 := h _ (.tail _ (.tail _ (.tail _ (.tail _ (.head _)))))
  have h5 : 0 < v 2 := h _ (.tail _ (.tail _ (.tail _ (.tail _ (.tail _ (.head _))))))
  have h6 : v 1 ≤ 30 := h _ (.tail _ (.tail _ (.tail _ (.tail _ (.tail _ (.tail _ (.head _)))))))
  have h7 : (-1) < v 1 := h _ (.tail _ (.tail _ (.tail _ (.tail _ (.tail _ (.tail _ (.tail _ (.head _))))))))
  have h8 : v 0 ≤ 8 := h _ (.tail _ (.tail _ (.tail _ (.tail _ (.tail _ (.tail _ (.tail _ (.tail _ (.head _)))))))))
  have h9 : 1 < v 0 := h _ (.tail _ (.tail _ (.tail _ (.tail _ (.tail _ (.tail _ (.tail _ (.tail _ (.tail _ (.head _))))))))))
  clear h
  have hv : v 1 = 0 ∨ v 1 = 1 ∨ v 1 = 2 ∨ v 1 = 3 ∨ v 1 = 4 ∨ v 1 = 5 ∨ v 1 = 6 ∨ v 1 = 7 ∨ v 1 = 8 ∨ v 1 = 9 ∨ v 1 = 10 ∨ v 1 = 11 ∨ v 1 = 12 ∨ v 1 = 13 ∨ v 1 = 14 ∨ v 1 = 15 ∨ v 1 = 16 ∨ v 1 = 17 ∨ v 1 = 18 ∨ v 1 = 19 ∨ v 1 = 20 ∨ v 1 = 21 ∨ v 1 = 22 ∨ v 1 = 23 ∨ v 1 = 24 ∨ v 1 = 25 ∨ v 1 = 26 ∨ v 1 = 27 ∨ v 1 = 28 ∨ v 1 = 29 ∨ v 1 = 30 := by omega
  rcases hv with e | e | e | e | e | e | e | e | e | e | e | e | e | e | e | e | e | e | e | e | e | e | e | e | e | e | e | e | e | e | e
  · try simp only [e, Int.reduceSub, shr0, shl0] at *
    try simp (disch := omega) only [Go.Ev.fdiv_e] at *
    omega
  · try simp only [e, Int.reduceSub, shr1, shl1, shr0, shl0] at *
    try simp (disch := omega) only [Go.Ev.fdiv_e] at *
    omega
  · try simp only [e, Int.reduceSub, shr2, shl2, shr1, shl1] at *
    try simp (disch := omega) only [Go.Ev.fdiv_e] at *
    omega
  · try simp only [e, Int.reduceSub, shr3, shl3, shr2, shl2] at *
    try simp (disch := omega) only [Go.Ev.fdiv_e] at *
    omega
  · try simp only [e, Int.reduceSub, shr4, shl4, shr3, shl3] at *
    try simp (disch := omega) only [Go.Ev.fdiv_e] at *
    omega
  · try simp only [e, Int.reduceSub, shr5, shl5, shr4, shl4] at *
    try simp (disch := omega) only [Go.Ev.fdiv_e] at *
    omega
  · try simp only [e, Int.reduceSub, shr6, shl6, shr5, shl5] at *
    try simp (disch := omega) only [Go.Ev.fdiv_e] at *
    omega
  · try simp only [e, Int.reduceSub, shr7, shl7, shr6, shl6] at *
    try simp (disch := omega) only [Go.Ev.fdiv_e] at *
    omega
  · try simp only [e, Int.reduceSub, shr8, shl8, shr7, shl7] at *
    try simp (disch := omega) only [Go.Ev.fdiv_e] at *
    omega
  · try simp only [e, Int.reduceSub, shr9, shl9, shr8, shl8] at *
    try simp (disch := omega) only [Go.Ev.fdiv_e] at *
    omega
  · try simp only [e, Int.reduceSub, shr10, shl10, shr9, shl9] at *
    try simp (disch := omega) only [Go.Ev.fdiv_e] at *
    omega
  · try simp only [e, Int.reduceSub, shr11, shl11, shr10, shl10] at *
    try simp (disch := omega) only [Go.Ev.fdiv_e] at *
    omega
  · try simp only [e, Int.reduceSub, shr12, shl12, shr11, shl11] at *
    try simp (disch := omega) only [Go.Ev.fdiv_e] at *
    omega
  · try simp only [e, Int.reduceSub, shr13, shl13, shr12, shl12] at *
    try simp (disch := omega) only [Go.Ev.fdiv_e] at *
    omega
  · try simp only [e, Int.reduceSub, shr14, shl14, shr13, shl13] at *
    try simp (disch := omega) only [Go.Ev.fdiv_e] at *
    omega
  · try simp only [e, Int.reduceSub, shr15, shl15, shr14, shl14] at *
    try simp (disch := omega) only [Go.Ev.fdiv_e] at *
    omega
  · try simp only [e, Int.reduceSub, shr16, shl16, shr15, shl15] at *
    try simp (disch := omega) only [Go.Ev.fdiv_e] at *
    omega
  · try simp only [e, Int.reduceSub, shr17, shl17, shr16, shl16] at *
    try simp (disch := omega) only [Go.Ev.fdiv_e] at *
    omega
  · try simp only [e, Int.reduceSub, shr18, shl18, shr17, shl17] at *
    try simp (disch := omega) only [Go.Ev.fdiv_e] at *
    omega
  · try simp only [e, Int.reduceSub, shr19, shl19, shr18, shl18] at *
    try simp (disch := omega) only [Go.Ev.fdiv_e] at *
    omega
  · try simp only [e, Int.reduceSub, shr20, shl20, shr19, shl19] at *
    try simp (disch := omega) only [Go.Ev.fdiv_e] at *
    omega
  · try simp only [e, Int.reduceSub, shr21, shl21, shr20, shl20] at *
    try simp (disch := omega) only [Go.Ev.fdiv_e] at *
    omega
  · try simp only [e, Int.reduceSub, shr22, shl22, shr21, shl21] at *
    try simp (disch := omega) only [Go.Ev.fdiv_e] at *
    omega
  · try simp only [e, Int.reduceSub, shr23, shl23, shr22, shl22] at *
    try simp (disch := omega) only [Go.Ev.fdiv_e] at *
    omega
  · try simp only [e, Int.reduceSub, shr24, shl24, shr23, shl23] at *
    try simp (disch := omega) only [Go.Ev.fdiv_e] at *
    omega
  · try simp only [e, Int.reduceSub, shr25, shl25, shr24, shl24] at *
    try simp (disch := omega) only [Go.Ev.fdiv_e] at *
    omega
  · try simp only [e, Int.reduceSub, shr26, shl26, shr25, shl25] at *
    try simp (disch := omega) only [Go.Ev.fdiv_e] at *
    omega
  · try simp only [e, Int.reduceSub, shr27, shl27, shr26, shl26] at *
    try simp (disch := omega) only [Go.Ev.fdiv_e] at *
    omega
  · try simp only [e, Int.reduceSub, shr28, shl28, shr27, shl27] at *
    try simp (disch := omega) only [Go.Ev.fdiv_e] at *
    omega
  · try simp only [e, Int.reduceSub, shr29, shl29, shr28, shl28] at *
    try simp (disch := omega) only [Go.Ev.fdiv_e] at *
    omega
  · try simp only [e, Int.reduceSub, shr30, shl30, shr29, shl29] at *
    try simp (disch := omega) only [Go.Ev.fdiv_e] at *
    omega
def dead27 : List Fact := [⟨(.bin .sub (.bin .sub (.bin (.shl .i64) (.lit 1) (.bin .sub (.var 0) (.lit 1))) (.lit 1)) (.bin (.shr .i64) (.bin .add (.var 2) (.bin (.shl .i64) (.lit 1) (.bin .sub (.var 1) (.lit 1)))) (.var 1))), 0, false⟩, ⟨(.bin .sub (.bin .sub (.bin (.shl .i64) (.lit 1) (.bin .sub (.var 0) (.lit 1))) (.lit 1)) (.bin (.shr .i64) (.bin .add (.var 2) (.bin (.shl .i64) (.lit 1) (.bin .sub (.var 1) (.lit 1)))) (.var 1))), (-1), false⟩, ⟨(.var 1), 0, false⟩, ⟨(.bin .sub (.bin .sub (.bin (.shl .i64) (.lit 1) (.bin .sub (.var 0) (.lit 1))) (.lit 1)) (.bin (.shr .i64) (.bin .add (.var 2) (.bin .fdiv (.bin (.shl .i64) (.lit 1) (.var 1)) (.lit 2))) (.var 1))), (-1), true⟩, ⟨(.var 2), 70368744177664, true⟩, ⟨(.var 2), 0, false⟩, ⟨(.var 1), 30, true⟩, ⟨(.var 1), (-1), false⟩, ⟨(.var 0), 8, true⟩, ⟨(.var 0), 1, false⟩]
theorem dead27_no (v : Nat → Int) : ¬ ∀ f ∈ dead27, f.holds v := by
  intro h
  have h0 : 0 < ((SO.eval (.shl .i64) (1) ((v 0 - 1)) - 1) - SO.eval (.shr .i64) ((v 2 + SO.eval (.shl .i64) (1) ((v 1 - 1)))) (v 1)) := h _ (.head _)
  have h1 : (-1) < ((SO.eval (.shl .i64) (1) ((v 0 - 1)) - 1) - SO.eval (.shr .i64) ((v 2 + SO.eval (.shl .i64) (1) ((v 1 - 1)))) (v 1)) := h _ (.tail _ (.head _))
  have h2 : 0 < v 1 := h _ (.tail _ (.tail _ (.head _)))
  have h3 : ((SO.eval (.shl .i64) (1) ((v 0 - 1)) - 1) - SO.eval (.shr .i64) ((v 2 + Int.fdiv (SO.eval (.shl .i64) (1) (v 1)) (2))) (v 1)) ≤ (-1) := h _ (.tail _ (.tail _ (.tail _ (.head _))))
  have h4 : v 2 ≤ 70368744177664 := h _ (.tail _ (.tail _ (.tail _ (.tail _ (.head _)))))
  have h5 : 0 < v 2 := h _ (.tail _ (.tail _ (.tail _ (.tail _ (.tail _ (.head _))))))
  have h6 : v 1 ≤ 30 := h _ (.tail _ (.tail _ (.tail _ (.tail _ (.tail _ (.tail _ (.head _)))))))
  have h7 : (-1) < v 1 := h _ (.tail _ (.tail _ (.tail _ (.tail _ (.tail _ (.tail _ (.tail _ (.head _))))))))
  have h8 : v 0 ≤ 8 := h _ (.tail _ (.tail _ (.tail _ (.tail _ (.tail _ (.tail _ (.tail _ (.tail _ (.head _)))))))))
  have h9 : 1 < v 0 := h _ (.tail _ (.tail _ (.tail _ (.tail _ (.tail _ (.tail _ (.tail _ (.tail _ (.tail _ (.head _))))))))))
  clear h
  have hv : v 1 = 0 ∨ v 1 = 1 ∨ v 1 = 2 ∨ v 1 = 3 ∨ v 1 = 4 ∨ v 1 = 5 ∨ v 1 = 6 ∨ v 1 = 7 ∨ v 1 = 8 ∨ v 1 = 9 ∨ v 1 = 10 ∨ v 1 = 11 ∨ v 1 = 12 ∨ v 1 = 13 ∨ v 1 = 14 ∨ v 1 = 15 ∨ v 1 = 16 ∨ v 1 = 17 ∨ v 1 = 18 ∨ v 1 = 19 ∨ v 1 = 20 ∨ v 1 = 21 ∨ v 1 = 22 ∨ v 1 = 23 ∨ v 1 = 24 ∨ v 1 = 25 ∨ v 1 = 26 ∨ v 1 = 27 ∨ v 1 = 28 ∨ v 1 = 29 ∨ v 1 = 30 := by omega
  rcases hv with e | e | e | e | e | e | e | e | e | e | e | e | e | e | e | e | e | e | e | e | e | e | e | e | e | e | e | e | e | e | e
  · try simp only [e, Int.reduceSub, shr0, shl0] at *
    try simp (disch := omega) only [Go.Ev.fdiv_e] at *
    omega
  · try simp only [e, Int.reduceSub, shr1, shl1, shr0, shl0] at *
    try simp (disch := omega) only [Go.Ev.fdiv_e] at *
    omega
  · try simp only [e, Int.reduceSub, shr2, shl2, shr1, shl1] at *
    try simp (disch := omega) only [Go.Ev.fdiv_e] at *
    omega
  · try simp only [e, Int.reduceSub, shr3, shl3, shr2, shl2] at *
    try simp (disch := omega) only [Go.Ev.fdiv_e] at *
    omega
  · try simp only [e, Int.reduceSub, shr4, shl4, shr3, shl3] at *
    try simp (disch := omega) only [Go.Ev.fdiv_e] at *
    omega
  · try simp only [e, Int.reduceSub, shr5, shl5, shr4, shl4] at *
    try simp (disch := omega) only [Go.Ev.fdiv_e] at *
    omega
  · try simp only [e, Int.reduceSub, shr6, shl6, shr5, shl5] at *
    try simp (disch := omega) only [Go.Ev.fdiv_e] at *
    omega
  · try simp only [e, Int.reduceSub, shr7, shl7, shr6, shl6] at *
    try simp (disch := omega) only [Go.Ev.fdiv_e] at *
    omega
  · try simp only [e, Int.reduceSub, shr8, shl8, shr7, shl7] at *
    try simp (disch := omega) only [Go.Ev.fdiv_e] at *
    omega
  · try simp only [e, Int.reduceSub, shr9, shl9, shr8, shl8] at *
    try simp (disch := omega) only [Go.Ev.fdiv_e] at *
    omega
  · try simp only [e, Int.reduceSub, shr10, shl10, shr9, shl9] at *
    try simp (disch := omega) only [Go.Ev.fdiv_e] at *
    omega
  · try simp only [e, Int.reduceSub, shr11, shl11, shr10, shl10] at *
    try simp (disch := omega) only [Go.Ev.fdiv_e] at *
    omega
  · try simp only [e, Int.reduceSub, shr12, shl12, shr11, shl11] at *
    try simp (disch := omega) only [Go.Ev.fdiv_e] at *
    omega
  · try simp only [e, Int.reduceSub, shr13, shl13, shr12, shl12] at *
    try simp (disch := omega) only [Go.Ev.fdiv_e] at *
    omega
  · try simp only [e, Int.reduceSub, shr14, shl14, shr13, shl13] at *
    try simp (disch := omega) only [Go.Ev.fdiv_e] at *
    omega
  · try simp only [e, Int.reduceSub, shr15, shl15, shr14, shl14] at *
    try simp (disch := omega) only [Go.Ev.fdiv_e] at *
    omega
  · try simp only [e, Int.reduceSub, shr16, shl16, shr15, shl15] at *
    try simp (disch := omega) only [Go.Ev.fdiv_e] at *
    omega
  · try simp only [e, Int.reduceSub, shr17, shl17, shr16, shl16] at *
    try simp (disch := omega) only [Go.Ev.fdiv_e] at *
    omega
  · try simp only [e, Int.reduceSub, shr18, shl18, shr17, shl17] at *
    try simp (disch := omega) only [Go.Ev.fdiv_e] at *
    omega
  · try simp only [e, Int.reduceSub, shr19, shl19, shr18, shl18] at *
    try simp (disch := omega) only [Go.Ev.fdiv_e] at *
    omega
  · try simp only [e, Int.reduceSub, shr20, shl20, shr19, shl19] at *
    try simp (disch := omega) only [Go.Ev.fdiv_e] at *
    omega
  · try simp only [e, Int.reduceSub, shr21, shl21, shr20, shl20] at *
    try simp (disch := omega) only [Go.Ev.fdiv_e] at *
    omega
  · try simp only [e, Int.reduceSub, shr22, shl22, shr21, shl21] at *
    try simp (disch := omega) only [Go.Ev.fdiv_e] at *
    omega
  · try simp only [e, Int.reduceSub, shr23, shl23, shr22, shl22] at *
    try simp (disch := omega) only [Go.Ev.fdiv_e] at *
    omega
  · try simp only [e, Int.reduceSub, shr24, shl24, shr23, shl23] at *
    try simp (disch := omega) only [Go.Ev.fdiv_e] at *
    omega
  · try simp only [e, Int.reduceSub, shr25, shl25, shr24, shl24] at *
    try simp (disch := omega) only [Go.Ev.fdiv_e] at *
    omega
  · try simp only [e, Int.reduceSub, shr26, shl26, shr25, shl25] at *
    try simp (disch := omega) only [Go.Ev.fdiv_e] at *
    omega
  · try simp only [e, Int.reduceSub, shr27, shl27, shr26, shl26] at *
    try simp (disch := omega) only [Go.Ev.fdiv_e] at *
    omega
  · try simp only [e, Int.reduceSub, shr28, shl28, shr27, shl27] at *
    try simp (disch := omega) only [Go.Ev.fdiv_e] at *
    omega
  · try simp only [e, Int.reduceSub, shr29, shl29, shr28, shl28] at *
    try simp (disch := omega) only [Go.Ev.fdiv_e] at *
    omega
  · try simp only [e, Int.reduceSub, shr30, shl30, shr29, shl29] at *
    try simp (disch := omega) only [Go.Ev.fdiv_e] at *
    omega
def dead28 : List Fact := [⟨(.bin .sub (.bin (.shr .i64) (.bin .add (.var 2) (.bin .fdiv (.bin (.shl .i64) (.lit 1) (.var 1)) (.lit 2))) (.var 1)) (.bin .sub (.bin (.shl .i64) (.lit 1) (.bin .sub (.var 0) (.lit 1))) (.lit 1))), (-1), true⟩, ⟨(.bin .sub (.bin .sub (.bin (.shl .i64) (.lit 1) (.bin .sub (.var 0) (.lit 1))) (.lit 1)) (.bin (.shr .i64) (.bin .add (.var 2) (.bin (.shl .i64) (.lit 1) (.bin .sub (.var 1) (.lit 1)))) (.var 1))), (-1), true⟩, ⟨(.var 1), 0, false⟩, ⟨(.bin .sub (.bin .sub (.bin (.shl .i64) (.lit 1) (.bin .sub (.var 0) (.lit 1))) (.lit 1)) (.bin (.shr .i64) (.bin .add (.var 2) (.bin .fdiv (.bin (.shl .i64) (.lit 1) (.var 1)) (.lit 2))) (.var 1))), (-1), false⟩, ⟨(.var 2), 70368744177664, true⟩, ⟨(.var 2), 0, false⟩, ⟨(.var 1), 30, true⟩, ⟨(.var 1), (-1), false⟩, ⟨(.var 0), 8, true⟩, ⟨(.var 0), 1, false⟩]
theorem dead28_no (v : Nat → Int) : ¬ ∀ f ∈ dead28, f.holds v := by
  intro h
  have h0 : (SO.eval (.shr .i64) ((v 2 + Int.fdiv (SO.eval (.shl .i64) (1) (v 1)) (2))) (v 1) - (SO.eval (.shl .i64) (1) ((v 0 - 1)) - 1)) ≤ (-1) := h _ (.head _)
  have h1 : ((SO.eval (.shl .i64) (1) ((v 0 - 1)) - 1) - SO.eval (.shr .i64) ((v 2 + SO.eval (.shl .i64) (1) ((v 1 - 1)))) (v 1)) ≤ (-1) := h _ (.tail _ (.head _))
  have h2 : 0 < v 1 := h _ (.tail _ (.tail _ (.head _)))
  have h3 : (-1) < ((SO.eval (.shl .i64) (1) ((v 0 - 1)) - 1) - SO.eval (.shr .i64) ((v 2 + Int.fdiv (SO.eval (.shl .i64) (1) (v 1)) (2))) (v 1)) := h _ (.tail _ (.tail _ (.tail _ (.head _))))
  have h4 : v 2 ≤ 70368744177664 := h _ (.tail _ (.tail _ (.tail _ (.tail _ (.head _)))))
  have h5 : 0 < v 2 := h _ (.tail _ (.tail _ (.tail _ (.tail _ (.tail _ (.head _))))))
  have h6 : v 1 ≤ 30 := h _ (.tail _ (.tail _ (.tail _ (.tail _ (.tail _ (.tail _ (.head _)))))))
  have h7 : (-1) < v 1 := h _ (.tail _ (.tail _ (.tail _ (.tail _ (.tail _ (.tail _ (.tail _ (.head _))))))))
  have h8 : v 0 ≤ 8 := h _ (.tail _ (.tail _ (.tail _ (.tail _ (.tail _ (.tail _ (.tail _ (.tail _ (.head _)))))))))
  have h9 : 1 < v 0 := h _ (.tail _ (.tail _ (.tail _ (.tail _ (.tail _ (.tail _ (.tail _ (.tail _ (.tail _ (.head _))))))))))
  clear h
  have hv : v 1 = 0 ∨ v 1 = 1 ∨ v 1 = 2 ∨ v 1 = 3 ∨ v 1 = 4 ∨ v 1 = 5 ∨ v 1 = 6 ∨ v 1 = 7 ∨ v 1 = 8 ∨ v 1 = 9 ∨ v 1 = 10 ∨ v 1 = 11 ∨ v 1 = 12 ∨ v 1 = 13 ∨ v 1 = 14 ∨ v 1 = 15 ∨ v 1 = 16 ∨ v 1 = 17 ∨ v 1 = 18 ∨ v 1 = 19 ∨ v 1 = 20 ∨ v 1 = 21 ∨ v 1 = 22 ∨ v 1 = 23 ∨ v 1 = 24 ∨ v 1 = 25 ∨ v 1 = 26 ∨ v 1 = 27 ∨ v 1 = 28 ∨ v 1 = 29 ∨ v 1 = 30 := by omega
  rcases hv with e | e | e | e | e | e | e | e | e | e | e | e | e | e | e | e | e | e | e | e | e | e | e | e | e | e | e | e | e | e | e
  · try simp only [e, Int.reduceSub, shr0, shl0] at *
    try simp (disch := omega) only [Go.Ev.fdiv_e] at *
    omega
  · try simp only [e, Int.reduceSub, shr1, shl1, shr0, shl0] at *
    try simp (disch := omega) only [Go.Ev.fdiv_e] at *
    omega
  · try simp only [e, Int.reduceSub, shr2, shl2, shr1, shl1] at *
    try simp (disch := omega) only [Go.Ev.fdiv_e] at *
    omega
  · try simp only [e, Int.reduceSub, shr3, shl3, shr2, shl2] at *
    try simp (disch := omega) only [Go.Ev.fdiv_e] at *
    omega
  · try simp only [e, Int.reduceSub, shr4, shl4, shr3, shl3] at *
    try simp (disch := omega) only [Go.Ev.fdiv_e] at *
    omega
  · try simp only [e, Int.reduceSub, shr5, shl5, shr4, shl4] at *
    try simp (disch := omega) only [Go.Ev.fdiv_e] at *
    omega
  · try simp only [e, Int.reduceSub, shr6, shl6, shr5, shl5] at *
    try simp (disch := omega) only [Go.Ev.fdiv_e] at *
    omega
  · try simp only [e, Int.reduceSub, shr7, shl7, shr6, shl6] at *
    try simp (disch := omega) only [Go.Ev.fdiv_e] at *
    omega
  · try simp only [e, Int.reduceSub, shr8, shl8, shr7, shl7] at *
    try simp (disch := omega) only [Go.Ev.fdiv_e] at *
    omega
  · try simp only [e, Int.reduceSub, shr9, shl9, shr8, shl8] at *
    try simp (disch := omega) only [Go.Ev.fdiv_e] at *
    omega
  · try simp only [e, Int.reduceSub, shr10, shl10, shr9, shl9] at *
    try simp (disch := omega) only [Go.Ev.fdiv_e] at *
    omega
  · try simp only [e, Int.reduceSub, shr11, shl11, shr10, shl10] at *
    try simp (disch := omega) only [Go.Ev.fdiv_e] at *
    omega
  · try simp only [e, Int.reduceSub, shr12, shl12, shr11, shl11] at *
    try simp (disch := omega) only [Go.Ev.fdiv_e] at *
    omega
  · try simp only [e, Int.reduceSub, shr13, shl13, shr12, shl12] at *
    try simp (disch := omega) only [Go.Ev.fdiv_e] at *
    omega
  · try simp only [e, Int.reduceSub, shr14, shl14, shr13, shl13] at *
    try simp (disch := omega) only [Go.Ev.fdiv_e] at *
    omega
  · try simp only [e, Int.reduceSub, shr15, shl15, shr14, shl14] at *
    try simp (disch := omega) only [Go.Ev.fdiv_e] at *
    omega
  · try simp only [e, Int.reduceSub, shr16, shl16, shr15, shl15] at *
    try simp (disch := omega) only [Go.Ev.fdiv_e] at *
    omega
  · try simp only [e, Int.reduceSub, shr17, shl17, shr16, shl16] at *
    try simp (disch := omega) only [Go.Ev.fdiv_e] at *
    omega
  · try simp only [e, Int.reduceSub, shr18, shl18, shr17, shl17] at *
    try simp (disch := omega) only [Go.Ev.fdiv_e] at *
    omega
  · try simp only [e, Int.reduceSub, shr19, shl19, shr18, shl18] at *
    try simp (disch := omega) only [Go.Ev.fdiv_e] at *
    omega
  · try simp only [e, Int.reduceSub, shr20, shl20, shr19, shl19] at *
    try simp (disch := omega) only [Go.Ev.fdiv_e] at *
    omega
  · try simp only [e, Int.reduceSub, shr21, shl21, shr20, shl20] at *
    try simp (disch := omega) only [Go.Ev.fdiv_e] at *
    omega
  · try simp only [e, Int.reduceSub, shr22, shl22, shr21, shl21] at *
    try simp (disch := omega) only [Go.Ev.fdiv_e] at *
    omega
  · try simp only [e, Int.reduceSub, shr23, shl23, shr22, shl22] at *
    try simp (disch := omega) only [Go.Ev.fdiv_e] at *
    omega
  · try simp only [e, Int.reduceSub, shr24, shl24, shr23, shl23] at *
    try simp (disch := omega) only [Go.Ev.fdiv_e] at *
    omega
  · try simp only [e, Int.reduceSub, shr25, shl25, shr24, shl24] at *
    try simp (disch := omega) only [Go.Ev.fdiv_e] at *
    omega
  · try simp only [e, Int.reduceSub, shr26, shl26, shr25, shl25] at *
    try simp (disch := omega) only [Go.Ev.fdiv_e] at *
    omega
  · try simp only [e, Int.reduceSub, shr27, shl27, shr26, shl26] at *
    try simp (disch := omega) only [Go.Ev.fdiv_e] at *
    omega
  · try simp only [e, Int.reduceSub, shr28, shl28, shr27, shl27] at *
    try simp (disch := omega) only [Go.Ev.fdiv_e] at *
    omega
  · try simp only [e, Int.reduceSub, shr29, shl29, shr28, shl28] at *
    try simp (disch := omega) only [Go.Ev.fdiv_e] at *
    omega
  · try simp only [e, Int.reduceSub, shr30, shl30, shr29, shl29] at *
    try simp (disch := omega) only [Go.Ev.fdiv_e] at *
    omega
def dead29 : List Fact := [⟨(.bin .sub (.bin (.shr .i64) (.bin .add (.var 2) (.bin .fdiv (.bin (.shl .i64) (.lit 1) (.var 1)) (.lit 2))) (.var 1)) (.bin .sub (.bin (.shl .i64) (.lit 1) (.bin .sub (.var 0) (.lit 1))) (.lit 1))), 0, true⟩, ⟨(.bin .sub (.bin (.shr .i64) (.bin .add (.var 2) (.bin .fdiv (.bin (.shl .i64) (.lit 1) (.var 1)) (.lit 2))) (.var 1)) (.bin .sub (.bin (.shl .i64) (.lit 1) (.bin .sub (.var 0) (.lit 1))) (.lit 1))), (-1), false⟩, ⟨(.bin .sub (.bin .sub (.bin (.shl .i64) (.lit 1) (.bin .sub (.var 0) (.lit 1))) (.lit 1)) (.bin (.shr .i64) (.bin .add (.var 2) (.bin (.shl .i64) (.lit 1) (.bin .sub (.var 1) (.lit 1)))) (.var 1))), (-1), true⟩, ⟨(.var 1), 0, false⟩, ⟨(.bin .sub (.bin .sub (.bin (.shl .i64) (.lit 1) (.bin .sub (.var 0) (.lit 1))) (.lit 1)) (.bin (.shr .i64) (.bin .add (.var 2) (.bin .fdiv (.bin (.shl .i64) (.lit 1) (.var 1)) (.lit 2))) (.var 1))), (-1), false⟩, ⟨(.var 2), 70368744177664, true⟩, ⟨(.var 2), 0, false⟩, ⟨(.var 1), 30, true⟩, ⟨(.var 1), (-1), false⟩, ⟨(.var 0), 8, true⟩, ⟨(.var 0), 1, false⟩]
theorem dead29_no (v : Nat → Int) : ¬ ∀ f ∈ dead29, f.holds v := by
  intro h
  have h0 : (SO.eval (.shr .i64) ((v 2 + Int.fdiv (SO.eval (.shl .i64) (1) (v 1)) (2))) (v 1) - (SO.eval (.shl .i64) (1) ((v 0 - 1)) - 1)) ≤ 0 := h _ (.head _)
  have h1 : (-1) < (SO.eval (.shr .i64) ((v 2 + Int.fdiv (SO.eval (.shl .i64) (1) (v 1)) (2))) (v 1) - (SO.eval (.shl .i64) (1) ((v 0 - 1)) - 1)) := h _ (.tail _ (.head _))
  have h2 : ((SO.eval (.shl .i64) (1) ((v 0 - 1)) - 1) - SO.eval (.shr .i64) ((v 2 + SO.eval (.shl .i64) (1) ((v 1 - 1)))) (v 1)) ≤ (-1) := h _ (.tail _ (.tail _ (.head _)))
  have h3 : 0 < v 1 := h _ (.tail _ (.tail _ (.tail _ (.head _))))
  have h4 : (-1) < ((SO.eval (.shl .i64) (1) ((v 0 - 1)) - 1) - SO.eval (.shr .i64) ((v 2 + Int.fdiv (SO.eval (.shl .i64) (1) (v 1)) (2))) (v 1)) := h _ (.tail _ (.tail _ (.tail _ (.tail _ (.head _)))))
  have h5 : v 2 ≤ 70368744177664 := h _ (.tail _ (.tail _ (.tail _ (.tail _ (.tail _ (.head _))))))
  have h6 : 0 < v 2 := h _ (.tail _ (.tail _ (.tail _ (.tail _ (.tail _ (.tail _ (.head _)))))))
  have h7 : v 1 ≤ 30 := h _ (.tail _ (.tail _ (.tail _ (.tail _ (.tail _ (.tail _ (.tail _ (.head _))))))))
  have h8 : (-1) < v 1 := h _ (.tail _ (.tail _ (.tail _ (.tail _ (.tail _ (.tail _ (.tail _ (.tail _ (.head _)))))))))
  have h9 : v 0 ≤ 8 := h _ (.tail _ (.tail _ (.tail _ (.tail _ (.tail _ (.tail _ (.tail _ (.tail _ (.tail _ (.head _))))))))))
  have h10 : 1 < v 0 := h _ (.tail _ (.tail _ (.tail _ (.tail _ (.tail _ (.tail _ (.tail _ (.tail _ (.tail _ (.tail _ (.head _)))))))))))
  clear h
  have hv : v 1 = 0 ∨ v 1 = 1 ∨ v 1 = 2 ∨ v 1 = 3 ∨ v 1 = 4 ∨ v 1 = 5 ∨ v 1 = 6 ∨ v 1 = 7 ∨ v 1 = 8 ∨ v 1 = 9 ∨ v 1 = 10 ∨ v 1 = 11 ∨ v 1 = 12 ∨ v 1 = 13 ∨ v 1 = 14 ∨ v 1 = 15 ∨ v 1 = 16 ∨ v 1 = 17 ∨ v 1 = 18 ∨ v 1 = 19 ∨ v 1 = 20 ∨ v 1 = 21 ∨ v 1 = 22 ∨ v 1 = 23 ∨ v 1 = 24 ∨ v 1 = 25 ∨ v 1 = 26 ∨ v 1 = 27 ∨ v 1 = 28 ∨ v 1 = 29 ∨ v 1 = 30 := by omega
  rcases hv with e | e | e | e | e | e | e | e | e | e | e | e | e | e | e | e | e | e | e | e | e | e | e | e | e | e | e | e | e | e | e
  · try simp only [e, Int.reduceSub, shr0, shl0] at *
    try simp (disch := omega) only [Go.Ev.fdiv_e] at *
    omega
  · try simp only [e, Int.reduceSub, shr1, shl1, shr0, shl0] at *
    try simp (disch := omega) only [Go.Ev.fdiv_e] at *
    omega
  · try simp only [e, Int.reduceSub, shr2, shl2, shr1, shl1] at *
    try simp (disch := omega) only [Go.Ev.fdiv_e] at *
    omega
  · try simp only [e, Int.reduceSub, shr3, shl3, shr2, shl2] at *
    try simp (disch := omega) only [Go.Ev.fdiv_e] at *
    omega
  · try simp only [e, Int.reduceSub, shr4, shl4, shr3, shl3] at *
    try simp (disch := omega) only [Go.Ev.fdiv_e] at *
    omega
  · try simp only [e, Int.reduceSub, shr5, shl5, shr4, shl4] at *
    try simp (disch := omega) only [Go.Ev.fdiv_e] at *
    omega
  · try simp only [e, Int.reduceSub, shr6, shl6, shr5, shl5] at *
    try simp (disch := omega) only [Go.Ev.fdiv_e] at *
    omega
  · try simp only [e, Int.reduceSub, shr7, shl7, shr6, shl6] at *
    try simp (disch := omega) only [Go.Ev.fdiv_e] at *
    omega
  · try simp only [e, Int.reduceSub, shr8, shl8, shr7, shl7] at *
    try simp (disch := omega) only [Go.Ev.fdiv_e] at *
    omega
  · try simp only [e, Int.reduceSub, shr9, shl9, shr8, shl8] at *
    try simp (disch := omega) only [Go.Ev.fdiv_e] at *
    omega
  · try simp only [e, Int.reduceSub, shr10, shl10, shr9, shl9] at *
    try simp (disch := omega) only [Go.Ev.fdiv_e] at *
    omega
  · try simp only [e, Int.reduceSub, shr11, shl11, shr10, shl10] at *
    try simp (disch := omega) only [Go.Ev.fdiv_e] at *
    omega
  · try simp only [e, Int.reduceSub, shr12, shl12, shr11, shl11] at *
    try simp (disch := omega) only [Go.Ev.fdiv_e] at *
    omega
  · try simp only [e, Int.reduceSub, shr13, shl13, shr12, shl12] at *
    try simp (disch := omega) only [Go.Ev.fdiv_e] at *
    omega
  · try simp only [e, Int.reduceSub, shr14, shl14, shr13, shl13] at *
    try simp (disch := omega) only [Go.Ev.fdiv_e] at *
    omega
  · try simp only [e, Int.reduceSub, shr15, shl15, shr14, shl14] at *
    try simp (disch := omega) only [Go.Ev.fdiv_e] at *
    omega
  · try simp only [e, Int.reduceSub, shr16, shl16, shr15, shl15] at *
    try simp (disch := omega) only [Go.Ev.fdiv_e] at *
    omega
  · try simp only [e, Int.reduceSub, shr17, shl17, shr16, shl16] at *
    try simp (disch := omega) only [Go.Ev.fdiv_e] at *
    omega
  · try simp only [e, Int.reduceSub, shr18, shl18, shr17, shl17] at *
    try simp (disch := omega) only [Go.Ev.fdiv_e] at *
    omega
  · try simp only [e, Int.reduceSub, shr19, shl19, shr18, shl18] at *
    try simp (disch := omega) only [Go.Ev.fdiv_e] at *
    omega
  · try simp only [e, Int.reduceSub, shr20, shl20, shr19, shl19] at *
    try simp (disch := omega) only [Go.Ev.fdiv_e] at *
    omega
  · try simp only [e, Int.reduceSub, shr21, shl21, shr20, shl20] at *
    try simp (disch := omega) only [Go.Ev.fdiv_e] at *
    omega
  · try simp only [e, Int.reduceSub, shr22, shl22, shr21, shl21] at *
    try simp (disch := omega) only [Go.Ev.fdiv_e] at *
    omega
  · try simp only [e, Int.reduceSub, shr23, shl23, shr22, shl22] at *
    try simp (disch := omega) only [Go.Ev.fdiv_e] at *
    omega
  · try simp only [e, Int.reduceSub, shr24, shl24, shr23, shl23] at *
    try simp (disch := omega) only [Go.Ev.fdiv_e] at *
    omega
  · try simp only [e, Int.reduceSub, shr25, shl25, shr24, shl24] at *
    try simp (disch := omega) only [Go.Ev.fdiv_e] at *
    omega
  · try simp only [e, Int.reduceSub, shr26, shl26, shr25, shl25] at *
    try simp (disch := omega) only [Go.Ev.fdiv_e] at *
    omega
  · try simp only [e, Int.reduceSub, shr27, shl27, shr26, shl26] at *
    try simp (disch := omega) only [Go.Ev.fdiv_e] at *
    omega
  · try simp only [e, Int.reduceSub, shr28, shl28, shr27, shl27] at *
    try simp (disch := omega) only [Go.Ev.fdiv_e] at *
    omega
  · try simp only [e, Int.reduceSub, shr29, shl29, shr28, shl28] at *
    try simp (disch := omega) only [Go.Ev.fdiv_e] at *
    omega
  · try simp only [e, Int.reduceSub, shr30, shl30, shr29, shl29] at *
    try simp (disch := omega) only [Go.Ev.fdiv_e] at *
    omega
def dead30 : List Fact := [⟨(.bin .sub (.bin (.shr .i64) (.bin .add (.var 2) (.bin .fdiv (.bin (.shl .i64) (.lit 1) (.var 1)) (.lit 2))) (.var 1)) (.bin .sub (.bin (.shl .i64) (.lit 1) (.bin .sub (.var 0) (.lit 1))) (.lit 1))), 0, false⟩, ⟨(.bin .sub (.bin .sub (.bin (.shl .i64) (.lit 1) (.bin .sub (.var 0) (.lit 1))) (.lit 1)) (.bin (.shr .i64) (.bin .add (.var 2) (.bin .fdiv (.bin (.shl .i64) (.lit 1) (.var 1)) (.lit 2))) (.var 1))), (-1), false⟩]
theorem dead30_no (v : Nat → Int) : ¬ ∀ f ∈ dead30, f.holds v := by
  intro h
  have h0 : 0 < (SO.eval (.shr .i64) ((v 2 + Int.fdiv (SO.eval (.shl .i64) (1) (v 1)) (2))) (v 1) - (SO.eval (.shl .i64) (1) ((v 0 - 1)) - 1)) := h _ (.head _)
  have h1 : (-1) < ((SO.eval (.shl .i64) (1) ((v 0 - 1)) - 1) - SO.eval (.shr .i64) ((v 2 + Int.fdiv (SO.eval (.shl .i64) (1) (v 1)) (2))) (v 1)) := h _ (.tail _ (.head _))
  clear h
  first | omega | (simp only [Int.mul_add, Int.add_mul, Int.mul_sub, Int.sub_mul, Int.mul_assoc, Int.mul_comm, Int.mul_left_comm] at *; omega) | (simp (disch := omega) only [Go.Ev.w_i64, Go.Ev.w_i32, Go.Ev.w_u64, Go.Ev.w_u32, Go.Ev.w_u8, Go.Ev.tdiv_e, Go.Ev.tmod_e, Go.Ev.fdiv_e] at *; omega) | (simp only [Int.mul_add, Int.add_mul, Int.mul_sub, Int.sub_mul, Int.mul_assoc, Int.mul_comm, Int.mul_left_comm] at *; simp (disch := omega) only [Go.Ev.w_i64, Go.Ev.w_i32, Go.Ev.w_u64, Go.Ev.w_u32, Go.Ev.w_u8, Go.Ev.tdiv_e, Go.Ev.tmod_e, Go.Ev.fdiv_e] at *; omega)
def dead31 : List Fact := [⟨(.bin .sub (.bin (.shr .i64) (.bin .add (.var 2) (.bin .fdiv (.bin (.shl .i64) (.lit 1) (.var 1)) (.lit 2))) (.var 1)) (.bin (.shr .i64) (.bin .add (.var 2) (.bin (.shl .i64) (.lit 1) (.bin .sub (.var 1) (.lit 1)))) (.var 1))), (-1), true⟩, ⟨(.bin .sub (.bin .sub (.bin (.shl .i64) (.lit 1) (.bin .sub (.var 0) (.lit 1))) (.lit 1)) (.bin (.shr .i64) (.bin .add (.var 2) (.bin (.shl .i64) (.lit 1) (.bin .sub (.var 1) (.lit 1)))) (.var 1))), (-1), false⟩, ⟨(.var 1), 0, false⟩, ⟨(.bin .sub (.bin .sub (.bin (.shl .i64) (.lit 1) (.bin .sub (.var 0) (.lit 1))) (.lit 1)) (.bin (.shr .i64) (.bin .add (.var 2) (.bin .fdiv (.bin (.shl .i64) (.lit 1) (.var 1)) (.lit 2))) (.var 1))), (-1), false⟩, ⟨(.var 2), 70368744177664, true⟩, ⟨(.var 2), 0, false⟩, ⟨(.var 1), 30, true⟩, ⟨(.var 1), (-1), false⟩, ⟨(.var 0), 8, true⟩, ⟨(.var 0), 1, false⟩]
theorem dead31_no (v : Nat → Int) : ¬ ∀ f ∈ dead31, f.holds v := by
  intro h
  have h0 : (SO.eval (.shr .i64) ((v 2 + Int.fdiv (SO.eval (.shl .i64) (1) (v 1)) (2))) (v 1) - SO.eval (.shr .i64) ((v 2 + SO.eval (.shl .i64) (1) ((v 1 - 1)))) (v 1)) ≤ (-1) := h _ (.head _)
  have h1 : (-1) < ((SO.eval (.shl .i64) (1) ((v 0 - 1)) - 1) - SO.eval (.shr .i64) ((v 2 + SO.eval (.shl .i64) (1) ((v 1 - 1)))) (v 1)) := h _ (.tail _ (.head _))
  have h2 : 0 < v 1 := h _ (.tail _ (.tail _ (.head _)))
  have h3 : (-1) < ((SO.eval (.shl .i64) (1) ((v 0 - 1)) - 1) - SO.eval (.shr .i64) ((v 2 + Int.fdiv (SO.eval (.shl .i64) (1) (v 1)) (2))) (v 1)) := h _ (.tail _ (.tail _ (.tail _ (.head _))))
  have h4 : v 2 ≤ 70368744177664 := h _ (.tail _ (.tail _ (.tail _ (.tail _ (.head _)))))
  have h5 : 0 < v 2 := h _ (.tail _ (.tail _ (.tail _ (.tail _ (.tail _ (.head _))))))
  have h6 : v 1 ≤ 30 := h _ (.tail _ (.tail _ (.tail _ (.tail _ (.tail _ (.tail _ (.head _)))))))
  have h7 : (-1) < v 1 := h _ (.tail _ (.tail _ (.tail _ (.tail _ (.tail _ (.tail _ (.tail _ (.head _))))))))
  have h8 : v 0 ≤ 8 := h _ (.tail _ (.tail _ (.tail _ (.tail _ (.tail _ (.tail _ (.tail _ (.tail _ (.head _)))))))))
  have h9 : 1 < v 0 := h _ (.tail _ (.tail _ (.tail _ (.tail _ (.tail _ (.tail _ (.tail _ (.tail _ (.tail _ (.head _))))))))))
  clear h
  have hv : v 1 = 0 ∨ v 1 = 1 ∨ v 1 = 2 ∨ v 1 = 3 ∨ v 1 = 4 ∨ v 1 = 5 ∨ v 1 = 6 ∨ v 1 = 7 ∨ v 1 = 8 ∨ v 1 = 9 ∨ v 1 = 10 ∨ v 1 = 11 ∨ v 1 = 12 ∨ v 1 = 13 ∨ v 1 = 14 ∨ v 1 = 15 ∨ v 1 = 16 ∨ v 1 = 17 ∨ v 1 = 18 ∨ v 1 = 19 ∨ v 1 = 20 ∨ v 1 = 21 ∨ v 1 = 22 ∨ v 1 = 23 ∨ v 1 = 24 ∨ v 1 = 25 ∨ v 1 = 26 ∨ v 1 = 27 ∨ v 1 = 28 ∨ v 1 = 29 ∨ v 1 = 30 := by omega
  rcases hv with e | e | e | e | e | e | e | e | e | e | e | e | e | e | e | e | e | e | e | e | e | e | e | e | e | e | e | e | e | e | e
  · try simp only [e, Int.reduceSub, shr0, shl0] at *
    try simp (disch := omega) only [Go.Ev.fdiv_e] at *
    omega
  · try simp only [e, Int.reduceSub, shr1, shl1, shr0, shl0] at *
    try simp (disch := omega) only [Go.Ev.fdiv_e] at *
    omega
  · try simp only [e, Int.reduceSub, shr2, shl2, shr1, shl1] at *
    try simp (disch := omega) only [Go.Ev.fdiv_e] at *
    omega
  · try simp only [e, Int.reduceSub, shr3, shl3, shr2, shl2] at *
    try simp (disch := omega) only [Go.Ev.fdiv_e] at *
    omega
  · try simp only [e, Int.reduceSub, shr4, shl4, shr3, shl3] at *
    try simp (disch := omega) only [Go.Ev.fdiv_e] at *
    omega
  · try simp only [e, Int.reduceSub, shr5, shl5, shr4, shl4] at *
    try simp (disch := omega) only [Go.Ev.fdiv_e] at *
    omega
  · try simp only [e, Int.reduceSub, shr6, shl6, shr5, shl5] at *
    try simp (disch := omega) only [Go.Ev.fdiv_e] at *
    omega
  · try simp only [e, Int.reduceSub, shr7, shl7, shr6, shl6] at *
    try simp (disch := omega) only [Go.Ev.fdiv_e] at *
    omega
  · try simp only [e, Int.reduceSub, shr8, shl8, shr7, shl7] at *
    try simp (disch := omega) only [Go.Ev.fdiv_e] at *
    omega
  · try simp only [e, Int.reduceSub, shr9, shl9, shr8, shl8] at *
    try simp (disch := omega) only [Go.Ev.fdiv_e] at *
    omega
  · try simp only [e, Int.reduceSub, shr10, shl10, shr9, shl9] at *
    try simp (disch := omega) only [Go.Ev.fdiv_e] at *
    omega
  · try simp only [e, Int.reduceSub, shr11, shl11, shr10, shl10] at *
    try simp (disch := omega) only [Go.Ev.fdiv_e] at *
    omega
  · try simp only [e, Int.reduceSub, shr12, shl12, shr11, shl11] at *
    try simp (disch := omega) only [Go.Ev.fdiv_e] at *
    omega
  · try simp only [e, Int.reduceSub, shr13, shl13, shr12, shl12] at *
    try simp (disch := omega) only [Go.Ev.fdiv_e] at *
    omega
  · try simp only [e, Int.reduceSub, shr14, shl14, shr13, shl13] at *
    try simp (disch := omega) only [Go.Ev.fdiv_e] at *
    omega
  · try simp only [e, Int.reduceSub, shr15, shl15, shr14, shl14] at *
    try simp (disch := omega) only [Go.Ev.fdiv_e] at *
    omega
  · try simp only [e, Int.reduceSub, shr16, shl16, shr15, shl15] at *
    try simp (disch := omega) only [Go.Ev.fdiv_e] at *
    omega
  · try simp only [e, Int.reduceSub, shr17, shl17, shr16, shl16] at *
    try simp (disch := omega) only [Go.Ev.fdiv_e] at *
    omega
  · try simp only [e, Int.reduceSub, shr18, shl18, shr17, shl17] at *
    try simp (disch := omega) only [Go.Ev.fdiv_e] at *
    omega
  · try simp only [e, Int.reduceSub, shr19, shl19, shr18, shl18] at *
    try simp (disch := omega) only [Go.Ev.fdiv_e] at *
    omega
  · try simp only [e, Int.reduceSub, shr20, shl20, shr19, shl19] at *
    try simp (disch := omega) only [Go.Ev.fdiv_e] at *
    omega
  · try simp only [e, Int.reduceSub, shr21, shl21, shr20, shl20] at *
    try simp (disch := omega) only [Go.Ev.fdiv_e] at *
    omega
  · try simp only [e, Int.reduceSub, shr22, shl22, shr21, shl21] at *
    try simp (disch := omega) only [Go.Ev.fdiv_e] at *
    omega
  · try simp only [e, Int.reduceSub, shr23, shl23, shr22, shl22] at *
    try simp (disch := omega) only [Go.Ev.fdiv_e] at *
    omega
  · try simp only [e, Int.reduceSub, shr24, shl24, shr23, shl23] at *
    try simp (disch := omega) only [Go.Ev.fdiv_e] at *
    omega
  · try simp only [e, Int.reduceSub, shr25, shl25, shr24, shl24] at *
    try simp (disch := omega) only [Go.Ev.fdiv_e] at *
    omega
  · try simp only [e, Int.reduceSub, shr26, shl26, shr25, shl25] at *
    try simp (disch := omega) only [Go.Ev.fdiv_e] at *
    omega
  · try simp only [e, Int.reduceSub, shr27, shl27, shr26, shl26] at *
    try simp (disch := omega) only [Go.Ev.fdiv_e] at *
    omega
  · try simp only [e, Int.reduceSub, shr28, shl28, shr27, shl27] at *
    try simp (disch := omega) only [Go.Ev.fdiv_e] at *
    omega
  · try simp only [e, Int.reduceSub, shr29, shl29, shr28, shl28] at *
    try simp (disch := omega) only [Go.Ev.fdiv_e] at *
    omega
  · try simp only [e, Int.reduceSub, shr30, shl30, shr29, shl29] at *
    try simp (disch := omega) only [Go.Ev.fdiv_e] at *
    omega
def dead32 : List Fact := [⟨(.bin .sub (.bin (.shr .i64) (.bin .add (.var 2) (.bin .fdiv (.bin (.shl .i64) (.lit 1) (.var 1)) (.lit 2))) (.var 1)) (.bin (.shr .i64) (.bin .add (.var 2) (.bin (.shl .i64) (.lit 1) (.bin .sub (.var 1) (.lit 1)))) (.var 1))), 0, false⟩, ⟨(.bin .sub (.bin (.shr .i64) (.bin .add (.var 2) (.bin .fdiv (.bin (.shl .i64) (.lit 1) (.var 1)) (.lit 2))) (.var 1)) (.bin (.shr .i64) (.bin .add (.var 2) (.bin (.shl .i64) (.lit 1) (.bin .sub (.var 1) (.lit 1)))) (.var 1))), (-1), false⟩, ⟨(.bin .sub (.bin .sub (.bin (.shl .i64) (.lit 1) (.bin .sub (.var 0) (.lit 1))) (.lit 1)) (.bin (.shr .i64) (.bin .add (.var 2) (.bin (.shl .i64) (.lit 1) (.bin .sub (.var 1) (.lit 1)))) (.var 1))), (-1), false⟩, ⟨(.var 1), 0, false⟩, ⟨(.bin .sub (.bin .sub (.bin (.shl .i64) (.lit 1) (.bin .sub (.var 0) (.lit 1))) (.lit 1)) (.bin (.shr .i64) (.bin .add (.var 2) (.bin .fdiv (.bin (.shl .i64) (.lit 1) (.var 1)) (.lit 2))) (.var 1))), (-1), false⟩, ⟨(.var 2), 70368744177664, true⟩, ⟨(.var 2), 0, false⟩, ⟨(.var 1), 30, true⟩, ⟨(.var 1), (-1), false⟩, ⟨(.var 0), 8, true⟩, ⟨(.var 0), 1, false⟩]
theorem dead32_no (v : Nat → Int) : ¬ ∀ f ∈ dead32, f.holds v := by
  intro h
  have h0 : 0 < (SO.eval (.shr .i64) ((v 2 + Int.fdiv (SO.eval (.shl .i64) (1) (v 1)) (2))) (v 1) - SO.eval (.shr .i64) ((v 2 + SO.eval (.shl .i64) (1) ((v 1 - 1)))) (v 1)) := h _ (.head _)
  have h1 : (-1) < (SO.eval (.shr .i64) ((v 2 + Int.fdiv (SO.eval (.shl .i64) (1) (v 1)) (2))) (v 1) - SO.eval (.shr .i64) ((v 2 + SO.eval (.shl .i64) (1) ((v 1 - 1)))) (v 1)) := h _ (.tail _ (.head _))
  have h2 : (-1) < ((SO.eval (.shl .i64) (1) ((v 0 - 1)) - 1) - SO.eval (.shr .i64) ((v 2 + SO.eval (.shl .i64) (1) ((v 1 - 1)))) (v 1)) := h _ (.tail _ (.tail _ (.head _)))
  have h3 : 0 < v 1 := h _ (.tail _ (.tail _ (.tail _ (.head _))))
  have h4 : (-1) < ((SO.eval (.shl .i64) (1) ((v 0 - 1)) - 1) - SO.eval (.shr .i64) ((v 2 + Int.fdiv (SO.eval (.shl .i64) (1) (v 1)) (2))) (v 1)) := h _ (.tail _ (.tail _ (.tail _ (.tail _ (.head _)))))
  have h5 : v 2 ≤ 70368744177664 := h _ (.tail _ (.tail _ (.tail _ (.tail _ (.tail _ (.head _))))))
  have h6 : 0 < v 2 := h _ (.tail _ (.tail _ (.tail _ (.tail _ (.tail _ (.tail _ (.head _)))))))
  have h7 : v 1 ≤ 30 := h _ (.tail _ (.tail _ (.tail _ (.tail _ (.tail _ (.tail _ (.tail _ (.head _))))))))
  have h8 : (-1) < v 1 := h _ (.tail _ (.tail _ (.tail _ (.tail _ (.tail _ (.tail _ (.tail _ (.tail _ (.head _)))))))))
  have h9 : v 0 ≤ 8 := h _ (.tail _ (.tail _ (.tail _ (.tail _ (.tail _ (.tail _ (.tail _ (.tail _ (.tail _ (.head _))))))))))
  have h10 : 1 < v 0 := h _ (.tail _ (.tail _ (.tail _ (.tail _ (.tail _ (.tail _ (.tail _ (.tail _ (.tail _ (.tail _ (.head _)))))))))))
  clear h
  have hv : v 1 = 0 ∨ v 1 = 1 ∨ v 1 = 2 ∨ v 1 = 3 ∨ v 1 = 4 ∨ v 1 = 5 ∨ v 1 = 6 ∨ v 1 = 7 ∨ v 1 = 8 ∨ v 1 = 9 ∨ v 1 = 10 ∨ v 1 = 11 ∨ v 1 = 12 ∨ v 1 = 13 ∨ v 1 = 14 ∨ v 1 = 15 ∨ v 1 = 16 ∨ v 1 = 17 ∨ v 1 = 18 ∨ v 1 = 19 ∨ v 1 = 20 ∨ v 1 = 21 ∨ v 1 = 22 ∨ v 1 = 23 ∨ v 1 = 24 ∨ v 1 = 25 ∨ v 1 = 26 ∨ v 1 = 27 ∨ v 1 = 28 ∨ v 1 = 29 ∨ v 1 = 30 := by omega
  rcases hv with e | e | e | e | e | e | e | e | e | e | e | e | e | e | e | e | e | e | e | e | e | e | e | e | e | e | e | e | e | e | e
  · try simp only [e, Int.reduceSub, shr0, shl0] at *
    try simp (disch := omega) only [Go.Ev.fdiv_e] at *
    omega
  · try simp only [e, Int.reduceSub, shr1, shl1, shr0, shl0] at *
    try simp (disch := omega) only [Go.Ev.fdiv_e] at *
    omega
  · try simp only [e, Int.reduceSub, shr2, shl2, shr1, shl1] at *
    try simp (disch := omega) only [Go.Ev.fdiv_e] at *
    omega
  · try simp only [e, Int.reduceSub, shr3, shl3, shr2, shl2] at *
    try simp (disch := omega) only [Go.Ev.fdiv_e] at *
    omega
  · try simp only [e, Int.reduceSub, shr4, shl4, shr3, shl3] at *
    try simp (disch := omega) only [Go.Ev.fdiv_e] at *
    omega
  · try simp only [e, Int.reduceSub, shr5, shl5, shr4, shl4] at *
    try simp (disch := omega) only [Go.Ev.fdiv_e] at *
    omega
  · try simp only [e, Int.reduceSub, shr6, shl6, shr5, shl5] at *
    try simp (disch := omega) only [Go.Ev.fdiv_e] at *
    omega
  · try simp only [e, Int.reduceSub, shr7, shl7, shr6, shl6] at *
    try simp (disch := omega) only [Go.Ev.fdiv_e] at *
    omega
  · try simp only [e, Int.reduceSub, shr8, shl8, shr7, shl7] at *
    try simp (disch := omega) only [Go.Ev.fdiv_e] at *
    omega
  · try simp only [e, Int.reduceSub, shr9, shl9, shr8, shl8] at *
    try simp (disch := omega) only [Go.Ev.fdiv_e] at *
    omega
  · try simp only [e, Int.reduceSub, shr10, shl10, shr9, shl9] at *
    try simp (disch := omega) only [Go.Ev.fdiv_e] at *
    omega
  · try simp only [e, Int.reduceSub, shr11, shl11, shr10, shl10] at *
    try simp (disch := omega) only [Go.Ev.fdiv_e] at *
    omega
  · try simp only [e, Int.reduceSub, shr12, shl12, shr11, shl11] at *
    try simp (disch := omega) only [Go.Ev.fdiv_e] at *
    omega
  · try simp only [e, Int.reduceSub, shr13, shl13, shr12, shl12] at *
    try simp (disch := omega) only [Go.Ev.fdiv_e] at *
    omega
  · try simp only [e, Int.reduceSub, shr14, shl14, shr13, shl13] at *
    try simp (disch := omega) only [Go.Ev.fdiv_e] at *
    omega
  · try simp only [e, Int.reduceSub, shr15, shl15, shr14, shl14] at *
    try simp (disch := omega) only [Go.Ev.fdiv_e] at *
    omega
  · try simp only [e, Int.reduceSub, shr16, shl16, shr15, shl15] at *
    try simp (disch := omega) only [Go.Ev.fdiv_e] at *
    omega
  · try simp only [e, Int.reduceSub, shr17, shl17, shr16, shl16] at *
    try simp (disch := omega) only [Go.Ev.fdiv_e] at *
    omega
  · try simp only [e, Int.reduceSub, shr18, shl18, shr17, shl17] at *
    try simp (disch := omega) only [Go.Ev.fdiv_e] at *
    omega
  · try simp only [e, Int.reduceSub, shr19, shl19, shr18, shl18] at *
    try simp (disch := omega) only [Go.Ev.fdiv_e] at *
    omega
  · try simp only [e, Int.reduceSub, shr20, shl20, shr19, shl19] at *
    try simp (disch := omega) only [Go.Ev.fdiv_e] at *
    omega
  · try simp only [e, Int.reduceSub, shr21, shl21, shr20, shl20] at *
    try simp (disch := omega) only [Go.Ev.fdiv_e] at *
    omega
  · try simp only [e, Int.reduceSub, shr22, shl22, shr21, shl21] at *
    try simp (disch := omega) only [Go.Ev.fdiv_e] at *
    omega
  · try simp only [e, Int.reduceSub, shr23, shl23, shr22, shl22] at *
    try simp (disch := omega) only [Go.Ev.fdiv_e] at *
    omega
  · try simp only [e, Int.reduceSub, shr24, shl24, shr23, shl23] at *
    try simp (disch := omega) only [Go.Ev.fdiv_e] at *
    omega
  · try simp only [e, Int.reduceSub, shr25, shl25, shr24, shl24] at *
    try simp (disch := omega) only [Go.Ev.fdiv_e] at *
    omega
  · try simp only [e, Int.reduceSub, shr26, shl26, shr25, shl25] at *
    try simp (disch := omega) only [Go.Ev.fdiv_e] at *
    omega
  · try simp only [e, Int.reduceSub, shr27, shl27, shr26, shl26] at *
    try simp (disch := omega) only [Go.Ev.fdiv_e] at *
    omega
  · try simp only [e, Int.reduceSub, shr28, shl28, shr27, shl27] at *
    try simp (disch := omega) only [Go.Ev.fdiv_e] at *
    omega
  · try simp only [e, Int.reduceSub, shr29, shl29, shr28, shl28] at *
    try simp (disch := omega) only [Go.Ev.fdiv_e] at *
    omega
  · try simp only [e, Int.reduceSub, shr30, shl30, shr29, shl29] at *
    try simp (disch := omega) only [Go.Ev.fdiv_e] at *
    omega
def deads : List (List Fact) := [dead0, dead1, dead2, dead3, dead4, dead5, dead6, dead7, dead8, dead9, dead10, dead11, dead12, dead13, dead14, dead15, dead16, dead17, dead18, dead19, dead20, dead21, dead22, dead23, dead24, dead25, dead26, dead27, dead28, dead29, dead30, dead31, dead32]
def tree : STree := (.split (.var 0) 1 .leaf (.split (.var 0) 8 (.split (.var 1) (-1) .leaf (.split (.var 1) 30 (.split (.var 2) 0 (.split (.var 2) (-70368744177665) .leaf (.split (.var 2) (-1) (.split (.bin .sub (.bin .sub (.lit 0) (.bin (.shr .i64) (.bin .sub (.bin .fdiv (.bin (.shl .i64) (.lit 1) (.var 1)) (.lit 2)) (.var 2)) (.var 1))) (.bin .sub (.lit 0) (.bin .sub (.bin (.shl .i64) (.lit 1) (.bin .sub (.var 0) (.lit 1))) (.lit 1)))) (-1) (.split (.bin .sub (.bin .sub (.lit 0) (.bin .sub (.bin (.shl .i64) (.lit 1) (.bin .sub (.var 0) (.lit 1))) (.lit 1))) (.bin .sub (.lit 0) (.bin (.shr .i64) (.bin .sub (.bin .fdiv (.bin (.shl .i64) (.lit 1) (.var 1)) (.lit 2)) (.var 2)) (.var 1)))) (-1) (.dead 0) (.split (.bin .sub (.bin .sub (.lit 0) (.bin .sub (.bin (.shl .i64) (.lit 1) (.bin .sub (.var 0) (.lit 1))) (.lit 1))) (.bin .sub (.lit 0) (.bin (.shr .i64) (.bin .sub (.bin .fdiv (.bin (.shl .i64) (.lit 1) (.var 1)) (.lit 2)) (.var 2)) (.var 1)))) 0 (.dead 1) (.split (.var 1) 0 (.split (.bin .sub (.bin .sub (.lit 0) (.bin .fdiv (.bin .sub (.lit 0) (.var 2)) (.lit 1))) (.bin .sub (.lit 0) (.bin .sub (.bin (.shl .i64) (.lit 1) (.bin .sub (.var 0) (.lit 1))) (.lit 1)))) (-1) (.split (.bin .sub (.bin .sub (.lit 0) (.bin .sub (.bin (.shl .i64) (.lit 1) (.bin .sub (.var 0) (.lit 1))) (.lit 1))) (.bin .sub (.lit 0) (.bin .fdiv (.bin .sub (.lit 0) (.var 2)) (.lit 1)))) (-1) (.dead 2) (.split (.bin .sub (.bin .sub (.lit 0) (.bin .sub (.bin (.shl .i64) (.lit 1) (.bin .sub (.var 0) (.lit 1))) (.lit 1))) (.bin .sub (.lit 0) (.bin .fdiv (.bin .sub (.lit 0) (.var 2)) (.lit 1)))) 0 (.dead 3) (.split (.bin .sub (.bin .sub (.lit 0) (.bin .sub (.lit 0) (.var 2))) (.bin .sub (.lit 0) (.bin .sub (.bin (.shl .i64) (.lit 1) (.bin .sub (.var 0) (.lit 1))) (.lit 1)))) (-1) .leaf (.dead 4)))) (.split (.bin .sub (.bin .sub (.lit 0) (.bin .sub (.lit 0) (.var 2))) (.bin .sub (.lit 0) (.bin .sub (.bin (.shl .i64) (.lit 1) (.bin .sub (.var 0) (.lit 1))) (.lit 1)))) (-1) (.dead 5) (.split (.bin .sub (.bin .sub (.lit 0) (.bin .fdiv (.bin .sub (.lit 0) (.var 2)) (.lit 1))) (.bin .sub (.lit 0) (.bin .sub (.lit 0) (.var 2)))) (-1) (.dead 6) (.split (.bin .sub (.bin .sub (.lit 0) (.bin .fdiv (.bin .sub (.lit 0) (.var 2)) (.lit 1))) (.bin .sub (.lit 0) (.bin .sub (.lit 0) (.var 2)))) 0 .leaf (.dead 7))))) (.split (.bin .sub (.bin .sub (.lit 0) (.bin (.shr .i64) (.bin .add (.bin .sub (.lit 0) (.var 2)) (.bin (.shl .i64) (.lit 1) (.bin .sub (.var 1) (.lit 1)))) (.var 1))) (.bin .sub (.lit 0) (.bin .sub (.bin (.shl .i64) (.lit 1) (.bin .sub (.var 0) (.lit 1))) (.lit 1)))) (-1) .leaf (.split (.bin .sub (.bin .sub (.lit 0) (.bin .sub (.bin (.shl .i64) (.lit 1) (.bin .sub (.var 0) (.lit 1))) (.lit 1))) (.bin .sub (.lit 0) (.bin (.shr .i64) (.bin .add (.bin .sub (.lit 0) (.var 2)) (.bin (.shl .i64) (.lit 1) (.bin .sub (.var 1) (.lit 1)))) (.var 1)))) (-1) (.dead 8) (.split (.bin .sub (.bin .sub (.lit 0) (.bin .sub (.bin (.shl .i64) (.lit 1) (.bin .sub (.var 0) (.lit 1))) (.lit 1))) (.bin .sub (.lit 0) (.bin (.shr .i64) (.bin .add (.bin .sub (.lit 0) (.var 2)) (.bin (.shl .i64) (.lit 1) (.bin .sub (.var 1) (.lit 1)))) (.var 1)))) 0 (.dead 9) (.dead 10))))))) (.split (.var 1) 0 (.split (.bin .sub (.bin .sub (.lit 0) (.bin .fdiv (.bin .sub (.lit 0) (.var 2)) (.lit 1))) (.bin .sub (.lit 0) (.bin .sub (.bin (.shl .i64) (.lit 1) (.bin .sub (.var 0) (.lit 1))) (.lit 1)))) (-1) (.split (.bin .sub (.bin .sub (.lit 0) (.bin .sub (.bin (.shl .i64) (.lit 1) (.bin .sub (.var 0) (.lit 1))) (.lit 1))) (.bin .sub (.lit 0) (.bin .fdiv (.bin .sub (.lit 0) (.var 2)) (.lit 1)))) (-1) (.dead 2) (.split (.bin .sub (.bin .sub (.lit 0) (.bin .sub (.bin (.shl .i64) (.lit 1) (.bin .sub (.var 0) (.lit 1))) (.lit 1))) (.bin .sub (.lit 0) (.bin .fdiv (.bin .sub (.lit 0) (.var 2)) (.lit 1)))) 0 (.dead 3) (.split (.bin .sub (.bin .sub (.lit 0) (.bin .sub (.lit 0) (.var 2))) (.bin .sub (.lit 0) (.bin .sub (.bin (.shl .i64) (.lit 1) (.bin .sub (.var 0) (.lit 1))) (.lit 1)))) (-1) .leaf (.dead 4)))) (.split (.bin .sub (.bin .sub (.lit 0) (.bin .sub (.lit 0) (.var 2))) (.bin .sub (.lit 0) (.bin .sub (.bin (.shl .i64) (.lit 1) (.bin .sub (.var 0) (.lit 1))) (.lit 1)))) (-1) (.dead 5) (.split (.bin .sub (.bin .sub (.lit 0) (.bin .fdiv (.bin .sub (.lit 0) (.var 2)) (.lit 1))) (.bin .sub (.lit 0) (.bin .sub (.lit 0) (.var 2)))) (-1) (.dead 6) (.split (.bin .sub (.bin .sub (.lit 0) (.bin .fdiv (.bin .sub (.lit 0) (.var 2)) (.lit 1))) (.bin .sub (.lit 0) (.bin .sub (.lit 0) (.var 2)))) 0 .leaf (.dead 7))))) (.split (.bin .sub (.bin .sub (.lit 0) (.bin (.shr .i64) (.bin .add (.bin .sub (.lit 0) (.var 2)) (.bin (.shl .i64) (.lit 1) (.bin .sub (.var 1) (.lit 1)))) (.var 1))) (.bin .sub (.lit 0) (.bin .sub (.bin (.shl .i64) (.lit 1) (.bin .sub (.var 0) (.lit 1))) (.lit 1)))) (-1) (.split (.bin .sub (.bin .sub (.lit 0) (.bin (.shr .i64) (.bin .sub (.bin .fdiv (.bin (.shl .i64) (.lit 1) (.var 1)) (.lit 2)) (.var 2)) (.var 1))) (.bin .sub (.lit 0) (.bin .sub (.bin (.shl .i64) (.lit 1) (.bin .sub (.var 0) (.lit 1))) (.lit 1)))) 0 (.dead 11) (.dead 12)) (.split (.bin .sub (.bin .sub (.lit 0) (.bin (.shr .i64) (.bin .sub (.bin .fdiv (.bin (.shl .i64) (.lit 1) (.var 1)) (.lit 2)) (.var 2)) (.var 1))) (.bin .sub (.lit 0) (.bin (.shr .i64) (.bin .add (.bin .sub (.lit 0) (.var 2)) (.bin (.shl .i64) (.lit 1) (.bin .sub (.var 1) (.lit 1)))) (.var 1)))) (-1) (.dead 13) (.split (.bin .sub (.bin .sub (.lit 0) (.bin (.shr .i64) (.bin .sub (.bin .fdiv (.bin (.shl .i64) (.lit 1) (.var 1)) (.lit 2)) (.var 2)) (.var 1))) (.bin .sub (.lit 0) (.bin (.shr .i64) (.bin .add (.bin .sub (.lit 0) (.var 2)) (.bin (.shl .i64) (.lit 1) (.bin .sub (.var 1) (.lit 1)))) (.var 1)))) 0 .leaf (.dead 14)))))) (.split (.bin .sub (.bin .sub (.bin (.shl .i64) (.lit 1) (.bin .sub (.var 0) (.lit 1))) (.lit 1)) (.bin (.shr .i64) (.bin .add (.lit 0) (.bin .fdiv (.bin (.shl .i64) (.lit 1) (.var 1)) (.lit 2))) (.var 1))) (-1) (.split (.var 1) 0 .leaf (.split (.bin .sub (.bin .sub (.bin (.shl .i64) (.lit 1) (.bin .sub (.var 0) (.lit 1))) (.lit 1)) (.bin (.shr .i64) (.bin .add (.lit 0) (.bin (.shl .i64) (.lit 1) (.bin .sub (.var 1) (.lit 1)))) (.var 1))) (-1) .leaf (.split (.bin .sub (.bin .sub (.bin (.shl .i64) (.lit 1) (.bin .sub (.var 0) (.lit 1))) (.lit 1)) (.bin (.shr .i64) (.bin .add (.lit 0) (.bin (.shl .i64) (.lit 1) (.bin .sub (.var 1) (.lit 1)))) (.var 1))) 0 (.dead 15) (.dead 16)))) (.split (.var 1) 0 .leaf (.split (.bin .sub (.bin .sub (.bin (.shl .i64) (.lit 1) (.bin .sub (.var 0) (.lit 1))) (.lit 1)) (.bin (.shr .i64) (.bin .add (.lit 0) (.bin (.shl .i64) (.lit 1) (.bin .sub (.var 1) (.lit 1)))) (.var 1))) (-1) (.split (.bin .sub (.bin (.shr .i64) (.bin .add (.lit 0) (.bin .fdiv (.bin (.shl .i64) (.lit 1) (.var 1)) (.lit 2))) (.var 1)) (.bin .sub (.bin (.shl .i64) (.lit 1) (.bin .sub (.var 0) (.lit 1))) (.lit 1))) (-1) (.dead 17) (.split (.bin .sub (.bin (.shr .i64) (.bin .add (.lit 0) (.bin .fdiv (.bin (.shl .i64) (.lit 1) (.var 1)) (.lit 2))) (.var 1)) (.bin .sub (.bin (.shl .i64) (.lit 1) (.bin .sub (.var 0) (.lit 1))) (.lit 1))) 0 (.dead 18) (.dead 19))) (.split (.bin .sub (.bin (.shr .i64) (.bin .add (.lit 0) (.bin .fdiv (.bin (.shl .i64) (.lit 1) (.var 1)) (.lit 2))) (.var 1)) (.bin (.shr .i64) (.bin .add (.lit 0) (.bin (.shl .i64) (.lit 1) (.bin .sub (.var 1) (.lit 1)))) (.var 1))) (-1) (.dead 20) (.split (.bin .sub (.bin (.shr .i64) (.bin .add (.lit 0) (.bin .fdiv (.bin (.shl .i64) (.lit 1) (.var 1)) (.lit 2))) (.var 1)) (.bin (.shr .i64) (.bin .add (.lit 0) (.bin (.shl .i64) (.lit 1) (.bin .sub (.var 1) (.lit 1)))) (.var 1))) 0 .leaf (.dead 21)))))))) (.split (.var 2) 70368744177664 (.split (.bin .sub (.bin .sub (.bin (.shl .i64) (.lit 1) (.bin .sub (.var 0) (.lit 1))) (.lit 1)) (.bin (.shr .i64) (.bin .add (.var 2) (.bin .fdiv (.bin (.shl .i64) (.lit 1) (.var 1)) (.lit 2))) (.var 1))) (-1) (.split (.var 1) 0 (.split (.bin .sub (.bin .sub (.bin (.shl .i64) (.lit 1) (.bin .sub (.var 0) (.lit 1))) (.lit 1)) (.bin .fdiv (.bin .add (.var 2) (.lit 0)) (.lit 1))) (-1) (.split (.bin .sub (.bin .sub (.bin (.shl .i64) (.lit 1) (.bin .sub (.var 0) (.lit 1))) (.lit 1)) (.var 2)) (-1) .leaf (.dead 22)) (.split (.bin .sub (.bin .sub (.bin (.shl .i64) (.lit 1) (.bin .sub (.var 0) (.lit 1))) (.lit 1)) (.var 2)) (-1) (.dead 23) (.split (.bin .sub (.bin .fdiv (.bin .add (.var 2) (.lit 0)) (.lit 1)) (.var 2)) (-1) (.dead 24) (.split (.bin .sub (.bin .fdiv (.bin .add (.var 2) (.lit 0)) (.lit 1)) (.var 2)) 0 .leaf (.dead 25))))) (.split (.bin .sub (.bin .sub (.bin (.shl .i64) (.lit 1) (.bin .sub (.var 0) (.lit 1))) (.lit 1)) (.bin (.shr .i64) (.bin .add (.var 2) (.bin (.shl .i64) (.lit 1) (.bin .sub (.var 1) (.lit 1)))) (.var 1))) (-1) .leaf (.split (.bin .sub (.bin .sub (.bin (.shl .i64) (.lit 1) (.bin .sub (.var 0) (.lit 1))) (.lit 1)) (.bin (.shr .i64) (.bin .add (.var 2) (.bin (.shl .i64) (.lit 1) (.bin .sub (.var 1) (.lit 1)))) (.var 1))) 0 (.dead 26) (.dead 27)))) (.split (.var 1) 0 (.split (.bin .sub (.bin .sub (.bin (.shl .i64) (.lit 1) (.bin .sub (.var 0) (.lit 1))) (.lit 1)) (.bin .fdiv (.bin .add (.var 2) (.lit 0)) (.lit 1))) (-1) (.split (.bin .sub (.bin .sub (.bin (.shl .i64) (.lit 1) (.bin .sub (.var 0) (.lit 1))) (.lit 1)) (.var 2)) (-1) .leaf (.dead 22)) (.split (.bin .sub (.bin .sub (.bin (.shl .i64) (.lit 1) (.bin .sub (.var 0) (.lit 1))) (.lit 1)) (.var 2)) (-1) (.dead 23) (.split (.bin .sub (.bin .fdiv (.bin .add (.var 2) (.lit 0)) (.lit 1)) (.var 2)) (-1) (.dead 24) (.split (.bin .sub (.bin .fdiv (.bin .add (.var 2) (.lit 0)) (.lit 1)) (.var 2)) 0 .leaf (.dead 25))))) (.split (.bin .sub (.bin .sub (.bin (.shl .i64) (.lit 1) (.bin .sub (.var 0) (.lit 1))) (.lit 1)) (.bin (.shr .i64) (.bin .add (.var 2) (.bin (.shl .i64) (.lit 1) (.bin .sub (.var 1) (.lit 1)))) (.var 1))) (-1) (.split (.bin .sub (.bin (.shr .i64) (.bin .add (.var 2) (.bin .fdiv (.bin (.shl .i64) (.lit 1) (.var 1)) (.lit 2))) (.var 1)) (.bin .sub (.bin (.shl .i64) (.lit 1) (.bin .sub (.var 0) (.lit 1))) (.lit 1))) (-1) (.dead 28) (.split (.bin .sub (.bin (.shr .i64) (.bin .add (.var 2) (.bin .fdiv (.bin (.shl .i64) (.lit 1) (.var 1)) (.lit 2))) (.var 1)) (.bin .sub (.bin (.shl .i64) (.lit 1) (.bin .sub (.var 0) (.lit 1))) (.lit 1))) 0 (.dead 29) (.dead 30))) (.split (.bin .sub (.bin (.shr .i64) (.bin .add (.var 2) (.bin .fdiv (.bin (.shl .i64) (.lit 1) (.var 1)) (.lit 2))) (.var 1)) (.bin (.shr .i64) (.bin .add (.var 2) (.bin (.shl .i64) (.lit 1) (.bin .sub (.var 1) (.lit 1)))) (.var 1))) (-1) (.dead 31) (.split (.bin .sub (.bin (.shr .i64) (.bin .add (.var 2) (.bin .fdiv (.bin (.shl .i64) (.lit 1) (.var 1)) (.lit 2))) (.var 1)) (.bin (.shr .i64) (.bin .add (.var 2) (.bin (.shl .i64) (.lit 1) (.bin .sub (.var 1) (.lit 1)))) (.var 1))) 0 .leaf (.dead 32)))))) .leaf)) .leaf)) .leaf))
def facts0 : List Fact := []

theorem deads_no (v : Nat → Int) : ∀ cl ∈ deads, ¬ ∀ f ∈ cl, f.holds v := by
  intro cl h
  rcases List.mem_cons.1 h with rfl | h
  · exact dead0_no v
  rcases List.mem_cons.1 h with rfl | h
  · exact dead1_no v
  rcases List.mem_cons.1 h with rfl | h
  · exact dead2_no v
  rcases List.mem_cons.1 h with rfl | h
  · exact dead3_no v
  rcases List.mem_cons.1 h with rfl | h
  · exact dead4_no v
  rcases List.mem_cons.1 h with rfl | h
  · exact dead5_no v
  rcases List.mem_cons.1 h with rfl | h
  · exact dead6_no v
  rcases List.mem_cons.1 h with rfl | h
  · exact dead7_no v
  rcases List.mem_cons.1 h with rfl | h
  · exact dead8_no v
  rcases List.mem_cons.1 h with rfl | h
  · exact dead9_no v
  rcases List.mem_cons.1 h with rfl | h
  · exact dead10_no v
  rcases List.mem_cons.1 h with rfl | h
  · exact dead11_no v
  rcases List.mem_cons.1 h with rfl | h
  · exact dead12_no v
  rcases List.mem_cons.1 h with rfl | h
  · exact dead13_no v
  rcases List.mem_cons.1 h with rfl | h
  · exact dead14_no v
  rcases List.mem_cons.1 h with rfl | h
  · exact dead15_no v
  rcases List.mem_cons.1 h with rfl | h
  · exact dead16_no v
  rcases List.mem_cons.1 h with rfl | h
  · exact dead17_no v
  rcases List.mem_cons.1 h with rfl | h
  · exact dead18_no v
  rcases List.mem_cons.1 h with rfl | h
  · exact dead19_no v
  rcases List.mem_cons.1 h with rfl | h
  · exact dead20_no v
  rcases List.mem_cons.1 h with rfl | h
  · exact dead21_no v
  rcases List.mem_cons.1 h with rfl | h
  · exact dead22_no v
  rcases List.mem_cons.1 h with rfl | h
  · exact dead23_no v
  rcases List.mem_cons.1 h with rfl | h
  · exact dead24_no v
  rcases List.mem_cons.1 h with rfl | h
  · exact dead25_no v
  rcases List.mem_cons.1 h with rfl | h
  · exact dead26_no v
  rcases List.mem_cons.1 h with rfl | h
  · exact dead27_no v
  rcases List.mem_cons.1 h with rfl | h
  · exact dead28_no v
  rcases List.mem_cons.1 h with rfl | h
  · exact dead29_no v
  rcases List.mem_cons.1 h with rfl | h
  · exact dead30_no v
  rcases List.mem_cons.1 h with rfl | h
  · exact dead31_no v
  rcases List.mem_cons.1 h with rfl | h
  · exact dead32_no v
  cases h
def args0 : List EV := [.agg [.sym .i64 (.var 0) (IntKind.min .i64) (IntKind.max .i64), .sym .i64 (.var 1) (IntKind.min .i64) (IntKind.max .i64)], .sym .i64 (.var 2) (IntKind.min .i64) (IntKind.max .i64)]
set_option maxRecDepth 100000 in
theorem ran : checkT (fun F => @runS ⟨F⟩ Try.prog [(17, Go.Ev.Ext.known true)] [] 300 4 args0 isTrue) deads tree facts0 = true := by kernel_rfl
end c
theorem names : namesB Try.prog = true := by kernel_rfl
end
theorem exts : ∀ p ∈ ([(17, Go.Ev.Ext.known true)] : List (Nat × Go.Ev.Ext)), Go.Ev.ExtRow Try.prog p.1 p.2 := by
  intro p hp
  simp only [List.mem_cons, List.not_mem_nil, or_false] at hp
  rcases hp with rfl
  · exact .inl ⟨_, rfl⟩
theorem exts0 : ∀ p ∈ ([] : List (Nat × Go.Ev.Ext)), Go.Ev.ExtRow Try.prog p.1 p.2 := by
  intro p hp
  cases hp
set_option maxRecDepth 100000 in
theorem ran17 : @Go.Ev.run1 ⟨[]⟩ Try.prog [] [] 5000 17 = true := by kernel_rfl
theorem known17 (w : World) : Calls Try.prog 17 #[] w fun e w' => e = .returned (.bool true) ∧ Below w.heap.size w w' := by
  letI : Go.Ev.FactsC := ⟨[]⟩
  letI : Go.Ev.Env := ⟨fun _ => 0, fun f hf => by cases hf⟩
  exact Go.Ev.run0_sound (by kernel_rfl) exts0 (Go.Ev.knownOk_none rfl) names Try.func17 (by kernel_rfl) ran17 w
theorem knowns : Go.Ev.KnownOk Try.prog [(17, Go.Ev.Ext.known true)] := Go.Ev.knownOk_cons known17 (Go.Ev.knownOk_none rfl)
theorem walk (x0 : Int) (x1 : Int) (x2 : Int)  (w0 : (Lit.int .i64 x0).wf = true) (w1 : (Lit.int .i64 x1).wf = true) (w2 : (Lit.int .i64 x2).wf = true) (w : World) :
    Calls Try.prog 4 #[.agg #[.int .i64 x0, .int .i64 x1], .int .i64 x2] w fun e w' => e = .returned (.bool true) ∧ Below w.heap.size w w' := by
  let v : Nat → Int := fun k => match k with | 0 => x0 | 1 => x1 | 2 => x2 | _ => 0
  refine Go.Ev.checkT_ok (v := v) (fun F hrun hF => ?_) (c.deads_no v) c.ran (fun f hf => by cases hf)
  letI : Go.Ev.FactsC := ⟨F⟩
  letI : Go.Ev.Env := ⟨v, hF⟩
  refine (Go.Ev.runS_sound (args' := [.agg #[.int .i64 x0, .int .i64 x1], .int .i64 x2]) (by kernel_rfl) exts knowns names Try.func4 (by kernel_rfl) hrun w (fun p hp => by cases hp) (fun φ => .cons (Go.Ev.VR.agg (.cons (Go.Ev.num_vr .i64 0 rfl w0 φ) (.cons (Go.Ev.num_vr .i64 1 rfl w1 φ) (.nil)))) (.cons (Go.Ev.num_vr .i64 2 rfl w2 φ) (.nil)))).mono fun e w' ⟨⟨u, φ, r, h1, h2, h3⟩, hb⟩ => ⟨?_, hb⟩
  obtain ⟨b, rfl, hb'⟩ := Go.Ev.asBool_ok (show Go.Ev.asBool u (fun b => b) = true from h1)
  subst hb'
  cases h2
  exact h3

set_option maxRecDepth 100000 in
theorem lifted (os : Os) (started : os.Started) (H : Type) (enc : TypeId × Value → H) :
    ReturnsInHanded {} Try.checked os 4 .any (Rows.quantLevelsSpec.pre6 enc Try.prog Try.f4 Rows.quantLevelsRow.domain false) (Rows.quantLevelsSpec.post enc Try.prog Try.f4 false true false false) := by
  refine returnsInHanded_of_change (C := Try.checked) own started (by kernel_rfl) Try.func4
    (ChangeSpec.witness6 (enc := enc) (C := Try.checked) false ⟨#[], #[.agg #[.int .i64 0, .int .i64 0], .int .i64 0], []⟩ 8 (by kernel_rfl) (by kernel_rfl) (by kernel_rfl) (by kernel_rfl)) ?_
  intro W base args ds gs before hval0 hW hcnd _
  have hval : ∀ (j : Nat) t v, Try.f4.params[j]? = some t → args[j]? = some v → Value.okWide Try.prog W .any base t v := hval0
  have hW' := hW
  obtain ⟨p, q, hA0, hV, rfl, hfz, hnd⟩ := hW
  have hA : DataW.TrodAll enc Try.prog W 0 (fun _ => true) true Try.f4.params.toList args.toList ds p := hA0
  rw [Try.params4] at hA hval
  obtain ⟨v0, vs0, d0, ds0, p0, q0, hargs, rfl, rfl, h0, r0⟩ := trodAll_cons hA
  obtain ⟨v1, vs1, d1, ds1, p1, q1, rfl, rfl, rfl, h1, r1⟩ := trodAll_cons r0
  obtain ⟨rfl, rfl, rfl⟩ := trodAll_nil r1
  obtain rfl : args = #[v0, v1] := by cases args; simp_all
  obtain ⟨rfl, rfl⟩ := trodVars_none hV
  obtain ⟨cs0, rfl, hc0, rfl, sh0⟩ := Go.Ev.open_plain (n := 6) Try.underlying23 (by kernel_rfl : Go.Ev.plainK Try.prog 6 23 = some [.int .i64, .int .i64]) (hval 0 23 v0 rfl rfl) h0
  obtain ⟨x0, tl0, rfl, w0, hc0⟩ := hc0.int_inv
  obtain ⟨x1, tl0, rfl, w1, hc0⟩ := hc0.int_inv
  obtain rfl := hc0.nil_inv
  obtain ⟨x2, rfl, rfl, rfl, w2⟩ := open_int Try.underlying3 (hval 1 3 v1 rfl rfl) h1
  clear hA0 hval0
  simp only [List.append_nil, List.nil_append] at hW'
  refine (walk x0 x1 x2  w0 w1 w2 W).mono fun e W' ⟨he, hg⟩ => ?_
  subst he
  exact ⟨_, rfl, Go.Ev.post_below (pa := []) (pv := []) hW' (fun _ _ _ => (trodAll_cons_mk (shut_bool Try.underlying4 _) trodAll_mk0)) (fun sp _ => (trodAll_cons_mk (sh0 _ _ _ _) (trodAll_cons_mk (shut_int Try.underlying3 w2) trodAll_mk0))) (fun _ _ => rfl) rfl
    hg (ok_one (by kernel_rfl) rfl (okWide_bool_mk Try.underlying4 _))⟩

theorem over : Rows.quantLevelsRow.holds Try.pinned (OpenSpec.ofChange Rows.quantLevelsSpec) :=
  OpenClaim.holds_of_wide 4 Try.f4 rfl rfl rfl rfl rfl rfl rfl ⟨rfl, rfl, rfl, rfl, rfl⟩ rfl rfl rfl rfl rfl (by kernel_rfl) Try.func4 (by kernel_rfl)
    (of_decide_eq_true (by kernel_rfl)) (by unfold Func.isWrapper; first | (rw [if_pos (by decide +kernel)]; kernel_rfl) | (rw [if_neg (by decide +kernel)]; exact ⟨rfl, rfl⟩))
    (fun os started H enc _ => lifted os started H enc)

/-- the statement -/
theorem proved : Rows.QuantLevelsSaid :=
  over
#print axioms proved
end Go.Proofs.Ytemcaojbhfgpgaa.quantLevels
