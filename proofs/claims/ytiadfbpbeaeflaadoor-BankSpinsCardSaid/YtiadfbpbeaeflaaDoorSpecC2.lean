import Derived.Test.YtiadfbpbeaeflaaDoorSpecC
import Derived.Test.YtiadfbpbeaeflaaDoorEvSS
namespace Go.Sp
open Go.Ev
noncomputable section
/-- 2^n -/
def p2 (n : Int) : Int := 2 ^ n.toNat
theorem p2_pos (n : Int) : 0 < p2 n := Int.pow_pos (by decide)
theorem p2_mono {a c : Int} (h : a ≤ c) : p2 a ≤ p2 c := by
  unfold p2
  exact_mod_cast Nat.pow_le_pow_right (by decide : 0 < 2) (show a.toNat ≤ c.toNat by omega)
theorem p2_add {a c : Int} (h : 0 ≤ a) (g : 0 ≤ c) : p2 (a + c) = p2 a * p2 c := by
  unfold p2
  rw [← Int.pow_add]
  congr 1
  omega
theorem shl_one {n : Int} (h : 0 ≤ n) (g : n ≤ 62) : opI (.shl .i64) 1 n = p2 n := by
  have e : min n.toNat IntKind.i64.bits = n.toNat := by
    show min n.toNat 64 = _
    omega
  show IntKind.wrap .i64 (1 * Int.ofNat (2 ^ min n.toNat IntKind.i64.bits)) = _
  rw [e, wrap_i64]
  have h1 := p2_pos n
  have h2 : p2 n ≤ p2 62 := p2_mono g
  have h3 : p2 62 = 4611686018427387904 := by decide
  have h4 : (1 : Int) * Int.ofNat (2 ^ n.toNat) = p2 n := by
    rw [Int.one_mul]; unfold p2
    show ((2 ^ n.toNat : Nat) : Int) = _
    exact Int.natCast_pow 2 n.toNat
  rw [h4]
  omega
theorem shr_eq {a n : Int} (h : 0 ≤ n) (g : n ≤ 64) : opI (.shr .i64) a n = a / p2 n := by
  have e : min n.toNat IntKind.i64.bits = n.toNat := by
    show min n.toNat 64 = _
    omega
  show Int.fdiv a (Int.ofNat (2 ^ min n.toNat IntKind.i64.bits)) = _
  rw [e]
  have h4 : Int.ofNat (2 ^ n.toNat) = p2 n := by
    unfold p2
    show ((2 ^ n.toNat : Nat) : Int) = _
    exact Int.natCast_pow 2 n.toNat
  rw [h4]
  exact Int.fdiv_eq_ediv_of_nonneg a (Int.le_of_lt (p2_pos n))
theorem shl_eq {a n : Int} (h : 0 ≤ n) (g : n ≤ 64) (b1 : -9223372036854775808 ≤ a * p2 n) (b2 : a * p2 n ≤ 9223372036854775807) : opI (.shl .i64) a n = a * p2 n := by
  have e : min n.toNat IntKind.i64.bits = n.toNat := by
    show min n.toNat 64 = _
    omega
  show IntKind.wrap .i64 (a * Int.ofNat (2 ^ min n.toNat IntKind.i64.bits)) = _
  have h4 : Int.ofNat (2 ^ n.toNat) = p2 n := by
    unfold p2
    show ((2 ^ n.toNat : Nat) : Int) = _
    exact Int.natCast_pow 2 n.toNat
  rw [e, wrap_i64, h4]
  omega
theorem div_bd {a c : Int} (h : 0 < c) : c * (a / c) ≤ a ∧ a < c * (a / c) + c := by
  have := Int.emod_add_mul_ediv a c
  have := Int.emod_nonneg a (Int.ne_of_gt h)
  have := Int.emod_lt_of_pos a h
  omega
theorem le_of_mul {l a c : Int} (h : 0 < l) (g : l * a < l * c + l) : a ≤ c := by
  rcases Int.lt_or_le c a with k | k
  · have := Int.mul_nonneg (Int.le_of_lt h) (show 0 ≤ a - c - 1 by omega)
    rw [Int.mul_sub, Int.mul_sub, Int.mul_one] at this
    omega
  · exact k
theorem getD_set {α : Type} {d x : α} {l : List α} {i j : Nat} : (l.set i x).getD j d = if i = j ∧ j < l.length then x else l.getD j d := by
  rw [List.getD_eq_getElem?_getD, List.getD_eq_getElem?_getD, List.getElem?_set]
  by_cases h : i = j
  · subst h
    by_cases g : i < l.length
    · simp [g]
    · simp [g]
  · simp [h]
theorem getD_rep {α : Type} {d x : α} {n j : Nat} : (List.replicate n x).getD j d = if j < n then x else d := by
  rw [List.getD_eq_getElem?_getD, List.getElem?_replicate]
  split <;> rfl
/-- how many of the first n -/
def cntN (p : Nat → Prop) : Nat → Int
  | 0 => 0
  | n + 1 => cntN p n + @ite Int (p n) (Classical.propDecidable _) 1 0
theorem cntN_yes {p : Nat → Prop} {n : Nat} (h : p n) : cntN p (n + 1) = cntN p n + 1 := by
  show cntN p n + @ite Int (p n) (Classical.propDecidable _) 1 0 = _
  rw [if_pos h]
theorem cntN_no {p : Nat → Prop} {n : Nat} (h : ¬p n) : cntN p (n + 1) = cntN p n := by
  show cntN p n + @ite Int (p n) (Classical.propDecidable _) 1 0 = _
  rw [if_neg h]; omega
theorem cntN_bd {p : Nat → Prop} : ∀ {n : Nat}, 0 ≤ cntN p n ∧ cntN p n ≤ n
  | 0 => by simp [cntN]
  | n + 1 => by
    have := cntN_bd (p := p) (n := n)
    by_cases h : p n
    · rw [cntN_yes h]; omega
    · rw [cntN_no h]; omega
theorem getD_app1 {α : Type} {d : α} {s t : List α} {j : Nat} (h : j < s.length) : (s ++ t).getD j d = s.getD j d := by
  simp [List.getD_eq_getElem?_getD, List.getElem?_append_left h]
theorem getD_last {α : Type} {d x : α} {s : List α} : (s ++ [x]).getD s.length d = x := by simp [List.getD_eq_getElem?_getD]
theorem take_snoc {α : Type} {l m : List α} {x : α} (h : m.length = l.length) : (m ++ [x]).take (l.length + 1) = m ++ [x] := List.take_of_length_le (by simp; omega)
theorem set_bd {l : List Int} {lo hi x : Int} {i : Nat} (h : ∀ y ∈ l, lo ≤ y ∧ y ≤ hi) (h1 : lo ≤ x) (h2 : x ≤ hi) : ∀ y ∈ l.set i x, lo ≤ y ∧ y ≤ hi := fun y hy => by
  rcases List.mem_or_eq_of_mem_set hy with g | rfl
  · exact h y g
  · exact ⟨h1, h2⟩
theorem rep_bd {lo hi x : Int} {n : Nat} (h1 : lo ≤ x) (h2 : x ≤ hi) : ∀ y ∈ List.replicate n x, lo ≤ y ∧ y ≤ hi := fun y hy => by
  rw [List.eq_of_mem_replicate hy]; exact ⟨h1, h2⟩
theorem app_bd {l m : List Int} {lo hi : Int} (h : ∀ y ∈ l, lo ≤ y ∧ y ≤ hi) (g : ∀ y ∈ m, lo ≤ y ∧ y ≤ hi) : ∀ y ∈ l ++ m, lo ≤ y ∧ y ≤ hi := fun y hy => by
  rcases List.mem_append.1 hy with k | k
  · exact h y k
  · exact g y k
theorem one_bd {lo hi x : Int} (h1 : lo ≤ x) (h2 : x ≤ hi) : ∀ y ∈ [x], lo ≤ y ∧ y ≤ hi := fun y hy => by
  rw [List.mem_singleton.1 hy]; exact ⟨h1, h2⟩
theorem nil_bd {lo hi : Int} : ∀ y ∈ ([] : List Int), lo ≤ y ∧ y ≤ hi := fun y hy => by cases hy
theorem take_bd {l : List Int} {lo hi : Int} {n : Nat} (h : ∀ y ∈ l, lo ≤ y ∧ y ≤ hi) : ∀ y ∈ l.take n, lo ≤ y ∧ y ≤ hi := fun y hy => h y (List.mem_of_mem_take hy)
theorem drop_bd {l : List Int} {lo hi : Int} {n : Nat} (h : ∀ y ∈ l, lo ≤ y ∧ y ≤ hi) : ∀ y ∈ l.drop n, lo ≤ y ∧ y ≤ hi := fun y hy => h y (List.mem_of_mem_drop hy)
theorem sub_bd {l : List Int} {lo hi lo' hi' : Int} (h : ∀ y ∈ l, lo ≤ y ∧ y ≤ hi) (h1 : lo' ≤ lo) (h2 : hi ≤ hi') : ∀ y ∈ l, lo' ≤ y ∧ y ≤ hi' := fun y hy => by have := h y hy; omega
theorem lenCols_i (k : IntKind) (lo hi : Int) (l : List Int) (r : List Col) : lenCols (Col.i k lo hi l :: r) = l.length := rfl
theorem lenCols_b (l : List Bool) (r : List Col) : lenCols (Col.b l :: r) = l.length := rfl
theorem take_eq {α β : Type} {l : List α} {m : List β} (h : m.length = l.length) : m.take l.length = m := by rw [← h]; exact List.take_length
theorem toNat_succ {i : Int} (h : 0 ≤ i) : (i + 1).toNat = i.toNat + 1 := by omega
end
end Go.Sp
