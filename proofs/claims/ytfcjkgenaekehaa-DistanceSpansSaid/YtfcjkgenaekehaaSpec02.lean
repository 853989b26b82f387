import Derived.Test.YtfcjkgenaekehaaSpec01
import Derived.Test.YtfcjkgenaekehaaEvSG
namespace Go.Sp
open Go.Ev
noncomputable section
def gl11 : List (Nat × List EV) := [(0, [127, 126, 125, 122, 117, 112, 106, 98, 90, 81, 71, 60, 49, 37, 25, 12, 0].map (EV.int .i64))]
def isq (v r : Int) : Prop := 0 ≤ r ∧ r * r ≤ v ∧ v < (r + 1) * (r + 1)
theorem sq_lt {a b : Int} (h : 0 ≤ a) (g : a + 1 ≤ b) : (a + 1) * (a + 1) ≤ b * b := Int.mul_le_mul g g (by omega) (by omega)
theorem isq_one {v r s : Int} (h : isq v r) (g : isq v s) : r = s := by
  obtain ⟨h1, h2, h3⟩ := h
  obtain ⟨g1, g2, g3⟩ := g
  rcases Int.lt_trichotomy r s with e | e | e
  · have := sq_lt h1 (show r + 1 ≤ s by omega); omega
  · exact e
  · have := sq_lt g1 (show s + 1 ≤ r by omega); omega
def rtPost : List DV → List DV → Prop
  | [.n n], [.n r, .n e] => (n < 0 ∧ r = 0 ∧ e = 2) ∨ (0 ≤ n ∧ e = 0 ∧ isq n r)
  | _, _ => False
def sigRt : Sig := ⟨[.one i64], [.one (ib 0 9223372036854775807), .one (ib 0 18)], fun _ => True, rtPost⟩
def rwPost : List DV → List DV → Prop
  | [.n h, .n l], [.n r, .n e] => (h < 0 ∧ r = 0 ∧ e = 2) ∨ (4611686018427387904 ≤ h ∧ r = 0 ∧ e = 5) ∨ (0 ≤ h ∧ h < 4611686018427387904 ∧ e = 0 ∧ isq (h * 18446744073709551616 + l) r)
  | _, _ => False
def sigRw : Sig := ⟨[wideV], [.one (ib 0 9223372036854775807), .one (ib 0 18)], fun _ => True, rwPost⟩
def pw2 (b : Int) : Prop := b = 0 ∨ ∃ j : Nat, b = 2 ^ j
theorem pw2_half {b : Int} (h : pw2 b) : pw2 (b / 2) ∧ (b = 1 ∨ 2 * (b / 2) = b) := by
  rcases h with rfl | ⟨j, rfl⟩
  · exact ⟨.inl rfl, .inr rfl⟩
  · cases j with
    | zero => exact ⟨.inl rfl, .inl rfl⟩
    | succ j =>
      have e : (2 : Int) ^ (j + 1) = 2 ^ j * 2 := Int.pow_succ 2 j
      exact ⟨.inr ⟨j, by omega⟩, .inr (by omega)⟩
/-- a search: b the bit, r what is found, M twice the first bit -/
def srch (M v b r : Int) : Prop := 0 ≤ r ∧ 0 ≤ b ∧ pw2 b ∧ r + 2 * b ≤ M ∧ r * r ≤ v ∧ (b = 0 → v < (r + 1) * (r + 1)) ∧ (0 < b → v < (r + 2 * b) * (r + 2 * b))
theorem srch_up {M v b r : Int} (h : srch M v b r) (g : 0 < b) (k : (r + b) * (r + b) ≤ v) : srch M v (b / 2) (r + b) := by
  obtain ⟨h1, h2, h3, h4, h5, h6, h7⟩ := h
  obtain ⟨g1, g2⟩ := pw2_half h3
  refine ⟨by omega, by omega, g1, by omega, k, fun e => ?_, fun e => ?_⟩
  · have := h7 g
    rw [show r + 2 * b = r + b + 1 by omega] at this; exact this
  · have := h7 g
    rw [show r + 2 * b = r + b + 2 * (b / 2) by omega] at this; exact this
theorem srch_down {M v b r : Int} (h : srch M v b r) (g : 0 < b) (k : v < (r + b) * (r + b)) : srch M v (b / 2) r := by
  obtain ⟨h1, h2, h3, h4, h5, h6, h7⟩ := h
  obtain ⟨g1, g2⟩ := pw2_half h3
  refine ⟨by omega, by omega, g1, by omega, h5, fun e => ?_, fun e => ?_⟩
  · rw [show r + 1 = r + b by omega]; exact k
  · rw [show r + 2 * (b / 2) = r + b by omega]; exact k
theorem srch_end {M v b r : Int} (h : srch M v b r) (g : ¬0 < b) : isq v r := ⟨h.1, h.2.2.2.2.1, h.2.2.2.2.2.1 (by have := h.2.1; omega)⟩
theorem srch_hit {M v b r : Int} (h : srch M v b r) (g : 0 < b) (k : (r + b) * (r + b) = v) : isq v (r + b) := by
  have h1 := h.1
  refine ⟨by omega, by omega, ?_⟩
  rw [← k]
  exact Int.lt_of_lt_of_le (show (r + b) * (r + b) < (r + b) * (r + b) + (2 * (r + b) + 1) by omega) (by rw [show (r + b + 1) * (r + b + 1) = (r + b) * (r + b) + (2 * (r + b) + 1) by grind]; omega)
theorem srch_0 {M v b : Int} (j : Nat) (e : b = 2 ^ j) (hb : 0 < b) (hM : 2 * b ≤ M) (h0 : 0 ≤ v) (hv : v < (2 * b) * (2 * b)) : srch M v b 0 :=
  ⟨by omega, by omega, .inr ⟨j, e⟩, by omega, by omega, fun e => by omega, fun _ => by rw [Int.zero_add]; exact hv⟩
theorem mul_bd {a b A B : Int} (h1 : 0 ≤ a) (h2 : a ≤ A) (h3 : 0 ≤ b) (h4 : b ≤ B) : 0 ≤ a * b ∧ a * b ≤ A * B :=
  ⟨Int.mul_nonneg h1 h3, Int.mul_le_mul h2 h4 h3 (by omega)⟩
theorem rt_one {n a b c d : Int} (h : (n < 0 ∧ a = 0 ∧ b = 2) ∨ (0 ≤ n ∧ b = 0 ∧ isq n a)) (g : (n < 0 ∧ c = 0 ∧ d = 2) ∨ (0 ≤ n ∧ d = 0 ∧ isq n c)) : a = c ∧ b = d := by
  rcases h with h | h <;> rcases g with g | g
  · omega
  · omega
  · omega
  · exact ⟨isq_one h.2.2 g.2.2, by omega⟩
theorem rw_one {h l a b c d : Int} (k : (h < 0 ∧ a = 0 ∧ b = 2) ∨ (4611686018427387904 ≤ h ∧ a = 0 ∧ b = 5) ∨ (0 ≤ h ∧ h < 4611686018427387904 ∧ b = 0 ∧ isq (h * 18446744073709551616 + l) a))
    (g : (h < 0 ∧ c = 0 ∧ d = 2) ∨ (4611686018427387904 ≤ h ∧ c = 0 ∧ d = 5) ∨ (0 ≤ h ∧ h < 4611686018427387904 ∧ d = 0 ∧ isq (h * 18446744073709551616 + l) c)) : a = c ∧ b = d := by
  rcases k with k | k | k <;> rcases g with g | g | g
  · omega
  · omega
  · omega
  · omega
  · omega
  · omega
  · omega
  · omega
  · exact ⟨isq_one k.2.2.2 g.2.2.2, by omega⟩
theorem sq_bd {r v B : Int} (h0 : 0 ≤ r) (h1 : r * r ≤ v) (h2 : v < B * B) (hB : 0 < B) : r < B := by
  rcases Int.lt_or_le r B with h | h
  · exact h
  · have := Int.mul_le_mul h h (by omega) h0
    omega
theorem isq_self {a : Int} (h : 0 ≤ a) : isq (a * a) a := ⟨h, by omega, by rw [show (a + 1) * (a + 1) = a * a + (2 * a + 1) by grind]; omega⟩
def rtInv : List DV → List DV → Prop
  | [.n v], [.n r, .n b] => 0 ≤ v ∧ srch 4294967296 v b r
  | _, _ => False
def rtMea : List DV → List DV → Nat
  | _, [.n _, .n b] => b.toNat
  | _, _ => 0
def rtL : LSpec := ⟨[1, 2], [(.tmp 7, ib 0 4294967296), (.tmp 8, ib 0 2147483648)], [(.tmp 1, i64)], rtInv, rtMea, 10⟩
def rwInv : List DV → List DV → Prop
  | [.n h, .n l], [.n r, .n b] => 0 ≤ h ∧ h < 4611686018427387904 ∧ 0 ≤ l ∧ l < 18446744073709551616 ∧ srch 9223372036854775808 (h * 18446744073709551616 + l) b r
  | _, _ => False
def rwL : LSpec := ⟨[1, 2, 4], [(.tmp 7, ib 0 9223372036854775807), (.tmp 8, ib 0 4611686018427387904)], [(.cell (key 2) 0, i64), (.cell (key 2) 1, u64c)], rwInv, rtMea, 30⟩
def rwLR : LSpec := ⟨[1], [(.tmp 4, ib 0 9223372036854775807), (.tmp 5, ib 0 4611686018427387904)], [(.cell (key 1) 0, i64), (.cell (key 1) 1, u64c)], rwInv, rtMea, 30⟩
def tab02 : Nat → LT := fun f p c => at2 f p 46 218 rtL (at2 f p 49 218 rwL (at2 f p 35 250 rwLR none))
def sigL1 : Sig := ⟨[.one i64, wideV], [.one .b], fun _ => True, fun _ rs => rs = [.b true]⟩
def sigL2i : Sig := ⟨[.one i64, .one i64], [.one .b], fun _ => True, fun _ rs => rs = [.b true]⟩
end
end Go.Sp
