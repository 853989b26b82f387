import Derived.Test.YtblcahackjpnjaaDoorSpecC2
import Derived.Test.YtblcahackjpnjaaDoorEvSG
namespace Go.Sp
open Go.Ev
noncomputable section
def gl11 : List (Nat × List EV) := [(0, [127, 126, 125, 122, 117, 112, 106, 98, 90, 81, 71, 60, 49, 37, 25, 12, 0].map (EV.int .i64))]
def u32 : CX := .i .u32 0 4294967295
def sigTurn : Sig := ⟨[.one i64, .one (.i .i64 1 4503599627370496)], [.one (.i .i64 0 4503599627370496)], fun _ => True, pickPost⟩
def stepPost : List DV → List DV → Prop
  | [.n t, .n p], [.n s, .n e] => e = 0 ∧ ∃ m k : Int, s = m + 4294967296 * k ∧ -p ≤ 2 * (m * p - t * 4294967296) ∧ 2 * (m * p - t * 4294967296) ≤ p
  | _, _ => False
def sigStep : Sig := ⟨[.one (ib (-1000) 1000), .one (ib 1 1000000)], [.one u32, .one (ib 0 18)], fun _ => True, stepPost⟩
def sigRounds : Sig := ⟨[.one i64, .one i64, .one u32], [.one .b], fun _ => True, fun _ rs => rs = [.b true]⟩
/-- the quotient, rounded -/
theorem near {x p : Int} (hp : 0 < p) : -p ≤ 2 * (x / p * p - x) + (if p ≤ 2 * (x % p) then 2 * p else 0) ∧ 2 * (x / p * p - x) + (if p ≤ 2 * (x % p) then 2 * p else 0) ≤ p := by
  have h1 := Int.emod_nonneg x (Int.ne_of_gt hp)
  have h2 := Int.emod_lt_of_pos x hp
  have h3 := Int.mul_ediv_add_emod x p
  rw [Int.mul_comm] at h3
  split <;> omega
theorem step_ok {t p s M : Int} (e : s = M % 4294967296) (h1 : -p ≤ 2 * (M * p - t * 4294967296)) (h2 : 2 * (M * p - t * 4294967296) ≤ p) : stepPost [.n t, .n p] [.n s, .n 0] :=
  ⟨rfl, M, -(M / 4294967296), by omega, h1, h2⟩
theorem rounds_d {P D k n x : Int} (e : x = P % n) (e2 : P = D + n * k) (h1 : -n < D) (h2 : D < n) (h0 : 0 < n) : (0 ≤ D ∧ x = D) ∨ (D < 0 ∧ x = D + n) := by
  rw [e, e2, Int.add_mul_emod_self_left]
  by_cases h : 0 ≤ D
  · exact .inl ⟨h, Int.emod_eq_of_lt h h2⟩
  · refine .inr ⟨by omega, ?_⟩
    rw [Int.emod_eq_add_self_emod]
    exact Int.emod_eq_of_lt (by omega) (by omega)
theorem mul_bd {a b A B : Int} (h1 : 0 ≤ a) (h2 : a ≤ A) (h3 : 0 ≤ b) (h4 : b ≤ B) : 0 ≤ a * b ∧ a * b ≤ A * B :=
  ⟨Int.mul_nonneg h1 h3, Int.mul_le_mul h2 h4 h3 (by omega)⟩
end
end Go.Sp
