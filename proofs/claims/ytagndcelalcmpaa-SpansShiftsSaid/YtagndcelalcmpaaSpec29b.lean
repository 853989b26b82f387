import Derived.Test.YtagndcelalcmpaaSpec29
namespace Go.Sp
theorem div_bd {a c : Int} (h : 0 < c) : c * (a / c) ≤ a ∧ a < c * (a / c) + c := by
  have := Int.emod_add_mul_ediv a c
  have := Int.emod_nonneg a (Int.ne_of_gt h)
  have := Int.emod_lt_of_pos a h
  omega
theorem rnd_bd {n l : Int} (h : 0 < l) : -l ≤ 2 * (l * rnd n l) - 2 * n ∧ 2 * (l * rnd n l) - 2 * n ≤ l := by
  unfold rnd
  split
  · have := div_bd (a := 2 * n + l) (c := 2 * l) (by omega)
    rw [Int.mul_assoc] at this
    omega
  · have := div_bd (a := 2 * -n + l) (c := 2 * l) (by omega)
    rw [Int.mul_assoc] at this
    rw [Int.mul_neg]
    omega
/-- from a product's bounds to a factor's -/
theorem le_of_mul {l a b : Int} (h : 0 < l) (g : l * a < l * b + l) : a ≤ b := by
  rcases Int.lt_or_le b a with k | k
  · have := Int.mul_nonneg (Int.le_of_lt h) (show 0 ≤ a - b - 1 by omega)
    rw [Int.mul_sub, Int.mul_sub, Int.mul_one] at this
    omega
  · exact k
theorem rnd_le {n l M : Int} (h : 0 < l) (h1 : -(M * l) ≤ n) (h2 : n ≤ M * l) : -M ≤ rnd n l ∧ rnd n l ≤ M := by
  have := rnd_bd (n := n) h
  rw [Int.mul_comm M l] at h1 h2
  refine ⟨le_of_mul h ?_, le_of_mul h ?_⟩
  · rw [Int.mul_neg]; omega
  · omega
theorem rnd_shift {l N : Int} (h : 1 ≤ l) (h2 : l ≤ 8192) : rnd (299792458 * (N + l)) l - rnd (299792458 * N) l = 299792458 ∨
    (rnd (299792458 * N) l < 0 ∧ 0 < rnd (299792458 * (N + l)) l ∧ 299792457 ≤ rnd (299792458 * (N + l)) l - rnd (299792458 * N) l ∧ rnd (299792458 * (N + l)) l - rnd (299792458 * N) l ≤ 299792459) := by
  have hz : (2 * l) ≠ 0 := by omega
  unfold rnd
  split <;> split
  · left
    rw [show 2 * (299792458 * (N + l)) + l = 2 * (299792458 * N) + l + 299792458 * (2 * l) by omega, Int.add_mul_ediv_right _ _ hz]
    omega
  · rename_i a b
    have e : 2 * -(299792458 * N) + l = (l - 2 * (299792458 * (N + l))) + 299792458 * (2 * l) := by omega
    rcases Int.lt_or_le 0 (N + l) with k | k
    · have e2 : 2 * -(299792458 * N) + l = -(2 * (299792458 * (N + l)) + l) + 299792459 * (2 * l) := by omega
      rw [e2, Int.add_mul_ediv_right _ _ hz]
      generalize ha : 2 * (299792458 * (N + l)) + l = A at *
      have d1 := div_bd (a := A) (c := 2 * l) (by omega)
      have d2 := div_bd (a := -A) (c := 2 * l) (by omega)
      have f1 : -A / (2 * l) ≤ -(A / (2 * l)) := le_of_mul (l := 2 * l) (by omega) (by rw [Int.mul_neg]; omega)
      have f2 : -(A / (2 * l)) ≤ -A / (2 * l) + 1 := le_of_mul (l := 2 * l) (by omega) (by rw [Int.mul_neg, Int.mul_add]; omega)
      have f3 : 1 ≤ A / (2 * l) := le_of_mul (l := 2 * l) (by omega) (by omega)
      have f4 : 1 ≤ -A / (2 * l) + 299792459 := by
        rw [← Int.add_mul_ediv_right _ _ hz]
        refine Int.le_ediv_of_mul_le (by omega) ?_
        omega
      omega
    · have : N + l = 0 := by omega
      left
      rw [this, e, Int.add_mul_ediv_right _ _ hz, this, show 2 * (299792458 * 0) + l = l by omega, show l - 2 * (299792458 * 0) = l by omega, Int.ediv_eq_zero_of_lt (a := l) (by omega) (by omega)]
      omega
  · omega
  · left
    rw [show 2 * -(299792458 * N) + l = 2 * -(299792458 * (N + l)) + l + 299792458 * (2 * l) by omega, Int.add_mul_ediv_right _ _ hz]
    omega
theorem span_true {l o d w m x b : Int} (h : 1 ≤ l) (w1 : 0 - (o - 1) ≤ w) (w2 : w ≤ o - 1) (m1 : 299792458 * m ≤ d * l) (m2 : d * l < 299792458 * m + 299792458)
    (hx : x = rnd (299792458 * (m + w)) l) (hb : b = (o * 299792458 + l - 1) / l + 1) : x - d ≤ b ∧ d - x ≤ b := by
  have r := rnd_bd (n := 299792458 * (m + w)) (l := l) (by omega)
  rw [← hx] at r
  have e := div_bd (a := o * 299792458 + l - 1) (c := l) (by omega)
  have eb : (o * 299792458 + l - 1) / l = b - 1 := by omega
  rw [eb, Int.mul_sub] at e
  rw [Int.mul_comm d l] at m1 m2
  constructor
  · refine le_of_mul (l := l) (by omega) ?_
    rw [Int.mul_sub]; omega
  · refine le_of_mul (l := l) (by omega) ?_
    rw [Int.mul_sub]; omega
theorem whole_eq {l t a : Int} : (a + t / l) * l + t % l = a * l + t := by
  rw [Int.add_mul]
  have := Int.emod_add_mul_ediv t l
  rw [Int.mul_comm l] at this
  omega
theorem whole_bd {l t a : Int} (h : 1 ≤ l) : (-40000 * l ≤ a * l + t → -40000 ≤ a + t / l) ∧ (a * l + t ≤ 40000 * l → a + t / l ≤ 40000) := by
  have d := div_bd (a := t) (c := l) (by omega)
  constructor
  · intro g
    refine le_of_mul (l := l) (by omega) ?_
    rw [Int.mul_add, Int.mul_comm l a]; omega
  · intro g
    refine le_of_mul (l := l) (by omega) ?_
    rw [Int.mul_add, Int.mul_comm l a]; omega
theorem mul_in {a l A L : Int} (h1 : -A ≤ a) (h2 : a ≤ A) (h3 : 0 ≤ l) (h4 : l ≤ L) : -(A * L) ≤ a * l ∧ a * l ≤ A * L := by
  have hA : 0 ≤ A := by omega
  have k1 := Int.mul_le_mul_of_nonneg_right h2 h3
  have k2 := Int.mul_le_mul_of_nonneg_right h1 h3
  have k3 := Int.mul_le_mul_of_nonneg_left h4 hA
  rw [Int.neg_mul] at k2
  omega
theorem frac_eq {d l m : Int} (h : 0 ≤ d) (hl : 0 ≤ l) (hm : m = d / 299792458 * l + d % 299792458 * l / 299792458) : 299792458 * m ≤ d * l ∧ d * l < 299792458 * m + 299792458 := by
  have e : d * l = d / 299792458 * l * 299792458 + d % 299792458 * l := by
    have := Int.emod_add_mul_ediv d 299792458
    have k : d * l = (d % 299792458 + 299792458 * (d / 299792458)) * l := by rw [this]
    rw [k, Int.add_mul, Int.mul_assoc]
    omega
  subst hm
  generalize d / 299792458 * l = A at *
  generalize d % 299792458 * l = B at *
  omega
end Go.Sp
