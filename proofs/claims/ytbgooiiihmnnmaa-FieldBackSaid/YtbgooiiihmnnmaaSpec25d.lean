import Derived.Test.YtbgooiiihmnnmaaSpec25c
namespace Go.Sp
open Go.Ev
theorem dbl {q P : Int} (hP : 0 < P) : 2 * ((q / 2) % P) + q % 2 = q % (2 * P) := by
  have e := Int.emod_add_mul_ediv (q / 2) P
  have e1 := Int.emod_nonneg (q / 2) (Int.ne_of_gt hP)
  have e2 := Int.emod_lt_of_pos (q / 2) hP
  have h1 : q = (2 * ((q / 2) % P) + q % 2) + (2 * P) * (q / 2 / P) := by
    rw [Int.mul_assoc]; omega
  have h2 : q % (2 * P) = ((2 * ((q / 2) % P) + q % 2) + (2 * P) * (q / 2 / P)) % (2 * P) := congrArg (· % (2 * P)) h1
  rw [h2, Int.add_mul_emod_self_left]
  exact (Int.emod_eq_of_lt (by omega) (by omega)).symm
theorem num_put {l m : List Int} {a b n : Int} (h0 : 0 ≤ a) (hl : a + b ≤ (l.length : Int)) (h : putP l a b n m) : ∀ k : Nat, (k : Int) ≤ b → numA m a.toNat k = n / p2 (b - k) % p2 k
  | 0, _ => by
    show (0 : Int) = _ % p2 0
    rw [p2_0]; omega
  | k + 1, hk => by
    have ih := num_put h0 hl h k (by omega)
    have g := h.2 (a.toNat + k) (by omega)
    rw [if_pos (by omega), show a + b - 1 - ((a.toNat + k : Nat) : Int) = b - (k + 1 : Nat) by omega] at g
    have hn := half_next (n0 := n) (k := b - (k + 1 : Nat)) (by omega)
    rw [show b - (k + 1 : Nat) + 1 = b - (k : Int) by omega] at hn
    have e : p2 ((k + 1 : Nat) : Int) = 2 * p2 k := by
      rw [show ((k + 1 : Nat) : Int) = 1 + (k : Int) by omega, p2_add (by omega) (by omega), p2_1]
    show 2 * numA m a.toNat k + m.getD (a.toNat + k) 0 = _
    rw [ih, g, ← hn, e, dbl (p2_pos k)]
theorem num_all {l m : List Int} {a b n : Int} (h0 : 0 ≤ a) (hb : 1 ≤ b) (hl : a + b ≤ (l.length : Int)) (h : putP l a b n m) : numA m a.toNat b.toNat = n % p2 b := by
  have e := num_put h0 hl h b.toNat (by omega)
  rw [Int.toNat_of_nonneg (by omega), Int.sub_self, p2_0, Int.ediv_one] at e
  exact e
theorem sgn_mod {g : Bool} {b n : Int} (hb : 1 ≤ b) (hk : b ≤ 40) (h1 : loR g b ≤ n) (h2 : n ≤ hiR g b) : sgnN g b (n % p2 b) = n := by
  have pb := p2_b hb hk
  rcases Int.lt_or_le n 0 with c | c
  · have e : n % p2 b = n + p2 b := by
      rw [← Int.add_emod_right, Int.emod_eq_of_lt (by cases g; rw [loR_f] at h1; omega; rw [loR_t] at h1; omega) (by omega)]
    unfold sgnN
    cases g
    · rw [loR_f] at h1; omega
    · rw [loR_t] at h1; rw [e, hiR_t, if_pos (by omega)]; omega
  · have e : n % p2 b = n := Int.emod_eq_of_lt c (by cases g; rw [hiR_f] at h2; omega; rw [hiR_t] at h2; omega)
    unfold sgnN
    rw [e, if_neg (by omega)]
theorem put_back {g : Bool} {l m : List Int} {a b n : Int} (h0 : 0 ≤ a) (hb : 1 ≤ b) (hk : b ≤ 40) (hl : a + b ≤ (l.length : Int)) (h : putP l a b n m) (h1 : loR g b ≤ n) (h2 : n ≤ hiR g b) : sgnN g b (numA m a.toNat b.toNat) = n := by
  rw [num_all h0 hb hl h, sgn_mod hb hk h1 h2]
theorem put_form {l m : List Int} {a b n : Int} (hl : a + b ≤ (l.length : Int)) (h : putP l a b n m) : formB m a b := by
  intro j h1 h2
  have g := h.2 j (by omega)
  rw [if_pos ⟨h1, h2⟩] at g
  omega
theorem put_same {l m m' : List Int} {a b n : Int} (h : putP l a b n m) (h' : putP m a b n m') : m' = m :=
  eq_of_getD (d := 0) h'.1 fun j hj => by
    have e := h'.1
    rw [h'.2 j (by omega)]
    by_cases c : a ≤ (j : Int) ∧ (j : Int) < a + b
    · rw [if_pos c, h.2 j (by rw [← h.1]; omega), if_pos c]
    · rw [if_neg c]
theorem rawN_near {v s u : Int} (hu : 1 ≤ u) : 2 * (s + rawN v s u * u - v) ≤ u ∧ 2 * (v - (s + rawN v s u * u)) ≤ u := by
  unfold rawN
  split
  · have d := div_bd (a := 2 * (s - v) + u) (c := 2 * u) (by omega)
    rw [Int.mul_assoc] at d
    rw [Int.neg_mul, Int.mul_comm _ u]; omega
  · have d := div_bd (a := 2 * (v - s) + u) (c := 2 * u) (by omega)
    rw [Int.mul_assoc] at d
    rw [Int.mul_comm _ u]; omega
theorem rawN_self {n s u : Int} (hu : 1 ≤ u) : rawN (s + n * u) s u = n := by
  unfold rawN
  have z : u / (2 * u) = 0 := Int.ediv_eq_zero_of_lt (by omega) (by omega)
  rcases Int.lt_or_le n 0 with c | c
  · have k : n * u < 0 := Int.mul_neg_of_neg_of_pos c (by omega)
    rw [if_pos (by omega), show 2 * (s - (s + n * u)) + u = u + (2 * u) * (-n) by rw [Int.mul_assoc, Int.mul_neg, Int.mul_comm u n]; omega, Int.add_mul_ediv_left _ _ (by omega), z]
    omega
  · have k : 0 ≤ n * u := Int.mul_nonneg c (by omega)
    rw [if_neg (by omega), show 2 * (s + n * u - s) + u = u + (2 * u) * n by rw [Int.mul_assoc, Int.mul_comm u n]; omega, Int.add_mul_ediv_left _ _ (by omega), z]
    omega
theorem raw_range {v s u lo hi : Int} (hu : 1 ≤ u) (h1 : s + lo * u ≤ v) (h2 : v ≤ s + hi * u) : lo ≤ rawN v s u ∧ rawN v s u ≤ hi := by
  have n := rawN_near (v := v) (s := s) hu
  constructor
  · refine le_of_mul (l := u) (by omega) ?_
    rw [Int.mul_comm u lo, Int.mul_comm u]; omega
  · refine le_of_mul (l := u) (by omega) ?_
    rw [Int.mul_comm u hi, Int.mul_comm u]; omega
theorem raw_mono {a c u : Int} (hu : 1 ≤ u) (h : a ≤ c) : a * u ≤ c * u := Int.mul_le_mul_of_nonneg_right h (by omega)
end Go.Sp
