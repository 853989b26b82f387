import Derived.Test.YtcddopooofdgcaaSpec01
namespace Go.Sp
open Go.Ev
theorem p2_nat (n : Int) : Int.ofNat (2 ^ n.toNat) = p2 n := by
  unfold p2
  show ((2 ^ n.toNat : Nat) : Int) = _
  exact Int.natCast_pow 2 n.toNat
theorem shlU_eq {a n : Int} (h : 0 ≤ n) (g : n ≤ 64) : opI (.shl .u64) a n = a * p2 n % 18446744073709551616 := by
  have e : min n.toNat IntKind.u64.bits = n.toNat := by
    show min n.toNat 64 = _
    omega
  show IntKind.wrap .u64 (a * Int.ofNat (2 ^ min n.toNat IntKind.u64.bits)) = _
  rw [e, wrap_u64, p2_nat]
theorem shrU_eq {a n : Int} (h : 0 ≤ n) (g : n ≤ 64) : opI (.shr .u64) a n = a / p2 n := by
  have e : min n.toNat IntKind.u64.bits = n.toNat := by
    show min n.toNat 64 = _
    omega
  show Int.fdiv a (Int.ofNat (2 ^ min n.toNat IntKind.u64.bits)) = _
  rw [e, p2_nat]
  exact Int.fdiv_eq_ediv_of_nonneg a (Int.le_of_lt (p2_pos n))
theorem shlU_one {n : Int} (h : 0 ≤ n) (g : n ≤ 63) : opI (.shl .u64) 1 n = p2 n := by
  rw [shlU_eq h (by omega), Int.one_mul]
  have h1 := p2_pos n
  have h2 : p2 n ≤ p2 63 := p2_mono g
  have h3 : p2 63 = 9223372036854775808 := by decide
  omega
theorem ofInt_nat {a : Int} (h1 : 0 ≤ a) (h2 : a < 18446744073709551616) : (BitVec.ofInt 64 a).toNat = a.toNat := by
  rw [BitVec.toNat_ofInt]
  have : a % (2 ^ 64 : Nat) = a := Int.emod_eq_of_lt h1 (by simpa using h2)
  rw [this]
theorem p2_le {a : Int} (h : p2 a ≤ 18446744073709551616) : a ≤ 64 := by
  rcases Int.lt_or_le 64 a with x | x
  · have := p2_mono (show 65 ≤ a by omega)
    rw [show p2 65 = 36893488147419103232 by decide] at this
    omega
  · exact x
theorem p2_dvd {k : Int} (hk : 0 ≤ k) (hm : p2 k ≤ 18446744073709551616) : ∃ t, t * p2 k = 18446744073709551616 := by
  have := p2_le hm
  refine ⟨p2 (64 - k), ?_⟩
  rw [← p2_add (by omega) hk, show 64 - k + k = 64 by omega]
  decide
theorem orU_add {a c k : Int} (hk : 0 ≤ k) (ha : 0 ≤ a) (ha2 : a < p2 k) (hc : 0 ≤ c) (hb : c * p2 k < 18446744073709551616) (hm : p2 k ≤ 18446744073709551616) : opI (.or .u64) a (c * p2 k) = a + c * p2 k := by
  have hp := p2_pos k
  have hcp := Int.mul_nonneg hc (Int.le_of_lt hp)
  show IntKind.wrap .u64 ((BitVec.ofInt 64 a ||| BitVec.ofInt 64 (c * p2 k)).toNat : Int) = _
  rw [BitVec.toNat_or, ofInt_nat ha (by omega), ofInt_nat hcp hb]
  have e1 : (c * p2 k).toNat = c.toNat <<< k.toNat := by
    rw [Nat.shiftLeft_eq]
    have : c * p2 k = ((c.toNat * 2 ^ k.toNat : Nat) : Int) := by
      unfold p2
      rw [Int.natCast_mul, Int.natCast_pow, Int.toNat_of_nonneg hc]; rfl
    rw [this, Int.toNat_natCast]
  have e2 : a.toNat < 2 ^ k.toNat := by
    have : (a.toNat : Int) < ((2 ^ k.toNat : Nat) : Int) := by
      rw [Int.toNat_of_nonneg ha, Int.natCast_pow]; exact ha2
    exact_mod_cast this
  have e3 : a.toNat ||| (c * p2 k).toNat = a.toNat + (c * p2 k).toNat := by
    rw [e1, Nat.or_comm, ← Nat.shiftLeft_add_eq_or_of_lt e2, Nat.add_comm]
  rw [e3, wrap_u64]
  have s1 : a + c * p2 k < 18446744073709551616 := by
    have q : (c + 1) * p2 k ≤ 18446744073709551616 := by
      have dv := p2_dvd hk hm
      obtain ⟨t, ht⟩ := dv
      have : c < t := by
        rcases Int.lt_or_le c t with x | x
        · exact x
        · have := Int.mul_le_mul_of_nonneg_right x (Int.le_of_lt hp); omega
      have := Int.mul_le_mul_of_nonneg_right (show c + 1 ≤ t by omega) (Int.le_of_lt hp)
      omega
    rw [Int.add_mul, Int.one_mul] at q
    omega
  omega
theorem down_math {h l P Q : Int} (hP : 0 < P) (hQ : 0 < Q) (e : P * Q = 18446744073709551616) (h0 : 0 ≤ h) (l0 : 0 ≤ l) (l1 : l < 18446744073709551616) :
    h / P * 18446744073709551616 + (l / P + h % P * Q) = (h * 18446744073709551616 + l) / P ∧ h * Q % 18446744073709551616 = h % P * Q ∧ 0 ≤ l / P ∧ l / P < Q ∧ 0 ≤ h % P ∧ h % P * Q < 18446744073709551616 := by
  have eh := Int.emod_add_mul_ediv h P
  have el := Int.emod_add_mul_ediv l P
  have r1 := Int.emod_nonneg h (Int.ne_of_gt hP)
  have r2 := Int.emod_lt_of_pos h hP
  have s1 := Int.emod_nonneg l (Int.ne_of_gt hP)
  have s2 := Int.emod_lt_of_pos l hP
  have c0 := Int.ediv_nonneg l0 (Int.le_of_lt hP)
  generalize h / P = a at *
  generalize h % P = r at *
  generalize l / P = c at *
  generalize l % P = s at *
  have rq : r * Q < 18446744073709551616 := by
    have := Int.mul_lt_mul_of_pos_right r2 hQ
    omega
  have rq0 := Int.mul_nonneg r1 (Int.le_of_lt hQ)
  have cq : c < Q := by
    rcases Int.lt_or_le c Q with x | x
    · exact x
    · have := Int.mul_le_mul_of_nonneg_left x (Int.le_of_lt hP); omega
  refine ⟨?_, ?_, c0, cq, r1, rq⟩
  · have e1 : h * 18446744073709551616 + l = s + P * (a * 18446744073709551616 + (c + r * Q)) := by
      rw [← eh, ← el, ← e]; grind
    rw [e1, Int.add_mul_ediv_left _ _ (Int.ne_of_gt hP), Int.ediv_eq_zero_of_lt s1 s2]
    omega
  · have e1 : h * Q = r * Q + 18446744073709551616 * a := by rw [← eh, ← e]; grind
    rw [e1, Int.add_mul_emod_self_left, Int.emod_eq_of_lt rq0 rq]
theorem p2_split {n : Int} (h : 0 ≤ n) (g : n ≤ 64) : p2 n * p2 (64 - n) = 18446744073709551616 := by
  rw [← p2_add h (by omega), show n + (64 - n) = 64 by omega]
  decide
/-- two words, shifted to the right -/
theorem words_down {h l n : Int} (n0 : 0 ≤ n) (n1 : n ≤ 64) (h0 : 0 ≤ h) (l0 : 0 ≤ l) (l1 : l < 18446744073709551616) :
    h / p2 n * 18446744073709551616 + opI (.or .u64) (l / p2 n) (h * p2 (64 - n) % 18446744073709551616) = (h * 18446744073709551616 + l) / p2 n ∧
    0 ≤ opI (.or .u64) (l / p2 n) (h * p2 (64 - n) % 18446744073709551616) ∧ opI (.or .u64) (l / p2 n) (h * p2 (64 - n) % 18446744073709551616) ≤ 18446744073709551615 := by
  obtain ⟨a1, a2, a3, a4, a5, a6⟩ := down_math (h := h) (l := l) (p2_pos n) (p2_pos (64 - n)) (p2_split n0 n1) h0 l0 l1
  have q : p2 (64 - n) ≤ p2 64 := p2_mono (by omega)
  rw [show p2 64 = 18446744073709551616 by decide] at q
  rw [a2, orU_add (by omega) a3 a4 a5 a6 q]
  refine ⟨a1, ?_, ?_⟩
  · have := Int.mul_nonneg a5 (Int.le_of_lt (p2_pos (64 - n))); omega
  · obtain ⟨t, ht⟩ := p2_dvd (k := 64 - n) (by omega) q
    have : h % p2 n < t := by
      rcases Int.lt_or_le (h % p2 n) t with x | x
      · exact x
      · have := Int.mul_le_mul_of_nonneg_right x (Int.le_of_lt (p2_pos (64 - n))); omega
    have := Int.mul_le_mul_of_nonneg_right (show h % p2 n + 1 ≤ t by omega) (Int.le_of_lt (p2_pos (64 - n)))
    rw [Int.add_mul] at this
    omega
theorem words_high {h l n : Int} (n0 : 64 ≤ n) (l0 : 0 ≤ l) (l1 : l < 18446744073709551616) : (h * 18446744073709551616 + l) / p2 n = h / p2 (n - 64) := by
  have e : p2 n = 18446744073709551616 * p2 (n - 64) := by
    rw [show (18446744073709551616 : Int) = p2 64 by decide, ← p2_add (by omega) (by omega), show 64 + (n - 64) = n by omega]
  have k : (h * 18446744073709551616 + l) / 18446744073709551616 / p2 (n - 64) = (h * 18446744073709551616 + l) / (18446744073709551616 * p2 (n - 64)) := by
    rw [Int.ediv_ediv, if_neg (by omega)]; omega
  rw [e, ← k]
  congr 1
  omega
theorem p2_half {n : Int} (h : 1 ≤ n) : p2 n / 2 = p2 (n - 1) := by
  have := p2_add (a := n - 1) (c := 1) (by omega) (by omega)
  rw [show n - 1 + 1 = n by omega, show p2 1 = 2 by decide] at this
  omega
theorem shR_bd {W n : Int} (h0 : 0 ≤ W) (h1 : W ≤ 170141183460469231731687303715884105728) (h2 : 64 ≤ n) : 0 ≤ shR W n ∧ shR W n ≤ 18446744073709551615 := by
  have p := p2_pos n
  have q := p2_mono (show 64 ≤ n by omega)
  rw [show p2 64 = 18446744073709551616 by decide] at q
  have hh := p2_half (n := n) (by omega)
  rw [shR, if_neg (by omega), ← hh]
  refine ⟨Int.ediv_nonneg (by omega) (by omega), ?_⟩
  refine le_of_mul (l := p2 n) p ?_
  have d := div_bd (a := W + p2 n / 2) p
  have k := Int.mul_le_mul_of_nonneg_right q (show (0 : Int) ≤ 18446744073709551615 by omega)
  omega
theorem or0 {a : Int} (h : 0 ≤ a) (g : a ≤ 18446744073709551615) : opI (.or .u64) (Int.ofNat 0) a = a := by
  have := orU_add (a := 0) (c := a) (k := 0) (by omega) (by omega) (by decide) h (by rw [show p2 0 = 1 by decide]; omega) (by decide)
  rw [show p2 0 = 1 by decide, Int.mul_one, Int.zero_add] at this
  exact this
theorem up_math {l n : Int} (h0 : 0 ≤ l) (n0 : 0 ≤ n) (n1 : n ≤ 64) : l / p2 (64 - n) * 18446744073709551616 + l * p2 n % 18446744073709551616 = l * p2 n := by
  have e := p2_split n0 n1
  have k : l * p2 n / 18446744073709551616 = l / p2 (64 - n) := by
    rw [← e, Int.mul_comm l, Int.mul_ediv_mul_of_pos _ _ (p2_pos n)]
  omega
theorem shR_le {W n : Int} (h : 0 ≤ W) (hn0 : 0 ≤ n) : 0 ≤ shR W n ∧ shR W n ≤ W := by
  unfold shR
  split
  · omega
  · have p := p2_pos n
    have p1 := p2_pos (n - 1)
    have hle : p2 (n - 1) ≤ p2 n := p2_mono (by omega)
    refine ⟨Int.ediv_nonneg (by omega) (by omega), ?_⟩
    by_cases hn : 1 ≤ n
    · have hh := p2_half hn
      refine le_of_mul (l := p2 n) p ?_
      have d := div_bd (a := W + p2 (n - 1)) p
      have k := Int.mul_le_mul_of_nonneg_right (show 1 ≤ p2 n by omega) h
      omega
    · omega
theorem shR_zero {W n : Int} (h : 0 ≤ W) (h2 : W ≤ 9223372036854775808) (g : 65 ≤ n) : shR W n = 0 := by
  have q := p2_mono (show 64 ≤ n - 1 by omega)
  rw [show p2 64 = 18446744073709551616 by decide] at q
  have hh := p2_half (n := n) (by omega)
  rw [shR, if_neg (by omega)]
  exact Int.ediv_eq_zero_of_lt (by omega) (by omega)
theorem shF_zero {a n : Int} (h1 : -9223372036854775808 ≤ a) (h2 : a ≤ 9223372036854775807) (g : n ≤ -65) : shF a n = 0 := by
  unfold shF
  rw [if_neg (by omega)]
  split
  · rw [shR_zero (by omega) (by omega) (by omega)]; rfl
  · rw [shR_zero (by omega) (by omega) (by omega)]
theorem shift_dn {a n k r : Int} (h1 : -9223372036854775808 ≤ a) (h2 : a ≤ 9223372036854775807) (hn : n < 0) (hk : k = -n) (hr : r = sat (if a < 0 then -(shR (absI a) k) else shR (absI a) k)) : r = shF a n := by
  rw [shF, if_neg (by omega), hr, hk]
  by_cases ha : a < 0
  · rw [if_pos ha, if_pos ha, absI, if_pos ha]
    have := shR_le (W := -a) (n := -n) (by omega) (by omega)
    unfold sat; omega
  · rw [if_neg ha, if_neg ha, absI, if_neg ha]
    have := shR_le (W := a) (n := -n) (by omega) (by omega)
    unfold sat; omega
theorem shift_up {a n k r : Int} (hn : 0 ≤ n) (hk : k = min n 64) (hr : r = sat (if a < 0 then -(absI a * p2 k) else absI a * p2 k)) : r = shF a n := by
  rw [shF, if_pos hn, hr, hk]
  by_cases ha : a < 0
  · rw [if_pos ha, absI, if_pos ha, Int.neg_mul, Int.neg_neg]
  · rw [if_neg ha, absI, if_neg ha]
theorem p2_succ {a : Int} (h : 0 ≤ a) : p2 (a + 1) = p2 a * 2 := by
  rw [p2_add h (by omega)]; rfl
theorem div_step {W a : Int} (h : 0 ≤ a) : W / p2 a / 2 = W / p2 (a + 1) := by
  rw [p2_succ h, Int.ediv_ediv, if_neg (by have := p2_pos a; omega)]; omega
theorem shR_two {W n : Int} (h : 1 ≤ n) : shR W n = (W / p2 (n - 1) + 1) / 2 := by
  have p := p2_pos (n - 1)
  have e : (W + p2 (n - 1)) / p2 (n - 1) = W / p2 (n - 1) + 1 := by
    have := Int.add_mul_ediv_right W 1 (Int.ne_of_gt p)
    rw [Int.one_mul] at this; exact this
  have k := div_step (W := W + p2 (n - 1)) (a := n - 1) (by omega)
  rw [e, show n - 1 + 1 = n by omega] at k
  rw [shR, if_neg (by omega), k]
theorem sat_two {x y : Int} (h : y = x * 2) : sat (sat x + sat x) = sat y := by unfold sat; omega
theorem words_one {h l : Int} (h0 : 0 ≤ h) (l0 : 0 ≤ l) (l1 : l < 18446744073709551616) :
    h / 2 * 18446744073709551616 + opI (.or .u64) (l / 2) (h * 9223372036854775808 % 18446744073709551616) = (h * 18446744073709551616 + l) / 2 ∧
    0 ≤ opI (.or .u64) (l / 2) (h * 9223372036854775808 % 18446744073709551616) ∧ opI (.or .u64) (l / 2) (h * 9223372036854775808 % 18446744073709551616) ≤ 18446744073709551615 := by
  have := words_down (h := h) (l := l) (n := 1) (by omega) (by omega) h0 l0 l1
  rw [show p2 1 = 2 by decide, show p2 (64 - 1) = 9223372036854775808 by decide] at this
  exact this
end Go.Sp
