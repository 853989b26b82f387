import Derived.Test.YtiadfbpbeaeflaaDoorSpecAng
namespace Go.Sp
open Go.Ev
theorem q16_ : ∀ k : Fin 64, bI (k.val + 16) = -bQ (k.val + 0) ∧ bQ (k.val + 16) = bI (k.val + 0) := by decide +kernel
theorem b_q (k : Int) : bI (k + 16) = -bQ k ∧ bQ (k + 16) = bI k := by
  have h1 := Int.emod_nonneg k (show (64 : Int) ≠ 0 by decide)
  have h2 := Int.emod_lt_of_pos k (show (0 : Int) < 64 by decide)
  have h := q16_ ⟨(k % 64).toNat, by omega⟩
  simp only [Int.toNat_of_nonneg h1, bI_mod, bQ_mod, Int.add_zero, bI_mod0, bQ_mod0] at h
  exact h
theorem cr_q (x y k : Int) : cr (-y) x (k + 16) = cr x y k := by
  unfold cr
  rw [(b_q k).1, (b_q k).2, Int.mul_neg, Int.neg_mul]; omega
theorem sect_some {x y : Int} (h : ¬(x = 0 ∧ y = 0)) : ∃ k, sect x y k := by
  refine Classical.byContradiction fun g => h (sect_none fun j a b c => g ⟨j, a, b, c.1, c.2⟩)
/-- the sector behind n more -/
def turnK (n k : Int) : Int := if k + n ≤ 63 then k + n else k + n - 64
theorem sect_q {x y k : Int} (h : sect x y k) : sect (-y) x (turnK 16 k) := by
  obtain ⟨h1, h2, h3, h4⟩ := h
  have e1 := cr_q x y k
  have e2 := cr_q x y (k - 1)
  unfold turnK
  split
  · exact ⟨by omega, by omega, by rw [show k + 16 - 1 = k - 1 + 16 by omega, e2]; exact h3, by rw [e1]; exact h4⟩
  · have t1 := cr_turn (-y) x (k + 16 - 64)
    have t2 := cr_turn (-y) x (k + 16 - 64 - 1)
    rw [show k + 16 - 64 + 64 = k + 16 by omega] at t1
    rw [show k + 16 - 64 - 1 + 64 = k - 1 + 16 by omega] at t2
    exact ⟨by omega, by omega, by rw [← t2, e2]; exact h3, by rw [← t1, e1]; exact h4⟩
theorem sectOf_q {x y : Int} (h : ¬(x = 0 ∧ y = 0)) : 0 ≤ sectOf x y ∧ sectOf x y ≤ 63 ∧ sectOf (-y) x = turnK 16 (sectOf x y) := by
  obtain ⟨k, hk⟩ := sect_some h
  rw [sectOf_eq hk, sectOf_eq (sect_q hk)]
  exact ⟨hk.1, hk.2.1, rfl⟩
theorem cr_turnK {x y k : Int} (h : sect x y k) : cr (-y) x (turnK 16 k) = cr x y k ∧ cr (-y) x (turnK 16 k - 1) = cr x y (k - 1) := by
  have e1 := cr_q x y k
  have e2 := cr_q x y (k - 1)
  unfold turnK
  split
  · exact ⟨e1, by rw [show k + 16 - 1 = k - 1 + 16 by omega]; exact e2⟩
  · have t1 := cr_turn (-y) x (k + 16 - 64)
    have t2 := cr_turn (-y) x (k + 16 - 64 - 1)
    rw [show k + 16 - 64 + 64 = k + 16 by omega] at t1
    rw [show k + 16 - 64 - 1 + 64 = k - 1 + 16 by omega] at t2
    exact ⟨by rw [← t1]; exact e1, by rw [← t2]; exact e2⟩
theorem fineOf_bd (x y : Int) : 0 ≤ fineOf x y ∧ fineOf x y ≤ 4095 := by
  by_cases h : x = 0 ∧ y = 0
  · rw [h.1, h.2, fineOf_0]; omega
  · obtain ⟨k, hk⟩ := sect_some h
    rw [fineOf_eq hk]; omega
theorem fineOf_q {x y : Int} (h : ¬(x = 0 ∧ y = 0)) : fineOf (-y) x = (fineOf x y + 1024) % 4096 := by
  obtain ⟨k, hk⟩ := sect_some h
  rw [fineOf_eq hk, fineOf_eq (sect_q hk), (cr_turnK hk).1, (cr_turnK hk).2]
  unfold turnK
  split <;> omega
theorem fineOf_h {x y : Int} (h : ¬(x = 0 ∧ y = 0)) : fineOf (-x) (-y) = (fineOf x y + 2048) % 4096 := by
  rw [fineOf_q (x := -y) (y := x) (by omega), fineOf_q h]; omega
theorem cr_mul (x y k m : Int) : cr (x * m) (y * m) k = cr x y k * m := by unfold cr; grind
theorem sect_mul {x y k m : Int} (hm : 0 < m) (h : sect x y k) : sect (x * m) (y * m) k := by
  obtain ⟨h1, h2, h3, h4⟩ := h
  refine ⟨h1, h2, ?_, ?_⟩
  · rw [cr_mul]; exact Int.mul_nonpos_of_nonpos_of_nonneg h3 (Int.le_of_lt hm)
  · rw [cr_mul]; exact Int.mul_pos h4 hm
theorem fineOf_mul {x y m : Int} (hm : 0 < m) : fineOf (x * m) (y * m) = fineOf x y := by
  by_cases h : x = 0 ∧ y = 0
  · rw [h.1, h.2, Int.zero_mul]
  · obtain ⟨k, hk⟩ := sect_some h
    rw [fineOf_eq hk, fineOf_eq (sect_mul hm hk), cr_mul, cr_mul, ← Int.neg_mul, ← Int.mul_assoc, ← Int.sub_mul, Int.mul_ediv_mul_of_pos_left _ _ hm]
theorem sectOf_mul {x y m : Int} (hm : 0 < m) : sectOf (x * m) (y * m) = sectOf x y := by
  by_cases h : x = 0 ∧ y = 0
  · rw [h.1, h.2, Int.zero_mul]
  · obtain ⟨k, hk⟩ := sect_some h
    rw [sectOf_eq hk, sectOf_eq (sect_mul hm hk)]
theorem fineOf_re {p : Int} (h : 0 < p) : fineOf p 0 = 0 := by
  have e : fineOf (1 * p) (0 * p) = fineOf 1 0 := fineOf_mul h
  rw [Int.one_mul, Int.zero_mul] at e
  rw [e, fineOf_eq (k := 0) ⟨by decide, by decide, by decide +kernel, by decide +kernel⟩]
  decide +kernel
theorem fineOf_im {p : Int} (h : 0 < p) : fineOf 0 p = 1024 := by
  have := fineOf_q (x := p) (y := 0) (by omega)
  rw [fineOf_re h] at this
  exact this
/-- entries of the table -/
theorem ent_ : ∀ k : Fin 64, cr (cosZ k.val) (sinZ k.val) (k.val - 1) ≤ 0 ∧ 0 < cr (cosZ k.val) (sinZ k.val) k.val ∧
    30 ≤ 64 * -cr (cosZ k.val) (sinZ k.val) (k.val - 1) / (cr (cosZ k.val) (sinZ k.val) k.val - cr (cosZ k.val) (sinZ k.val) (k.val - 1)) ∧
    64 * -cr (cosZ k.val) (sinZ k.val) (k.val - 1) / (cr (cosZ k.val) (sinZ k.val) k.val - cr (cosZ k.val) (sinZ k.val) (k.val - 1)) ≤ 34 := by decide +kernel
theorem ent_sect {k : Int} (h0 : 0 ≤ k) (h1 : k ≤ 63) : sect (cosZ k) (sinZ k) k ∧ (64 * k - 2) % 4096 ≤ 4096 ∧ ∃ d, 30 ≤ d ∧ d ≤ 34 ∧ fineOf (cosZ k) (sinZ k) = (64 * k - 32 + d) % 4096 := by
  have e := ent_ ⟨k.toNat, by omega⟩
  simp only [Int.toNat_of_nonneg h0] at e
  obtain ⟨e1, e2, e3, e4⟩ := e
  refine ⟨⟨h0, h1, e1, e2⟩, by omega, _, e3, e4, fineOf_eq ⟨h0, h1, e1, e2⟩⟩
/-! ### two numbers -/
def cx (x y u v : Int) : Int := x * v - y * u
theorem cx_x (x y u v i j : Int) : cx x y u v * bb i j = cr x y j * -cr u v i + -cr x y i * -cr u v j := by unfold cx bb cr; grind
theorem cr_y (u v i j m : Int) : -cr u v m * bb i j = cr u v j * bb m i + -cr u v i * bb m j := by unfold bb cr; grind
theorem bb_nn {i j : Int} (h : i ≤ j) (g : j ≤ i + 32) : 0 ≤ bb i j := by
  rcases Int.lt_or_le i j with a | a
  · rcases Int.lt_or_le j (i + 32) with b | b
    · exact Int.le_of_lt (bb_pos a b)
    · have e : j = i + 32 := by omega
      subst e
      unfold bb; rw [(b_half i).1, (b_half i).2, Int.mul_neg, Int.mul_neg, Int.mul_comm]; omega
  · have e : j = i := by omega
    subst e
    unfold bb; rw [Int.mul_comm]; omega
theorem pos_of_mul {a b : Int} (h : 0 < a * b) (g : 0 < b) : 0 < a := by
  rcases Int.lt_or_le 0 a with k | k
  · exact k
  · have := Int.mul_nonpos_of_nonpos_of_nonneg k (Int.le_of_lt g); omega
theorem nn_of_mul {a b : Int} (h : 0 ≤ a * b) (g : 0 < b) : 0 ≤ a := by
  rcases Int.lt_or_le a 0 with k | k
  · have := Int.mul_neg_of_neg_of_pos k g; omega
  · exact k
theorem cx_pos {x y u v i m : Int} (a1 : cr x y (i - 1) ≤ 0) (a2 : 0 < cr x y i) (b1 : cr u v (m - 1) ≤ 0) (b2 : 0 < cr u v m) (h : i < m) (g : m < i + 32) : 0 < cx x y u v := by
  have p := bb_pos (i := m - 1) (j := m) (by omega) (by omega)
  have c1 : 0 < -cr u v (i - 1) := by
    have e := cr_y u v (m - 1) m (i - 1)
    have f1 := Int.mul_pos b2 (bb_pos (i := i - 1) (j := m - 1) (by omega) (by omega))
    have f2 := Int.mul_nonneg (show 0 ≤ -cr u v (m - 1) by omega) (bb_nn (i := i - 1) (j := m) (by omega) (by omega))
    exact pos_of_mul (b := bb (m - 1) m) (by omega) p
  have c2 : 0 ≤ -cr u v i := by
    have e := cr_y u v (m - 1) m i
    have f1 := Int.mul_nonneg (Int.le_of_lt b2) (bb_nn (i := i) (j := m - 1) (by omega) (by omega))
    have f2 := Int.mul_nonneg (show 0 ≤ -cr u v (m - 1) by omega) (bb_nn (i := i) (j := m) (by omega) (by omega))
    exact nn_of_mul (b := bb (m - 1) m) (by omega) p
  have e := cx_x x y u v (i - 1) i
  have f1 := Int.mul_pos a2 c1
  have f2 := Int.mul_nonneg (show 0 ≤ -cr x y (i - 1) by omega) c2
  exact pos_of_mul (b := bb (i - 1) i) (by omega) (bb_pos (by omega) (by omega))
/-- parts of a sector do not fall -/
theorem part_le {a b c d : Int} (ha : 0 ≤ a) (hb : 0 < b) (hc : 0 ≤ c) (hd : 0 < d) (h : a * d ≤ c * b) : 64 * a / (a + b) ≤ 64 * c / (c + d) := by
  have q := Int.ediv_mul_le (64 * a) (show a + b ≠ 0 by omega)
  refine Int.le_ediv_of_mul_le (by omega) ?_
  generalize hq : 64 * a / (a + b) = t at q
  have t0 : 0 ≤ t := by rw [← hq]; exact Int.ediv_nonneg (by omega) (by omega)
  -- t (a+b) ≤ 64 a, a d ≤ c b → t (c+d) ≤ 64 c
  have q2 := Int.mul_le_mul_of_nonneg_right q (show 0 ≤ c + d by omega)
  have e1 : t * (a + b) * (c + d) = t * (c + d) * (a + b) := by grind
  have e2 : 64 * a * (c + d) = 64 * (a * c) + 64 * (a * d) := by grind
  have e3 : 64 * c * (a + b) = 64 * (a * c) + 64 * (c * b) := by grind
  have q3 : t * (c + d) * (a + b) ≤ 64 * c * (a + b) := by omega
  exact Int.le_of_mul_le_mul_right q3 (by omega)
theorem plu (x y u v i j : Int) : -cr u v i * cr x y j - -cr x y i * cr u v j = cx x y u v * bb i j := by unfold cx bb cr; grind
theorem part_bd {a b : Int} (h : 0 ≤ a) (g : 0 < b) : 0 ≤ 64 * a / (a + b) ∧ 64 * a / (a + b) ≤ 63 := by
  refine ⟨Int.ediv_nonneg (by omega) (by omega), ?_⟩
  have := Int.ediv_lt_of_lt_mul (a := 64 * a) (b := 64) (c := a + b) (by omega) (by omega)
  omega
theorem fine_grow {x y u v : Int} (h : 0 < cx x y u v) : (fineOf u v - fineOf x y) % 4096 ≤ 2048 := by
  have hx : ¬(x = 0 ∧ y = 0) := fun g => by unfold cx at h; rw [g.1, g.2] at h; omega
  have hu : ¬(u = 0 ∧ v = 0) := fun g => by unfold cx at h; rw [g.1, g.2] at h; omega
  obtain ⟨k, hk⟩ := sect_some hx
  obtain ⟨l, hl⟩ := sect_some hu
  rw [fineOf_eq hk, fineOf_eq hl]
  have hk0 := hk; have hl0 := hl
  obtain ⟨k1, k2, k3, k4⟩ := hk
  obtain ⟨l1, l2, l3, l4⟩ := hl
  have pk := part_bd (a := -cr x y (k - 1)) (b := cr x y k) (by omega) k4
  have pl := part_bd (a := -cr u v (l - 1)) (b := cr u v l) (by omega) l4
  rw [show cr x y k - cr x y (k - 1) = -cr x y (k - 1) + cr x y k by omega, show cr u v l - cr u v (l - 1) = -cr u v (l - 1) + cr u v l by omega]
  -- the other's sector, from k on
  have key : ∀ m : Int, (m = l ∨ m = l + 64) → k ≤ m → m < k + 64 → m ≤ k + 32 ∧ (m = k → 64 * -cr x y (k - 1) / (-cr x y (k - 1) + cr x y k) ≤ 64 * -cr u v (l - 1) / (-cr u v (l - 1) + cr u v l)) ∧
      (m = k + 32 → 64 * -cr u v (l - 1) / (-cr u v (l - 1) + cr u v l) ≤ 64 * -cr x y (k - 1) / (-cr x y (k - 1) + cr x y k)) := by
    intro m hm c1 c2
    have m3 : cr u v (m - 1) = cr u v (l - 1) := by
      rcases hm with rfl | rfl
      · rfl
      · have := cr_turn u v (l - 1); rw [show l - 1 + 64 = l + 64 - 1 by omega] at this; exact this
    have m4 : cr u v m = cr u v l := by
      rcases hm with rfl | rfl
      · rfl
      · exact cr_turn u v l
    refine ⟨?_, fun e => ?_, fun e => ?_⟩
    · rcases Int.lt_or_le (k + 32) m with a | a
      · -- the opposite one is between
        have g1 := cr_half u v (m - 32)
        have g2 := cr_half u v (m - 32 - 1)
        rw [show m - 32 + 32 = m by omega] at g1
        rw [show m - 32 - 1 + 32 = m - 1 by omega] at g2
        have n1 : cr (-u) (-v) (m - 32) = cr u v m := by rw [g1]; unfold cr; rw [Int.neg_mul, Int.neg_mul]; omega
        have n2 : cr (-u) (-v) (m - 32 - 1) = cr u v (m - 1) := by rw [g2]; unfold cr; rw [Int.neg_mul, Int.neg_mul]; omega
        have := cx_pos (x := x) (y := y) (u := -u) (v := -v) (i := k) (m := m - 32) k3 k4 (by rw [n2, m3]; exact l3) (by rw [n1, m4]; exact l4) (by omega) (by omega)
        unfold cx at this h
        rw [Int.mul_neg, Int.mul_neg] at this
        omega
      · exact a
    · refine part_le (by omega) k4 (by omega) l4 ?_
      have pq := plu x y u v (k - 1) k
      have := Int.mul_pos h (bb_pos (i := k - 1) (j := k) (by omega) (by omega))
      rw [e] at m3 m4
      rw [m3, m4] at pq
      omega
    · refine part_le (by omega) l4 (by omega) k4 ?_
      have g1 := cr_half u v k
      have g2 := cr_half u v (k - 1)
      rw [show k - 1 + 32 = k + 32 - 1 by omega, ← e, m3] at g2
      rw [← e, m4] at g1
      have pq := plu x y u v (k - 1) k
      have := Int.mul_pos h (bb_pos (i := k - 1) (j := k) (by omega) (by omega))
      rw [show cr u v (k - 1) = -cr u v (l - 1) by omega, show cr u v k = -cr u v l by omega, Int.neg_neg, Int.mul_neg] at pq
      have e3 : -cr u v (l - 1) * cr x y k = -(cr u v (l - 1) * cr x y k) := Int.neg_mul _ _
      omega
  rcases Int.lt_or_le l k with a | a
  · obtain ⟨c1, c2, c3⟩ := key (l + 64) (.inr rfl) (by omega) (by omega)
    generalize 64 * -cr x y (k - 1) / (-cr x y (k - 1) + cr x y k) = P at *
    generalize 64 * -cr u v (l - 1) / (-cr u v (l - 1) + cr u v l) = Q at *
    omega
  · obtain ⟨c1, c2, c3⟩ := key l (.inl rfl) a (by omega)
    generalize 64 * -cr x y (k - 1) / (-cr x y (k - 1) + cr x y k) = P at *
    generalize 64 * -cr u v (l - 1) / (-cr u v (l - 1) + cr u v l) = Q at *
    omega
end Go.Sp
