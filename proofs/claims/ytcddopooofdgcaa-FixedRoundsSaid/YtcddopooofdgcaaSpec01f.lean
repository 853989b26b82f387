import Derived.Test.YtcddopooofdgcaaSpec01d
namespace Go.Sp
open Go.Ev
/-- asked of near's arguments: they are bounded and near -/
def nearPre : List DV → Prop
  | [.n x, .n o, .n u] => u ≠ 0 ∧ absI o ≤ 4398046511104 ∧ absI u ≤ 4398046511104 ∧ (0 ≤ o → -absI u < 2 * (x * u - o) ∧ 2 * (x * u - o) ≤ absI u) ∧ (o ≤ 0 → -absI u < -2 * (x * u - o) ∧ -2 * (x * u - o) ≤ absI u)
  | _ => False
def sigNear : Sig := ⟨[.one (.i .i64 (-4398046511104) 4398046511104), .one i64, .one i64], [.one .b], nearPre, fun _ rs => rs = [.b true]⟩
def smallPost : List DV → List DV → Prop
  | [.n _, .n n], [.n r] => -n ≤ r ∧ r ≤ n
  | _, _ => False
def sigSmall : Sig := ⟨[.one i64, .one (.i .i64 0 1000000)], [.one (.i .i64 (-1000000) 1000000)], fun _ => True, smallPost⟩
theorem rnd_acc {W D : Int} (hD : 0 < D) : -D < 2 * (rnd W D * D - W) ∧ 2 * (rnd W D * D - W) ≤ D := by
  unfold rnd
  have a := Int.mul_ediv_add_emod (2 * W + D) (2 * D)
  have b := Int.emod_nonneg (2 * W + D) (show 2 * D ≠ 0 by omega)
  have c := Int.emod_lt_of_pos (2 * W + D) (show 0 < 2 * D by omega)
  generalize hq : (2 * W + D) / (2 * D) = q at *
  have e : 2 * D * q = 2 * (q * D) := by grind
  omega
theorem rnd_le {W D : Int} (hW : 0 ≤ W) (hD : 0 < D) : 0 ≤ rnd W D ∧ rnd W D ≤ W := by
  refine ⟨rnd_nn hD hW, ?_⟩
  have a := rnd_acc (W := W) hD
  have n := rnd_nn hD hW
  apply Classical.byContradiction
  intro k
  have e : rnd W D * D = D * rnd W D := Int.mul_comm _ _
  have m := Int.mul_le_mul_of_nonneg_left (show W + 1 ≤ rnd W D by omega) (show 0 ≤ D by omega)
  have m2 := Int.mul_le_mul_of_nonneg_right (show 1 ≤ D by omega) (show 0 ≤ W by omega)
  have e2 : D * (W + 1) = D * W + D := by grind
  omega
theorem shR_rnd {W n : Int} (h : 0 ≤ n) : shR W n = rnd W (p2 n) := by
  unfold shR rnd
  by_cases c : n = 0
  · rw [if_pos c, c, show p2 0 = 1 by decide]; omega
  · rw [if_neg c]
    have s := p2_succ (a := n - 1) (by omega)
    rw [show n - 1 + 1 = n by omega] at s
    rw [show 2 * W + p2 n = 2 * (W + p2 (n - 1)) by omega, Int.mul_ediv_mul_of_pos _ _ (by omega)]
theorem near_sg {P : Prop} [Decidable P] {W D x o u : Int} (hx : x = sgS P (rnd W D)) (hW : W ≤ 4398046511104) (hD : D ≤ 4398046511104) (ho : absI o = W) (hu : absI u = D) (u0 : u ≠ 0) (hp : o ≠ 0 → (P ↔ xorP (o < 0) (u < 0))) : nearPre [.n x, .n o, .n u] ∧ -4398046511104 ≤ x ∧ x ≤ 4398046511104 := by
  have W0 : 0 ≤ W := by unfold absI at ho; omega
  have D0 : 0 < D := by unfold absI at hu; omega
  have r := rnd_acc (W := W) D0
  have l := rnd_le W0 D0
  have z : W = 0 → rnd W D = 0 := fun k => by omega
  generalize rnd W D = R at *
  have xs : x = if P then -R else R := by
    rw [hx]; unfold sgS sat
    by_cases p : P
    · rw [if_pos p]; omega
    · rw [if_neg p]; omega
  refine ⟨?_, by rw [xs]; by_cases p : P; · rw [if_pos p]; omega
                 · rw [if_neg p]; omega⟩
  show u ≠ 0 ∧ absI o ≤ 4398046511104 ∧ absI u ≤ 4398046511104 ∧ (0 ≤ o → -absI u < 2 * (x * u - o) ∧ 2 * (x * u - o) ≤ absI u) ∧ (o ≤ 0 → -absI u < -2 * (x * u - o) ∧ -2 * (x * u - o) ≤ absI u)
  rw [ho, hu]
  refine ⟨u0, hW, hD, ?_⟩
  by_cases o0 : o = 0
  · have w0 : W = 0 := by unfold absI at ho; omega
    have R0 := z w0
    have x0 : x = 0 := by rw [xs, R0]; by_cases p : P <;> simp [p]
    rw [x0, o0, Int.zero_mul]
    omega
  · have hp := hp o0
    have e : x * u = if o < 0 then -(R * D) else R * D := by
      unfold xorP at hp
      rw [xs, ← hu]
      unfold absI
      by_cases c : o < 0 <;> by_cases d : u < 0 <;> simp only [c, d, if_true, if_false, iff_true, iff_false, not_true, not_false_eq_true, true_iff, false_iff] at hp ⊢ <;> simp [hp] <;> grind
    rw [e]
    unfold absI at ho
    by_cases c : o < 0
    · rw [if_pos c]; omega
    · rw [if_neg c]; omega
theorem sg_neg {P Q : Prop} [Decidable P] [Decidable Q] {W D : Int} (h0 : 0 ≤ W) (h1 : W ≤ 4398046511104) (hD : 0 < D) (h : W ≠ 0 → (P ↔ ¬Q)) : sgS P (rnd W D) = -sgS Q (rnd W D) := by
  have l := rnd_le h0 hD
  unfold sgS sat
  by_cases w : W = 0
  · have R0 : rnd W D = 0 := by omega
    rw [R0]; by_cases p : P <;> by_cases q : Q <;> simp [p, q] <;> omega
  · have h := h w
    by_cases q : Q
    · rw [if_pos q, if_neg (fun k => h.1 k q)]; omega
    · rw [if_neg q, if_pos (h.2 q)]; omega
theorem absI_mul (a b : Int) : absI (a * b) = absI a * absI b := by
  have n : ∀ x : Int, absI x = (x.natAbs : Int) := fun x => by unfold absI; omega
  rw [n, n, n, Int.natAbs_mul, Int.natCast_mul]
theorem sgn_mul {a b : Int} (h : a * b ≠ 0) : a * b < 0 ↔ xorP (a < 0) (b < 0) := by
  have ha : a ≠ 0 := fun k => h (by rw [k, Int.zero_mul])
  have hb : b ≠ 0 := fun k => h (by rw [k, Int.mul_zero])
  unfold xorP
  by_cases c : a < 0 <;> by_cases d : b < 0
  · have := Int.mul_pos_of_neg_of_neg c d
    simp [c, d]; omega
  · have := Int.mul_neg_of_neg_of_pos c (show 0 < b by omega)
    simp [c, d]; omega
  · have := Int.mul_neg_of_pos_of_neg (show 0 < a by omega) d
    simp [c, d]; omega
  · have := Int.mul_pos (show 0 < a by omega) (show 0 < b by omega)
    simp [c, d]; omega
theorem xor_pos {p : Prop} {d : Int} (h : 0 < d) : xorP p (d < 0) ↔ p := by
  unfold xorP
  have : ¬ d < 0 := by omega
  by_cases k : p <;> simp [k, this]
theorem xor_cong {p p' q : Prop} (h : p ↔ p') : xorP p q ↔ xorP p' q := by unfold xorP; rw [h]
theorem xor_nl {p p' q : Prop} (h : p ↔ ¬p') : xorP p q ↔ ¬xorP p' q := by
  unfold xorP
  by_cases k : p' <;> by_cases l : q <;> simp [h, k, l]
theorem xor_nr {p q q' : Prop} (h : q ↔ ¬q') : xorP p q ↔ ¬xorP p q' := by
  unfold xorP
  by_cases k : q' <;> by_cases l : p <;> simp [h, k, l]
theorem absI_le {a A : Int} (h1 : -A ≤ a) (h2 : a ≤ A) : 0 ≤ absI a ∧ absI a ≤ A := by unfold absI; omega
theorem p2_20 {n : Int} (h : n ≤ 20) : p2 n ≤ 1048576 := by
  have := p2_mono h
  rw [show p2 20 = 1048576 by decide] at this
  exact this
theorem prod_le {x y A B : Int} (h0 : 0 ≤ x) (h1 : x ≤ A) (g0 : 0 ≤ y) (g1 : y ≤ B) : 0 ≤ x * y ∧ x * y ≤ A * B := by
  have a := Int.mul_le_mul_of_nonneg_left g1 h0
  have b := Int.mul_le_mul_of_nonneg_right h1 (show 0 ≤ B by omega)
  exact ⟨Int.mul_nonneg h0 g0, by omega⟩
theorem mul_near {a b n x e : Int} (h : sigMulF.post [.n a, .n b, .n n] [.n x, .n e]) (a1 : -1000000 ≤ a) (a2 : a ≤ 1000000) (b1 : -1000000 ≤ b) (b2 : b ≤ 1000000) (n0 : 0 ≤ n) (n1 : n ≤ 20) : e = 0 ∧ nearPre [.n x, .n (a * b), .n (p2 n)] ∧ -4398046511104 ≤ x ∧ x ≤ 4398046511104 := by
  rcases h with ⟨g, _, _⟩ | ⟨_, _, h, h'⟩
  · omega
  have pp := p2_pos n
  have pl := p2_20 n1
  have qa := absI_le a1 a2
  have qb := absI_le b1 b2
  have q := prod_le qa.1 qa.2 qb.1 qb.2
  unfold mulV at h'
  rw [shR_rnd n0] at h'
  exact ⟨h, near_sg h' (by omega) (by omega) (absI_mul a b) (by unfold absI; omega) (by omega) (fun k => ((xor_pos pp).trans (sgn_mul k)).symm)⟩
theorem div_near {a c n x e : Int} (h : sigDivF.post [.n a, .n c, .n n] [.n x, .n e]) (a1 : -1000000 ≤ a) (a2 : a ≤ 1000000) (c1 : -1000000 ≤ c) (c2 : c ≤ 1000000) (c0 : c ≠ 0) (n0 : 0 ≤ n) (n1 : n ≤ 20) : e = 0 ∧ nearPre [.n x, .n (a * p2 n), .n c] ∧ -4398046511104 ≤ x ∧ x ≤ 4398046511104 := by
  rcases h with ⟨g, _, _⟩ | ⟨_, _, g, _, _⟩ | ⟨_, _, _, h, h'⟩
  · omega
  · omega
  have pp := p2_pos n
  have pl := p2_20 n1
  have qa := absI_le a1 a2
  have qc := absI_le c1 c2
  have q := prod_le qa.1 qa.2 (Int.le_of_lt pp) pl
  unfold divV at h'
  have ep : absI (p2 n) = p2 n := by unfold absI; omega
  exact ⟨h, near_sg h' (by omega) (by omega) (by rw [absI_mul, ep]) rfl c0 (fun k => xor_cong ((sgn_mul k).trans (xor_pos pp)).symm)⟩
theorem rat_near {a b c x e : Int} (h : sigRatF.post [.n a, .n b, .n c] [.n x, .n e]) (a1 : -1000000 ≤ a) (a2 : a ≤ 1000000) (b1 : -1000000 ≤ b) (b2 : b ≤ 1000000) (c1 : -1000000 ≤ c) (c2 : c ≤ 1000000) (c0 : c ≠ 0) : e = 0 ∧ nearPre [.n x, .n (a * b), .n c] ∧ -4398046511104 ≤ x ∧ x ≤ 4398046511104 := by
  rcases h with ⟨g, _, _⟩ | ⟨_, h, h'⟩
  · omega
  have qa := absI_le a1 a2
  have qb := absI_le b1 b2
  have qc := absI_le c1 c2
  have q := prod_le qa.1 qa.2 qb.1 qb.2
  unfold ratV at h'
  exact ⟨h, near_sg h' (by omega) (by omega) (absI_mul a b) rfl c0 (fun k => xor_cong (sgn_mul k).symm)⟩
theorem absI_neg {a b : Int} (h : b = -a) : absI b = absI a := by unfold absI; omega
theorem mul_neg {a a' b n x e y f : Int} (h : sigMulF.post [.n a, .n b, .n n] [.n x, .n e]) (k : sigMulF.post [.n a', .n b, .n n] [.n y, .n f]) (ha : a' = -a) (a1 : -1000000 ≤ a) (a2 : a ≤ 1000000) (b1 : -1000000 ≤ b) (b2 : b ≤ 1000000) (n0 : 0 ≤ n) (n1 : n ≤ 20) : y = -x ∧ f = 0 := by
  rcases h with ⟨g, _, _⟩ | ⟨_, _, h, h'⟩
  · omega
  rcases k with ⟨g, _, _⟩ | ⟨_, _, k, k'⟩
  · omega
  have qa := absI_le a1 a2
  have qb := absI_le b1 b2
  have q := prod_le qa.1 qa.2 qb.1 qb.2
  unfold mulV at h' k'
  rw [shR_rnd n0] at h' k'
  rw [absI_neg ha] at k'
  rw [h', k']
  exact ⟨sg_neg q.1 (by omega) (p2_pos n) (fun w => xor_nl (by
    have z : a ≠ 0 := fun z => w (by rw [z, show absI 0 = 0 by decide, Int.zero_mul])
    omega)), k⟩
theorem div_neg {a c c' n x e y f : Int} (h : sigDivF.post [.n a, .n c, .n n] [.n x, .n e]) (k : sigDivF.post [.n a, .n c', .n n] [.n y, .n f]) (hc : c' = -c) (a1 : -1000000 ≤ a) (a2 : a ≤ 1000000) (c0 : c ≠ 0) (n0 : 0 ≤ n) (n1 : n ≤ 20) : y = -x ∧ f = 0 := by
  rcases h with ⟨g, _, _⟩ | ⟨_, _, g, _, _⟩ | ⟨_, _, _, h, h'⟩
  · omega
  · omega
  rcases k with ⟨g, _, _⟩ | ⟨_, _, g, _, _⟩ | ⟨_, _, _, k, k'⟩
  · omega
  · omega
  have qa := absI_le a1 a2
  have q := prod_le qa.1 qa.2 (Int.le_of_lt (p2_pos n)) (p2_20 n1)
  unfold divV at h' k'
  rw [absI_neg hc] at k'
  rw [h', k']
  exact ⟨sg_neg q.1 (by omega) (by unfold absI; omega) (fun _ => xor_nr (by omega)), k⟩
theorem rat_neg {a b b' c x e y f : Int} (h : sigRatF.post [.n a, .n b, .n c] [.n x, .n e]) (k : sigRatF.post [.n a, .n b', .n c] [.n y, .n f]) (hb : b' = -b) (a1 : -1000000 ≤ a) (a2 : a ≤ 1000000) (b1 : -1000000 ≤ b) (b2 : b ≤ 1000000) (c0 : c ≠ 0) : y = -x ∧ f = 0 := by
  rcases h with ⟨g, _, _⟩ | ⟨_, h, h'⟩
  · omega
  rcases k with ⟨g, _, _⟩ | ⟨_, k, k'⟩
  · omega
  have qa := absI_le a1 a2
  have qb := absI_le b1 b2
  have q := prod_le qa.1 qa.2 qb.1 qb.2
  unfold ratV at h' k'
  rw [absI_neg hb] at k'
  rw [h', k']
  exact ⟨sg_neg q.1 (by omega) (by unfold absI; omega) (fun w => xor_nl (xor_nr (by
    have z : b ≠ 0 := fun z => w (by rw [z, show absI 0 = 0 by decide, Int.mul_zero])
    omega))), k⟩
end Go.Sp
