import Derived.Test.YtcddopooofdgcaaSpec01c
namespace Go.Sp
open Go.Ev
theorem sat_le {a b : Int} (h : a ≤ b) : sat a ≤ sat b := by unfold sat; omega
theorem shR_mono {W V n : Int} (h : W ≤ V) : shR W n ≤ shR V n := by
  unfold shR
  by_cases c : n = 0
  · rw [if_pos c, if_pos c]; exact h
  · rw [if_neg c, if_neg c]; exact Int.ediv_le_ediv (p2_pos n) (by omega)
theorem shR_nn {W n : Int} (h : 0 ≤ W) : 0 ≤ shR W n := by
  unfold shR
  by_cases c : n = 0
  · rw [if_pos c]; exact h
  · rw [if_neg c]; exact Int.ediv_nonneg (by have := p2_pos (n - 1); omega) (Int.le_of_lt (p2_pos n))
theorem rnd_mono {W V b : Int} (hb : 0 < b) (h : W ≤ V) : rnd W b ≤ rnd V b := by
  unfold rnd
  exact Int.ediv_le_ediv (by omega) (by omega)
theorem sg_mono {f : Int → Int} {P Q : Prop} [Decidable P] [Decidable Q] {a b : Int} (hp : P ↔ a < 0) (hq : Q ↔ b < 0) (hm : ∀ x y, 0 ≤ x → x ≤ y → f x ≤ f y) (h0 : ∀ x, 0 ≤ x → 0 ≤ f x) (ab : a ≤ b) : sgS P (f (absI a)) ≤ sgS Q (f (absI b)) := by
  unfold sgS
  apply sat_le
  by_cases ha : a < 0
  · rw [if_pos (hp.2 ha)]
    have a1 : absI a = -a := by unfold absI; omega
    have z := h0 (-a) (by omega)
    by_cases hb : b < 0
    · rw [if_pos (hq.2 hb)]
      have b1 : absI b = -b := by unfold absI; omega
      rw [a1, b1]
      have := hm (-b) (-a) (by omega) (by omega)
      omega
    · rw [if_neg (fun k => hb (hq.1 k))]
      have b1 : absI b = b := by unfold absI; omega
      rw [a1, b1]
      have := h0 b (by omega)
      omega
  · rw [if_neg (fun k => ha (hp.1 k)), if_neg (fun k => by have := hq.1 k; omega)]
    have a1 : absI a = a := by unfold absI; omega
    have b1 : absI b = b := by unfold absI; omega
    rw [a1, b1]
    exact hm a b (by omega) ab
theorem xor_c {a c : Int} (h : 1 ≤ c) : xorP (a < 0) (c < 0) ↔ a < 0 := by
  unfold xorP
  have : ¬ c < 0 := by omega
  constructor
  · intro k; exact Classical.byContradiction (fun g => k ⟨fun x => absurd x g, fun x => absurd x this⟩)
  · intro k g; exact this (g.1 k)
theorem xor_cc {a b c : Int} (hb : 1 ≤ b) (hc : 1 ≤ c) : xorP (xorP (a < 0) (b < 0)) (c < 0) ↔ a < 0 := by
  have e : xorP (a < 0) (b < 0) = (a < 0) := propext (xor_c hb)
  rw [e]; exact xor_c hc
theorem mulV_mono {a b c m : Int} (hc : 1 ≤ c) (ab : a ≤ b) : mulV a c m ≤ mulV b c m := by
  have n : 0 ≤ absI c := by unfold absI; omega
  exact sg_mono (f := fun x => shR (x * absI c) m) (xor_c hc) (xor_c hc) (fun x y _ h => shR_mono (Int.mul_le_mul_of_nonneg_right h n)) (fun x h => shR_nn (Int.mul_nonneg h n)) ab
theorem divV_mono {a b c m : Int} (hc : 1 ≤ c) (ab : a ≤ b) : divV a c m ≤ divV b c m := by
  have n : 0 < absI c := by unfold absI; omega
  have p := Int.le_of_lt (p2_pos m)
  exact sg_mono (f := fun x => rnd (x * p2 m) (absI c)) (xor_c hc) (xor_c hc) (fun x y _ h => rnd_mono n (Int.mul_le_mul_of_nonneg_right h p)) (fun x h => rnd_nn n (Int.mul_nonneg h p)) ab
theorem ratV_mono {a b d c : Int} (hd : 1 ≤ d) (hc : 1 ≤ c) (ab : a ≤ b) : ratV a d c ≤ ratV b d c := by
  have n : 0 < absI c := by unfold absI; omega
  have p : 0 ≤ absI d := by unfold absI; omega
  exact sg_mono (f := fun x => rnd (x * absI d) (absI c)) (xor_cc hd hc) (xor_cc hd hc) (fun x y _ h => rnd_mono n (Int.mul_le_mul_of_nonneg_right h p)) (fun x h => rnd_nn n (Int.mul_nonneg h p)) ab
theorem mul_mono {a b c m x e y f : Int} (h : sigMulF.post [.n a, .n c, .n m] [.n x, .n e]) (k : sigMulF.post [.n b, .n c, .n m] [.n y, .n f]) (hc : 1 ≤ c) (h0 : 0 ≤ m) (h1 : m ≤ 62) (ab : a ≤ b) : x ≤ y ∧ e = 0 ∧ f = 0 := by
  rcases h with ⟨g, _, _⟩ | ⟨_, _, h, h'⟩
  · omega
  rcases k with ⟨g, _, _⟩ | ⟨_, _, k, k'⟩
  · omega
  rw [h', k']
  exact ⟨mulV_mono hc ab, h, k⟩
theorem div_mono {a b c m x e y f : Int} (h : sigDivF.post [.n a, .n c, .n m] [.n x, .n e]) (k : sigDivF.post [.n b, .n c, .n m] [.n y, .n f]) (hc : 1 ≤ c) (h0 : 0 ≤ m) (h1 : m ≤ 62) (ab : a ≤ b) : x ≤ y ∧ e = 0 ∧ f = 0 := by
  rcases h with ⟨g, _, _⟩ | ⟨_, _, g, _, _⟩ | ⟨_, _, _, h, h'⟩
  · omega
  · omega
  rcases k with ⟨g, _, _⟩ | ⟨_, _, g, _, _⟩ | ⟨_, _, _, k, k'⟩
  · omega
  · omega
  rw [h', k']
  exact ⟨divV_mono hc ab, h, k⟩
theorem rat_mono {a b d c x e y f : Int} (h : sigRatF.post [.n a, .n d, .n c] [.n x, .n e]) (k : sigRatF.post [.n b, .n d, .n c] [.n y, .n f]) (hd : 1 ≤ d) (hc : 1 ≤ c) (ab : a ≤ b) : x ≤ y ∧ e = 0 ∧ f = 0 := by
  rcases h with ⟨g, _, _⟩ | ⟨_, h, h'⟩
  · omega
  rcases k with ⟨g, _, _⟩ | ⟨_, k, k'⟩
  · omega
  rw [h', k']
  exact ⟨ratV_mono hd hc ab, h, k⟩
theorem shift_mono {a b n x y : Int} (h : sigShift.post [.n a, .n n] [.n x]) (k : sigShift.post [.n b, .n n] [.n y]) (ab : a ≤ b) : x ≤ y := by
  have h : x = shF a n := h
  have k : y = shF b n := k
  rw [h, k]
  unfold shF
  by_cases c : 0 ≤ n
  · rw [if_pos c, if_pos c]
    exact sat_le (Int.mul_le_mul_of_nonneg_right ab (Int.le_of_lt (p2_pos _)))
  · rw [if_neg c, if_neg c]
    by_cases ha : a < 0
    · rw [if_pos ha]
      have z := shR_nn (W := -a) (n := -n) (by omega)
      by_cases hb : b < 0
      · rw [if_pos hb]
        have := shR_mono (W := -b) (V := -a) (n := -n) (by omega)
        omega
      · rw [if_neg hb]
        have := shR_nn (W := b) (n := -n) (by omega)
        omega
    · rw [if_neg ha, if_neg (by omega)]
      exact shR_mono ab
end Go.Sp
