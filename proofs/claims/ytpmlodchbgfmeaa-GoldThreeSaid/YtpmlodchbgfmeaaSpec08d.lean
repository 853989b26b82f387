import Derived.Test.YtpmlodchbgfmeaaSpec08c
namespace Go.Sp
open Go.Ev
/-- nothing, or the sequence from a place on -/
def sh (d w : Int) (f : Int → Int) : Prop := (∀ i, f i = 0) ∨ ∃ x : Int, 0 ≤ x ∧ ∀ i, f i = su (bitsL d w) (i + x)
theorem su_mods {d w : Int} (hd : okT d) (hw : w = 1 ∨ w = 2) (i x : Int) : su (bitsL d w) (i + x % nG d) = su (bitsL d w) (i + x) := by
  unfold su; rw [bits_len (okT_D hd) hw, Int.add_emod_emod]
theorem su_one {d w : Int} (hd : okT d) (hw : w = 1 ∨ w = 2) : su (bitsL d w) 0 = 1 := by
  rcases hd with rfl | rfl | rfl <;> rcases hw with rfl | rfl <;> decide +kernel
theorem su_nz {d w : Int} (hd : okT d) (hw : w = 1 ∨ w = 2) (x : Int) : ¬∀ i, su (bitsL d w) (i + x) = 0 := fun h => by
  have := h (-x); rw [show -x + x = 0 by omega, su_one hd hw] at this; omega
theorem su_eq {d w : Int} (hd : okT d) (hw : w = 1 ∨ w = 2) {x y : Int} (h : ∀ i, su (bitsL d w) (i + x) = su (bitsL d w) (i + y)) : x % nG d = y % nG d := by
  have nb := @nG_bd d
  have k1 := Int.emod_nonneg (y - x) (show nG d ≠ 0 by omega)
  have k2 := Int.emod_lt_of_pos (y - x) (show 0 < nG d by omega)
  by_cases hk : (y - x) % nG d = 0
  · exact (Int.emod_eq_emod_iff_emod_sub_eq_zero.2 hk).symm
  · obtain ⟨z, z1, z2, z3⟩ := shift_add hd hw (k := (y - x) % nG d) (by omega) k2
    refine absurd (fun i => ?_) (su_nz hd hw z)
    have a := z3 i
    rw [su_mods hd hw] at a
    have b := h (i - x)
    rw [show i - x + x = i by omega, show i - x + y = i + (y - x) by omega] at b
    rw [← b] at a
    have := bits_su hd hw i
    omega
theorem sh_bit {d w : Int} (hd : okT d) (hw : w = 1 ∨ w = 2) {f : Int → Int} (h : sh d w f) (i : Int) : f i = 0 ∨ f i = 1 := by
  rcases h with h | ⟨x, _, h⟩
  · exact .inl (h i)
  · rw [h i]; exact bits_su hd hw _
theorem sh_add {d w : Int} (hd : okT d) (hw : w = 1 ∨ w = 2) {f g : Int → Int} (h : sh d w f) (h' : sh d w g) : sh d w (fun i => (f i + g i) % 2) := by
  have nb := @nG_bd d
  rcases h with h | ⟨x, hx, h⟩
  · rcases h' with h' | ⟨y, hy, h'⟩
    · exact .inl fun i => by show (f i + g i) % 2 = 0; rw [h i, h' i]; rfl
    · refine .inr ⟨y, hy, fun i => ?_⟩
      have := bits_su hd hw (i + y)
      show (f i + g i) % 2 = _; rw [h i, h' i]; omega
  · rcases h' with h' | ⟨y, hy, h'⟩
    · refine .inr ⟨x, hx, fun i => ?_⟩
      have := bits_su hd hw (i + x)
      show (f i + g i) % 2 = _; rw [h i, h' i]; omega
    · by_cases hk : (y - x) % nG d = 0
      · refine .inl fun i => ?_
        have e := su_mods hd hw (i + x) (y - x)
        rw [hk, show i + x + (y - x) = i + y by omega, show i + x + 0 = i + x by omega] at e
        show (f i + g i) % 2 = 0; rw [h i, h' i, e]; omega
      · have k1 := Int.emod_nonneg (y - x) (show nG d ≠ 0 by omega)
        have k2 := Int.emod_lt_of_pos (y - x) (show 0 < nG d by omega)
        obtain ⟨z, z1, z2, z3⟩ := shift_add hd hw (k := (y - x) % nG d) (by omega) k2
        refine .inr ⟨x + z, by omega, fun i => ?_⟩
        have a := z3 (i + x)
        rw [su_mods hd hw, show i + x + (y - x) = i + y by omega, show i + x + z = i + (x + z) by omega] at a
        show (f i + g i) % 2 = _; rw [h i, h' i]; exact a
theorem sh_sum {d : Int} (hd : okT d) {f g : Int → Int} (h : sh d 1 f) (h' : sh d 2 g) : (∀ i, f i = 0 ∧ g i = 0) ∨ three d (sumR (fun i => chi ((f i + g i) % 2)) (nG d).toNat) := by
  rcases h with h | ⟨x, hx, h⟩
  · rcases h' with h' | ⟨y, hy, h'⟩
    · exact .inl fun i => ⟨h i, h' i⟩
    · right; left
      rw [← sum_bits hd (.inr rfl) y hy]
      refine sumR_ext fun i _ => ?_
      have := bits_su hd (.inr rfl : (2 : Int) = 1 ∨ _) (i + y)
      rw [h i, h' i, show (0 + su (bitsL d 2) (↑i + y)) % 2 = su (bitsL d 2) (↑i + y) by omega]
  · rcases h' with h' | ⟨y, hy, h'⟩
    · right; left
      rw [← sum_bits hd (.inl rfl) x hx]
      refine sumR_ext fun i _ => ?_
      have := bits_su hd (.inl rfl : (1 : Int) = 1 ∨ _) (i + x)
      rw [h i, h' i, show (su (bitsL d 1) (↑i + x) + 0) % 2 = su (bitsL d 1) (↑i + x) by omega]
    · right
      have := sum_code hd x y hx hy
      rw [show sumR (fun i => chi ((f i + g i) % 2)) (nG d).toNat = sumR (fun i => chi ((su (bitsL d 1) (i + x) + su (bitsL d 2) (i + y)) % 2)) (nG d).toNat from sumR_ext fun i _ => by rw [h i, h' i]]
      exact this
def cA (d p : Int) (i : Int) : Int := if p = 2 then 0 else su (bitsL d 1) i
def cBv (d p : Int) (i : Int) : Int := if p = 1 then 0 else if p = 2 then su (bitsL d 2) i else su (bitsL d 2) (i + (p - 3))
theorem sh_cA {d p k : Int} (hk : 0 ≤ k) : sh d 1 (fun i => cA d p (i + k)) := by
  by_cases h : p = 2
  · exact .inl fun i => by show cA d p (i + k) = 0; rw [cA, if_pos h]
  · exact .inr ⟨k, hk, fun i => by show cA d p (i + k) = _; rw [cA, if_neg h]⟩
theorem sh_cB {d p k : Int} (hp : 1 ≤ p) (hk : 0 ≤ k) : sh d 2 (fun i => cBv d p (i + k)) := by
  by_cases h : p = 1
  · exact .inl fun i => by show cBv d p (i + k) = 0; rw [cBv, if_pos h]
  · by_cases h2 : p = 2
    · exact .inr ⟨k, hk, fun i => by show cBv d p (i + k) = _; rw [cBv, if_neg h, if_pos h2]⟩
    · exact .inr ⟨k + (p - 3), by omega, fun i => by show cBv d p (i + k) = _; rw [cBv, if_neg h, if_neg h2, show i + k + (p - 3) = i + (k + (p - 3)) by omega]⟩
theorem code_su {d p : Int} (hd : okT d) (hp : 1 ≤ p) (i : Int) : su (codeL d p) i = chi ((cA d p i + cBv d p i) % 2) := by
  have nb := @nG_bd d
  have hl1 := bits_len (w := 1) (okT_D hd) (.inl rfl)
  have hl2 := bits_len (w := 2) (okT_D hd) (.inr rfl)
  have b1 := Int.emod_nonneg i (show nG d ≠ 0 by omega)
  have b2 := Int.emod_lt_of_pos i (show 0 < nG d by omega)
  unfold su codeL
  rw [chips_len, hl1, chips_get (by omega)]
  unfold chi chipB cA cBv su
  rw [hl1, hl2]
  have a1 := getD_bd (i := (i % nG d).toNat) (bits_01 (w := 1) (okT_D hd) (.inl rfl)) (by omega) (by omega)
  have a2 := getD_bd (i := (i % nG d).toNat) (bits_01 (w := 2) (okT_D hd) (.inr rfl)) (by omega) (by omega)
  by_cases h1 : p = 1
  · subst h1; simp only [if_true, if_neg (show ¬(1 : Int) = 2 by omega)]; omega
  · by_cases h2 : p = 2
    · subst h2; simp only [if_neg h1, if_true]; omega
    · simp only [if_neg h1, if_neg h2]
      rw [Int.toNat_of_nonneg b1, show i % nG d + p - 3 = i % nG d + (p - 3) by omega, Int.emod_add_emod]
theorem chi_mul {x y : Int} (h : x = 0 ∨ x = 1) (g : y = 0 ∨ y = 1) : chi x * chi y = chi ((x + y) % 2) := by
  rcases h with rfl | rfl <;> rcases g with rfl | rfl <;> rfl
/-- the sum of products of two codes -/
def corr (d p q k : Int) (n : Nat) : Int := sumR (fun i => su (codeL d p) i * su (codeL d q) (i + k)) n
theorem corr_three {d p q k : Int} (hd : okT d) (hp : 1 ≤ p) (hp' : p ≤ nG d + 2) (hq : 1 ≤ q) (hq' : q ≤ nG d + 2) (hk : 0 ≤ k) (hk' : k < nG d) : (p = q ∧ k = 0) ∨ three d (corr d p q k (nG d).toNat) := by
  have nb := @nG_bd d
  have f1 := sh_add hd (.inl rfl) (sh_cA (d := d) (p := p) (k := 0) (by omega)) (sh_cA (d := d) (p := q) (k := k) hk)
  have f2 := sh_add hd (.inr rfl) (sh_cB (d := d) (p := p) (k := 0) hp (by omega)) (sh_cB (d := d) (p := q) (k := k) hq hk)
  rcases sh_sum hd f1 f2 with h | h
  · left
    have ea : ∀ i, cA d p (i + 0) = cA d q (i + k) := fun i => by
      have a : (cA d p (i + 0) + cA d q (i + k)) % 2 = 0 := (h i).1
      have b1 : cA d p (i + 0) = 0 ∨ cA d p (i + 0) = 1 := sh_bit hd (.inl rfl) (sh_cA (d := d) (p := p) (k := 0) (by omega)) i
      have b2 : cA d q (i + k) = 0 ∨ cA d q (i + k) = 1 := sh_bit hd (.inl rfl) (sh_cA (d := d) (p := q) (k := k) hk) i
      omega
    have eb : ∀ i, cBv d p (i + 0) = cBv d q (i + k) := fun i => by
      have a : (cBv d p (i + 0) + cBv d q (i + k)) % 2 = 0 := (h i).2
      have b1 : cBv d p (i + 0) = 0 ∨ cBv d p (i + 0) = 1 := sh_bit hd (.inr rfl) (sh_cB (d := d) (p := p) (k := 0) hp (by omega)) i
      have b2 : cBv d q (i + k) = 0 ∨ cBv d q (i + k) = 1 := sh_bit hd (.inr rfl) (sh_cB (d := d) (p := q) (k := k) hq hk) i
      omega
    unfold cA at ea
    unfold cBv at eb
    by_cases p2 : p = 2
    · simp only [if_pos p2, if_neg (show ¬p = 1 by omega)] at ea eb
      by_cases q2 : q = 2
      · simp only [if_pos q2, if_neg (show ¬q = 1 by omega)] at eb
        have := su_eq hd (.inr rfl) eb
        rw [Int.emod_eq_of_lt (by omega) (by omega), Int.emod_eq_of_lt (by omega) (by omega)] at this
        omega
      · simp only [if_neg q2] at ea
        exact absurd (fun i => (ea i).symm) (su_nz hd (.inl rfl) k)
    · simp only [if_neg p2] at ea eb
      by_cases q2 : q = 2
      · simp only [if_pos q2] at ea
        exact absurd ea (su_nz hd (.inl rfl) 0)
      · simp only [if_neg q2] at ea eb
        have k0 := su_eq hd (.inl rfl) ea
        rw [Int.emod_eq_of_lt (by omega) (by omega), Int.emod_eq_of_lt (by omega) (by omega)] at k0
        subst k0
        by_cases p1 : p = 1
        · by_cases q1 : q = 1
          · omega
          · simp only [if_pos p1, if_neg q1, Int.add_assoc] at eb
            exact absurd (fun i => (eb i).symm) (su_nz hd (.inr rfl) _)
        · by_cases q1 : q = 1
          · simp only [if_pos q1, if_neg p1, Int.add_assoc] at eb
            exact absurd eb (su_nz hd (.inr rfl) _)
          · simp only [if_neg p1, if_neg q1, Int.add_assoc] at eb
            have := su_eq hd (.inr rfl) eb
            rw [Int.emod_eq_of_lt (by omega) (by omega), Int.emod_eq_of_lt (by omega) (by omega)] at this
            omega
  · right
    rw [show corr d p q k (nG d).toNat = sumR (fun i => chi (((cA d p (i + 0) + cA d q (i + k)) % 2 + (cBv d p (i + 0) + cBv d q (i + k)) % 2) % 2)) (nG d).toNat from sumR_ext fun i _ => by
      rw [code_su hd hp, code_su hd hq, chi_mul (by omega) (by omega), Int.add_zero]
      congr 1; omega]
    exact h
theorem corr_self {d p : Int} (hd : okT d) (hp : 1 ≤ p) : corr d p p 0 (nG d).toNat = nG d := by
  have nb := @nG_bd d
  have : ∀ n : Nat, corr d p p 0 n = n := fun n => by
    induction n with
    | zero => rfl
    | succ n ih =>
      show corr d p p 0 n + su (codeL d p) n * su (codeL d p) (n + 0) = _
      rw [ih, Int.add_zero, code_su hd hp, chi_mul (by omega) (by omega)]
      unfold chi; omega
  rw [this]; omega
end Go.Sp
