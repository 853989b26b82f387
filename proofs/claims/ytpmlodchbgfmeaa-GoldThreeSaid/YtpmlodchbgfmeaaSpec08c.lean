import Derived.Test.YtpmlodchbgfmeaaSpec08b
namespace Go.Sp
open Go.Ev
theorem drop1 {α : Type} {l : List α} : l.tail = l.drop 1 := by simp
/-- a sequence and its rotation add up to another rotation -/
theorem shift_add {d w : Int} (hd : okT d) (hw : w = 1 ∨ w = 2) {k : Int} (h1 : 1 ≤ k) (h2 : k < nG d) :
    ∃ z : Int, 0 ≤ z ∧ z < nG d ∧ ∀ i : Int, (su (bitsL d w) i + su (bitsL d w) (i + k)) % 2 = su (bitsL d w) (i + z) := by
  have hl := bits_len (okT_D hd) hw
  have nb := @nG_bd d
  have r := runSA_ok hd hw
  unfold runSA at r
  have r1 := allT_ok r (k.toNat - 1) (by omega)
  rw [drop1, List.drop_drop, show 1 + (k.toNat - 1) = k.toNat by omega] at r1
  obtain ⟨z, hz, r2⟩ := findT_ok r1
  refine ⟨z, by omega, by omega, fun i => ?_⟩
  have hn : (bitsL d w).length = (nG d).toNat := by omega
  have r3 := eqN_ok r2 (i % nG d).toNat (by have := Int.emod_lt_of_pos i (show 0 < nG d by omega); have := Int.emod_nonneg i (show nG d ≠ 0 by omega); omega)
  have b1 := Int.emod_lt_of_pos i (show 0 < nG d by omega)
  have b2 := Int.emod_nonneg i (show nG d ≠ 0 by omega)
  rw [dbl_get (by omega) (by omega), dbl_get (by omega) (by omega), Int.toNat_of_nonneg b2, Int.toNat_of_nonneg (by omega : 0 ≤ k)] at r3
  have e1 : su (bitsL d w) i = (bitsL d w).getD (i % nG d).toNat 0 := by unfold su; rw [hl]
  have e2 : ∀ x : Int, su (bitsL d w) (i % nG d + x) = su (bitsL d w) (i + x) := fun x => by unfold su; rw [hl, Int.emod_add_emod]
  rw [e2, e2] at r3
  rw [e1]; exact r3
theorem su_per {d w : Int} (hd : okT d) (hw : w = 1 ∨ w = 2) (i : Int) : su (bitsL d w) (i + nG d) = su (bitsL d w) i := by rw [← bits_len (okT_D hd) hw]; exact su_add
theorem bits_su {d w : Int} (hd : okT d) (hw : w = 1 ∨ w = 2) (i : Int) : su (bitsL d w) i = 0 ∨ su (bitsL d w) i = 1 := by
  have := su_bd (bits_01 (okT_D hd) hw) i; omega
theorem sum_bits {d w : Int} (hd : okT d) (hw : w = 1 ∨ w = 2) (x : Int) (hx : 0 ≤ x) : sumR (fun i => chi (su (bitsL d w) (i + x))) (nG d).toNat = -1 := by
  have hl := bits_len (okT_D hd) hw
  have nb := @nG_bd d
  have e := sumR_rot (f := fun i => chi (su (bitsL d w) i)) (n := (nG d).toNat) (fun i => by rw [Int.toNat_of_nonneg (by omega), su_per hd hw]) x.toNat
  rw [Int.toNat_of_nonneg hx] at e
  rw [e, ← runZ_ok hd hw, dotN_ok (by omega) (by simp [zer]), Int.zero_add]
  refine sumR_ext fun i hi => ?_
  have z : (zer (nG d).toNat).getD ((i : Int)).toNat 0 = 0 := by simp [zer, List.getD_eq_getElem?_getD, hi]
  rw [z, su_nat (by omega)]
  have b := getD_bd (i := i) (bits_01 (okT_D hd) hw) (by omega) (by omega)
  simp only [Int.toNat_natCast, Int.add_zero]
  rw [Int.emod_eq_of_lt (by omega) (by omega)]
/-- one of the three values -/
def three (d s : Int) : Prop := s = -1 ∨ s = -(tG d) ∨ s = tG d - 2
theorem sum_code {d : Int} (hd : okT d) (x y : Int) (hx : 0 ≤ x) (hy : 0 ≤ y) : three d (sumR (fun i => chi ((su (bitsL d 1) (i + x) + su (bitsL d 2) (i + y)) % 2)) (nG d).toNat) := by
  have hl1 := bits_len (w := 1) (okT_D hd) (.inl rfl)
  have hl2 := bits_len (w := 2) (okT_D hd) (.inr rfl)
  have nb := @nG_bd d
  let s : Int := (y - x) % nG d
  have s1 : 0 ≤ s := Int.emod_nonneg _ (by omega)
  have s2 : s < nG d := Int.emod_lt_of_pos _ (by omega)
  have e := sumR_rot (f := fun i => chi ((su (bitsL d 1) i + su (bitsL d 2) (i + s)) % 2)) (n := (nG d).toNat) (fun i => by
    rw [Int.toNat_of_nonneg (by omega), su_per hd (.inl rfl), show i + nG d + s = i + s + nG d by omega, su_per hd (.inr rfl)]) x.toNat
  rw [Int.toNat_of_nonneg hx] at e
  have e2 : sumR (fun i => chi ((su (bitsL d 1) (i + x) + su (bitsL d 2) (i + y)) % 2)) (nG d).toNat = sumR (fun i => chi ((su (bitsL d 1) (i + x) + su (bitsL d 2) (i + x + s)) % 2)) (nG d).toNat := sumR_ext fun i _ => by
    have : su (bitsL d 2) (i + x + s) = su (bitsL d 2) (i + y) := by
      unfold su; rw [hl2]
      show ((bitsL d 2).getD ((↑i + x + (y - x) % nG d) % nG d).toNat 0) = _
      rw [Int.add_emod_emod, show (i : Int) + x + (y - x) = i + y by omega]
    rw [this]
  rw [e2, e]
  have r := runD_ok hd
  unfold runD at r
  have r1 := allD_ok r s.toNat (by omega)
  rw [dotN_ok (by omega) (by simp; omega), Int.zero_add] at r1
  have e3 : sumR (fun i => chi (((bitsL d 1).getD i.toNat 0 + ((bitsL d 2 ++ bitsL d 2).drop s.toNat).getD i.toNat 0) % 2)) (nG d).toNat = sumR (fun i => chi ((su (bitsL d 1) i + su (bitsL d 2) (i + s)) % 2)) (nG d).toNat := sumR_ext fun i hi => by
    rw [show ((i : Int)).toNat = i from rfl, dbl_get (by omega) (by omega), su_nat (by omega), Int.toNat_of_nonneg s1]
  rw [e3] at r1
  exact r1
end Go.Sp
