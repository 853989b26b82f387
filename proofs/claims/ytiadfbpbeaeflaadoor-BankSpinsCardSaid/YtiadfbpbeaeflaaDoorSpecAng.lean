import Derived.Test.YtiadfbpbeaeflaaDoorSpecC2
import Derived.Test.YtiadfbpbeaeflaaDoorEvSG
namespace Go.Sp
open Go.Ev
def quarterL : List Int := [127, 126, 125, 122, 117, 112, 106, 98, 90, 81, 71, 60, 49, 37, 25, 12, 0]
/-- the carrier table -/
def cosN (k : Nat) : Int := if k < 16 then quarterL.getD k 0 else if k < 32 then -quarterL.getD (32 - k) 0 else if k < 48 then -quarterL.getD (k - 32) 0 else quarterL.getD (64 - k) 0
def sinN (k : Nat) : Int := if k < 16 then quarterL.getD (16 - k) 0 else if k < 32 then quarterL.getD (k - 16) 0 else if k < 48 then -quarterL.getD (48 - k) 0 else -quarterL.getD (k - 48) 0
def cosZ (k : Int) : Int := cosN (k % 64).toNat
def sinZ (k : Int) : Int := sinN (k % 64).toNat
/-- the boundaries between sectors -/
def bI (k : Int) : Int := cosZ k + cosZ (k + 1)
def bQ (k : Int) : Int := sinZ k + sinZ (k + 1)
def bb (i j : Int) : Int := bI i * bQ j - bQ i * bI j
/-- a number and a boundary -/
def cr (x y k : Int) : Int := x * bQ k - y * bI k
def sect (x y k : Int) : Prop := 0 ≤ k ∧ k ≤ 63 ∧ cr x y (k - 1) ≤ 0 ∧ 0 < cr x y k
theorem cosZ_mod (k d : Int) : cosZ (k % 64 + d) = cosZ (k + d) := by unfold cosZ; rw [Int.emod_add_emod]
theorem sinZ_mod (k d : Int) : sinZ (k % 64 + d) = sinZ (k + d) := by unfold sinZ; rw [Int.emod_add_emod]
theorem bI_mod (k d : Int) : bI (k % 64 + d) = bI (k + d) := by unfold bI; rw [cosZ_mod, Int.add_assoc, cosZ_mod, Int.add_assoc]
theorem bQ_mod (k d : Int) : bQ (k % 64 + d) = bQ (k + d) := by unfold bQ; rw [sinZ_mod, Int.add_assoc, sinZ_mod, Int.add_assoc]
theorem bI_mod0 (k : Int) : bI (k % 64) = bI k := by have := bI_mod k 0; rwa [Int.add_zero, Int.add_zero] at this
theorem bQ_mod0 (k : Int) : bQ (k % 64) = bQ k := by have := bQ_mod k 0; rwa [Int.add_zero, Int.add_zero] at this
theorem half_ : ∀ k : Fin 64, bI (k.val + 32) = -bI (k.val + 0) ∧ bQ (k.val + 32) = -bQ (k.val + 0) := by decide +kernel
theorem bb_ : ∀ i : Fin 64, ∀ d : Fin 31, 0 < bb (i.val + 0) (i.val + (d.val + 1)) := by decide +kernel
theorem b_half (k : Int) : bI (k + 32) = -bI k ∧ bQ (k + 32) = -bQ k := by
  have h1 := Int.emod_nonneg k (show (64 : Int) ≠ 0 by decide)
  have h2 := Int.emod_lt_of_pos k (show (0 : Int) < 64 by decide)
  have h := half_ ⟨(k % 64).toNat, by omega⟩
  simp only [Int.toNat_of_nonneg h1, bI_mod, bQ_mod, Int.add_zero, bI_mod0, bQ_mod0] at h
  exact h
theorem b_turn (k : Int) : bI (k + 64) = bI k ∧ bQ (k + 64) = bQ k := by
  have h := b_half k
  have g := b_half (k + 32)
  rw [show k + 32 + 32 = k + 64 by omega] at g
  omega
theorem bb_pos {i j : Int} (h : i < j) (g : j < i + 32) : 0 < bb i j := by
  have h1 := Int.emod_nonneg i (show (64 : Int) ≠ 0 by decide)
  have h2 := Int.emod_lt_of_pos i (show (0 : Int) < 64 by decide)
  have k := bb_ ⟨(i % 64).toNat, by omega⟩ ⟨(j - i - 1).toNat, by omega⟩
  unfold bb at *
  simp only [Int.toNat_of_nonneg h1, Int.toNat_of_nonneg (show 0 ≤ j - i - 1 by omega), bI_mod, bQ_mod, Int.add_zero, bI_mod0, bQ_mod0] at k
  rw [show i + (j - i - 1 + 1) = j by omega] at k
  exact k
theorem cr_half (x y k : Int) : cr x y (k + 32) = -cr x y k := by
  unfold cr
  rw [(b_half k).1, (b_half k).2, Int.mul_neg, Int.mul_neg]; omega
theorem cr_turn (x y k : Int) : cr x y (k + 64) = cr x y k := by
  unfold cr
  rw [(b_turn k).1, (b_turn k).2]
theorem cr_three (x y i m j : Int) : cr x y m * bb i j = cr x y i * bb m j + cr x y j * bb i m := by unfold cr bb; grind
theorem cr_mid {x y i m j : Int} (h1 : 0 < cr x y i) (h2 : 0 < cr x y j) (h3 : i ≤ m) (h4 : m < j) (h5 : j < i + 32) : 0 < cr x y m := by
  rcases Int.lt_or_le i m with h | h
  · have e := cr_three x y i m j
    have p1 := Int.mul_pos h1 (bb_pos (i := m) (j := j) h4 (by omega))
    have p2 := Int.mul_pos h2 (bb_pos (i := i) (j := m) h (by omega))
    have p3 := bb_pos (i := i) (j := j) (by omega) h5
    rcases Int.lt_or_le 0 (cr x y m) with g | g
    · exact g
    · have := Int.mul_nonpos_of_nonpos_of_nonneg g (Int.le_of_lt p3)
      omega
  · rw [show m = i by omega]; exact h1
theorem sect_lt {x y k l : Int} (h : sect x y k) (g : sect x y l) (c : k < l) : False := by
  obtain ⟨h1, h2, h3, h4⟩ := h
  obtain ⟨g1, g2, g3, g4⟩ := g
  rcases Int.lt_trichotomy l (k + 32) with e | e | e
  · have := cr_mid (m := l - 1) h4 g4 (by omega) (by omega) e
    omega
  · rw [e, cr_half] at g4; omega
  · have a := cr_turn x y k
    have b := cr_turn x y (k - 1)
    rw [show k - 1 + 64 = k + 63 by omega] at b
    have := cr_mid (i := l) (m := k + 63) (j := k + 64) g4 (by omega) (by omega) (by omega) (by omega)
    omega
theorem sect_one {x y k l : Int} (h : sect x y k) (g : sect x y l) : k = l := by
  rcases Int.lt_trichotomy k l with c | c | c
  · exact (sect_lt h g c).elim
  · exact c
  · exact (sect_lt g h c).elim
theorem bI_0 : bI (-1) = 253 := by decide +kernel
theorem bQ_0 : bQ (-1) = (-12) := by decide +kernel
theorem bI_1 : bI 0 = 253 := by decide +kernel
theorem bQ_1 : bQ 0 = 12 := by decide +kernel
theorem bI_2 : bI 1 = 251 := by decide +kernel
theorem bQ_2 : bQ 1 = 37 := by decide +kernel
theorem bI_3 : bI 2 = 247 := by decide +kernel
theorem bQ_3 : bQ 2 = 62 := by decide +kernel
theorem bI_4 : bI 3 = 239 := by decide +kernel
theorem bQ_4 : bQ 3 = 86 := by decide +kernel
theorem bI_5 : bI 4 = 229 := by decide +kernel
theorem bQ_5 : bQ 4 = 109 := by decide +kernel
theorem bI_6 : bI 5 = 218 := by decide +kernel
theorem bQ_6 : bQ 5 = 131 := by decide +kernel
theorem bI_7 : bI 6 = 204 := by decide +kernel
theorem bQ_7 : bQ 6 = 152 := by decide +kernel
theorem bI_8 : bI 7 = 188 := by decide +kernel
theorem bQ_8 : bQ 7 = 171 := by decide +kernel
theorem bI_9 : bI 8 = 171 := by decide +kernel
theorem bQ_9 : bQ 8 = 188 := by decide +kernel
theorem bI_10 : bI 9 = 152 := by decide +kernel
theorem bQ_10 : bQ 9 = 204 := by decide +kernel
theorem bI_11 : bI 10 = 131 := by decide +kernel
theorem bQ_11 : bQ 10 = 218 := by decide +kernel
theorem bI_12 : bI 11 = 109 := by decide +kernel
theorem bQ_12 : bQ 11 = 229 := by decide +kernel
theorem bI_13 : bI 12 = 86 := by decide +kernel
theorem bQ_13 : bQ 12 = 239 := by decide +kernel
theorem bI_14 : bI 13 = 62 := by decide +kernel
theorem bQ_14 : bQ 13 = 247 := by decide +kernel
theorem bI_15 : bI 14 = 37 := by decide +kernel
theorem bQ_15 : bQ 14 = 251 := by decide +kernel
theorem bI_16 : bI 15 = 12 := by decide +kernel
theorem bQ_16 : bQ 15 = 253 := by decide +kernel
theorem bI_17 : bI 16 = (-12) := by decide +kernel
theorem bQ_17 : bQ 16 = 253 := by decide +kernel
theorem bI_18 : bI 17 = (-37) := by decide +kernel
theorem bQ_18 : bQ 17 = 251 := by decide +kernel
theorem bI_19 : bI 18 = (-62) := by decide +kernel
theorem bQ_19 : bQ 18 = 247 := by decide +kernel
theorem bI_20 : bI 19 = (-86) := by decide +kernel
theorem bQ_20 : bQ 19 = 239 := by decide +kernel
theorem bI_21 : bI 20 = (-109) := by decide +kernel
theorem bQ_21 : bQ 20 = 229 := by decide +kernel
theorem bI_22 : bI 21 = (-131) := by decide +kernel
theorem bQ_22 : bQ 21 = 218 := by decide +kernel
theorem bI_23 : bI 22 = (-152) := by decide +kernel
theorem bQ_23 : bQ 22 = 204 := by decide +kernel
theorem bI_24 : bI 23 = (-171) := by decide +kernel
theorem bQ_24 : bQ 23 = 188 := by decide +kernel
theorem bI_25 : bI 24 = (-188) := by decide +kernel
theorem bQ_25 : bQ 24 = 171 := by decide +kernel
theorem bI_26 : bI 25 = (-204) := by decide +kernel
theorem bQ_26 : bQ 25 = 152 := by decide +kernel
theorem bI_27 : bI 26 = (-218) := by decide +kernel
theorem bQ_27 : bQ 26 = 131 := by decide +kernel
theorem bI_28 : bI 27 = (-229) := by decide +kernel
theorem bQ_28 : bQ 27 = 109 := by decide +kernel
theorem bI_29 : bI 28 = (-239) := by decide +kernel
theorem bQ_29 : bQ 28 = 86 := by decide +kernel
theorem bI_30 : bI 29 = (-247) := by decide +kernel
theorem bQ_30 : bQ 29 = 62 := by decide +kernel
theorem bI_31 : bI 30 = (-251) := by decide +kernel
theorem bQ_31 : bQ 30 = 37 := by decide +kernel
theorem bI_32 : bI 31 = (-253) := by decide +kernel
theorem bQ_32 : bQ 31 = 12 := by decide +kernel
theorem bI_33 : bI 32 = (-253) := by decide +kernel
theorem bQ_33 : bQ 32 = (-12) := by decide +kernel
theorem bI_34 : bI 33 = (-251) := by decide +kernel
theorem bQ_34 : bQ 33 = (-37) := by decide +kernel
theorem bI_35 : bI 34 = (-247) := by decide +kernel
theorem bQ_35 : bQ 34 = (-62) := by decide +kernel
theorem bI_36 : bI 35 = (-239) := by decide +kernel
theorem bQ_36 : bQ 35 = (-86) := by decide +kernel
theorem bI_37 : bI 36 = (-229) := by decide +kernel
theorem bQ_37 : bQ 36 = (-109) := by decide +kernel
theorem bI_38 : bI 37 = (-218) := by decide +kernel
theorem bQ_38 : bQ 37 = (-131) := by decide +kernel
theorem bI_39 : bI 38 = (-204) := by decide +kernel
theorem bQ_39 : bQ 38 = (-152) := by decide +kernel
theorem bI_40 : bI 39 = (-188) := by decide +kernel
theorem bQ_40 : bQ 39 = (-171) := by decide +kernel
theorem bI_41 : bI 40 = (-171) := by decide +kernel
theorem bQ_41 : bQ 40 = (-188) := by decide +kernel
theorem bI_42 : bI 41 = (-152) := by decide +kernel
theorem bQ_42 : bQ 41 = (-204) := by decide +kernel
theorem bI_43 : bI 42 = (-131) := by decide +kernel
theorem bQ_43 : bQ 42 = (-218) := by decide +kernel
theorem bI_44 : bI 43 = (-109) := by decide +kernel
theorem bQ_44 : bQ 43 = (-229) := by decide +kernel
theorem bI_45 : bI 44 = (-86) := by decide +kernel
theorem bQ_45 : bQ 44 = (-239) := by decide +kernel
theorem bI_46 : bI 45 = (-62) := by decide +kernel
theorem bQ_46 : bQ 45 = (-247) := by decide +kernel
theorem bI_47 : bI 46 = (-37) := by decide +kernel
theorem bQ_47 : bQ 46 = (-251) := by decide +kernel
theorem bI_48 : bI 47 = (-12) := by decide +kernel
theorem bQ_48 : bQ 47 = (-253) := by decide +kernel
theorem bI_49 : bI 48 = 12 := by decide +kernel
theorem bQ_49 : bQ 48 = (-253) := by decide +kernel
theorem bI_50 : bI 49 = 37 := by decide +kernel
theorem bQ_50 : bQ 49 = (-251) := by decide +kernel
theorem bI_51 : bI 50 = 62 := by decide +kernel
theorem bQ_51 : bQ 50 = (-247) := by decide +kernel
theorem bI_52 : bI 51 = 86 := by decide +kernel
theorem bQ_52 : bQ 51 = (-239) := by decide +kernel
theorem bI_53 : bI 52 = 109 := by decide +kernel
theorem bQ_53 : bQ 52 = (-229) := by decide +kernel
theorem bI_54 : bI 53 = 131 := by decide +kernel
theorem bQ_54 : bQ 53 = (-218) := by decide +kernel
theorem bI_55 : bI 54 = 152 := by decide +kernel
theorem bQ_55 : bQ 54 = (-204) := by decide +kernel
theorem bI_56 : bI 55 = 171 := by decide +kernel
theorem bQ_56 : bQ 55 = (-188) := by decide +kernel
theorem bI_57 : bI 56 = 188 := by decide +kernel
theorem bQ_57 : bQ 56 = (-171) := by decide +kernel
theorem bI_58 : bI 57 = 204 := by decide +kernel
theorem bQ_58 : bQ 57 = (-152) := by decide +kernel
theorem bI_59 : bI 58 = 218 := by decide +kernel
theorem bQ_59 : bQ 58 = (-131) := by decide +kernel
theorem bI_60 : bI 59 = 229 := by decide +kernel
theorem bQ_60 : bQ 59 = (-109) := by decide +kernel
theorem bI_61 : bI 60 = 239 := by decide +kernel
theorem bQ_61 : bQ 60 = (-86) := by decide +kernel
theorem bI_62 : bI 61 = 247 := by decide +kernel
theorem bQ_62 : bQ 61 = (-62) := by decide +kernel
theorem bI_63 : bI 62 = 251 := by decide +kernel
theorem bQ_63 : bQ 62 = (-37) := by decide +kernel
theorem bI_64 : bI 63 = 253 := by decide +kernel
theorem bQ_64 : bQ 63 = (-12) := by decide +kernel

/-- down from a positive one -/
theorem down_pos {x y : Int} (h : ∀ j, 0 ≤ j → j ≤ 63 → ¬ (cr x y (j - 1) ≤ 0 ∧ 0 < cr x y j)) : ∀ n : Nat, ∀ k : Int, 0 ≤ k - n → k ≤ 63 → 0 < cr x y k → 0 < cr x y (k - n)
  | 0, k, _, _, g => by rw [show k - ((0 : Nat) : Int) = k by omega]; exact g
  | n + 1, k, a, b, g => by
    have e := h k (by omega) b
    have e2 : 0 < cr x y (k - 1) := by omega
    have := down_pos h n (k - 1) (by omega) (by omega) e2
    rw [show k - ((n + 1 : Nat) : Int) = k - 1 - n by omega]; exact this
theorem sect_none {x y : Int} (h : ∀ j, 0 ≤ j → j ≤ 63 → ¬ (cr x y (j - 1) ≤ 0 ∧ 0 < cr x y j)) : x = 0 ∧ y = 0 := by
  have e0 := cr_half x y 0
  have e16 := cr_half x y 16
  have em : cr x y (0 - 1) = cr x y 63 := by have := cr_turn x y (0 - 1); rw [show (0 : Int) - 1 + 64 = 63 by omega] at this; omega
  rw [show (0 : Int) + 32 = 32 by omega] at e0
  rw [show (16 : Int) + 32 = 48 by omega] at e16
  have z0 : ¬ 0 < cr x y 0 := fun g => by
    have a := h 0 (by omega) (by omega)
    rw [em] at a
    have b := down_pos h 31 63 (by omega) (by omega) (by omega)
    rw [show (63 : Int) - ((31 : Nat) : Int) = 32 by omega] at b
    omega
  have z32 : ¬ 0 < cr x y 32 := fun g => by
    have b := down_pos h 32 32 (by omega) (by omega) g
    rw [show (32 : Int) - ((32 : Nat) : Int) = 0 by omega] at b
    omega
  have z16 : ¬ 0 < cr x y 16 := fun g => by
    have b := down_pos h 16 16 (by omega) (by omega) g
    rw [show (16 : Int) - ((16 : Nat) : Int) = 0 by omega] at b
    omega
  have z48 : ¬ 0 < cr x y 48 := fun g => by
    have b := down_pos h 48 48 (by omega) (by omega) g
    rw [show (48 : Int) - ((48 : Nat) : Int) = 0 by omega] at b
    omega
  have y0 : cr x y 0 = 0 := by omega
  have y16 : cr x y 16 = 0 := by omega
  unfold cr at y0 y16
  rw [bI_1, bQ_1] at y0
  rw [bI_17, bQ_17] at y16
  omega
noncomputable section
open Classical in
/-- the fine angle -/
def fineOf (x y : Int) : Int := if h : ∃ k, sect x y k then (64 * Classical.choose h - 32 + 64 * -cr x y (Classical.choose h - 1) / (cr x y (Classical.choose h) - cr x y (Classical.choose h - 1))) % 4096 else 0
open Classical in
def sectOf (x y : Int) : Int := if h : ∃ k, sect x y k then Classical.choose h else 0
theorem fineOf_eq {x y k : Int} (h : sect x y k) : fineOf x y = (64 * k - 32 + 64 * -cr x y (k - 1) / (cr x y k - cr x y (k - 1))) % 4096 := by
  unfold fineOf
  rw [dif_pos ⟨k, h⟩, sect_one (Classical.choose_spec (⟨k, h⟩ : ∃ k, sect x y k)) h]
theorem sectOf_eq {x y k : Int} (h : sect x y k) : sectOf x y = k := by
  unfold sectOf
  rw [dif_pos ⟨k, h⟩, sect_one (Classical.choose_spec (⟨k, h⟩ : ∃ k, sect x y k)) h]
theorem not_sect0 {k : Int} : ¬ sect 0 0 k := fun h => by
  have := h.2.2.2
  unfold cr at this
  omega
theorem fineOf_0 : fineOf 0 0 = 0 := by unfold fineOf; rw [dif_neg (fun ⟨k, h⟩ => not_sect0 h)]
theorem sectOf_0 : sectOf 0 0 = 0 := by unfold sectOf; rw [dif_neg (fun ⟨k, h⟩ => not_sect0 h)]
theorem upto {p : Int → Prop} (h : ∀ k : Fin 73, p (k.val - 2)) (n : Int) (h1 : -2 ≤ n) (h2 : n ≤ 70) : p n := by
  have := h ⟨(n + 2).toNat, by omega⟩
  simp only [Int.toNat_of_nonneg (show 0 ≤ n + 2 by omega)] at this
  rwa [show n + 2 - 2 = n by omega] at this
def entPost : List DV → List DV → Prop
  | [.n k], [.n i, .n q] => i = cosZ k ∧ q = sinZ k
  | _, _ => False
def sigEnt : Sig := ⟨[.one (ib (-2) 70)], [.agg [ib (-127) 127, ib (-127) 127]], fun _ => True, entPost⟩
def bndPost : List DV → List DV → Prop
  | [.n k], [.n i, .n q] => i = bI k ∧ q = bQ k
  | _, _ => False
def sigBnd : Sig := ⟨[.one (ib (-1) 64)], [.agg [ib (-254) 254, ib (-254) 254]], fun _ => True, bndPost⟩
/-- the bound of a small one -/
def mxP : Int := 70368744177664
def smV : VK := .agg [.i .i64 (-70368744177664) 70368744177664, .i .i64 (-70368744177664) 70368744177664]
def smpV : VK := .agg [i64, i64]
def secPre : List DV → Prop
  | [.n x, .n y] => ¬ (x = 0 ∧ y = 0)
  | _ => False
def secPost : List DV → List DV → Prop
  | [.n x, .n y], [.n k] => sect x y k
  | _, _ => False
def sigSec : Sig := ⟨[smV], [.one (ib 0 63)], secPre, secPost⟩
def secRPost : List DV → List DV → Prop
  | [.n x, .n y], [.n k, .n a, .n b] => (x = 0 ∧ y = 0 ∧ k = 0 ∧ a = 0 ∧ b = 0) ∨ (sect x y k ∧ a = -cr x y (k - 1) ∧ b = cr x y k)
  | _, _ => False
def sigSecR : Sig := ⟨[smV], [.one (ib 0 63), .one (.i .i64 (-35747322042253312) 35747322042253312), .one (.i .i64 (-35747322042253312) 35747322042253312)], fun _ => True, secRPost⟩
/-- small -/
def sml (x y : Int) : Prop := -70368744177664 ≤ x ∧ x ≤ 70368744177664 ∧ -70368744177664 ≤ y ∧ y ≤ 70368744177664
def smallPost : List DV → List DV → Prop
  | [.n x, .n y], [.n e] => (sml x y ∧ e = 0) ∨ (¬sml x y ∧ e = 2)
  | _, _ => False
def sigSmall : Sig := ⟨[smpV], [.one (ib 0 18)], fun _ => True, smallPost⟩
def smallBPost : List DV → List DV → Prop
  | [.n x, .n y], [.b r] => (r = true ↔ sml x y)
  | _, _ => False
def sigSmallB : Sig := ⟨[smpV], [.one .b], fun _ => True, smallBPost⟩
def sectorPost : List DV → List DV → Prop
  | [.n x, .n y], [.n k, .n e] => (sml x y ∧ e = 0 ∧ k = sectOf x y) ∨ (¬sml x y ∧ e = 2 ∧ k = 0)
  | _, _ => False
def sigSector : Sig := ⟨[smpV], [.one (ib 0 63), .one (ib 0 18)], fun _ => True, sectorPost⟩
def finePost : List DV → List DV → Prop
  | [.n x, .n y], [.n k, .n e] => (sml x y ∧ e = 0 ∧ k = fineOf x y) ∨ (¬sml x y ∧ e = 2 ∧ k = 0)
  | _, _ => False
def sigFine : Sig := ⟨[smpV], [.one (ib 0 4095), .one (ib 0 18)], fun _ => True, finePost⟩
def carPost : List DV → List DV → Prop
  | [.n p], [.n i, .n q] => i = cosZ (p / 67108864) ∧ q = sinZ (p / 67108864)
  | _, _ => False
def sigCar : Sig := ⟨[.one (.i .u32 0 4294967295)], [.agg [ib (-127) 127, ib (-127) 127]], fun _ => True, carPost⟩
/-- a number turned back by quarters -/
def rX (x y q : Int) : Int := if q = 0 then x else if q = 1 then y else if q = 2 then -x else -y
def rY (x y q : Int) : Int := if q = 0 then y else if q = 1 then -x else if q = 2 then -y else x
def secInv : List DV → List DV → Prop
  | [.n x, .n y], [.n q, .n u, .n v] => u = rX x y q ∧ v = rY x y q ∧ 0 ≤ q ∧ q ≤ 3 ∧ ¬ (x = 0 ∧ y = 0) ∧ (∀ j, 0 ≤ j → j < q → 0 < cr (rX x y j) (rY x y j) (-1) ∨ cr (rX x y j) (rY x y j) 15 ≤ 0)
  | _, _ => False
def secMea : List DV → List DV → Nat
  | _, .n q :: _ => (4 - q).toNat
  | _, _ => 0
def secL : LSpec := ⟨[1], [(.tmp 3, ib 0 3), (.cell (key 1) 0, .i .i64 (-70368744177664) 70368744177664), (.cell (key 1) 1, .i .i64 (-70368744177664) 70368744177664)], [(.tmp 0, .b)], secInv, secMea, 30⟩
def secRInv : List DV → List DV → Prop
  | [.n x, .n y], [.n k] => 0 ≤ k ∧ k ≤ 64 ∧ ∀ j, 0 ≤ j → j < k → ¬ (cr x y (j - 1) ≤ 0 ∧ 0 < cr x y j)
  | _, _ => False
def secRMea : List DV → List DV → Nat
  | _, .n q :: _ => (64 - q).toNat
  | _, _ => 0
def secRL : LSpec := ⟨[1, 2, 3, 4], [(.tmp 5, ib 0 64)], [(.cell (key 1) 0, .i .i64 (-70368744177664) 70368744177664), (.cell (key 1) 1, .i .i64 (-70368744177664) 70368744177664)], secRInv, secRMea, 30⟩
theorem secR_step {x y k : Int} (h : ∀ j, 0 ≤ j → j < k → ¬ (cr x y (j - 1) ≤ 0 ∧ 0 < cr x y j)) (g : ¬ (cr x y (k - 1) ≤ 0 ∧ 0 < cr x y k)) : ∀ j, 0 ≤ j → j < k + 1 → ¬ (cr x y (j - 1) ≤ 0 ∧ 0 < cr x y j) := fun j a b => by
  rcases Int.lt_or_le j k with e | e
  · exact h j a e
  · rw [show j = k by omega]; exact g
theorem sec_ok {x y K k k1 b1 b2 c1 c2 : Int} (hK : K = k) (hk : k - 1 = k1) (h0 : 0 ≤ k) (h1 : k ≤ 63) (e1 : bI k1 = b1) (e2 : bQ k1 = b2) (e3 : bI k = c1) (e4 : bQ k = c2) (h : x * b2 - y * b1 ≤ 0) (g : 0 < x * c2 - y * c1) : sect x y K := by
  subst hK
  refine ⟨h0, h1, ?_, ?_⟩
  · rw [hk]; unfold cr; rw [e1, e2]; exact h
  · unfold cr; rw [e3, e4]; exact g
theorem sec_step {x y q u v : Int} (h : u = rX x y q ∧ v = rY x y q ∧ 0 ≤ q ∧ q ≤ 3 ∧ ¬ (x = 0 ∧ y = 0) ∧ (∀ j, 0 ≤ j → j < q → 0 < cr (rX x y j) (rY x y j) (-1) ∨ cr (rX x y j) (rY x y j) 15 ≤ 0)) (g : 0 < cr u v (-1) ∨ cr u v 15 ≤ 0) :
    q < 3 ∧ secInv [.n x, .n y] [.n (q + 1), .n v, .n (0 - u)] := by
  obtain ⟨rfl, rfl, h3, h4, h5, h6⟩ := h
  have q3 : q < 3 := by
    rcases Int.lt_or_le q 3 with e | e
    · exact e
    · have e : q = 3 := by omega
      subst e
      have a0 := h6 0 (by omega) (by omega)
      have a1 := h6 1 (by omega) (by omega)
      have a2 := h6 2 (by omega) (by omega)
      simp [rX, rY, cr, bI_0, bQ_0, bI_16, bQ_16] at a0 a1 a2 g
      omega
  refine ⟨q3, ?_, ?_, by omega, by omega, h5, fun j a b => ?_⟩
  · rcases (show q = 0 ∨ q = 1 ∨ q = 2 by omega) with rfl | rfl | rfl <;> simp [rX, rY]
  · rcases (show q = 0 ∨ q = 1 ∨ q = 2 by omega) with rfl | rfl | rfl <;> simp [rX, rY]
  · rcases Int.lt_or_le j q with e | e
    · exact h6 j a e
    · rw [show j = q by omega]; exact g
theorem b_bd_ : ∀ k : Fin 64, -254 ≤ bI (k.val + 0) ∧ bI (k.val + 0) ≤ 254 ∧ -254 ≤ bQ (k.val + 0) ∧ bQ (k.val + 0) ≤ 254 := by decide +kernel
theorem b_bd (k : Int) : -254 ≤ bI k ∧ bI k ≤ 254 ∧ -254 ≤ bQ k ∧ bQ k ≤ 254 := by
  have h1 := Int.emod_nonneg k (show (64 : Int) ≠ 0 by decide)
  have h2 := Int.emod_lt_of_pos k (show (0 : Int) < 64 by decide)
  have h := b_bd_ ⟨(k % 64).toNat, by omega⟩
  simp only [Int.toNat_of_nonneg h1, bI_mod0, bQ_mod0, Int.add_zero] at h
  exact h
theorem mul_abs {a b A B : Int} (h1 : -A ≤ a) (h2 : a ≤ A) (h3 : -B ≤ b) (h4 : b ≤ B) : -(A * B) ≤ a * b ∧ a * b ≤ A * B := by
  have h5 : 0 ≤ A := by omega
  have h6 : 0 ≤ B := by omega
  have e1 := Int.mul_nonneg (show 0 ≤ A - a by omega) (show 0 ≤ B - b by omega)
  have e2 := Int.mul_nonneg (show 0 ≤ A + a by omega) (show 0 ≤ B + b by omega)
  have e3 := Int.mul_nonneg (show 0 ≤ A - a by omega) (show 0 ≤ B + b by omega)
  have e4 := Int.mul_nonneg (show 0 ≤ A + a by omega) (show 0 ≤ B - b by omega)
  have f1 : (A - a) * (B - b) = A * B - A * b - a * B + a * b := by grind
  have f2 : (A + a) * (B + b) = A * B + A * b + a * B + a * b := by grind
  have f3 : (A - a) * (B + b) = A * B + A * b - a * B - a * b := by grind
  have f4 : (A + a) * (B - b) = A * B - A * b + a * B - a * b := by grind
  omega
theorem cr_bd {x y k M : Int} (h0 : -M ≤ x) (h1 : x ≤ M) (h2 : -M ≤ y) (h3 : y ≤ M) : -(508 * M) ≤ cr x y k ∧ cr x y k ≤ 508 * M := by
  obtain ⟨b1, b2, b3, b4⟩ := b_bd k
  have p1 := mul_abs h0 h1 b3 b4
  have p2 := mul_abs h2 h3 b1 b2
  unfold cr
  omega
theorem fine_q {a b : Int} (h : 0 ≤ a) (g : 0 < b) : 0 ≤ 64 * a / (a + b) ∧ 64 * a / (a + b) ≤ 64 ∧ (64 * a).tdiv (a + b) = 64 * a / (a + b) := by
  have h1 := Int.ediv_nonneg (a := 64 * a) (b := a + b) (by omega) (by omega)
  have h2 := Int.ediv_le_of_le_mul (a := 64 * a) (b := 64) (c := a + b) (by omega) (by omega)
  exact ⟨h1, h2, Int.tdiv_eq_ediv_of_nonneg (by omega)⟩
def powPost : List DV → List DV → Prop
  | [.n x, .n y], [.n p, .n e] => (¬sml x y ∧ p = 0 ∧ e = 2) ∨ (sml x y ∧ x * x + y * y ≤ 9223372036854775807 ∧ p = x * x + y * y ∧ e = 0) ∨ (sml x y ∧ 9223372036854775807 < x * x + y * y ∧ p = 0 ∧ e = 5)
  | _, _ => False
def sigPow : Sig := ⟨[smpV], [.one i64, .one (ib 0 18)], fun _ => True, powPost⟩
def normPost : List DV → List DV → Prop
  | [.n x, .n y, .n z], [.n h, .n l, .n e] => e = 0 ∧ h * 18446744073709551616 + l = x * x + y * y + z * z
  | _, _ => False
def c62 : CX := ib (-4611686018427387904) 4611686018427387904
def sigNorm : Sig := ⟨[.agg [c62, c62, c62]], [.agg [i64, .i .u64 0 18446744073709551615], .one (ib 0 18)], fun _ => True, normPost⟩
theorem sq_abs {a A : Int} (h1 : -A ≤ a) (h2 : a ≤ A) : 0 ≤ a * a ∧ a * a ≤ A * A := by
  have := mul_abs h1 h2 h1 h2
  rcases Int.le_total 0 a with h | h
  · have := Int.mul_nonneg h h; omega
  · have := Int.mul_nonneg (show 0 ≤ -a by omega) (show 0 ≤ -a by omega); rw [Int.neg_mul_neg] at this; omega
end
end Go.Sp
