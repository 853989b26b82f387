import Derived.Test.YtemcaojbhfgpgaaSpecC2
namespace Go.Sp
open Go.Ev
noncomputable section
def gainN : VK := .agg [ib 2 8, ib 0 30]
def gainV : VK := .agg [i64, i64]
def smpL (mx : Nat) : CX := .l [.i .i64 (-9223372036854775808) 9223372036854775807, .i .i64 (-9223372036854775808) 9223372036854775807] mx
/-- a half rounded away from zero -/
def hv (x n : Int) : Int := if x < 0 then -((p2 n / 2 - x) / p2 n) else (x + p2 n / 2) / p2 n
def qq (b : Int) : Int := p2 (b - 1) - 1
def lev (b n x : Int) : Int := min (max (hv x n) (-(qq b))) (qq b)
def hvPost : List DV → List DV → Prop
  | [.n x, .n n], [.n r] => r = hv x n
  | _, _ => False
def sigHv (lo hi : Int) : Sig := ⟨[.one (ib lo hi), .one (ib 0 30)], [.one (ib (-70368744177664) 70368744177664)], fun _ => True, hvPost⟩
def grPost : List DV → List DV → Prop
  | [.n b, .n _], [.n r] => r = qq b
  | _, _ => False
def sigGr : Sig := ⟨[gainN], [.one (ib 1 127)], fun _ => True, grPost⟩
def levPost : List DV → List DV → Prop
  | [.n b, .n n, .n x], [.n r] => r = lev b n x
  | _, _ => False
def sigLev : Sig := ⟨[gainN, .one (ib (-70368744177664) 70368744177664)], [.one (ib (-127) 127)], fun _ => True, levPost⟩
def levRPost : List DV → List DV → Prop
  | [.n b, .n n, .n x], [.n y, .b r] => y = lev b n x ∧ (r = true ↔ lev b n x ≠ hv x n)
  | _, _ => False
def sigLevR : Sig := ⟨[gainN, .one (ib (-70368744177664) 70368744177664)], [.one (ib (-127) 127), .one .b], fun _ => True, levRPost⟩
def lostPost : List DV → List DV → Prop
  | [.n b, .n n, .n x], [.b r] => (r = true ↔ lev b n x ≠ hv x n)
  | _, _ => False
def sigLost : Sig := ⟨[gainN, .one (ib (-70368744177664) 70368744177664)], [.one .b], fun _ => True, lostPost⟩
def errG (b n : Int) : Int := if 2 ≤ b ∧ b ≤ 8 ∧ 0 ≤ n ∧ n ≤ 30 then 0 else 2
def chkGPost : List DV → List DV → Prop
  | [.n b, .n n], [.n e] => e = errG b n
  | _, _ => False
def sigChkG : Sig := ⟨[gainV], [.one (ib 0 18)], fun _ => True, chkGPost⟩
def inS (m : Int) (a b : List Int) : Prop := ∀ j : Nat, j < a.length → (-m ≤ a.getD j 0 ∧ a.getD j 0 ≤ m) ∧ -m ≤ b.getD j 0 ∧ b.getD j 0 ≤ m
def errL (m : Int) (a b : List Int) : Int := if 1048576 < (a.length : Int) then 4 else @ite Int (inS m a b) (Classical.propDecidable _) 0 2
def chkSPost : List DV → List DV → Prop
  | [.l a, .l b, .n m], [.n e] => e = errL m a b
  | _, _ => False
def errS (b n m : Int) (s t : List Int) : Int := if errG b n = 0 then errL m s t else errG b n
def sigChkS : Sig := ⟨[.one (smpL 9223372036854775807), .one (ib 0 70368744177664)], [.one (ib 0 18)], fun _ => True, chkSPost⟩
def chkSInv : List DV → List DV → Prop
  | [.l a, .l b, .n m], [.n i] => 0 ≤ i ∧ i ≤ (a.length : Int) ∧ ∀ j : Nat, (j : Int) < i → (-m ≤ a.getD j 0 ∧ a.getD j 0 ≤ m) ∧ -m ≤ b.getD j 0 ∧ b.getD j 0 ≤ m
  | _, _ => False
def mea0 : List DV → List DV → Nat
  | .l a :: _, .n i :: _ => ((a.length : Int) - i).toNat
  | _, _ => 0
theorem even_half (n : Int) : p2 n = 2 * (p2 n / 2) ∨ p2 n = 1 := by
  by_cases h : n ≤ 0
  · right; unfold p2; rw [show n.toNat = 0 by omega]; rfl
  · left
    have := p2_add (a := n - 1) (c := 1) (by omega) (by omega)
    rw [show n - 1 + 1 = n by omega, show p2 1 = 2 by decide] at this
    omega
theorem hv_pos {x n : Int} (h : 0 ≤ x) : 0 ≤ (x + p2 n / 2) / p2 n ∧ (x + p2 n / 2) / p2 n ≤ x := by
  have p := p2_pos n
  have d := div_bd (a := x + p2 n / 2) (c := p2 n) p
  refine ⟨Int.ediv_nonneg (by omega) (by omega), le_of_mul (l := p2 n) p ?_⟩
  have := Int.mul_le_mul_of_nonneg_right (show 1 ≤ p2 n by omega) h
  omega
theorem hv_neg {x n : Int} (h : x < 0) : hv x n = -(hv (-x) n) := by
  unfold hv
  rw [if_pos h, if_neg (by omega), show p2 n / 2 - x = -x + p2 n / 2 by omega]
theorem hv_odd {x n : Int} : hv (-x) n = -(hv x n) := by
  rcases Int.lt_trichotomy x 0 with h | h | h
  · rw [hv_neg h, Int.neg_neg]
  · subst h
    have d := div_bd (a := 0 + p2 n / 2) (c := p2 n) (p2_pos n)
    have p := hv_pos (x := 0) (n := n) (by omega)
    unfold hv
    rw [if_neg (by omega), if_neg (by omega)]
    show (-0 + p2 n / 2) / p2 n = -((0 + p2 n / 2) / p2 n)
    rw [Int.neg_zero]; omega
  · rw [hv_neg (x := -x) (by omega), Int.neg_neg]
theorem hv_bd {x n M : Int} (h : -M ≤ x) (g : x ≤ M) : -M ≤ hv x n ∧ hv x n ≤ M := by
  by_cases hx : x < 0
  · rw [hv_neg hx]
    have := hv_pos (x := -x) (n := n) (by omega)
    unfold hv
    rw [if_neg (by omega)]
    omega
  · have := hv_pos (x := x) (n := n) (by omega)
    unfold hv
    rw [if_neg hx]
    omega
theorem hv_zero (x : Int) : hv x 0 = x := by
  have h : p2 0 = 1 := by decide
  unfold hv
  rw [h]
  split <;> omega
theorem p2_half {n : Int} (h : 1 ≤ n) : p2 n / 2 = p2 (n - 1) := by
  have := p2_add (a := n - 1) (c := 1) (by omega) (by omega)
  rw [show n - 1 + 1 = n by omega, show p2 1 = 2 by decide] at this
  omega
theorem hv_half {x n : Int} (h : 0 ≤ x) (g : 1 ≤ n) : (x + p2 (n - 1)) / p2 n = hv x n := by
  unfold hv
  rw [if_neg (by omega), p2_half g]
theorem qq_bd {b : Int} (h : 2 ≤ b) (g : b ≤ 8) : 1 ≤ qq b ∧ qq b ≤ 127 := by
  have h1 : p2 1 ≤ p2 (b - 1) := p2_mono (by omega)
  have h2 : p2 (b - 1) ≤ p2 7 := p2_mono (by omega)
  have h3 : p2 1 = 2 := by decide
  have h4 : p2 7 = 128 := by decide
  unfold qq
  omega
/-- what a level is -/
theorem lev_cases {b n x : Int} (h : 2 ≤ b) (g : b ≤ 8) : (lev b n x = hv x n ∧ -(qq b) ≤ hv x n ∧ hv x n ≤ qq b) ∨ (lev b n x = qq b ∧ qq b < hv x n) ∨ (lev b n x = -(qq b) ∧ hv x n < -(qq b)) := by
  have := qq_bd h g
  unfold lev
  omega
theorem errG_ok {b n : Int} (h : errG b n = 0) : 2 ≤ b ∧ b ≤ 8 ∧ 0 ≤ n ∧ n ≤ 30 := by
  unfold errG at h; split at h <;> omega
theorem errL_ok {m : Int} {a b : List Int} (h : errL m a b = 0) : (a.length : Int) ≤ 1048576 ∧ inS m a b := by
  unfold errL at h
  split at h
  · omega
  · split at h
    · exact ⟨by omega, by assumption⟩
    · omega
theorem errL_2 {m : Int} {a b : List Int} (h : (a.length : Int) ≤ 1048576) (g : ¬inS m a b) : errL m a b = 2 := by
  unfold errL; rw [if_neg (by omega), if_neg g]
theorem errL_0 {m : Int} {a b : List Int} (h : (a.length : Int) ≤ 1048576) (g : inS m a b) : errL m a b = 0 := by
  unfold errL; rw [if_neg (by omega), if_pos g]
theorem errL_4 {m : Int} {a b : List Int} (h : 1048576 < (a.length : Int)) : errL m a b = 4 := by
  unfold errL; rw [if_pos h]
theorem errG_bd (b n : Int) : 0 ≤ errG b n ∧ errG b n ≤ 18 := by unfold errG; split <;> omega
theorem errL_bd (m : Int) (a b : List Int) : 0 ≤ errL m a b ∧ errL m a b ≤ 18 := by unfold errL; split; omega; split <;> omega
def chkAPost : List DV → List DV → Prop
  | [.l s, .l t, .n b, .n n], [.n e] => e = errS b n 70368744177664 s t
  | _, _ => False
def sigChkA : Sig := ⟨[.one (smpL 9223372036854775807), gainV], [.one (ib 0 18)], fun _ => True, chkAPost⟩
theorem errS_ok {b n m : Int} {s t : List Int} (h : errS b n m s t = 0) : (2 ≤ b ∧ b ≤ 8 ∧ 0 ≤ n ∧ n ≤ 30) ∧ (s.length : Int) ≤ 1048576 ∧ inS m s t := by
  unfold errS at h
  split at h
  · exact ⟨errG_ok (by assumption), errL_ok h⟩
  · omega
theorem inS_bd {m i : Int} {a b : List Int} (h : inS m a b) (k : i.toNat < a.length) : -m ≤ a.getD i.toNat 0 ∧ a.getD i.toNat 0 ≤ m ∧ -m ≤ b.getD i.toNat 0 ∧ b.getD i.toNat 0 ≤ m := by
  have := h i.toNat k
  exact ⟨this.1.1, this.1.2, this.2.1, this.2.2⟩
def lostAt (b n : Int) (s t : List Int) (j : Nat) : Prop := lev b n (s.getD j 0) ≠ hv (s.getD j 0) n ∨ lev b n (t.getD j 0) ≠ hv (t.getD j 0) n
def quanPost : List DV → List DV → Prop
  | [.l s, .l t, .n b, .n n], [.l x, .l y, .n k, .n e] => e = errS b n 70368744177664 s t ∧ (e ≠ 0 → x = [] ∧ y = [] ∧ k = 0) ∧
      (e = 0 → x.length = s.length ∧ (∀ j : Nat, j < s.length → x.getD j 0 = lev b n (s.getD j 0) ∧ y.getD j 0 = lev b n (t.getD j 0)) ∧ k = cntN (lostAt b n s t) s.length)
  | _, _ => False
def sigQuan : Sig := ⟨[.one (smpL 300), gainV], [.agg [smpL 300, ib 0 300], .one (ib 0 18)], fun _ => True, quanPost⟩
def mapInv : List DV → List DV → Prop
  | [.l s, .l t, .n b, .n n], [.n i, .l x, .l y] => 0 ≤ i ∧ i ≤ (s.length : Int) ∧ x.length = s.length ∧ ∀ j : Nat, (j : Int) < i → x.getD j 0 = lev b n (s.getD j 0) ∧ y.getD j 0 = lev b n (t.getD j 0)
  | _, _ => False
def losInv : List DV → List DV → Prop
  | [.l s, .l t, .n b, .n n], [.n i, .n k] => 0 ≤ i ∧ i ≤ (s.length : Int) ∧ k = cntN (lostAt b n s t) i.toNat
  | _, _ => False
def chkSL : LSpec := ⟨[0, 1, 10, 11], [(.tmp 12, ib 0 9223372036854775807)], [(.tmp 0, smpL 9223372036854775807), (.tmp 1, ib 0 70368744177664)], chkSInv, mea0, 10⟩
def chkSRPost : List DV → List DV → Prop
  | [.l a, .l b], [.n e] => e = errL 70368744177664 a b
  | _, _ => False
def sigChkSR : Sig := ⟨[.one (smpL 9223372036854775807)], [.one (ib 0 18)], fun _ => True, chkSRPost⟩
def chkSRInv : List DV → List DV → Prop
  | [.l a, .l b], [.n i] => 0 ≤ i ∧ i ≤ (a.length : Int) ∧ ∀ j : Nat, (j : Int) < i → (-70368744177664 ≤ a.getD j 0 ∧ a.getD j 0 ≤ 70368744177664) ∧ -70368744177664 ≤ b.getD j 0 ∧ b.getD j 0 ≤ 70368744177664
  | _, _ => False
def chkSRL : LSpec := ⟨[0], [(.tmp 3, ib 0 9223372036854775807)], [(.tmp 0, smpL 9223372036854775807)], chkSRInv, mea0, 10⟩
def q44Pre : List DV → Prop
  | [.l s, .l t, .n _, .n _] => inS 70368744177664 s t
  | _ => False
def q44Post : List DV → List DV → Prop
  | [.l s, .l t, .n b, .n n], [.l x, .l y, .n k] => x.length = s.length ∧ (∀ j : Nat, j < s.length → x.getD j 0 = lev b n (s.getD j 0) ∧ y.getD j 0 = lev b n (t.getD j 0)) ∧ k = cntN (lostAt b n s t) s.length
  | _, _ => False
def sigQ44 : Sig := ⟨[.one (smpL 300), gainN], [.agg [smpL 300, ib 0 300]], q44Pre, q44Post⟩
def q44Inv : List DV → List DV → Prop
  | [.l s, .l t, .n b, .n n], [.n i, .n k, .l x, .l y] => 0 ≤ i ∧ i ≤ (s.length : Int) ∧ x.length = s.length ∧ (∀ j : Nat, (j : Int) < i → x.getD j 0 = lev b n (s.getD j 0) ∧ y.getD j 0 = lev b n (t.getD j 0)) ∧ k = cntN (lostAt b n s t) i.toNat
  | _, _ => False
def q44L : LSpec := ⟨[0, 3, 4, 5], [(.tmp 6, ib 0 300), (.cell (key 5) 1, ib 0 300), (.blk (key 4), smpL 300)], [(.tmp 0, smpL 300), (.cell (key 2) 0, i64), (.cell (key 2) 1, i64)], q44Inv, mea0, 30⟩
def mapL (kg ko : Nat) (inv : List DV → List DV → Prop) : LSpec := ⟨[2, 4, 7, 13, 14], [(.tmp 15, ib 0 300), (.blk (key ko), smpL 300)], [(.tmp 13, smpL 300), (.cell (key kg) 0, i64), (.cell (key kg) 1, i64)], inv, mea0, 20⟩
def losL (kg : Nat) : LSpec := ⟨[2, 8, 9], [(.tmp 10, ib 0 300), (.tmp 5, ib 0 300)], [(.tmp 8, smpL 300), (.cell (key kg) 0, i64), (.cell (key kg) 1, i64)], losInv, mea0, 20⟩
def samP : List DV → List DV → Prop
  | [.l a, .l b, .l c, .l d], [.b r] => (r = true ↔ a = c ∧ b = d)
  | _, _ => False
def sigSamP : Sig := ⟨[.one (smpL 9223372036854775807), .one (smpL 9223372036854775807)], [.one .b], fun _ => True, samP⟩
def samPInv : List DV → List DV → Prop
  | [.l a, .l b, .l c, .l d], [.n i] => 0 ≤ i ∧ i ≤ (a.length : Int) ∧ a.length = c.length ∧ ∀ j : Nat, (j : Int) < i → a.getD j 0 = c.getD j 0 ∧ b.getD j 0 = d.getD j 0
  | _, _ => False
def samPL : LSpec := ⟨[0, 1], [(.tmp 5, ib 0 9223372036854775807)], [(.tmp 0, smpL 9223372036854775807), (.tmp 1, smpL 9223372036854775807)], samPInv, mea0, 10⟩
def intL (mx : Nat) : CX := .l [.i .i64 (-9223372036854775808) 9223372036854775807] mx
def equP : List DV → List DV → Prop
  | [.l a, .l c], [.b r] => (r = true ↔ a = c)
  | _, _ => False
def sigEqu : Sig := ⟨[.one (intL 9223372036854775807), .one (intL 9223372036854775807)], [.one .b], fun _ => True, equP⟩
def equInv : List DV → List DV → Prop
  | [.l a, .l c], [.n i] => 0 ≤ i ∧ i ≤ (a.length : Int) ∧ a.length = c.length ∧ ∀ j : Nat, (j : Int) < i → a.getD j 0 = c.getD j 0
  | _, _ => False
def equL : LSpec := ⟨[0, 1], [(.tmp 5, ib 0 9223372036854775807)], [(.tmp 0, intL 9223372036854775807), (.tmp 1, intL 9223372036854775807)], equInv, mea0, 10⟩
theorem equ_of {a c : List Int} {i : Int} (h : a.length = c.length) (g : ¬ i < (a.length : Int)) (k : ∀ j : Nat, (j : Int) < i → a.getD j 0 = c.getD j 0) : a = c :=
  eq_of_getD (d := 0) h fun j hj => k j (by omega)
/-- restored levels -/
def errR (b n : Int) (s t : List Int) : Int := if errG b n = 0 then errL (qq b) s t else errG b n
def restPost : List DV → List DV → Prop
  | [.l s, .l t, .n b, .n n], [.l x, .l y, .n e] => e = errR b n s t ∧ (e ≠ 0 → x = [] ∧ y = []) ∧
      (e = 0 → x.length = s.length ∧ (∀ j : Nat, j < s.length → x.getD j 0 = s.getD j 0 * p2 n ∧ y.getD j 0 = t.getD j 0 * p2 n))
  | _, _ => False
def sigRest : Sig := ⟨[.one (smpL 300), gainV], [.one (smpL 300), .one (ib 0 18)], fun _ => True, restPost⟩
def rmapInv : List DV → List DV → Prop
  | [.l s, .l t, .n b, .n n], [.n i, .l x, .l y] => 0 ≤ i ∧ i ≤ (s.length : Int) ∧ x.length = s.length ∧ ∀ j : Nat, (j : Int) < i → x.getD j 0 = s.getD j 0 * p2 n ∧ y.getD j 0 = t.getD j 0 * p2 n
  | _, _ => False
def rmapInvR : List DV → List DV → Prop
  | [.l s, .l t, .n b, .n n, .n q], [.n i, .l x, .l y] => 0 ≤ i ∧ i ≤ (s.length : Int) ∧ x.length = s.length ∧ (∀ j : Nat, (j : Int) < i → x.getD j 0 = s.getD j 0 * p2 n ∧ y.getD j 0 = t.getD j 0 * p2 n) ∧ ∀ j : Nat, (j : Int) < i → (-q ≤ s.getD j 0 ∧ s.getD j 0 ≤ q) ∧ -q ≤ t.getD j 0 ∧ t.getD j 0 ≤ q
  | _, _ => False
def rmapL (kg ko : Nat) : LSpec := ⟨[0, 3, 7, 8], [(.tmp 9, ib 0 300), (.blk (key ko), smpL 300)], [(.tmp 0, smpL 300), (.cell (key kg) 0, i64), (.cell (key kg) 1, i64), (.tmp 7, ib 1 127)], rmapInvR, mea0, 20⟩
theorem rest_bd {x n : Int} (h1 : -127 ≤ x) (h2 : x ≤ 127) (h3 : 0 ≤ n) (h4 : n ≤ 30) : opI (.shl .i64) x n = x * p2 n ∧ -9223372036854775808 ≤ x * p2 n ∧ x * p2 n ≤ 9223372036854775807 := by
  have h5 : p2 n ≤ p2 30 := p2_mono h4
  rw [show p2 30 = 1073741824 by decide] at h5
  have h6 := p2_pos n
  have k1 := Int.mul_le_mul_of_nonneg_right h2 (Int.le_of_lt h6)
  have k2 := Int.mul_le_mul_of_nonneg_right h1 (Int.le_of_lt h6)
  refine ⟨shl_eq h3 (by omega) (by omega) (by omega), by omega, by omega⟩
/-- a histogram -/
def incA (c : List Int) (i : Nat) : List Int := c.set i (c.getD i 0 + 1)
def hist (q : Int) (f g : Nat → Int) : Nat → List Int
  | 0 => List.replicate (2 * q + 1).toNat 0
  | k + 1 => incA (incA (hist q f g k) (f k + q).toNat) (g k + q).toNat
theorem incA_fold (c : List Int) (i : Nat) : c.set i (c.getD i 0 + 1) = incA c i := rfl
theorem incA_len (c : List Int) (i : Nat) : (incA c i).length = c.length := by simp [incA]
theorem take_eq' {α : Type} {l : List α} {n : Nat} (h : l.length = n) : l.take n = l := by subst h; exact List.take_length
theorem hist_len (q : Int) (f g : Nat → Int) : ∀ k, (hist q f g k).length = (2 * q + 1).toNat
  | 0 => by simp [hist]
  | k + 1 => by simp [hist, incA, hist_len q f g k]
theorem incA_bd {c : List Int} {i : Nat} {m : Int} (h : ∀ y ∈ c, 0 ≤ y ∧ y ≤ m) (hm : 0 ≤ m) : ∀ y ∈ incA c i, 0 ≤ y ∧ y ≤ m + 1 := by
  have hg := getD_bd (i := i) h (by omega) hm
  exact set_bd (fun y hy => by have := h y hy; omega) (by omega) (by omega)
theorem hist_bd (q : Int) (f g : Nat → Int) : ∀ k : Nat, ∀ y ∈ hist q f g k, 0 ≤ y ∧ y ≤ 2 * k
  | 0 => rep_bd (by omega) (by omega)
  | k + 1 => fun y hy => by
    have := incA_bd (i := (g k + q).toNat) (incA_bd (i := (f k + q).toNat) (hist_bd q f g k) (by omega)) (by omega) y hy
    omega
def histP (q : Int) (s t : List Int) (b n : Int) : Nat → List Int := hist q (fun j => lev b n (s.getD j 0)) (fun j => lev b n (t.getD j 0))
def countPost : List DV → List DV → Prop
  | [.l s, .l t, .n b, .n n], [.l c, .n e] => e = errS b n 70368744177664 s t ∧ (e ≠ 0 → c = []) ∧ (e = 0 → c = histP (qq b) s t b n s.length)
  | _, _ => False
def sigCount : Sig := ⟨[.one (smpL 300), gainV], [.one (.l [.i .i64 0 600] 255), .one (ib 0 18)], fun _ => True, countPost⟩
def cntInv : List DV → List DV → Prop
  | [.l x, .l y, .n q], [.n i, .l c] => 0 ≤ i ∧ i ≤ (x.length : Int) ∧ c = hist q (fun j => x.getD j 0) (fun j => y.getD j 0) i.toNat
  | _, _ => False
def cntLR : LSpec := ⟨[6, 8, 9], [(.tmp 10, ib 0 300), (.blk (key 5), .l [.i .i64 0 600] 255)], [(.cell (key 4) 0, smpL 300), (.tmp 8, ib 1 127)], cntInv, mea0, 30⟩
def cntL : LSpec := ⟨[7, 8, 25, 26], [(.tmp 27, ib 0 300), (.blk (key 3), .l [.i .i64 0 600] 255)], [(.tmp 25, smpL 300), (.tmp 7, ib 1 127)], cntInv, mea0, 30⟩
theorem hist_congr {q : Int} {f g f' g' : Nat → Int} : ∀ {k : Nat}, (∀ j, j < k → f j = f' j ∧ g j = g' j) → hist q f g k = hist q f' g' k
  | 0, _ => rfl
  | k + 1, h => by
    have h1 := h k (by omega)
    simp only [hist]
    rw [hist_congr (fun j hj => h j (by omega)), h1.1, h1.2]
theorem lev_bd {b n x : Int} (h : 2 ≤ b) (g : b ≤ 8) : -(qq b) ≤ lev b n x ∧ lev b n x ≤ qq b := by
  have := qq_bd h g
  have := lev_cases (n := n) (x := x) h g
  omega
def levelPost : List DV → List DV → Prop
  | [.n b, .n n, .n x], [.n y, .b r, .n e] => y = lev b n x ∧ (r = true ↔ lev b n x ≠ hv x n) ∧ e = 0
  | _, _ => False
def sigLevel : Sig := ⟨[gainN, .one (ib (-70368744177664) 70368744177664)], [.one (ib (-127) 127), .one .b, .one (ib 0 18)], fun _ => True, levelPost⟩
def coarsePost : List DV → List DV → Prop
  | [.n _, .n n], [.n y, .n e] => y = p2 n / 2 ∧ e = 0
  | _, _ => False
def sigCoarse : Sig := ⟨[gainN], [.one (ib 0 536870912), .one (ib 0 18)], fun _ => True, coarsePost⟩
def sigQE : Sig := ⟨[.one i64, .one i64, .one i64, .one i64], [.one .b], fun _ => True, fun _ rs => rs = [.b true]⟩
def sigQS : Sig := ⟨[.one (smpL 9223372036854775807), gainV], [.one .b], fun _ => True, fun _ rs => rs = [.b true]⟩
theorem two_fun {s : List Int} {x y x' y' : List Int} {f g : Nat → Int} (hl : y.length = x.length) (hl' : y'.length = x'.length) (a : x.length = s.length) (a' : x'.length = s.length) (p : ∀ j : Nat, j < s.length → x.getD j 0 = f j ∧ y.getD j 0 = g j) (p' : ∀ j : Nat, j < s.length → x'.getD j 0 = f j ∧ y'.getD j 0 = g j) : x = x' ∧ y = y' :=
  ⟨eq_of_getD (d := 0) (by omega) fun j hj => by rw [(p j (by omega)).1, (p' j (by omega)).1], eq_of_getD (d := 0) (by omega) fun j hj => by rw [(p j (by omega)).2, (p' j (by omega)).2]⟩
theorem quan_fun {s t x y x' y' : List Int} {b n k e k' e' : Int} (hl : y.length = x.length) (hl' : y'.length = x'.length) (h : quanPost [.l s, .l t, .n b, .n n] [.l x, .l y, .n k, .n e]) (h' : quanPost [.l s, .l t, .n b, .n n] [.l x', .l y', .n k', .n e']) : x = x' ∧ y = y' ∧ k = k' ∧ e = e' := by
  obtain ⟨h1, h2, h3⟩ := h
  obtain ⟨g1, g2, g3⟩ := h'
  have ee : e = e' := h1.trans g1.symm
  subst ee
  by_cases he : e = 0
  · obtain ⟨a1, a2, a3⟩ := h3 he
    obtain ⟨b1, b2, b3⟩ := g3 he
    obtain ⟨c1, c2⟩ := two_fun hl hl' a1 b1 a2 b2
    exact ⟨c1, c2, a3.trans b3.symm, rfl⟩
  · obtain ⟨a1, a2, a3⟩ := h2 he
    obtain ⟨b1, b2, b3⟩ := g2 he
    exact ⟨a1.trans b1.symm, a2.trans b2.symm, a3.trans b3.symm, rfl⟩
theorem rest_fun {s t x y x' y' : List Int} {b n e e' : Int} (hl : y.length = x.length) (hl' : y'.length = x'.length) (h : restPost [.l s, .l t, .n b, .n n] [.l x, .l y, .n e]) (h' : restPost [.l s, .l t, .n b, .n n] [.l x', .l y', .n e']) : x = x' ∧ y = y' ∧ e = e' := by
  obtain ⟨h1, h2, h3⟩ := h
  obtain ⟨g1, g2, g3⟩ := h'
  have ee : e = e' := h1.trans g1.symm
  subst ee
  by_cases he : e = 0
  · obtain ⟨a1, a2⟩ := h3 he
    obtain ⟨b1, b2⟩ := g3 he
    obtain ⟨c1, c2⟩ := two_fun hl hl' a1 b1 a2 b2
    exact ⟨c1, c2, rfl⟩
  · obtain ⟨a1, a2⟩ := h2 he
    obtain ⟨b1, b2⟩ := g2 he
    exact ⟨a1.trans b1.symm, a2.trans b2.symm, rfl⟩
theorem count_fun {s t x x' : List Int} {b n e e' : Int} (h : countPost [.l s, .l t, .n b, .n n] [.l x, .n e]) (h' : countPost [.l s, .l t, .n b, .n n] [.l x', .n e']) : x = x' ∧ e = e' := by
  obtain ⟨h1, h2, h3⟩ := h
  obtain ⟨g1, g2, g3⟩ := h'
  have ee : e = e' := h1.trans g1.symm
  subst ee
  by_cases he : e = 0
  · exact ⟨(h3 he).trans (g3 he).symm, rfl⟩
  · exact ⟨(h2 he).trans (g2 he).symm, rfl⟩
theorem div_mono {a c p : Int} (hp : 0 < p) (h : a ≤ c) : a / p ≤ c / p := Int.ediv_le_ediv hp h
theorem hv_mono {x y n : Int} (h : x ≤ y) : hv x n ≤ hv y n := by
  have p := p2_pos n
  by_cases hy : y < 0
  · rw [hv_neg hy, hv_neg (show x < 0 by omega)]
    unfold hv
    rw [if_neg (by omega), if_neg (by omega)]
    have := div_mono p (show -y + p2 n / 2 ≤ -x + p2 n / 2 by omega)
    omega
  · by_cases hx : x < 0
    · have h1 := hv_pos (x := -x) (n := n) (by omega)
      have h2 := hv_pos (x := y) (n := n) (by omega)
      rw [hv_neg hx]
      unfold hv
      rw [if_neg (by omega), if_neg hy]
      omega
    · unfold hv
      rw [if_neg hx, if_neg hy]
      exact div_mono p (by omega)
theorem lev_mono {b n x y : Int} (h : x ≤ y) : lev b n x ≤ lev b n y := by
  have := hv_mono (n := n) h
  unfold lev; omega
theorem lev_odd {b n x : Int} (h : 2 ≤ b) (g : b ≤ 8) : lev b n (-x) = -(lev b n x) := by
  have := qq_bd h g
  unfold lev
  rw [hv_odd]; omega
theorem hv_near {x n : Int} : hv x n * p2 n - x ≤ p2 n / 2 ∧ x - hv x n * p2 n ≤ p2 n / 2 := by
  have p := p2_pos n
  rw [Int.mul_comm]
  by_cases hx : x < 0
  · unfold hv
    rw [if_pos hx, Int.mul_neg]
    have := div_bd (a := p2 n / 2 - x) p
    have := even_half n
    omega
  · unfold hv
    rw [if_neg hx]
    have := div_bd (a := x + p2 n / 2) p
    have := even_half n
    omega
theorem inS1 {m x y : Int} (h1 : -m ≤ x) (h2 : x ≤ m) (h3 : -m ≤ y) (h4 : y ≤ m) : inS m [x] [y] := fun j hj => by
  have : j = 0 := by simp at hj; omega
  subst this
  exact ⟨⟨h1, h2⟩, h3, h4⟩
theorem errG_0 {b n : Int} (h : 2 ≤ b ∧ b ≤ 8 ∧ 0 ≤ n ∧ n ≤ 30) : errG b n = 0 := by unfold errG; rw [if_pos h]
theorem level1 {b n x y e : Int} {r : Bool} (h : levelPost [.n b, .n n, .n x] [.n y, .b r, .n e]) : y = lev b n x ∧ (r = true ↔ lev b n x ≠ hv x n) ∧ e = 0 := h
theorem quan1 {b n x y k e : Int} {X Y : List Int} (hG : 2 ≤ b ∧ b ≤ 8 ∧ 0 ≤ n ∧ n ≤ 30) (h1 : -70368744177664 ≤ x) (h2 : x ≤ 70368744177664) (h3 : -70368744177664 ≤ y) (h4 : y ≤ 70368744177664)
    (h : quanPost [.l [x], .l [y], .n b, .n n] [.l X, .l Y, .n k, .n e]) : e = 0 ∧ X.length = 1 ∧ X.getD 0 0 = lev b n x ∧ Y.getD 0 0 = lev b n y ∧ 0 ≤ k ∧ k ≤ 1 ∧ (k = 1 ↔ lev b n x ≠ hv x n ∨ lev b n y ≠ hv y n) := by
  obtain ⟨g1, g2, g3⟩ := h
  have e0 : e = 0 := by rw [g1, errS, if_pos (errG_0 hG), errL_0 (by simp) (inS1 h1 h2 h3 h4)]
  obtain ⟨g4, g5, g6⟩ := g3 e0
  have g5 := g5 0 (by simp)
  refine ⟨e0, g4, g5.1, g5.2, ?_⟩
  by_cases c : lostAt b n [x] [y] 0
  · have : k = 1 := by rw [g6]; show cntN _ (0 + 1) = 1; rw [cntN_yes c]; rfl
    exact ⟨by omega, by omega, fun _ => c, fun _ => this⟩
  · have : k = 0 := by rw [g6]; show cntN _ (0 + 1) = 0; rw [cntN_no c]; rfl
    exact ⟨by omega, by omega, fun h => by omega, fun h => absurd h c⟩
theorem rest1 {b n e : Int} {S T X Y : List Int} (hG : 2 ≤ b ∧ b ≤ 8 ∧ 0 ≤ n ∧ n ≤ 30) (h0 : S.length = 1) (h1 : -(qq b) ≤ S.getD 0 0) (h2 : S.getD 0 0 ≤ qq b) (h3 : -(qq b) ≤ T.getD 0 0) (h4 : T.getD 0 0 ≤ qq b)
    (h : restPost [.l S, .l T, .n b, .n n] [.l X, .l Y, .n e]) : e = 0 ∧ X.length = 1 ∧ X.getD 0 0 = S.getD 0 0 * p2 n ∧ Y.getD 0 0 = T.getD 0 0 * p2 n := by
  obtain ⟨g1, g2, g3⟩ := h
  have e0 : e = 0 := by
    rw [g1, errR, if_pos (errG_0 hG), errL_0 (by omega) (fun j hj => ?_)]
    have : j = 0 := by omega
    subst this
    exact ⟨⟨h1, h2⟩, h3, h4⟩
  obtain ⟨g4, g5⟩ := g3 e0
  have g5 := g5 0 (by omega)
  exact ⟨e0, by omega, g5.1, g5.2⟩
def grtN (s t : List Int) : Nat → Int
  | 0 => 0
  | k + 1 => max (grtN s t k) (max (max (s.getD k 0) (-(s.getD k 0))) (max (t.getD k 0) (-(t.getD k 0))))
theorem grtN_0 (s t : List Int) : grtN s t 0 = 0 := rfl
theorem grtN_s (s t : List Int) (k : Nat) : grtN s t (k + 1) = max (grtN s t k) (max (max (s.getD k 0) (-(s.getD k 0))) (max (t.getD k 0) (-(t.getD k 0)))) := rfl
theorem grtN_bd {s t : List Int} {m : Int} (hm : 0 ≤ m) (h : inS m s t) : ∀ k, k ≤ s.length → 0 ≤ grtN s t k ∧ grtN s t k ≤ m
  | 0, _ => ⟨Int.le_refl _, hm⟩
  | k + 1, hk => by
    have := grtN_bd hm h k (by omega)
    have := h k (by omega)
    rw [grtN_s]; omega
/-- a part is lost -/
def lostX (b n x : Int) : Prop := lev b n x ≠ hv x n
theorem lostX_iff {b n x : Int} (h : 2 ≤ b) (g : b ≤ 8) : lostX b n x ↔ qq b < hv x n ∨ hv x n < -(qq b) := by
  have := lev_cases (n := n) (x := x) h g
  unfold lostX; omega
theorem hv_0 (n : Int) : hv 0 n = 0 := by have := hv_odd (x := 0) (n := n); rw [Int.neg_zero] at this; omega
theorem grtN_nn (s t : List Int) : ∀ k, 0 ≤ grtN s t k
  | 0 => Int.le_refl _
  | k + 1 => by have := grtN_nn s t k; rw [grtN_s]; omega
theorem lost_grt {b n : Int} {s t : List Int} (h : 2 ≤ b) (g : b ≤ 8) : ∀ k : Nat, (∃ j, j < k ∧ lostAt b n s t j) ↔ lostX b n (grtN s t k)
  | 0 => by
    have := qq_bd h g
    refine ⟨fun ⟨j, hj, _⟩ => absurd hj (Nat.not_lt_zero j), fun hx => ?_⟩
    rw [lostX_iff h g, grtN_0, hv_0] at hx
    omega
  | k + 1 => by
    have ih := lost_grt (n := n) (s := s) (t := t) h g k
    have q := qq_bd h g
    have m1 := hv_mono (n := n) (x := grtN s t k) (y := grtN s t (k + 1)) (by rw [grtN_s]; omega)
    have m2 := hv_mono (n := n) (x := s.getD k 0) (y := grtN s t (k + 1)) (by rw [grtN_s]; omega)
    have m3 := hv_mono (n := n) (x := -(s.getD k 0)) (y := grtN s t (k + 1)) (by rw [grtN_s]; omega)
    have m4 := hv_mono (n := n) (x := t.getD k 0) (y := grtN s t (k + 1)) (by rw [grtN_s]; omega)
    have m5 := hv_mono (n := n) (x := -(t.getD k 0)) (y := grtN s t (k + 1)) (by rw [grtN_s]; omega)
    rw [hv_odd] at m3 m5
    have m0 := hv_mono (n := n) (x := 0) (y := grtN s t (k + 1)) (grtN_nn s t (k + 1))
    rw [hv_0] at m0
    have mk := hv_mono (n := n) (x := 0) (y := grtN s t k) (grtN_nn s t k)
    rw [hv_0] at mk
    constructor
    · rintro ⟨j, hj, hl⟩
      rw [lostX_iff h g]
      rcases Nat.lt_or_ge j k with c | c
      · have := (lostX_iff h g).1 (ih.1 ⟨j, c, hl⟩)
        omega
      · have : j = k := by omega
        subst this
        rcases hl with hl | hl
        · have := (lostX_iff h g).1 hl; omega
        · have := (lostX_iff h g).1 hl; omega
    · intro hx
      rw [lostX_iff h g] at hx
      have e : grtN s t (k + 1) = grtN s t k ∨ grtN s t (k + 1) = s.getD k 0 ∨ grtN s t (k + 1) = -(s.getD k 0) ∨ grtN s t (k + 1) = t.getD k 0 ∨ grtN s t (k + 1) = -(t.getD k 0) := by rw [grtN_s]; omega
      rcases e with e | e | e | e | e <;> rw [e] at hx
      · obtain ⟨j, hj, hl⟩ := ih.2 ((lostX_iff h g).2 hx)
        exact ⟨j, by omega, hl⟩
      · exact ⟨k, by omega, .inl ((lostX_iff h g).2 hx)⟩
      · rw [hv_odd] at hx; exact ⟨k, by omega, .inl ((lostX_iff h g).2 (by omega))⟩
      · exact ⟨k, by omega, .inr ((lostX_iff h g).2 hx)⟩
      · rw [hv_odd] at hx; exact ⟨k, by omega, .inr ((lostX_iff h g).2 (by omega))⟩
theorem cntN_zero {p : Nat → Prop} : ∀ {n : Nat}, cntN p n = 0 ↔ ¬∃ j, j < n ∧ p j
  | 0 => ⟨fun _ ⟨j, hj, _⟩ => absurd hj (Nat.not_lt_zero j), fun _ => rfl⟩
  | n + 1 => by
    have ih := cntN_zero (p := p) (n := n)
    have bd := cntN_bd (p := p) (n := n)
    by_cases h : p n
    · rw [cntN_yes h]
      exact ⟨fun e => by omega, fun e => absurd ⟨n, by omega, h⟩ e⟩
    · rw [cntN_no h, ih]
      exact ⟨fun e ⟨j, hj, hp⟩ => e ⟨j, by rcases Nat.lt_or_ge j n with c | c; exact c; exact absurd (by rwa [show j = n by omega] at hp) h, hp⟩, fun e ⟨j, hj, hp⟩ => e ⟨j, by omega, hp⟩⟩
theorem cnt_lost {b n : Int} {s t : List Int} {k : Nat} (h : 2 ≤ b) (g : b ≤ 8) : cntN (lostAt b n s t) k = 0 ↔ ¬lostX b n (grtN s t k) := by
  rw [cntN_zero, lost_grt h g]
def grtPost : List DV → List DV → Prop
  | [.l s, .l t], [.n r] => r = grtN s t s.length
  | _, _ => False
def grtPre : List DV → Prop
  | [.l s, .l t] => inS 70368744177664 s t
  | _ => False
def sigGrt : Sig := ⟨[.one (smpL 300)], [.one (ib 0 70368744177664)], grtPre, grtPost⟩
def grtInv : List DV → List DV → Prop
  | [.l s, .l t], [.n i, .n r] => 0 ≤ i ∧ i ≤ (s.length : Int) ∧ r = grtN s t i.toNat
  | _, _ => False
def grtL : LSpec := ⟨[6, 7], [(.tmp 8, ib 0 300), (.tmp 3, ib 0 70368744177664)], [(.tmp 6, smpL 300)], grtInv, mea0, 10⟩
def losPre : List DV → Prop
  | [.n _, .n _, .l s, .l t] => inS 70368744177664 s t
  | _ => False
def losPost : List DV → List DV → Prop
  | [.n b, .n n, .l s, .l t], [.n k] => k = cntN (lostAt b n s t) s.length
  | _, _ => False
def sigLos : Sig := ⟨[gainN, .one (smpL 300)], [.one (ib 0 300)], losPre, losPost⟩
def leastPost : List DV → List DV → Prop
  | [.l s, .l t, .n b], [.n x, .n n, .n e] => (errS b 0 70368744177664 s t ≠ 0 ∧ x = 0 ∧ n = 0 ∧ e = errS b 0 70368744177664 s t) ∨
      (errS b 0 70368744177664 s t = 0 ∧ ((e = 0 ∧ x = b ∧ 0 ≤ n ∧ n ≤ 30 ∧ ¬lostX b n (grtN s t s.length) ∧ ∀ m : Int, 0 ≤ m → m < n → lostX b m (grtN s t s.length)) ∨
        (e = 5 ∧ x = 0 ∧ n = 0 ∧ ∀ m : Int, 0 ≤ m → m ≤ 30 → lostX b m (grtN s t s.length))))
  | _, _ => False
def sigLeast : Sig := ⟨[.one (smpL 300), .one i64], [.agg [ib 0 8, ib 0 30], .one (ib 0 18)], fun _ => True, leastPost⟩
theorem least_fun {s t : List Int} {b x n e x' n' e' : Int} (h : leastPost [.l s, .l t, .n b] [.n x, .n n, .n e]) (g : leastPost [.l s, .l t, .n b] [.n x', .n n', .n e']) : x = x' ∧ n = n' ∧ e = e' := by
  rcases h with ⟨h1, h2, h3, h4⟩ | ⟨h1, ⟨h2, h3, h4, h5, h6, h7⟩ | ⟨h2, h3, h4, h5⟩⟩ <;> rcases g with ⟨g1, g2, g3, g4⟩ | ⟨g1, ⟨g2, g3, g4, g5, g6, g7⟩ | ⟨g2, g3, g4, g5⟩⟩
  · exact ⟨by omega, by omega, by omega⟩
  · exact absurd g1 h1
  · exact absurd g1 h1
  · exact absurd h1 g1
  · refine ⟨by omega, ?_, by omega⟩
    rcases Int.lt_trichotomy n n' with c | c | c
    · exact absurd (g7 n h4 c) h6
    · exact c
    · exact absurd (h7 n' g4 c) g6
  · exact absurd (g5 n h4 h5) h6
  · exact absurd h1 g1
  · exact absurd (h5 n' g4 g5) g6
  · exact ⟨by omega, by omega, by omega⟩
def nextS (b n : Int) (s t : List Int) : Int := if 4 * hv (grtN s t s.length) n ≤ qq b then max (n - 1) 0 else if (s.length : Int) < 16 * cntN (lostAt b n s t) s.length then min (n + 1) 30 else n
def adaptPost : List DV → List DV → Prop
  | [.l s, .l t, .n b, .n n], [.n x, .n m, .n e] => e = errS b n 70368744177664 s t ∧ (e ≠ 0 → x = 0 ∧ m = 0) ∧ (e = 0 → x = b ∧ m = nextS b n s t)
  | _, _ => False
def sigAdapt : Sig := ⟨[.one (smpL 300), gainV], [.agg [ib 0 8, ib 0 30], .one (ib 0 18)], fun _ => True, adaptPost⟩
theorem adapt_fun {s t : List Int} {b n x m e x' m' e' : Int} (h : adaptPost [.l s, .l t, .n b, .n n] [.n x, .n m, .n e]) (g : adaptPost [.l s, .l t, .n b, .n n] [.n x', .n m', .n e']) : x = x' ∧ m = m' ∧ e = e' := by
  obtain ⟨h1, h2, h3⟩ := h
  obtain ⟨g1, g2, g3⟩ := g
  have := errS
  by_cases c : e = 0
  · have := h3 c; have := g3 (by omega); omega
  · have := h2 c; have := g2 (by omega); omega
/-- what is lost, when no level is greater than a quarter -/
theorem quarter {b n : Int} {s t : List Int} (h : 2 ≤ b) (g : b ≤ 8) (c : 4 * hv (grtN s t s.length) n ≤ qq b) : cntN (lostAt b n s t) s.length = 0 := by
  rw [cnt_lost h g, lostX_iff h g]
  have := qq_bd h g
  have m0 := hv_mono (n := n) (x := 0) (y := grtN s t s.length) (grtN_nn s t _)
  rw [hv_0] at m0
  omega
theorem hv_max {x y n : Int} : hv (max x y) n = max (hv x n) (hv y n) := by
  rcases Int.le_total x y with h | h
  · have := hv_mono (n := n) h
    rw [Int.max_eq_right h, Int.max_eq_right this]
  · have := hv_mono (n := n) h
    rw [Int.max_eq_left h, Int.max_eq_left this]
theorem grt_step {s t : List Int} {n : Int} {k : Nat} : hv (grtN s t (k + 1)) n = max (hv (grtN s t k) n) (max (max (hv (s.getD k 0) n) (-(hv (s.getD k 0) n))) (max (hv (t.getD k 0) n) (-(hv (t.getD k 0) n)))) := by
  rw [grtN_s, hv_max, hv_max, hv_max, hv_max, hv_odd, hv_odd]
def sigQG : Sig := ⟨[.one (smpL 9223372036854775807), gainV, .one i64], [.one .b], fun _ => True, fun _ rs => rs = [.b true]⟩
def losL2 : LSpec := ⟨[2, 8, 9], [(.tmp 10, ib 0 300), (.tmp 5, ib 0 300)], [(.tmp 8, smpL 300), (.cell (key 2) 0, i64), (.cell (key 2) 1, i64)], losInv, mea0, 20⟩
def leaInv : List DV → List DV → Prop
  | [.n m, .n b], [.n k] => 0 ≤ k ∧ k ≤ 30 ∧ ∀ j : Int, 0 ≤ j → j < k → lostX b j m
  | _, _ => False
def mea30 : List DV → List DV → Nat
  | _, .n i :: _ => (31 - i).toNat
  | _, _ => 0
def leaL : LSpec := ⟨[4, 5, 6, 8, 19], [(.cell (key 3) 1, ib 0 30)], [(.tmp 8, ib 0 70368744177664), (.cell (key 3) 0, i64)], leaInv, mea30, 20⟩
def leaInvR : List DV → List DV → Prop
  | [.l s, .l t, .n b], [.n k] => 0 ≤ k ∧ k ≤ 31 ∧ ∀ j : Int, 0 ≤ j → j < k → lostX b j (grtN s t s.length)
  | _, _ => False
def mea31 : List DV → List DV → Nat
  | _, .n i :: _ => (32 - i).toNat
  | _, _ => 0
def leaLR : LSpec := ⟨[0, 1, 4, 5], [(.tmp 8, ib 0 31)], [(.tmp 0, smpL 300), (.tmp 1, i64)], leaInvR, mea31, 20⟩
def adaInvR : List DV → List DV → Prop
  | [.l s, .l t, .n n], [.n i, .n r] => 0 ≤ i ∧ i ≤ (s.length : Int) ∧ r = hv (grtN s t i.toNat) n
  | _, _ => False
def adaLR : LSpec := ⟨[0, 3, 4, 5], [(.tmp 9, ib 0 300), (.tmp 8, ib 0 70368744177664)], [(.tmp 0, smpL 300), (.cell (key 2) 1, i64)], adaInvR, mea0, 20⟩
def smsPost : List DV → List DV → Prop
  | [.l l], [.l s, .l t] => inS 1073741823 s t ∧ s.length ≤ l.length
  | _, _ => False
def sigSms : Sig := ⟨[.one (intL 40)], [.one (smpL 40)], fun _ => True, smsPost⟩
def smsInv : List DV → List DV → Prop
  | [.l l], [.n i, .l s, .l t] => 0 ≤ i ∧ i ≤ (l.length : Int) + 1 ∧ inS 1073741823 s t ∧ (s.length : Int) ≤ i ∧ (s.length : Int) * 2 = i
  | _, _ => False
def smsMea : List DV → List DV → Nat
  | .l a :: _, .n i :: _ => ((a.length : Int) + 2 - i).toNat
  | _, _ => 0
def smsL : LSpec := ⟨[0], [(.tmp 4, ib 0 42), (.tmp 3, smpL 40)], [(.tmp 0, intL 40)], smsInv, smsMea, 30⟩
def sigQLe : Sig := ⟨[.one (intL 9223372036854775807), .one i64], [.one .b], fun _ => True, fun _ rs => rs = [.b true]⟩
theorem inS_snoc {m x y : Int} {s t : List Int} (hl : t.length = s.length) (h : inS m s t) (h1 : -m ≤ x) (h2 : x ≤ m) (h3 : -m ≤ y) (h4 : y ≤ m) : inS m (s ++ [x]) (t ++ [y]) := fun j hj => by
  rw [List.length_append] at hj
  rcases Nat.lt_or_ge j s.length with c | c
  · have := h j c
    rw [getD_app1 c, getD_app1 (by omega)]
    exact this
  · have e : j = s.length := by simp at hj; omega
    subst e
    have e1 : (s ++ [x]).getD s.length 0 = x := by simp [List.getD_eq_getElem?_getD]
    have e2 : (t ++ [y]).getD s.length 0 = y := by rw [← hl]; simp [List.getD_eq_getElem?_getD]
    rw [e1, e2]
    exact ⟨⟨h1, h2⟩, h3, h4⟩
theorem inS_mono {m m' : Int} {s t : List Int} (h : inS m s t) (g : m ≤ m') : inS m' s t := fun j hj => by have := h j hj; omega
theorem hv_30 {x : Int} (h : 0 ≤ x) (g : x ≤ 1073741823) : hv x 30 ≤ 1 := by
  have e : p2 30 = 1073741824 := by decide
  unfold hv
  rw [if_neg (by omega), e]
  omega
theorem not_lost_30 {b : Int} {s t : List Int} (h : 2 ≤ b) (g : b ≤ 8) (hs : inS 1073741823 s t) : ¬lostX b 30 (grtN s t s.length) := by
  have q := qq_bd h g
  have bd := grtN_bd (by omega) hs s.length (Nat.le_refl _)
  have := hv_30 bd.1 bd.2
  have m0 := hv_mono (n := 30) (x := 0) (y := grtN s t s.length) bd.1
  rw [hv_0] at m0
  rw [lostX_iff h g]
  omega
theorem errS_00 {b n m : Int} {s t : List Int} (hG : 2 ≤ b ∧ b ≤ 8 ∧ 0 ≤ n ∧ n ≤ 30) (hl : (s.length : Int) ≤ 1048576) (h : inS m s t) : errS b n m s t = 0 := by
  rw [errS, if_pos (errG_0 hG), errL_0 hl h]
theorem least_in {b x n e : Int} {s t : List Int} (hb : 2 ≤ b) (hb2 : b ≤ 8) (hs : inS 1073741823 s t) (hl : (s.length : Int) ≤ 1048576) (h : leastPost [.l s, .l t, .n b] [.n x, .n n, .n e]) :
    e = 0 ∧ x = b ∧ 0 ≤ n ∧ n ≤ 30 ∧ ¬lostX b n (grtN s t s.length) ∧ ∀ m : Int, 0 ≤ m → m < n → lostX b m (grtN s t s.length) := by
  have e0 := errS_00 (b := b) (n := 0) (m := 70368744177664) ⟨hb, hb2, by omega, by omega⟩ hl (inS_mono hs (by omega))
  rcases h with ⟨h1, _⟩ | ⟨_, h | ⟨_, _, _, h⟩⟩
  · exact absurd e0 h1
  · exact h
  · exact absurd (h 30 (by omega) (by omega)) (not_lost_30 hb hb2 hs)
theorem quan_in {b n k e : Int} {s t X Y : List Int} (hG : 2 ≤ b ∧ b ≤ 8 ∧ 0 ≤ n ∧ n ≤ 30) (hs : inS 1073741823 s t) (hl : (s.length : Int) ≤ 1048576) (h : quanPost [.l s, .l t, .n b, .n n] [.l X, .l Y, .n k, .n e]) :
    e = 0 ∧ (k = 0 ↔ ¬lostX b n (grtN s t s.length)) := by
  obtain ⟨g1, _, g3⟩ := h
  have e0 : e = 0 := g1.trans (errS_00 hG hl (inS_mono hs (by omega)))
  refine ⟨e0, ?_⟩
  rw [(g3 e0).2.2]
  exact cnt_lost hG.1 hG.2.1
def sumN (c : List Int) : Nat → Int
  | 0 => 0
  | k + 1 => sumN c k + c.getD k 0
theorem sumN_inc (c : List Int) (i : Nat) : ∀ k, k ≤ c.length → sumN (incA c i) k = sumN c k + if i < k then 1 else 0
  | 0, _ => rfl
  | k + 1, hk => by
    have ih := sumN_inc c i k (by omega)
    simp only [sumN, incA] at ih ⊢
    rw [ih, getD_set]
    by_cases e : i = k
    · subst e
      rw [if_neg (by omega), if_pos ⟨rfl, by omega⟩, if_pos (by omega)]; omega
    · have ne : ¬(i = k ∧ k < c.length) := fun h => e h.1
      rw [if_neg ne]
      split <;> split <;> omega
theorem sumN_rep (n : Nat) : ∀ k, sumN (List.replicate n 0) k = 0
  | 0 => rfl
  | k + 1 => by
    show sumN _ k + (List.replicate n (0 : Int)).getD k 0 = 0
    rw [sumN_rep n k, getD_rep]; split <;> rfl
theorem hist_sum {q : Int} {f g : Nat → Int} (hq : 0 ≤ q) : ∀ k : Nat, (∀ j, j < k → (-q ≤ f j ∧ f j ≤ q) ∧ -q ≤ g j ∧ g j ≤ q) → sumN (hist q f g k) (2 * q + 1).toNat = 2 * k
  | 0, _ => by rw [hist, sumN_rep]; rfl
  | k + 1, h => by
    have ih := hist_sum hq k (fun j hj => h j (by omega))
    have hk := h k (by omega)
    have l0 := hist_len q f g k
    rw [hist, sumN_inc _ _ _ (by rw [incA_len, l0]; exact Nat.le_refl _), sumN_inc _ _ _ (by rw [l0]; exact Nat.le_refl _), ih, if_pos (by omega), if_pos (by omega)]
    omega
theorem hv_step {x n : Int} (h : 0 ≤ x) (hn : 0 ≤ n) : hv x n - 1 ≤ 2 * hv x (n + 1) := by
  have p := p2_pos n
  have e : p2 (n + 1) = p2 n * 2 := by rw [p2_add hn (by omega)]; rfl
  unfold hv
  rw [if_neg (by omega), if_neg (by omega), e, show p2 n * 2 / 2 = p2 n by omega]
  have d1 := div_bd (a := x + p2 n / 2) p
  have d2 := div_bd (a := x + p2 n) (c := p2 n * 2) (by omega)
  refine le_of_mul (l := p2 n) p ?_
  have q1 : p2 n * (2 * ((x + p2 n) / (p2 n * 2))) = p2 n * 2 * ((x + p2 n) / (p2 n * 2)) := by rw [Int.mul_assoc]
  rw [q1, Int.mul_sub]
  omega
def upA (b n : Int) (s t : List Int) : Prop := 4 * hv (grtN s t s.length) n ≤ qq b
def upB (b n : Int) (s t : List Int) : Prop := (s.length : Int) < 16 * cntN (lostAt b n s t) s.length
theorem noAB {b n : Int} {s t : List Int} (h : 2 ≤ b) (g : b ≤ 8) (hn : 0 ≤ n) : ¬(upA b (n + 1) s t ∧ upB b n s t) := fun ⟨a, c⟩ => by
  have q := qq_bd h g
  have m := grtN_nn s t s.length
  have hs := hv_step (n := n) m hn
  have nz : cntN (lostAt b n s t) s.length ≠ 0 := by unfold upB at c; omega
  rw [ne_eq, cnt_lost h g, Classical.not_not, lostX_iff h g] at nz
  have m0 := hv_mono (n := n) (x := 0) (y := grtN s t s.length) m
  rw [hv_0] at m0
  unfold upA at a
  omega
theorem notAB {b n : Int} {s t : List Int} (h : 2 ≤ b) (g : b ≤ 8) : ¬(upA b n s t ∧ upB b n s t) := fun ⟨a, c⟩ => by
  have := quarter (n := n) h g a
  unfold upB at c
  omega
theorem nextS_cases {b n : Int} {s t : List Int} (h : 2 ≤ b) (g : b ≤ 8) : (upA b n s t ∧ nextS b n s t = max (n - 1) 0) ∨ (upB b n s t ∧ ¬upA b n s t ∧ nextS b n s t = min (n + 1) 30) ∨ (¬upA b n s t ∧ ¬upB b n s t ∧ nextS b n s t = n) := by
  unfold nextS upA upB
  split
  · rename_i a; exact .inl ⟨a, rfl⟩
  · rename_i a
    split
    · rename_i c; exact .inr (.inl ⟨c, a, rfl⟩)
    · rename_i c; exact .inr (.inr ⟨a, c, rfl⟩)
structure adI (b i n : Int) (s t : List Int) : Prop where
  a : upA b n s t → 0 < n → n ≤ 30 - i
  c : upB b n s t → n < 30 → i ≤ n
theorem adI_step {b i n : Int} {s t : List Int} (h : 2 ≤ b) (g : b ≤ 8) (hn : 0 ≤ n) (hn2 : n ≤ 30) (hi : adI b i n s t) : adI b (i + 1) (nextS b n s t) s t ∧ -1 ≤ nextS b n s t - n ∧ nextS b n s t - n ≤ 1 ∧ 0 ≤ nextS b n s t ∧ nextS b n s t ≤ 30 := by
  rcases nextS_cases (n := n) (s := s) (t := t) h g with ⟨A, e⟩ | ⟨B, nA, e⟩ | ⟨nA, nB, e⟩
  · rw [e]
    refine ⟨?_, by omega, by omega, by omega, by omega⟩
    by_cases z : n = 0
    · subst z
      refine ⟨fun _ => by omega, fun B _ => absurd ⟨A, ?_⟩ (notAB (n := 0) h g)⟩
      exact B
    · rw [show max (n - 1) 0 = n - 1 by omega]
      refine ⟨fun _ _ => by have := hi.a A (by omega); omega, fun B _ => absurd ⟨?_, B⟩ (noAB (n := n - 1) h g (by omega))⟩
      rw [show n - 1 + 1 = n by omega]; exact A
  · rw [e]
    refine ⟨?_, by omega, by omega, by omega, by omega⟩
    by_cases z : n = 30
    · subst z
      exact ⟨fun A _ => absurd A nA, fun _ => by omega⟩
    · rw [show min (n + 1) 30 = n + 1 by omega]
      exact ⟨fun A _ => absurd ⟨A, B⟩ (noAB h g hn), fun _ _ => by have := hi.c B (by omega); omega⟩
  · rw [e]
    exact ⟨⟨fun A => absurd A nA, fun B => absurd B nB⟩, by omega, by omega, by omega, by omega⟩
theorem adI_end {b n : Int} {s t : List Int} (h : 2 ≤ b) (g : b ≤ 8) (hn : 0 ≤ n) (hn2 : n ≤ 30) (hi : adI b 31 n s t) : nextS b n s t = n := by
  rcases nextS_cases (n := n) (s := s) (t := t) h g with ⟨A, e⟩ | ⟨B, nA, e⟩ | ⟨nA, nB, e⟩
  · rw [e]
    rcases Int.lt_or_le 0 n with z | z
    · have := hi.a A z; omega
    · omega
  · rw [e]
    rcases Int.lt_or_le n 30 with z | z
    · have := hi.c B z; omega
    · omega
  · exact e
theorem adI_start {b n : Int} {s t : List Int} (hn : 0 ≤ n) (hn2 : n ≤ 30) : adI b 0 n s t := ⟨fun _ _ => by omega, fun _ _ => hn⟩
theorem adapt_in {b n x m e : Int} {s t : List Int} (hG : 2 ≤ b ∧ b ≤ 8 ∧ 0 ≤ n ∧ n ≤ 30) (hs : inS 1073741823 s t) (hl : (s.length : Int) ≤ 1048576) (h : adaptPost [.l s, .l t, .n b, .n n] [.n x, .n m, .n e]) : e = 0 ∧ x = b ∧ m = nextS b n s t := by
  have e0 : e = 0 := h.1.trans (errS_00 hG hl (inS_mono hs (by omega)))
  exact ⟨e0, h.2.2 e0⟩
theorem count_in {b n e : Int} {s t c : List Int} (hG : 2 ≤ b ∧ b ≤ 8 ∧ 0 ≤ n ∧ n ≤ 30) (hs : inS 1073741823 s t) (hl : (s.length : Int) ≤ 1048576) (h : countPost [.l s, .l t, .n b, .n n] [.l c, .n e]) : e = 0 ∧ (c.length : Int) = p2 b - 1 ∧ sumN c c.length = 2 * s.length := by
  have e0 : e = 0 := h.1.trans (errS_00 hG hl (inS_mono hs (by omega)))
  have q := qq_bd hG.1 hG.2.1
  have hc := h.2.2 e0
  have l0 := hist_len (qq b) (fun j => lev b n (s.getD j 0)) (fun j => lev b n (t.getD j 0)) s.length
  have hcl : c.length = (2 * qq b + 1).toNat := by rw [hc]; exact l0
  refine ⟨e0, ?_, ?_⟩
  · rw [hcl]
    have pe := p2_add (a := b - 1) (c := 1) (by omega) (by omega)
    rw [show b - 1 + 1 = b by omega, show p2 1 = 2 by decide] at pe
    unfold qq at *
    omega
  · rw [hcl, hc]
    exact hist_sum (by omega) _ fun j _ => ⟨lev_bd hG.1 hG.2.1, lev_bd hG.1 hG.2.1⟩
def sigQA : Sig := ⟨[.one (intL 9223372036854775807), .one i64, .one i64], [.one .b], fun _ => True, fun _ rs => rs = [.b true]⟩
def adInv : List DV → List DV → Prop
  | [.l s, .l t, .n b0], [.n i, .n b, .n n] => b = b0 ∧ 0 ≤ i ∧ i ≤ 31 ∧ adI b0 i n s t
  | _, _ => False
def adMea : List DV → List DV → Nat
  | _, .n i :: _ => (31 - i).toNat
  | _, _ => 0
def adL : LSpec := ⟨[7, 8, 9], [(.tmp 10, ib 0 31), (.cell (key 3) 0, ib 2 8), (.cell (key 3) 1, ib 0 30)], [(.tmp 8, smpL 40), (.cell (key 3) 0, ib 2 8)], adInv, adMea, 40⟩
def sumInv : List DV → List DV → Prop
  | [.l c], [.n i, .n s] => 0 ≤ i ∧ i ≤ (c.length : Int) ∧ s = sumN c i.toNat
  | _, _ => False
def sumL : LSpec := ⟨[7, 8, 9, 14, 15, 16, 17], [(.tmp 19, ib 0 255), (.tmp 18, ib 0 153000)], [(.tmp 16, .l [.i .i64 0 600] 255)], sumInv, mea0, 20⟩
theorem sumN_bd {c : List Int} (h : ∀ y ∈ c, 0 ≤ y ∧ y ≤ 600) : ∀ k : Nat, 0 ≤ sumN c k ∧ sumN c k ≤ 600 * k
  | 0 => ⟨Int.le_refl _, by show (0 : Int) ≤ _; omega⟩
  | k + 1 => by
    have := sumN_bd h k
    have := getD_bd (i := k) h (by omega) (by omega)
    show 0 ≤ sumN c k + c.getD k 0 ∧ sumN c k + c.getD k 0 ≤ _
    omega
def tab : Nat → LT := fun f p c => at2 f p 34 58 chkSL (at2 f p 43 58 chkSRL (at2 f p 44 58 q44L (at2 f p 13 58 samPL (at2 f p 18 58 equL (at2 f p 38 58 grtL (at2 f p 40 58 losL2 (at2 f p 14 122 leaL (at2 f p 27 122 leaLR (at2 f p 28 250 adaLR (at2 f p 30 58 smsL (at2 f p 9 506 adL (at2 f p 9 8186 sumL none))))))))))))
def tabQ : Nat → LT := fun f p c => at2 f p 36 58 (mapL 4 5 mapInv) (at2 f p 40 58 (losL 26) none)
def tabC : Nat → LT := fun f p c => at2 f p 36 58 (mapL 4 5 mapInv) (at2 f p 16 250 cntL (at2 f p 26 506 cntLR none))
def tabR : Nat → LT := fun f p c => at2 f p 36 58 (mapL 3 4 rmapInv) (at2 f p 25 506 (rmapL 2 3) none)
end
end Go.Sp
