import Derived.Test.YtcddopooofdgcaaSpec01b
namespace Go.Sp
open Go.Ev
noncomputable section
def lenPost : List DV → List DV → Prop
  | [.n x], [.n r] => (x = 0 ∧ r = 0) ∨ (0 < x ∧ 1 ≤ r ∧ r ≤ 64 ∧ p2 (r - 1) ≤ x ∧ x < p2 r)
  | _, _ => False
def sigLen : Sig := ⟨[.one u64c], [.one (ib 0 64)], fun _ => True, lenPost⟩
def lzPost : List DV → List DV → Prop
  | [.n x], [.n r] => (x = 0 ∧ r = 64) ∨ (0 < x ∧ 0 ≤ r ∧ r ≤ 63 ∧ 9223372036854775808 ≤ x * p2 r ∧ x * p2 r < 18446744073709551616)
  | _, _ => False
def sigLz : Sig := ⟨[.one u64c], [.one (ib 0 64)], fun _ => True, lzPost⟩
def divPre : List DV → Prop
  | [.n h, .n _, .n y] => h < y
  | _ => False
def divPost : List DV → List DV → Prop
  | [.n h, .n l, .n y], [.n q, .n r] => q * y + r = h * 18446744073709551616 + l ∧ 0 ≤ r ∧ r < y
  | _, _ => False
def sigDiv : Sig := ⟨[.one u64c, .one u64c, .one u64c], [.one u64c, .one u64c], divPre, divPost⟩
def len8_0 : List Int := [Int.ofNat 0, Int.ofNat 1, Int.ofNat 2, Int.ofNat 2, Int.ofNat 3, Int.ofNat 3, Int.ofNat 3, Int.ofNat 3, Int.ofNat 4, Int.ofNat 4, Int.ofNat 4, Int.ofNat 4, Int.ofNat 4, Int.ofNat 4, Int.ofNat 4, Int.ofNat 4, Int.ofNat 5, Int.ofNat 5, Int.ofNat 5, Int.ofNat 5, Int.ofNat 5, Int.ofNat 5, Int.ofNat 5, Int.ofNat 5, Int.ofNat 5, Int.ofNat 5, Int.ofNat 5, Int.ofNat 5, Int.ofNat 5, Int.ofNat 5, Int.ofNat 5, Int.ofNat 5]
def len8_1 : List Int := [Int.ofNat 6, Int.ofNat 6, Int.ofNat 6, Int.ofNat 6, Int.ofNat 6, Int.ofNat 6, Int.ofNat 6, Int.ofNat 6, Int.ofNat 6, Int.ofNat 6, Int.ofNat 6, Int.ofNat 6, Int.ofNat 6, Int.ofNat 6, Int.ofNat 6, Int.ofNat 6, Int.ofNat 6, Int.ofNat 6, Int.ofNat 6, Int.ofNat 6, Int.ofNat 6, Int.ofNat 6, Int.ofNat 6, Int.ofNat 6, Int.ofNat 6, Int.ofNat 6, Int.ofNat 6, Int.ofNat 6, Int.ofNat 6, Int.ofNat 6, Int.ofNat 6, Int.ofNat 6]
def len8_2 : List Int := [Int.ofNat 7, Int.ofNat 7, Int.ofNat 7, Int.ofNat 7, Int.ofNat 7, Int.ofNat 7, Int.ofNat 7, Int.ofNat 7, Int.ofNat 7, Int.ofNat 7, Int.ofNat 7, Int.ofNat 7, Int.ofNat 7, Int.ofNat 7, Int.ofNat 7, Int.ofNat 7, Int.ofNat 7, Int.ofNat 7, Int.ofNat 7, Int.ofNat 7, Int.ofNat 7, Int.ofNat 7, Int.ofNat 7, Int.ofNat 7, Int.ofNat 7, Int.ofNat 7, Int.ofNat 7, Int.ofNat 7, Int.ofNat 7, Int.ofNat 7, Int.ofNat 7, Int.ofNat 7]
def len8_3 : List Int := [Int.ofNat 7, Int.ofNat 7, Int.ofNat 7, Int.ofNat 7, Int.ofNat 7, Int.ofNat 7, Int.ofNat 7, Int.ofNat 7, Int.ofNat 7, Int.ofNat 7, Int.ofNat 7, Int.ofNat 7, Int.ofNat 7, Int.ofNat 7, Int.ofNat 7, Int.ofNat 7, Int.ofNat 7, Int.ofNat 7, Int.ofNat 7, Int.ofNat 7, Int.ofNat 7, Int.ofNat 7, Int.ofNat 7, Int.ofNat 7, Int.ofNat 7, Int.ofNat 7, Int.ofNat 7, Int.ofNat 7, Int.ofNat 7, Int.ofNat 7, Int.ofNat 7, Int.ofNat 7]
def len8_4 : List Int := [Int.ofNat 8, Int.ofNat 8, Int.ofNat 8, Int.ofNat 8, Int.ofNat 8, Int.ofNat 8, Int.ofNat 8, Int.ofNat 8, Int.ofNat 8, Int.ofNat 8, Int.ofNat 8, Int.ofNat 8, Int.ofNat 8, Int.ofNat 8, Int.ofNat 8, Int.ofNat 8, Int.ofNat 8, Int.ofNat 8, Int.ofNat 8, Int.ofNat 8, Int.ofNat 8, Int.ofNat 8, Int.ofNat 8, Int.ofNat 8, Int.ofNat 8, Int.ofNat 8, Int.ofNat 8, Int.ofNat 8, Int.ofNat 8, Int.ofNat 8, Int.ofNat 8, Int.ofNat 8]
def len8_5 : List Int := [Int.ofNat 8, Int.ofNat 8, Int.ofNat 8, Int.ofNat 8, Int.ofNat 8, Int.ofNat 8, Int.ofNat 8, Int.ofNat 8, Int.ofNat 8, Int.ofNat 8, Int.ofNat 8, Int.ofNat 8, Int.ofNat 8, Int.ofNat 8, Int.ofNat 8, Int.ofNat 8, Int.ofNat 8, Int.ofNat 8, Int.ofNat 8, Int.ofNat 8, Int.ofNat 8, Int.ofNat 8, Int.ofNat 8, Int.ofNat 8, Int.ofNat 8, Int.ofNat 8, Int.ofNat 8, Int.ofNat 8, Int.ofNat 8, Int.ofNat 8, Int.ofNat 8, Int.ofNat 8]
def len8_6 : List Int := [Int.ofNat 8, Int.ofNat 8, Int.ofNat 8, Int.ofNat 8, Int.ofNat 8, Int.ofNat 8, Int.ofNat 8, Int.ofNat 8, Int.ofNat 8, Int.ofNat 8, Int.ofNat 8, Int.ofNat 8, Int.ofNat 8, Int.ofNat 8, Int.ofNat 8, Int.ofNat 8, Int.ofNat 8, Int.ofNat 8, Int.ofNat 8, Int.ofNat 8, Int.ofNat 8, Int.ofNat 8, Int.ofNat 8, Int.ofNat 8, Int.ofNat 8, Int.ofNat 8, Int.ofNat 8, Int.ofNat 8, Int.ofNat 8, Int.ofNat 8, Int.ofNat 8, Int.ofNat 8]
def len8_7 : List Int := [Int.ofNat 8, Int.ofNat 8, Int.ofNat 8, Int.ofNat 8, Int.ofNat 8, Int.ofNat 8, Int.ofNat 8, Int.ofNat 8, Int.ofNat 8, Int.ofNat 8, Int.ofNat 8, Int.ofNat 8, Int.ofNat 8, Int.ofNat 8, Int.ofNat 8, Int.ofNat 8, Int.ofNat 8, Int.ofNat 8, Int.ofNat 8, Int.ofNat 8, Int.ofNat 8, Int.ofNat 8, Int.ofNat 8, Int.ofNat 8, Int.ofNat 8, Int.ofNat 8, Int.ofNat 8, Int.ofNat 8, Int.ofNat 8, Int.ofNat 8, Int.ofNat 8, Int.ofNat 8]
def len8L : List Int := len8_0 ++ (len8_1 ++ (len8_2 ++ (len8_3 ++ (len8_4 ++ (len8_5 ++ (len8_6 ++ (len8_7)))))))
set_option maxRecDepth 100000 in
theorem len8_ : ∀ i : Fin 256, (i.val = 0 ∧ len8L.getD i.val 0 = 0) ∨ (0 < i.val ∧ 1 ≤ len8L.getD i.val 0 ∧ len8L.getD i.val 0 ≤ 8 ∧ p2 (len8L.getD i.val 0 - 1) ≤ (i.val : Int) ∧ (i.val : Int) < p2 (len8L.getD i.val 0)) := by decide +kernel
theorem len8_len : len8L.length = 256 := by decide +kernel
theorem len_leaf {x k : Int} {i : Nat} (hk : 0 ≤ k) (hk2 : k ≤ 56) (e : (i : Int) = x / p2 k) (hi : i < 256) (hx : 0 ≤ x) (hp : k = 0 ∨ 0 < i) : i < len8L.length ∧ (0 ≤ k + len8L.getD i 0 ∧ k + len8L.getD i 0 ≤ 64) ∧ lenPost [.n x] [.n (k + len8L.getD i 0)] := by
  have t := len8_ ⟨i, hi⟩
  simp only at t
  refine ⟨by rw [len8_len]; exact hi, ?_, ?_⟩
  · rcases t with t | t <;> omega
  have pp := p2_pos k
  have d := div_bd (a := x) (c := p2 k) pp
  rw [← e] at d
  rcases t with ⟨t1, t2⟩ | ⟨t1, t2, t3, t4, t5⟩
  · rcases hp with rfl | hp
    · rw [t2]
      have e0 : p2 0 = 1 := by decide
      rw [e0, t1] at d
      exact .inl ⟨by omega, by omega⟩
    · omega
  · have hl : 0 < len8L.getD i 0 := by omega
    generalize len8L.getD i 0 = t at *
    have a1 := p2_add (a := k) (c := t) hk (by omega)
    have a2 := p2_add (a := k) (c := t - 1) hk (by omega)
    rw [show k + (t - 1) = k + t - 1 by omega] at a2
    have m1 := Int.mul_le_mul_of_nonneg_left t4 (Int.le_of_lt pp)
    have m2 := Int.mul_le_mul_of_nonneg_left (show (i : Int) + 1 ≤ p2 t by omega) (Int.le_of_lt pp)
    rw [Int.mul_add, Int.mul_one] at m2
    have q := p2_pos (k + t - 1)
    exact .inr ⟨by omega, by omega, by omega, by omega, by omega⟩
theorem lz_of {x r l : Int} (hx : 0 ≤ x) (h : (x = 0 ∧ l = 0) ∨ (0 < x ∧ 1 ≤ l ∧ l ≤ 64 ∧ p2 (l - 1) ≤ x ∧ x < p2 l)) (e : r = 64 - l) : lzPost [.n x] [.n r] := by
  rcases h with ⟨h1, h2⟩ | ⟨h1, h2, h3, h4, h5⟩
  · exact .inl ⟨h1, by omega⟩
  · have a1 := p2_add (a := l - 1) (c := r) (by omega) (by omega)
    have a2 := p2_add (a := l) (c := r) (by omega) (by omega)
    rw [show l - 1 + r = 63 by omega, show p2 63 = 9223372036854775808 by decide] at a1
    rw [show l + r = 64 by omega, show p2 64 = 18446744073709551616 by decide] at a2
    have pp := p2_pos r
    have m1 := Int.mul_le_mul_of_nonneg_right h4 (Int.le_of_lt pp)
    have m2 := Int.mul_lt_mul_of_pos_right h5 pp
    exact .inr ⟨h1, by omega, by omega, by omega, by omega⟩
/-- a digit's search -/
def dgI (V y1 y0 u q r : Int) : Prop := 0 ≤ r ∧ r < 4294967296 ∧ r = V - q * y1 ∧ V * 4294967296 + u < (q + 1) * (y1 * 4294967296 + y0)
def dgInv : List DV → List DV → Prop
  | [.n V, .n y1, .n y0, .n u], [.n q, .n r] => dgI V y1 y0 u q r
  | _, _ => False
def dgMea : List DV → List DV → Nat
  | _, [.n _, .n r] => (4294967296 - r).toNat
  | _, _ => 0
def dg1L : LSpec := ⟨[2, 8, 9, 10, 11, 13, 14], [(.tmp 15, u64c), (.tmp 16, u64c)], [(.tmp 11, u64c), (.tmp 9, u64c), (.tmp 10, u64c), (.tmp 13, u64c)], dgInv, dgMea, 5⟩
def dg2L : LSpec := ⟨[2, 8, 9, 10, 14, 15, 17], [(.tmp 18, u64c), (.tmp 16, u64c)], [(.tmp 17, u64c), (.tmp 9, u64c), (.tmp 10, u64c), (.tmp 14, u64c)], dgInv, dgMea, 5⟩
theorem dg_init {V y1 y0 u q r : Int} (hy : 0 < y1) (hy2 : y1 ≤ 4294967296) (h0 : 0 ≤ y0) (hV : 0 ≤ V) (hu : u < 4294967296) (hq : q = V / y1) (hr : r = V - q * y1) : dgI V y1 y0 u q r := by
  have d1 := Int.emod_nonneg V (Int.ne_of_gt hy)
  have d2 := Int.emod_lt_of_pos V hy
  have d3 := Int.emod_add_mul_ediv V y1
  have q0 : 0 ≤ q := by rw [hq]; exact Int.ediv_nonneg hV (Int.le_of_lt hy)
  rw [← hq, Int.mul_comm] at d3
  refine ⟨by omega, by omega, hr, ?_⟩
  have e1 : (q + 1) * (y1 * 4294967296 + y0) = (q * y1 + y1) * 4294967296 + (q + 1) * y0 := by grind
  have e2 := Int.mul_nonneg (show 0 ≤ q + 1 by omega) h0
  omega
theorem dg_big {V y1 y0 u q : Int} (hV : V < y1 * 4294967296 + y0) (h0 : 0 ≤ V) (hu : u < 4294967296) (h : 4294967296 ≤ q) : V * 4294967296 + u < q * (y1 * 4294967296 + y0) := by
  have := Int.mul_le_mul_of_nonneg_right h (show 0 ≤ y1 * 4294967296 + y0 by omega)
  omega
theorem dg_big2 {V y1 y0 u q r : Int} (I : dgI V y1 y0 u q r) (h : 4294967296 * r + u < q * y0) : V * 4294967296 + u < q * (y1 * 4294967296 + y0) := by
  obtain ⟨_, _, i3, _⟩ := I
  have e1 : q * (y1 * 4294967296 + y0) = q * y1 * 4294967296 + q * y0 := by grind
  omega
theorem dg_back {V y1 y0 u q r : Int} (I : dgI V y1 y0 u q r) (G : V * 4294967296 + u < q * (y1 * 4294967296 + y0)) (h0 : 0 ≤ y1) (h : r + y1 < 4294967296) : dgI V y1 y0 u (q - 1) (r + y1) := by
  obtain ⟨i1, i2, i3, _⟩ := I
  refine ⟨by omega, h, ?_, by rw [show q - 1 + 1 = q by omega]; exact G⟩
  rw [Int.sub_mul, Int.one_mul]; omega
theorem dg_break {V y1 y0 u q r : Int} (I : dgI V y1 y0 u q r) (G : V * 4294967296 + u < q * (y1 * 4294967296 + y0)) (hV : V < y1 * 4294967296 + y0) (hy : 0 < y1) (h0 : 0 ≤ y0) (h1 : y0 < 4294967296) (hu : 0 ≤ u) (hq : 1 ≤ q) (h : 4294967296 ≤ r + y1) :
    0 ≤ V * 4294967296 + u - (q - 1) * (y1 * 4294967296 + y0) ∧ V * 4294967296 + u - (q - 1) * (y1 * 4294967296 + y0) < y1 * 4294967296 + y0 := by
  obtain ⟨i1, i2, i3, _⟩ := I
  have e1 : (q - 1) * (y1 * 4294967296 + y0) = q * (y1 * 4294967296 + y0) - (y1 * 4294967296 + y0) := by rw [Int.sub_mul, Int.one_mul]
  have e2 : (q - 1) * (y1 * 4294967296 + y0) = (q * y1 - y1) * 4294967296 + (q - 1) * y0 := by grind
  have hb : q - 1 < 4294967296 := by
    rcases Int.lt_or_le (q - 1) 4294967296 with c | c
    · exact c
    · have m := Int.mul_le_mul_of_nonneg_right c (Int.le_of_lt hy)
      rw [Int.sub_mul, Int.one_mul] at m
      omega
  have m2 := Int.mul_le_mul (show q - 1 ≤ 4294967295 by omega) (show y0 ≤ 4294967295 by omega) h0 (by omega)
  omega
theorem dg_exit {V y1 y0 u q r : Int} (I : dgI V y1 y0 u q r) (h : ¬4294967296 * r + u < q * y0) :
    0 ≤ V * 4294967296 + u - q * (y1 * 4294967296 + y0) ∧ V * 4294967296 + u - q * (y1 * 4294967296 + y0) < y1 * 4294967296 + y0 := by
  obtain ⟨i1, i2, i3, i4⟩ := I
  have e1 : q * (y1 * 4294967296 + y0) = q * y1 * 4294967296 + q * y0 := by grind
  rw [Int.add_mul, Int.one_mul] at i4
  omega
theorem div_fin {X y P Y V W q1 V2 q0 R u1 u0 Q r : Int} (hY : Y = y * P) (hP : 0 < P) (hX : V * 18446744073709551616 + W = X * P) (hW : W = u1 * 4294967296 + u0) (e1 : V2 = V * 4294967296 + u1 - q1 * Y) (e2 : R = V2 * 4294967296 + u0 - q0 * Y)
    (b0 : 0 ≤ R) (b1 : R < Y) (eQ : Q = q1 * 4294967296 + q0) (er : r = R / P) : Q * y + r = X ∧ 0 ≤ r ∧ r < y := by
  have k : R = (X - Q * y) * P := by
    have a1 : (X - Q * y) * P = X * P - Q * (y * P) := by rw [Int.sub_mul, Int.mul_assoc]
    have a2 : Q * Y = q1 * Y * 4294967296 + q0 * Y := by rw [eQ]; grind
    rw [a1, ← hX, ← hY, a2]
    omega
  have k2 : R / P = X - Q * y := by rw [k]; exact Int.mul_ediv_cancel _ (Int.ne_of_gt hP)
  rw [er, k2]
  refine ⟨by omega, ?_, ?_⟩
  · rw [← k2]; exact Int.ediv_nonneg b0 (Int.le_of_lt hP)
  · rw [← k2]; exact Int.ediv_lt_of_lt_mul hP (by rw [← hY]; exact b1)
theorem div_q {V W Y q1 q0 V2 R u1 u0 : Int} (hY : 0 < Y) (hV : V < Y) (hW : W = u1 * 4294967296 + u0) (hW2 : W < 18446744073709551616) (h1 : 0 ≤ V2) (e1 : V2 = V * 4294967296 + u1 - q1 * Y) (e2 : R = V2 * 4294967296 + u0 - q0 * Y) (b0 : 0 ≤ R) :
    q1 * 4294967296 + q0 < 18446744073709551616 := by
  have a : (q1 * 4294967296 + q0) * Y = q1 * Y * 4294967296 + q0 * Y := by grind
  have b : (q1 * 4294967296 + q0) * Y < 18446744073709551616 * Y := by omega
  exact Int.lt_of_mul_lt_mul_right b (Int.le_of_lt hY)
/-- the divisor shifted so that its first bit is set, the number as much -/
theorem div_norm {h l y s : Int} (hh : 0 ≤ h) (hl : 0 ≤ l) (hl2 : l < 18446744073709551616) (hy : h < y) (hs0 : 0 ≤ s) (hs : s ≤ 63) (n1 : 9223372036854775808 ≤ y * p2 s) (n2 : y * p2 s < 18446744073709551616) :
    ∃ Y V W, opI (.shl .u64) y s = Y ∧ opI (.or .u64) (opI (.shl .u64) h s) (opI (.shr .u64) l (64 - s)) = V ∧ opI (.shl .u64) l s = W ∧ Y = y * p2 s ∧ 9223372036854775808 ≤ Y ∧ Y < 18446744073709551616 ∧ 0 ≤ V ∧ V < Y ∧ 0 ≤ W ∧ W < 18446744073709551616 ∧ V * 18446744073709551616 + W = (h * 18446744073709551616 + l) * p2 s := by
  have hp := p2_pos s
  have sp := p2_split (n := s) hs0 (by omega)
  have hq := p2_pos (64 - s)
  have e1 : opI (.shl .u64) y s = y * p2 s := by rw [shlU_eq hs0 (by omega)]; omega
  have hb : h * p2 s ≤ y * p2 s - p2 s := by
    have := Int.mul_le_mul_of_nonneg_right (show h ≤ y - 1 by omega) (Int.le_of_lt hp)
    rw [Int.sub_mul, Int.one_mul] at this; exact this
  have hh0 := Int.mul_nonneg hh (Int.le_of_lt hp)
  have e2 : opI (.shl .u64) h s = h * p2 s := by rw [shlU_eq hs0 (by omega)]; omega
  have e3 : opI (.shr .u64) l (64 - s) = l / p2 (64 - s) := shrU_eq (by omega) (by omega)
  have um := up_math (l := l) (n := s) hl hs0 (by omega)
  have d0 := Int.ediv_nonneg (a := l) (b := p2 (64 - s)) hl (Int.le_of_lt hq)
  have d1 : l / p2 (64 - s) < p2 s := Int.ediv_lt_of_lt_mul hq (by rw [sp]; exact hl2)
  have pm : p2 s ≤ p2 63 := p2_mono hs
  rw [show p2 63 = 9223372036854775808 by decide] at pm
  have oc : opI (.or .u64) (h * p2 s) (l / p2 (64 - s)) = h * p2 s + l / p2 (64 - s) := by
    have := orU_add (a := l / p2 (64 - s)) (c := h) (k := s) hs0 d0 d1 hh (by omega) (by omega)
    rw [Int.add_comm, ← this]
    show IntKind.wrap .u64 _ = IntKind.wrap .u64 _
    rw [BitVec.or_comm]
  refine ⟨_, _, _, e1, rfl, rfl, rfl, n1, n2, ?_, ?_, ?_, ?_, ?_⟩
  · rw [e2, e3, oc]; omega
  · rw [e2, e3, oc]; omega
  · rw [shlU_eq hs0 (by omega)]; omega
  · rw [shlU_eq hs0 (by omega)]; omega
  · rw [e2, e3, oc, shlU_eq hs0 (by omega), Int.add_mul, Int.add_mul]
    have : h * 18446744073709551616 * p2 s = h * p2 s * 18446744073709551616 := by grind
    omega
theorem rem_wrap {V u p a b c n : Int} (h1 : a = V * 4294967296 % 18446744073709551616) (h2 : b = (a + u) % 18446744073709551616) (h3 : c = p % 18446744073709551616) (h4 : n = (b - c) % 18446744073709551616) (x0 : 0 ≤ V * 4294967296 + u - p) (x1 : V * 4294967296 + u - p < 18446744073709551616) : n = V * 4294967296 + u - p := by omega
theorem quo_wrap {q1 q0 a n : Int} (h1 : a = q1 * 4294967296 % 18446744073709551616) (h2 : n = (a + q0) % 18446744073709551616) (k1 : 0 ≤ q1) (k0 : 0 ≤ q0) (dq : q1 * 4294967296 + q0 < 18446744073709551616) : n = q1 * 4294967296 + q0 := by omega
theorem pos_of {q y : Int} (h : 0 ≤ q) (k : 0 < q * y) : 1 ≤ q := by
  rcases Int.lt_or_le 0 q with g | g
  · omega
  · rw [show q = 0 by omega, Int.zero_mul] at k; omega
theorem b_mul {q y : Int} (h0 : 0 ≤ q) (h1 : q < 4294967296) (g0 : 0 ≤ y) (g1 : y < 4294967296) (n : Int) (e : n = q * y % 18446744073709551616) : n = q * y ∧ 0 ≤ q * y := by
  have mm := Int.mul_le_mul (show q ≤ 4294967295 by omega) (show y ≤ 4294967295 by omega) (by omega) (by omega)
  have m3 := Int.mul_nonneg h0 g0
  omega
theorem q_mul {V q y : Int} (h0 : 0 ≤ V) (h1 : V < 18446744073709551616) (hy : 0 < y) (hq : q = V / y) (n : Int) (e : n = q * y % 18446744073709551616) : n = q * y ∧ 0 ≤ q * y ∧ q * y ≤ V := by
  have m1 := Int.ediv_mul_le V (show y ≠ 0 by omega)
  have q0 : 0 ≤ q := by rw [hq]; exact Int.ediv_nonneg h0 (Int.le_of_lt hy)
  rw [← hq] at m1
  have m2 := Int.mul_nonneg q0 (Int.le_of_lt hy)
  omega
theorem q_div {V q y : Int} (h0 : 0 ≤ V) (h1 : V < 18446744073709551616) (hy : 0 < y) (e : q = V.tdiv y % 18446744073709551616) : q = V / y := by
  have t0 := tdiv_nn (a := V) (b := y) h0
  have d0 := Int.ediv_nonneg h0 (Int.le_of_lt hy)
  have d1 := Int.ediv_le_self y h0
  rw [t0] at e
  omega
/-- a quotient, rounded half up -/
def rnd (W b : Int) : Int := (2 * W + b) / (2 * b)
def overPre : List DV → Prop
  | [.n _, .n _, .n b] => 0 < b
  | _ => False
def overPost : List DV → List DV → Prop
  | [.n h, .n l, .n b], [.n x, .n y] => x * 18446744073709551616 + y = rnd (h * 18446744073709551616 + l) b
  | _, _ => False
def sigOver : Sig := ⟨[.agg [u64c, u64c], .one (.i .u64 0 9223372036854775808)], [.agg [u64c, u64c]], overPre, overPost⟩
def dvdPost : List DV → List DV → Prop
  | [.n h, .n l, .n b], [.n q, .b o] => (o = true ∧ q = 0 ∧ 18446744073709551616 ≤ rnd (h * 18446744073709551616 + l) b) ∨ (o = false ∧ q = rnd (h * 18446744073709551616 + l) b ∧ q < 18446744073709551616)
  | _, _ => False
def sigDvd : Sig := ⟨[.one u64c, .one u64c, .one (.i .u64 0 9223372036854775808)], [.one u64c, .one .b], overPre, dvdPost⟩
/-- with a sign, saturated -/
def sgS (neg : Prop) [Decidable neg] (w : Int) : Int := sat (if neg then -w else w)
def xorP (p q : Prop) : Prop := ¬(p ↔ q)
open Classical in
def mulV (a b n : Int) : Int := sgS (xorP (a < 0) (b < 0)) (shR (absI a * absI b) n)
open Classical in
def divV (a b n : Int) : Int := sgS (xorP (a < 0) (b < 0)) (rnd (absI a * p2 n) (absI b))
open Classical in
def ratV (a b c : Int) : Int := sgS (xorP (xorP (a < 0) (b < 0)) (c < 0)) (rnd (absI a * absI b) (absI c))
def mulFPost : List DV → List DV → Prop
  | [.n a, .n b, .n n], [.n r, .n e] => ((n < 0 ∨ 126 < n) ∧ r = 0 ∧ e = 2) ∨ (0 ≤ n ∧ n ≤ 126 ∧ e = 0 ∧ r = mulV a b n)
  | _, _ => False
def sigMulF : Sig := ⟨[.one i64, .one i64, .one i64], [.one i64, .one (ib 0 18)], fun _ => True, mulFPost⟩
def divFPost : List DV → List DV → Prop
  | [.n a, .n b, .n n], [.n r, .n e] => ((n < 0 ∨ 62 < n) ∧ r = 0 ∧ e = 2) ∨ (0 ≤ n ∧ n ≤ 62 ∧ b = 0 ∧ r = 0 ∧ e = 6) ∨ (0 ≤ n ∧ n ≤ 62 ∧ b ≠ 0 ∧ e = 0 ∧ r = divV a b n)
  | _, _ => False
def sigDivF : Sig := ⟨[.one i64, .one i64, .one i64], [.one i64, .one (ib 0 18)], fun _ => True, divFPost⟩
def ratPost : List DV → List DV → Prop
  | [.n a, .n b, .n c], [.n r, .n e] => (c = 0 ∧ r = 0 ∧ e = 6) ∨ (c ≠ 0 ∧ e = 0 ∧ r = ratV a b c)
  | _, _ => False
def sigRatF : Sig := ⟨[.one i64, .one i64, .one i64], [.one i64, .one (ib 0 18)], fun _ => True, ratPost⟩
def sigL4 : Sig := ⟨[.one i64, .one i64, .one i64, .one i64], [.one .b], fun _ => True, fun _ rs => rs = [.b true]⟩
theorem rnd_of {W b Q r : Int} (h : W = Q * b + r) (h0 : 0 ≤ r) (h1 : r < b) : (b ≤ 2 * r → rnd W b = Q + 1) ∧ (¬b ≤ 2 * r → rnd W b = Q) := by
  unfold rnd
  refine ⟨fun k => ?_, fun k => ?_⟩
  · rw [show 2 * W + b = (2 * r - b) + (Q + 1) * (2 * b) by rw [h]; grind, Int.add_mul_ediv_right _ _ (by omega), Int.ediv_eq_zero_of_lt (by omega) (by omega)]; omega
  · rw [show 2 * W + b = (2 * r + b) + Q * (2 * b) by rw [h]; grind, Int.add_mul_ediv_right _ _ (by omega), Int.ediv_eq_zero_of_lt (by omega) (by omega)]; omega
theorem rnd_ge {W b K : Int} (hb : 0 < b) (h : K * b ≤ W) : K ≤ rnd W b := by
  unfold rnd
  refine Int.le_ediv_of_mul_le (by omega) ?_
  have : K * (2 * b) = 2 * (K * b) := by grind
  omega
theorem rnd_nn {W b : Int} (hb : 0 < b) (h : 0 ≤ W) : 0 ≤ rnd W b := Int.ediv_nonneg (by omega) (by omega)
theorem over_up {q b r n s : Int} (hn : n < 18446744073709551616) (hq : 0 ≤ q) (e : q * b + r = n) (hr : 0 ≤ r) (hs0 : 0 ≤ s) (hs : s < b) (hu : b ≤ 2 * s) : q ≤ 9223372036854775808 := by
  have := Int.mul_le_mul_of_nonneg_left (show 2 ≤ b by omega) hq
  omega
theorem q_le {q b r n : Int} (hb : 0 < b) (e : q * b + r = n) (hr : 0 ≤ r) (hq : 0 ≤ q) : q ≤ n := by
  have := Int.mul_le_mul_of_nonneg_left (show 1 ≤ b by omega) hq
  omega
theorem dec_cs (p : Prop) : (p ∧ dec p = true) ∨ (¬p ∧ dec p = false) := by
  rcases Classical.em p with h | h
  · exact .inl ⟨h, dec_iff.2 h⟩
  · exact .inr ⟨h, dec_f.2 h⟩
noncomputable instance xorD (p q : Prop) : Decidable (xorP p q) := Classical.propDecidable _
theorem mul_same {a b n r e r' e' : Int} (h : sigMulF.post [.n a, .n b, .n n] [.n r, .n e]) (k : sigMulF.post [.n a, .n b, .n n] [.n r', .n e']) : r = r' ∧ e = e' := by
  rcases h with ⟨c, h, h'⟩ | ⟨c, d, h, h'⟩ <;> rcases k with ⟨c', k, k'⟩ | ⟨c', d', k, k'⟩
  · exact ⟨by omega, by omega⟩
  · omega
  · omega
  · exact ⟨by rw [h', k'], by omega⟩
theorem div_same {a b n r e r' e' : Int} (h : sigDivF.post [.n a, .n b, .n n] [.n r, .n e]) (k : sigDivF.post [.n a, .n b, .n n] [.n r', .n e']) : r = r' ∧ e = e' := by
  rcases h with ⟨c, h, h'⟩ | ⟨c, d, f, h, h'⟩ | ⟨c, d, f, h, h'⟩ <;> rcases k with ⟨c', k, k'⟩ | ⟨c', d', f', k, k'⟩ | ⟨c', d', f', k, k'⟩ <;> try omega
theorem rat_same {a b n r e r' e' : Int} (h : sigRatF.post [.n a, .n b, .n n] [.n r, .n e]) (k : sigRatF.post [.n a, .n b, .n n] [.n r', .n e']) : r = r' ∧ e = e' := by
  rcases h with ⟨c, h, h'⟩ | ⟨c, h, h'⟩ <;> rcases k with ⟨c', k, k'⟩ | ⟨c', k, k'⟩ <;> try omega
theorem xor_dec {p q : Prop} : (!beqB (dec p) (dec q)) = true ↔ xorP p q := by
  unfold xorP
  rcases dec_cs p with ⟨hp, a⟩ | ⟨hp, a⟩ <;> rcases dec_cs q with ⟨hq, b⟩ | ⟨hq, b⟩ <;> rw [a, b] <;> simp [beqB, bR, hp, hq]
theorem xor_dec3 {p q r : Prop} : (!beqB (!beqB (dec p) (dec q)) (dec r)) = true ↔ xorP (xorP p q) r := by
  unfold xorP
  rcases dec_cs p with ⟨hp, a⟩ | ⟨hp, a⟩ <;> rcases dec_cs q with ⟨hq, b⟩ | ⟨hq, b⟩ <;> rcases dec_cs r with ⟨hr, c⟩ | ⟨hr, c⟩ <;> rw [a, b, c] <;> simp [beqB, bR, hp, hq, hr]
theorem sg_sat {g : Bool} {P : Prop} [Decidable P] {w r : Int} (hg : g = true ↔ P) (h : r = sat (if g then -w else w)) : r = sgS P w := by
  rw [h]; unfold sgS
  by_cases c : P
  · rw [if_pos c, if_pos (hg.2 c)]
  · rw [if_neg c, if_neg (fun k => c (hg.1 k))]
theorem sg_sgn {g o : Bool} {P : Prop} [Decidable P] {m w r : Int} (hg : g = true ↔ P) (h : r = sat (if g then -(if o then 18446744073709551616 else m) else if o then 18446744073709551616 else m)) (h1 : o = true → 18446744073709551616 ≤ w) (h0 : o = false → m = w) : r = sgS P w := by
  rw [h]; unfold sgS
  cases o with
  | false =>
    rw [h0 rfl]
    simp only [Bool.false_eq_true, if_false]
    by_cases c : P
    · rw [if_pos c, if_pos (hg.2 c)]
    · rw [if_neg c, if_neg (fun k => c (hg.1 k))]
  | true =>
    have := h1 rfl
    simp only [if_true]
    by_cases c : P
    · rw [if_pos c, if_pos (hg.2 c)]; unfold sat; omega
    · rw [if_neg c, if_neg (fun k => c (hg.1 k))]; unfold sat; omega
theorem abs_bd (a : Int) (h0 : -9223372036854775808 ≤ a) (h1 : a ≤ 9223372036854775807) : 0 ≤ absI a ∧ absI a ≤ 9223372036854775808 ∧ (a ≠ 0 → 0 < absI a) := by unfold absI; omega
end
end Go.Sp
