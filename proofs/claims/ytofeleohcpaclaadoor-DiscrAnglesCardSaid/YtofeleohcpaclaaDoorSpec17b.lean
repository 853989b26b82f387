import Derived.Test.YtofeleohcpaclaaDoorSpec17
import Derived.Test.YtofeleohcpaclaaDoorSpecAng2
namespace Go.Sp
open Go.Ev
noncomputable section
def sigPick : Sig := ⟨[.one i64, .one (.i .i64 1 4503599627370496)], [.one (.i .i64 0 4503599627370496)], fun _ => True, pickPost⟩
def sumPost : List DV → List DV → Prop
  | [.n _], [.n _, .n _] => True
  | _, _ => False
def sigSum : Sig := ⟨[.one i64], [.agg [ib (-500) 500, ib (-500) 500]], fun _ => True, sumPost⟩
def sigI3 : Sig := ⟨[.one i64, .one i64, .one i64], [.one .b], fun _ => True, fun _ rs => rs = [.b true]⟩
def sigI2 : Sig := ⟨[.one i64, .one i64], [.one .b], fun _ => True, fun _ rs => rs = [.b true]⟩
def okPost (f : Int → Int → Int) : List DV → List DV → Prop
  | [.n x, .n y], [.n r, .b o] => (insd x y → o = true ∧ r = f x y)
  | _, _ => False
def sigFl : Sig := ⟨[.one i64, .one i64], [.one (ib (-2048) 2047), .one .b], fun _ => True, okPost fun x y => cen (fineOf x y) 4096⟩
def sigHl : Sig := ⟨[.one i64, .one i64], [.one (ib (-1024) 1023), .one .b], fun _ => True, okPost fun x y => cen (fineOf x y) 2048⟩
def sigLl : Sig := ⟨[.one i64, .one i64], [.one (ib (-1024) 1024), .one .b], fun _ => True, okPost fun x y => shareOf (x * x - y * y) (powr x y)⟩
theorem share_neg (a b : Int) (h : 0 ≤ b) (g : -b ≤ a) (k : a ≤ b) : shareOf (-a) b = -shareOf a b := by
  unfold shareOf
  by_cases hb : b = 0
  · rw [if_pos hb, if_pos hb]; rfl
  · rw [if_neg hb, if_neg hb]
    rcases Int.lt_trichotomy a 0 with c | c | c
    · rw [if_pos c, if_neg (by omega)]; omega
    · subst c
      rw [if_neg (by omega), Int.neg_zero, if_neg (by omega)]
      have : shN 0 b = 0 := by unfold shN; exact Int.ediv_eq_zero_of_lt (by omega) (by omega)
      rw [this]; rfl
    · rw [if_neg (show ¬ a < 0 by omega), if_pos (show -a < 0 by omega), Int.neg_neg]
theorem share_mul {a b m : Int} (h : 0 < m) : shareOf (m * a) (m * b) = shareOf a b := by
  unfold shareOf
  by_cases hb : b = 0
  · rw [if_pos hb, if_pos (by rw [hb, Int.mul_zero])]
  · rw [if_neg hb, if_neg (fun e => by rcases Int.mul_eq_zero.1 e with e | e <;> omega)]
    have key : ∀ x : Int, shN (m * x) (m * b) = shN x b := fun x => by
      unfold shN
      rw [show 2048 * (m * x) + m * b = m * (2048 * x + b) by grind, show 2 * (m * b) = m * (2 * b) by grind, Int.mul_ediv_mul_of_pos _ _ h]
    by_cases c : a < 0
    · rw [if_pos c, if_pos (Int.mul_neg_of_pos_of_neg h c), ← key, Int.mul_neg]
    · rw [if_neg c, if_neg (by have := Int.mul_nonneg (Int.le_of_lt h) (show 0 ≤ a by omega); omega), key]
theorem share_bd {a b : Int} (h : 0 ≤ b) (g : -b ≤ a) (k : a ≤ b) : -1024 ≤ shareOf a b ∧ shareOf a b ≤ 1024 := by
  unfold shareOf
  split
  · omega
  · split
    · have := shN_bd (a := -a) (b := b) (by omega) (by omega) (by omega); omega
    · have := shN_bd (a := a) (b := b) (by omega) (by omega) (by omega); omega
theorem code_val {a b p q c d r e : Int} (h : sigCode.post [.n a, .n b, .n p, .n q, .n c, .n d] [.n r, .n e]) (i : insd a b) (j : insd p q) (k : insd c d) : e = 0 ∧ r = shareOf (powr a b - powr c d) (powr a b + powr c d) := by
  rcases h with h | h
  · exact absurd ⟨i, j, k⟩ h.1
  · exact h.2
theorem rate_val {a b c d r e : Int} (h : sigRate.post [.n a, .n b, .n c, .n d] [.n r, .n e]) (i : insd a b) (k : insd c d) : e = 0 ∧ r = cen (fineOf (tI a b c d) (tQ a b c d)) 4096 := by
  rcases h with h | h
  · exact absurd ⟨i, k⟩ h.1
  · exact h.2
theorem fl_val {x y r : Int} {o : Bool} (h : sigFl.post [.n x, .n y] [.n r, .b o]) (i : insd x y) : o = true ∧ r = cen (fineOf x y) 4096 := h i
theorem hl_val {x y r : Int} {o : Bool} (h : sigHl.post [.n x, .n y] [.n r, .b o]) (i : insd x y) : o = true ∧ r = cen (fineOf x y) 2048 := h i
theorem ll_val {x y r : Int} {o : Bool} (h : sigLl.post [.n x, .n y] [.n r, .b o]) (i : insd x y) : o = true ∧ r = shareOf (x * x - y * y) (powr x y) := h i
theorem sq_nn (a : Int) : 0 ≤ a * a := by
  rcases Int.le_total 0 a with h | h
  · exact Int.mul_nonneg h h
  · have := Int.mul_nonneg (show 0 ≤ -a by omega) (show 0 ≤ -a by omega); rwa [Int.neg_mul_neg] at this
theorem powr_nn (x y : Int) : 0 ≤ powr x y := by unfold powr; have := sq_nn x; have := sq_nn y; omega
theorem powr_pos {x y : Int} (h : ¬(x = 0 ∧ y = 0)) : 0 < powr x y := by
  unfold powr
  have := sq_nn x; have := sq_nn y
  rcases Classical.em (x = 0) with e | e
  · have : y * y ≠ 0 := fun g => by rcases Int.mul_eq_zero.1 g with g | g <;> omega
    omega
  · have : x * x ≠ 0 := fun g => by rcases Int.mul_eq_zero.1 g with g | g <;> omega
    omega
theorem code_law {a b c d k x y z w : Int} (hk : 0 < k) (h1 : x = shareOf (powr a b - powr c d) (powr a b + powr c d)) (h2 : y = shareOf (powr c d - powr a b) (powr c d + powr a b))
    (h3 : z = shareOf (powr ((0 - k) * a) ((0 - k) * b) - powr (k * c) (k * d)) (powr ((0 - k) * a) ((0 - k) * b) + powr (k * c) (k * d)))
    (h4 : w = shareOf (powr (0 - b) a - powr c (0 - d)) (powr (0 - b) a + powr c (0 - d))) : x = 0 - y ∧ z = x ∧ w = x ∧ -1024 ≤ x ∧ x ≤ 1024 := by
  have n1 := powr_nn a b
  have n2 := powr_nn c d
  have e1 : powr ((0 - k) * a) ((0 - k) * b) = k * k * powr a b := by unfold powr; grind
  have e2 : powr (k * c) (k * d) = k * k * powr c d := by unfold powr; grind
  have e3 : powr (0 - b) a = powr a b := by unfold powr; grind
  have e4 : powr c (0 - d) = powr c d := by unfold powr; grind
  rw [e1, e2, ← Int.mul_sub, ← Int.mul_add, share_mul (Int.mul_pos hk hk)] at h3
  rw [e3, e4] at h4
  rw [show powr c d - powr a b = -(powr a b - powr c d) by omega, Int.add_comm (powr c d), share_neg _ _ (by omega) (by omega) (by omega)] at h2
  have := share_bd (a := powr a b - powr c d) (b := powr a b + powr c d) (by omega) (by omega) (by omega)
  omega
theorem ang_law {x y u v n7 n9 n11 n13 n15 n17 n21 n23 n25 n27 : Int} (h : ¬(x = 0 ∧ y = 0)) (h1 : n7 = cen (fineOf x y) 4096) (h2 : n9 = cen (fineOf (0 - y) x) 4096) (h3 : n11 = cen (fineOf x y) 2048)
    (h4 : n13 = cen (fineOf (0 - x) (0 - y)) 2048) (h5 : n15 = shareOf (x * x - y * y) (powr x y)) (h6 : n17 = shareOf ((0 - y) * (0 - y) - x * x) (powr (0 - y) x))
    (h7 : n21 = cen (fineOf (tI x y x y) (tQ x y x y)) 4096) (h8 : n23 = cen (fineOf (tI x y (0 - y) x) (tQ x y (0 - y) x)) 4096) (h9 : n25 = cen (fineOf (tI x y u v) (tQ x y u v)) 4096)
    (h10 : n27 = cen (fineOf (tI (0 - y) x (0 - v) u) (tQ (0 - y) x (0 - v) u)) 4096) :
    (n9 - n7 - 1024) % 4096 = 0 ∧ n11 = n13 ∧ n15 = 0 - n17 ∧ (n7 - n11) % 2048 = 0 ∧ n21 = 0 ∧ n23 = 1024 ∧ n25 = n27 := by
  have nz : ∀ z : Int, 0 - z = -z := fun z => by omega
  have fb := fineOf_bd x y
  rw [nz, fineOf_q h] at h2
  rw [nz, nz, fineOf_h h] at h4
  have pp := powr_pos h
  have e1 : (0 - y) * (0 - y) - x * x = -(x * x - y * y) := by grind
  have e2 : powr (0 - y) x = powr x y := by unfold powr; grind
  have s1 := sq_nn x
  have s2 := sq_nn y
  rw [e1, e2, share_neg _ _ (by omega) (by unfold powr; omega) (by unfold powr; omega)] at h6
  rw [show tI x y x y = powr x y from rfl, show tQ x y x y = 0 by unfold tQ; rw [Int.mul_comm]; omega, fineOf_re pp] at h7
  rw [show tI x y (0 - y) x = 0 by unfold tI; grind, show tQ x y (0 - y) x = powr x y by unfold tQ powr; grind, fineOf_im pp] at h8
  rw [show tI (0 - y) x (0 - v) u = tI x y u v by unfold tI; grind, show tQ (0 - y) x (0 - v) u = tQ x y u v by unfold tQ; grind] at h10
  unfold cen at *
  omega
end
end Go.Sp
