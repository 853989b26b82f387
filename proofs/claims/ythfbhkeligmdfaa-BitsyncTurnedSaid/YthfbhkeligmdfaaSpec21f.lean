import Derived.Test.YthfbhkeligmdfaaSpec21d
namespace Go.Sp
open Go.Ev
def cA : CX := .l [.i .i64 (-100) 100, .i .i64 (-100) 100] 60
def cTn : CX := .l [.i .i64 (-1000) 1000, .i .i64 (-1000) 1000] 60
def turnInv : List DV → List DV → Prop
  | [.l x, .l y, .n f], [.n i, .l bx, .l b, .l cx, .l c] => 0 ≤ i ∧ i ≤ (x.length : Int) ∧ (bx.length : Int) = i ∧ (cx.length : Int) = i ∧ (∀ j : Nat, j < bx.length → bx.getD j 0 = -(y.getD j 0)) ∧ (∀ j : Nat, j < bx.length → b.getD j 0 = x.getD j 0) ∧ (∀ j : Nat, j < cx.length → cx.getD j 0 = -f * x.getD j 0) ∧ ∀ j : Nat, j < cx.length → c.getD j 0 = -f * y.getD j 0
  | _, _ => False
noncomputable section
def turnL : LSpec := ⟨[0, 1, 2, 9, 10], [(.tmp 13, ib 0 60), (.tmp 11, cTn), (.tmp 12, cTn)], [(.tmp 10, cA), (.tmp 2, ib 1 9)], turnInv, mea1, 60⟩
end
theorem getD_over {l : List Int} {j : Nat} (h : l.length ≤ j) : l.getD j 0 = 0 := by rw [List.getD_eq_getElem?_getD, List.getElem?_eq_none h]; rfl
theorem all_neg {b y : List Int} (h : b.length = y.length) (g : ∀ j : Nat, j < b.length → b.getD j 0 = -(y.getD j 0)) (j : Nat) : b.getD j 0 = -(y.getD j 0) := by
  rcases Nat.lt_or_ge j b.length with c | c
  · exact g j c
  · rw [getD_over c, getD_over (by omega)]; rfl
theorem all_same {b y : List Int} (h : b.length = y.length) (g : ∀ j : Nat, j < b.length → b.getD j 0 = y.getD j 0) (j : Nat) : b.getD j 0 = y.getD j 0 := by
  rcases Nat.lt_or_ge j b.length with c | c
  · exact g j c
  · rw [getD_over c, getD_over (by omega)]
theorem all_mul {b y : List Int} {f : Int} (h : b.length = y.length) (g : ∀ j : Nat, j < b.length → b.getD j 0 = -f * y.getD j 0) (j : Nat) : b.getD j 0 = -f * y.getD j 0 := by
  rcases Nat.lt_or_ge j b.length with c | c
  · exact g j c
  · rw [getD_over c, getD_over (by omega), Int.mul_zero]
theorem sgn_turn {a b c d : Int} : -b * -d + a * c < 0 ↔ a * c + b * d < 0 := by rw [Int.neg_mul_neg]; omega
theorem sgn_mul {a b c d f : Int} (h : 1 ≤ f) : -f * a * (-f * c) + -f * b * (-f * d) < 0 ↔ a * c + b * d < 0 := by
  have e : -f * a * (-f * c) + -f * b * (-f * d) = f * f * (a * c + b * d) := by grind
  have p : 0 < f * f := Int.mul_pos (by omega) (by omega)
  rw [e]
  constructor
  · intro g
    rcases Int.lt_or_le (a * c + b * d) 0 with k | k
    · exact k
    · have := Int.mul_nonneg (Int.le_of_lt p) k; omega
  · intro g; exact Int.mul_neg_of_pos_of_neg p g
theorem prv_neg {b y : List Int} (h : ∀ j : Nat, b.getD j 0 = -(y.getD j 0)) (n : Nat) : prv 0 b n = -(prv 0 y n) := by unfold prv; split; rfl; exact h _
theorem prv_same {b y : List Int} (h : ∀ j : Nat, b.getD j 0 = y.getD j 0) (n : Nat) : prv 0 b n = prv 0 y n := by unfold prv; split; rfl; exact h _
theorem prv_mul {b y : List Int} {f : Int} (h : ∀ j : Nat, b.getD j 0 = -f * y.getD j 0) (n : Nat) : prv 0 b n = -f * prv 0 y n := by unfold prv; split; rw [Int.mul_zero]; exact h _
theorem chN_congr {ch : List Int} {seen : Int} {xs ys us vs : List Int} (h : ∀ n, chg 0 0 xs ys n ↔ chg 0 0 us vs n) : ∀ {n : Nat}, chN ch seen 0 0 xs ys n = chN ch seen 0 0 us vs n
  | 0 => rfl
  | n + 1 => by
    simp only [chN]; rw [chN_congr h]
    by_cases c : chg 0 0 xs ys n
    · rw [if_pos c, if_pos ((h n).1 c)]
    · rw [if_neg c, if_neg (fun g => c ((h n).2 g))]
theorem chg_turn {x y bx b : List Int} (h1 : ∀ j : Nat, bx.getD j 0 = -(y.getD j 0)) (h2 : ∀ j : Nat, b.getD j 0 = x.getD j 0) (n : Nat) : chg 0 0 bx b n ↔ chg 0 0 x y n := by
  unfold chg; rw [prv_neg h1, prv_same h2, h1, h2]; exact sgn_turn
theorem chg_mul {x y cx c : List Int} {f : Int} (hf : 1 ≤ f) (h1 : ∀ j : Nat, cx.getD j 0 = -f * x.getD j 0) (h2 : ∀ j : Nat, c.getD j 0 = -f * y.getD j 0) (n : Nat) : chg 0 0 cx c n ↔ chg 0 0 x y n := by
  unfold chg; rw [prv_mul h1, prv_mul h2, h1, h2]; exact sgn_mul hf
theorem sumS_neg {b y : List Int} (h : ∀ j : Nat, b.getD j 0 = -(y.getD j 0)) {s : Int} : ∀ {n : Nat}, sumS b s n = -sumS y s n
  | 0 => rfl
  | n + 1 => by simp only [sumS]; rw [sumS_neg h, h]; omega
theorem sumS_same {b y : List Int} (h : ∀ j : Nat, b.getD j 0 = y.getD j 0) {s : Int} : ∀ {n : Nat}, sumS b s n = sumS y s n
  | 0 => rfl
  | n + 1 => by simp only [sumS]; rw [sumS_same h, h]
theorem sumS_mul {b y : List Int} {f : Int} (h : ∀ j : Nat, b.getD j 0 = -f * y.getD j 0) {s : Int} : ∀ {n : Nat}, sumS b s n = -f * sumS y s n
  | 0 => by simp [sumS]
  | n + 1 => by simp only [sumS]; rw [sumS_mul h, h, Int.mul_add]
theorem valL_all {b y : List Int} {pb a : Int} {g : Int → Int} (g0 : g 0 = 0) (hl : b.length = y.length) (h : ∀ (s : Int) (n : Nat), sumS b s n = g (sumS y s n)) (j : Nat) : (valL b pb a).getD j 0 = g ((valL y pb a).getD j 0) := by
  have e : valN b pb a = valN y pb a := by unfold valN; rw [hl]
  rcases Nat.lt_or_ge j (valN y pb a).toNat with c | c
  · rw [valL_get (by rw [e]; exact c), valL_get c, h]
  · rw [getD_over (by rw [valL_len, e]; exact c), getD_over (by rw [valL_len]; exact c), g0]
theorem bitF_congr {u v u' v' : List Int} (h : ∀ n : Nat, u.getD n 0 * u.getD (n + 1) 0 + v.getD n 0 * v.getD (n + 1) 0 < 0 ↔ u'.getD n 0 * u'.getD (n + 1) 0 + v'.getD n 0 * v'.getD (n + 1) 0 < 0) : ∀ {n : Nat}, bitF u v n = bitF u' v' n
  | 0 => rfl
  | n + 1 => by
    simp only [bitF]; rw [bitF_congr h]
    by_cases c : u.getD n 0 * u.getD (n + 1) 0 + v.getD n 0 * v.getD (n + 1) 0 < 0
    · rw [if_pos c, if_pos ((h n).1 c)]
    · rw [if_neg c, if_neg (fun g => c ((h n).2 g))]
theorem bitsL_congr {u v u' v' : List Int} (hl : u.length = u'.length) (h : ∀ n : Nat, u.getD n 0 * u.getD (n + 1) 0 + v.getD n 0 * v.getD (n + 1) 0 < 0 ↔ u'.getD n 0 * u'.getD (n + 1) 0 + v'.getD n 0 * v'.getD (n + 1) 0 < 0) : bitsL u v = bitsL u' v' := by
  unfold bitsL; rw [hl]; exact List.map_congr_left fun n _ => bitF_congr h
theorem bits_turn {x y bx b : List Int} {pb a : Int} (hl : bx.length = x.length) (hy : y.length = x.length) (hb : b.length = bx.length) (h1 : ∀ j : Nat, bx.getD j 0 = -(y.getD j 0)) (h2 : ∀ j : Nat, b.getD j 0 = x.getD j 0) : bitsL (valL bx pb a) (valL b pb a) = bitsL (valL x pb a) (valL y pb a) := by
  refine bitsL_congr (by rw [valL_len, valL_len]; unfold valN; rw [hl]) fun n => ?_
  have e1 := valL_all (b := bx) (y := y) (pb := pb) (a := a) (g := fun z => -z) rfl (by omega) fun s n => sumS_neg h1
  have e2 := valL_all (b := b) (y := x) (pb := pb) (a := a) (g := fun z => z) rfl (by omega) fun s n => sumS_same h2
  rw [e1, e1, e2, e2]; exact sgn_turn
theorem bits_mul {x y cx c : List Int} {pb a f : Int} (hf : 1 ≤ f) (hl : cx.length = x.length) (hy : y.length = x.length) (hb : c.length = cx.length) (h1 : ∀ j : Nat, cx.getD j 0 = -f * x.getD j 0) (h2 : ∀ j : Nat, c.getD j 0 = -f * y.getD j 0) : bitsL (valL cx pb a) (valL c pb a) = bitsL (valL x pb a) (valL y pb a) := by
  refine bitsL_congr (by rw [valL_len, valL_len]; unfold valN; rw [hl]) fun n => ?_
  have e1 := valL_all (b := cx) (y := x) (pb := pb) (a := a) (g := fun z => -f * z) (Int.mul_zero _) (by omega) fun s n => sumS_mul h1
  have e2 := valL_all (b := c) (y := y) (pb := pb) (a := a) (g := fun z => -f * z) (Int.mul_zero _) (by omega) fun s n => sumS_mul h2
  rw [e1, e1, e2, e2]; exact sgn_mul hf
theorem good_small {x y : List Int} {pb a m : Int} (hm : m ≤ 1048576) (h : 1 ≤ pb ∧ pb ≤ 20 ∧ 0 ≤ a ∧ a < pb) (hx : ∀ z ∈ x, -m ≤ z ∧ z ≤ m) (hy : ∀ z ∈ y, -m ≤ z ∧ z ≤ m) (h0 : 0 ≤ m) : ¬badV x y pb a := fun g => g.elim (fun g => g h) fun g => g fun j _ => by
  have a := getD_bd (i := j) hx (by omega) (by omega)
  have b := getD_bd (i := j) hy (by omega) (by omega)
  omega
theorem read_good {x y b : List Int} {pb a e : Int} (g : ¬badV x y pb a) (h : readR x y pb a b e) : ((x.length : Int) < a + pb ∧ b = [] ∧ e = 16) ∨ (a + pb ≤ (x.length : Int) ∧ b = bitsL (valL x pb a) (valL y pb a) ∧ e = 0) := by
  rcases h with ⟨h1, _⟩ | ⟨_, h⟩ | ⟨_, h⟩
  · exact absurd h1 g
  · exact .inl h
  · exact .inr h
def sigTurned : Sig := ⟨[.one i64, .one i64, .one i64, .one (cIn 9223372036854775807)], [.one .b], fun _ => True, fun _ rs => rs = [.b true]⟩
theorem mul9 {f v : Int} (h : 1 ≤ f) (h' : f ≤ 9) (g : -100 ≤ v ∧ v ≤ 100) : -900 ≤ (0 - f) * v ∧ (0 - f) * v ≤ 900 := by
  rcases (by omega : f = 1 ∨ f = 2 ∨ f = 3 ∨ f = 4 ∨ f = 5 ∨ f = 6 ∨ f = 7 ∨ f = 8 ∨ f = 9) with rfl | rfl | rfl | rfl | rfl | rfl | rfl | rfl | rfl <;> omega
end Go.Sp
