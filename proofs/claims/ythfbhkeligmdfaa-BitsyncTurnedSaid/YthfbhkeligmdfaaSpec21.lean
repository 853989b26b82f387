import Derived.Test.YthfbhkeligmdfaaSpecC2
namespace Go.Sp
open Go.Ev
def sumL : List Int → Int
  | [] => 0
  | a :: l => a + sumL l
theorem sumL_app {a b : List Int} : sumL (a ++ b) = sumL a + sumL b := by
  induction a with
  | nil => simp [sumL]
  | cons x a ih => simp [sumL, ih]; omega
theorem sumL_take {l : List Int} {i : Int} (h : 0 ≤ i) (g : i < (l.length : Int)) : sumL (l.take (i + 1).toNat) = sumL (l.take i.toNat) + l.getD i.toNat 0 := by
  rw [take_next (d := 0) h g, sumL_app]; simp [sumL]
theorem sumL_nn {l : List Int} (h : ∀ y ∈ l, 0 ≤ y) : 0 ≤ sumL l := by
  induction l with
  | nil => simp [sumL]
  | cons x l ih =>
    have a := h x (by simp)
    have b := ih fun y hy => h y (by simp [hy])
    simp only [sumL]; omega
theorem sumL_take_le {l : List Int} {n : Nat} (h : ∀ y ∈ l, 0 ≤ y) : sumL (l.take n) ≤ sumL l := by
  have e : sumL l = sumL (l.take n) + sumL (l.drop n) := by rw [← sumL_app, List.take_append_drop]
  have := sumL_nn (l := l.drop n) fun y hy => h y (List.mem_of_mem_drop hy)
  omega
theorem sumL_set : ∀ {l : List Int} {i : Nat} {x : Int}, i < l.length → sumL (l.set i x) = sumL l - l.getD i 0 + x
  | [], _, _, h => by cases h
  | y :: l, 0, x, _ => by simp [sumL]; omega
  | y :: l, i + 1, x, h => by
    have := sumL_set (l := l) (i := i) (x := x) (by simpa using h)
    simp only [List.set_cons_succ, sumL, List.getD_cons_succ, this]; omega
theorem sumL_rep {n : Nat} : sumL (List.replicate n 0) = 0 := by
  induction n with
  | zero => rfl
  | succ n ih => simp [List.replicate_succ, sumL, ih]
/-- what stood before an element -/
def prv (a : Int) (xs : List Int) (n : Nat) : Int := if n = 0 then a else xs.getD (n - 1) 0
/-- a change at an element -/
def chg (la lb : Int) (xs ys : List Int) (n : Nat) : Prop := prv la xs n * xs.getD n 0 + prv lb ys n * ys.getD n 0 < 0
instance (la lb : Int) (xs ys : List Int) (n : Nat) : Decidable (chg la lb xs ys n) := inferInstanceAs (Decidable (_ < _))
def bump (c : List Int) (i : Int) : List Int := c.set (i % (c.length : Int)).toNat (c.getD (i % (c.length : Int)).toNat 0 + 1)
def chN (ch : List Int) (seen la lb : Int) (xs ys : List Int) : Nat → List Int
  | 0 => ch
  | n + 1 => if chg la lb xs ys n then bump (chN ch seen la lb xs ys n) (seen + n) else chN ch seen la lb xs ys n
theorem bump_len {c : List Int} {i : Int} : (bump c i).length = c.length := by simp [bump]
theorem chN_len {ch : List Int} {seen la lb : Int} {xs ys : List Int} : ∀ {n : Nat}, (chN ch seen la lb xs ys n).length = ch.length
  | 0 => rfl
  | n + 1 => by
    simp only [chN]; split
    · rw [bump_len, chN_len]
    · exact chN_len
theorem bump_sum {c : List Int} {i : Int} (h : 1 ≤ c.length) : sumL (bump c i) = sumL c + 1 := by
  have h1 := Int.emod_nonneg i (b := (c.length : Int)) (by omega)
  have h2 := Int.emod_lt_of_pos i (b := (c.length : Int)) (by omega)
  rw [bump, sumL_set (by omega)]; omega
noncomputable def cngN (la lb : Int) (xs ys : List Int) (n : Nat) : Int := cntN (chg la lb xs ys) n
theorem chN_sum {ch : List Int} {seen la lb : Int} {xs ys : List Int} (h : 1 ≤ ch.length) : ∀ {n : Nat}, sumL (chN ch seen la lb xs ys n) = sumL ch + cngN la lb xs ys n
  | 0 => by simp [chN, cngN, cntN]
  | n + 1 => by
    have ih := chN_sum (seen := seen) (la := la) (lb := lb) (xs := xs) (ys := ys) h (n := n)
    unfold cngN at ih ⊢
    simp only [chN]
    by_cases c : chg la lb xs ys n
    · rw [if_pos c, bump_sum (by rw [chN_len]; exact h), ih, cntN_yes c]; omega
    · rw [if_neg c, ih, cntN_no c]
theorem bump_nn {c : List Int} {i : Int} (h : ∀ y ∈ c, 0 ≤ y) : ∀ y ∈ bump c i, 0 ≤ y := fun y hy => by
  rcases List.mem_or_eq_of_mem_set hy with g | g
  · exact h y g
  · rw [g]
    rcases Nat.lt_or_ge (i % (c.length : Int)).toNat c.length with k | k
    · rw [List.getD_eq_getElem?_getD, List.getElem?_eq_getElem k]
      have := h _ (List.getElem_mem k)
      simp only [Option.getD_some]; omega
    · rw [List.getD_eq_getElem?_getD, List.getElem?_eq_none k]; decide
theorem chN_nn {ch : List Int} {seen la lb : Int} {xs ys : List Int} (h : ∀ y ∈ ch, 0 ≤ y) : ∀ {n : Nat}, ∀ y ∈ chN ch seen la lb xs ys n, 0 ≤ y
  | 0 => h
  | n + 1 => by
    simp only [chN]; split
    · exact bump_nn (chN_nn h)
    · exact chN_nn h
theorem mem_le_sum : ∀ {l : List Int}, (∀ y ∈ l, 0 ≤ y) → ∀ y ∈ l, y ≤ sumL l
  | x :: l, h, y, hy => by
    have a := h x (by simp)
    have b := sumL_nn (l := l) fun z hz => h z (by simp [hz])
    rcases List.mem_cons.1 hy with rfl | hy
    · simp only [sumL]; omega
    · have := mem_le_sum (l := l) (fun z hz => h z (by simp [hz])) y hy
      simp only [sumL]; omega
theorem prv_app1 {a : Int} {xs zs : List Int} {n : Nat} (h : n < xs.length) : prv a (xs ++ zs) n = prv a xs n := by
  unfold prv; split
  · rfl
  · rw [getD_app1 (by omega)]
theorem getD_app2 {xs zs : List Int} {n : Nat} : (xs ++ zs).getD (xs.length + n) 0 = zs.getD n 0 := by
  simp [List.getD_eq_getElem?_getD, List.getElem?_append_right]
theorem prv_app2 {a : Int} {xs zs : List Int} {n : Nat} : prv a (xs ++ zs) (xs.length + n) = prv (prv a xs xs.length) zs n := by
  unfold prv
  by_cases h : n = 0
  · subst h
    by_cases g : xs.length = 0
    · simp [g]
    · rw [if_neg (by omega), if_pos rfl, if_neg g, Nat.add_zero, getD_app1 (by omega)]
  · rw [if_neg (by omega), if_neg h, show xs.length + n - 1 = xs.length + (n - 1) by omega, getD_app2]
theorem chN_app1 {ch : List Int} {seen la lb : Int} {xs ys zs ws : List Int} (hl : ys.length = xs.length) : ∀ {n : Nat}, n ≤ xs.length → chN ch seen la lb (xs ++ zs) (ys ++ ws) n = chN ch seen la lb xs ys n
  | 0, _ => rfl
  | n + 1, h => by
    have ih := chN_app1 (ch := ch) (seen := seen) (la := la) (lb := lb) (zs := zs) (ws := ws) hl (n := n) (by omega)
    have e : chg la lb (xs ++ zs) (ys ++ ws) n ↔ chg la lb xs ys n := by
      unfold chg; rw [prv_app1 (by omega), prv_app1 (by omega), getD_app1 (by omega), getD_app1 (by omega)]
    simp only [chN, ih]
    by_cases c : chg la lb xs ys n
    · rw [if_pos c, if_pos (e.2 c)]
    · rw [if_neg c, if_neg (fun g => c (e.1 g))]
theorem chN_app2 {ch : List Int} {seen la lb : Int} {xs ys zs ws : List Int} (hl : ys.length = xs.length) : ∀ {n : Nat}, chN ch seen la lb (xs ++ zs) (ys ++ ws) (xs.length + n) = chN (chN ch seen la lb xs ys xs.length) (seen + xs.length) (prv la xs xs.length) (prv lb ys ys.length) zs ws n
  | 0 => by rw [Nat.add_zero, chN_app1 hl (Nat.le_refl _)]; rfl
  | n + 1 => by
    have ih := chN_app2 (ch := ch) (seen := seen) (la := la) (lb := lb) (zs := zs) (ws := ws) hl (n := n)
    have e : chg la lb (xs ++ zs) (ys ++ ws) (xs.length + n) ↔ chg (prv la xs xs.length) (prv lb ys ys.length) zs ws n := by
      unfold chg; rw [prv_app2, getD_app2]; rw [show xs.length + n = ys.length + n by omega, prv_app2, getD_app2]
    rw [← Nat.add_assoc]
    simp only [chN, ih]
    by_cases c : chg (prv la xs xs.length) (prv lb ys ys.length) zs ws n
    · rw [if_pos c, if_pos (e.2 c)]; congr 1; omega
    · rw [if_neg c, if_neg (fun g => c (e.1 g))]
end Go.Sp
