import Derived.Test.YtpmlodchbgfmeaaSpecC2
import Derived.Test.YtpmlodchbgfmeaaEvSS
namespace Go.Sp
open Go.Ev
/-- the next bit of a register: the sum of the bits at the taps -/
def nxt (taps : List Nat) (s : List Int) : Int := (taps.map fun t => s.getD t 0).foldl (fun a b => (a + b) % 2) 0
/-- k bits of a register -/
def seqL (taps : List Nat) : Nat → List Int → List Int
  | 0, _ => []
  | k + 1, s => s.getD 0 0 :: seqL taps k (s.drop 1 ++ [nxt taps s])
def tapsN (d w : Int) : List Nat := if d = 5 then (if w = 1 then [0, 2] else [0, 2, 3, 4]) else if d = 6 then (if w = 1 then [0, 1] else [0, 1, 2, 5]) else if d = 7 then (if w = 1 then [0, 3] else [0, 1, 2, 3]) else if d = 9 then (if w = 1 then [0, 4] else [0, 3, 4, 6]) else (if w = 1 then [0, 3] else [0, 2, 3, 8])
def okD (d : Int) : Prop := d = 5 ∨ d = 6 ∨ d = 7 ∨ d = 9 ∨ d = 10
instance (d : Int) : Decidable (okD d) := inferInstanceAs (Decidable (_ ∨ _))
def nG (d : Int) : Int := if d = 5 then 31 else if d = 6 then 63 else if d = 7 then 127 else if d = 9 then 511 else 1023
def bitsL (d w : Int) : List Int := seqL (tapsN d w) (nG d).toNat (List.replicate d.toNat 1)
def bitsPost : List DV → List DV → Prop
  | [.n d, .n w], [.l l, .n e] => if okD d ∧ (w = 1 ∨ w = 2) then e = 0 ∧ l = bitsL d w else e = 2 ∧ l = []
  | _, _ => False
def cB : CX := .l [.i .i64 0 1] 1100
def cCh : CX := .l [.i .i64 (-1) 1] 1100
def cTp : CX := .l [.i .i64 0 9] 4
def iR (a b : Int) : VK := .one (.i .i64 a b)
def sigBitsR (a b c d : Int) : Sig := ⟨[iR a b, iR c d], [.one cB, .one (ib 0 18)], fun _ => True, bitsPost⟩
def sigBits : Sig := sigBitsR (-9223372036854775808) 9223372036854775807 (-9223372036854775808) 9223372036854775807
def tapsPost : List DV → List DV → Prop
  | [.n d, .n w], [.l l, .n e] => if okD d ∧ (w = 1 ∨ w = 2) then e = 0 ∧ l = (tapsN d w).map Int.ofNat else e = 2 ∧ l = []
  | _, _ => False
def sigTapsR (a b c d : Int) : Sig := ⟨[iR a b, iR c d], [.one cTp, .one (ib 0 18)], fun _ => True, tapsPost⟩
def sigTaps : Sig := sigTapsR (-9223372036854775808) 9223372036854775807 (-9223372036854775808) 9223372036854775807
def lenPost : List DV → List DV → Prop
  | [.n d], [.n n, .n e] => if okD d then e = 0 ∧ n = nG d else e = 2 ∧ n = 0
  | _, _ => False
def sigLenR (a b : Int) : Sig := ⟨[iR a b], [.one (ib 0 1023), .one (ib 0 18)], fun _ => True, lenPost⟩
def sigLen : Sig := sigLenR (-9223372036854775808) 9223372036854775807
theorem all09 {l : List Int} (h : l.all (fun y => decide (0 ≤ y ∧ y ≤ 9)) = true) : ∀ y, y ∈ l → 0 ≤ y ∧ y ≤ 9 := fun y hy => of_decide_eq_true (List.all_eq_true.1 h y hy)
theorem all01 {l : List Int} (h : l.all (fun y => decide (0 ≤ y ∧ y ≤ 1)) = true) : ∀ y, y ∈ l → 0 ≤ y ∧ y ≤ 1 := fun y hy => of_decide_eq_true (List.all_eq_true.1 h y hy)
theorem bits_len {d w : Int} (h : okD d) (g : w = 1 ∨ w = 2) : ((bitsL d w).length : Int) = nG d := by
  rcases h with rfl | rfl | rfl | rfl | rfl <;> rcases g with rfl | rfl <;> decide +kernel
theorem bits_01 {d w : Int} (h : okD d) (g : w = 1 ∨ w = 2) : ∀ y, y ∈ bitsL d w → 0 ≤ y ∧ y ≤ 1 := by
  apply all01
  rcases h with rfl | rfl | rfl | rfl | rfl <;> rcases g with rfl | rfl <;> decide +kernel
/-- rectangles of the first two arguments that cover a whole -/
theorem fn_cover {P : Program} {f : Nat} {gl : List (Nat × List EV)} {lo hi lo' hi' : Int} {rest res : List VK} {pre : List DV → Prop} {post : List DV → List DV → Prop} (q : List (Int × Int × Int × Int))
    (hc : ∀ x y : Int, lo ≤ x → x ≤ hi → lo' ≤ y → y ≤ hi' → ∃ t ∈ q, t.1 ≤ x ∧ x ≤ t.2.1 ∧ t.2.2.1 ≤ y ∧ y ≤ t.2.2.2)
    (F : ∀ t ∈ q, FnOk P f ⟨.one (.i .i64 t.1 t.2.1) :: .one (.i .i64 t.2.2.1 t.2.2.2) :: rest, res, pre, post⟩ gl) : FnOk P f ⟨.one (.i .i64 lo hi) :: .one (.i .i64 lo' hi') :: rest, res, pre, post⟩ gl := fn_join fun dss hs hp => by
  have hs : ShapeVKs (.one (.i .i64 lo hi) :: .one (.i .i64 lo' hi') :: rest) dss := hs
  cases hs with
  | cons h1 h2 =>
    obtain ⟨⟨x, rfl, b1, b2⟩, h3⟩ := h1
    cases h2 with
    | cons h4 h5 =>
      obtain ⟨⟨y, rfl, c1, c2⟩, h6⟩ := h4
      obtain ⟨t, ht, k1, k2, k3, k4⟩ := hc x y b1 b2 c1 c2
      exact ⟨_, F t ht, rfl, ⟨rfl, rfl, sxVs_refl h5⟩, .cons ⟨⟨x, rfl, k1, k2⟩, by simp⟩ (.cons ⟨⟨y, rfl, k3, k4⟩, by simp⟩ h5), hp, fun _ h => h⟩
theorem fn_cover1 {P : Program} {f : Nat} {gl : List (Nat × List EV)} {lo hi : Int} {rest res : List VK} {pre : List DV → Prop} {post : List DV → List DV → Prop} (q : List (Int × Int))
    (hc : ∀ x : Int, lo ≤ x → x ≤ hi → ∃ t ∈ q, t.1 ≤ x ∧ x ≤ t.2)
    (F : ∀ t ∈ q, FnOk P f ⟨.one (.i .i64 t.1 t.2) :: rest, res, pre, post⟩ gl) : FnOk P f ⟨.one (.i .i64 lo hi) :: rest, res, pre, post⟩ gl := fn_join fun dss hs hp => by
  have hs : ShapeVKs (.one (.i .i64 lo hi) :: rest) dss := hs
  cases hs with
  | cons h1 h2 =>
    obtain ⟨⟨x, rfl, b1, b2⟩, h3⟩ := h1
    obtain ⟨t, ht, k1, k2⟩ := hc x b1 b2
    exact ⟨_, F t ht, rfl, ⟨rfl, sxVs_refl h2⟩, .cons ⟨⟨x, rfl, k1, k2⟩, by simp⟩ h2, hp, fun _ h => h⟩
def covD : List (Int × Int) := [(5, 5), (6, 6), (7, 7), (9, 9), (10, 10), (-9223372036854775808, 4), (8, 8), (11, 9223372036854775807)]
theorem covD_ok : ∀ x : Int, -9223372036854775808 ≤ x → x ≤ 9223372036854775807 → ∃ t ∈ covD, t.1 ≤ x ∧ x ≤ t.2 := by
  intro x h1 h2
  simp only [covD, List.mem_cons, List.not_mem_nil, or_false, exists_eq_or_imp, exists_eq_left]
  omega
def covG : List (Int × Int × Int × Int) :=
  let m : Int := -9223372036854775808
  let M : Int := 9223372036854775807
  [(5, 5, 1, 1), (5, 5, 2, 2), (6, 6, 1, 1), (6, 6, 2, 2), (7, 7, 1, 1), (7, 7, 2, 2), (9, 9, 1, 1), (9, 9, 2, 2), (10, 10, 1, 1), (10, 10, 2, 2), (m, 4, m, M), (8, 8, m, M), (11, M, m, M), (5, 10, m, 0), (5, 10, 3, M)]
theorem covG_ok : ∀ x y : Int, -9223372036854775808 ≤ x → x ≤ 9223372036854775807 → -9223372036854775808 ≤ y → y ≤ 9223372036854775807 → ∃ t ∈ covG, t.1 ≤ x ∧ x ≤ t.2.1 ∧ t.2.2.1 ≤ y ∧ y ≤ t.2.2.2 := by
  intro x y h1 h2 h3 h4
  simp only [covG, List.mem_cons, List.not_mem_nil, or_false, exists_eq_or_imp, exists_eq_left]
  omega
/-- a bit of a code -/
def chipB (u v : List Int) (p : Int) (j : Nat) : Int := if p = 1 then u.getD j 0 else if p = 2 then v.getD j 0 else (u.getD j 0 + v.getD (((j : Int) + p - 3) % (v.length : Int)).toNat 0) % 2
def chips (u v : List Int) (p : Int) : List Int := (List.range u.length).map fun j => 1 - 2 * chipB u v p j
theorem chips_len {u v : List Int} {p : Int} : (chips u v p).length = u.length := by simp [chips]
theorem chips_get {u v : List Int} {p : Int} {j : Nat} (h : j < u.length) : (chips u v p).getD j 0 = 1 - 2 * chipB u v p j := by
  simp [chips, List.getD_eq_getElem?_getD, h]
theorem chips_of {u v c : List Int} {p : Int} (h : c.length = u.length) (g : ∀ j : Nat, (j : Int) < (u.length : Int) → c.getD j 0 = 1 - 2 * chipB u v p j) : c = chips u v p :=
  eq_of_getD (d := 0) (by rw [h, chips_len]) fun j hj => by rw [chips_get (by omega), g j (by omega)]
theorem xor_bit {a b : Int} (h : 0 ≤ a) (h' : a ≤ 1) (g : 0 ≤ b) (g' : b ≤ 1) : opI (.xor .i64) a b = (a + b) % 2 := by
  rcases (by omega : a = 0 ∨ a = 1) with rfl | rfl <;> rcases (by omega : b = 0 ∨ b = 1) with rfl | rfl <;> decide
def codeFPost : List DV → List DV → Prop
  | [.l u, .l v, .n p], [.l c] => c = chips u v p
  | _, _ => False
def codeFPre : List DV → Prop
  | [.l u, .l v, .n p] => v.length = u.length ∧ p ≤ (u.length : Int) + 2
  | _ => False
def sigCodeF : Sig := ⟨[.one cB, .one cB, .one (ib 1 1100)], [.one cCh], codeFPre, codeFPost⟩
def codeFInv : List DV → List DV → Prop
  | [.l u, .l v, .n p], [.n i, .l c] => 0 ≤ i ∧ i ≤ (u.length : Int) ∧ c.length = u.length ∧ ∀ j : Nat, (j : Int) < i → c.getD j 0 = 1 - 2 * chipB u v p j
  | _, _ => False
def meaC : List DV → List DV → Nat
  | .l u :: _, .n i :: _ => ((u.length : Int) - i).toNat
  | _, _ => 0
def codeL (d p : Int) : List Int := chips (bitsL d 1) (bitsL d 2) p
def codePost : List DV → List DV → Prop
  | [.n d, .n p], [.l c, .n e] => if okD d ∧ 1 ≤ p ∧ p ≤ nG d + 2 then e = 0 ∧ c = codeL d p else e = 2 ∧ c = []
  | _, _ => False
def sigCode : Sig := ⟨[.one i64, .one i64], [.one cCh, .one (ib 0 18)], fun _ => True, codePost⟩
theorem bits_get {d w : Int} (h : okD d) (g : w = 1 ∨ w = 2) (j : Nat) : 0 ≤ (bitsL d w).getD j 0 ∧ (bitsL d w).getD j 0 ≤ 1 := getD_bd (bits_01 h g) (by omega) (by omega)
def sumL : List Int → Int
  | [] => 0
  | a :: l => a + sumL l
theorem sumL_app {a b : List Int} : sumL (a ++ b) = sumL a + sumL b := by
  induction a with
  | nil => simp [sumL]
  | cons x a ih => simp [sumL, ih]; omega
theorem sumL_take {l : List Int} {i : Int} (h : 0 ≤ i) (g : i < (l.length : Int)) : sumL (l.take (i + 1).toNat) = sumL (l.take i.toNat) + l.getD i.toNat 0 := by
  rw [take_next (d := 0) h g, sumL_app]; simp [sumL]
theorem sumL_bd {l : List Int} {m : Int} (h : ∀ y, y ∈ l → -m ≤ y ∧ y ≤ m) : -(m * l.length) ≤ sumL l ∧ sumL l ≤ m * l.length := by
  induction l with
  | nil => simp [sumL]
  | cons x l ih =>
    have a := h x (by simp)
    have b := ih fun y hy => h y (by simp [hy])
    simp only [sumL, List.length_cons] at b ⊢
    have e : m * ((l.length : Int) + 1) = m * l.length + m := by grind
    rw [show (((l.length + 1 : Nat) : Int)) = (l.length : Int) + 1 by omega]
    omega
def sumPost : List DV → List DV → Prop
  | [.n d, .n p], [.n s, .n e] => if okD d ∧ 1 ≤ p ∧ p ≤ nG d + 2 then e = 0 ∧ s = sumL (codeL d p) else e = 2 ∧ s = 0
  | _, _ => False
def sigSum : Sig := ⟨[.one i64, .one i64], [.one (ib (-1100) 1100), .one (ib 0 18)], fun _ => True, sumPost⟩
def sumInv : List DV → List DV → Prop
  | [.l c], [.n i, .n s] => 0 ≤ i ∧ i ≤ (c.length : Int) ∧ s = sumL (c.take i.toNat)
  | _, _ => False
def equGP : List DV → List DV → Prop
  | [.l a, .l b], [.b r] => (r = true ↔ a = b)
  | _, _ => False
def cW : CX := .l [.i .i64 (-9223372036854775808) 9223372036854775807] 1100
def sigEquG : Sig := ⟨[.one cW, .one cW], [.one .b], fun _ => True, equGP⟩
def equGInv : List DV → List DV → Prop
  | [.l a, .l b], [.n i] => 0 ≤ i ∧ a.length = b.length ∧ i ≤ (a.length : Int) ∧ ∀ j : Nat, (j : Int) < i → a.getD j 0 = b.getD j 0
  | _, _ => False
theorem equG_of {a b : List Int} {i : Int} (h : a.length = b.length) (k : ¬i < (a.length : Int)) (g : ∀ j : Nat, (j : Int) < i → a.getD j 0 = b.getD j 0) : a = b :=
  eq_of_getD (d := 0) h fun j hj => g j (by omega)

theorem chips_bd {u v : List Int} {p : Int} (hu : ∀ y ∈ u, 0 ≤ y ∧ y ≤ 1) (hv : ∀ y ∈ v, 0 ≤ y ∧ y ≤ 1) : ∀ y ∈ chips u v p, -1 ≤ y ∧ y ≤ 1 := fun y hy => by
  obtain ⟨j, _, rfl⟩ := List.mem_map.1 hy
  have b1 := getD_bd (i := j) hu (by omega) (by omega)
  have b2 := getD_bd (i := j) hv (by omega) (by omega)
  unfold chipB
  repeat' split
  all_goals omega
theorem sumL_t {l : List Int} {n : Nat} (h : ∀ y, y ∈ l → -1 ≤ y ∧ y ≤ 1) (hl : l.length ≤ 1100) : -1100 ≤ sumL (l.take n) ∧ sumL (l.take n) ≤ 1100 := by
  have := sumL_bd (m := 1) (take_bd (n := n) h)
  have e : (l.take n).length ≤ 1100 := by rw [List.length_take]; omega
  omega
theorem ite_no {c : Prop} [Decidable c] {p q : Prop} (h : ¬c) (g : q) : if c then p else q := by rw [if_neg h]; exact g
theorem ite_yes {c : Prop} [Decidable c] {p q : Prop} (h : c) (g : p) : if c then p else q := by rw [if_pos h]; exact g
theorem ite_fun {α : Type} {c : Prop} [Decidable c] {e f k : Int} {x y u v : α} (h : if c then e = 0 ∧ x = u else e = k ∧ x = v) (g : if c then f = 0 ∧ y = u else f = k ∧ y = v) : x = y ∧ e = f := by
  by_cases h0 : c
  · rw [if_pos h0] at h g; exact ⟨h.2.trans g.2.symm, by omega⟩
  · rw [if_neg h0] at h g; exact ⟨h.2.trans g.2.symm, by omega⟩
theorem ite_case {α : Type} {c : Prop} [Decidable c] {e k : Int} {x u v : α} (h : if c then e = 0 ∧ x = u else e = k ∧ x = v) : (c ∧ e = 0 ∧ x = u) ∨ (¬c ∧ e = k ∧ x = v) := by
  by_cases h0 : c
  · rw [if_pos h0] at h; exact .inl ⟨h0, h⟩
  · rw [if_neg h0] at h; exact .inr ⟨h0, h⟩
theorem len_fun {d a e b f : Int} (h : lenPost [.n d] [.n a, .n e]) (g : lenPost [.n d] [.n b, .n f]) : a = b ∧ e = f := ite_fun h g
theorem bits_fun {d w e f : Int} {a b : List Int} (h : bitsPost [.n d, .n w] [.l a, .n e]) (g : bitsPost [.n d, .n w] [.l b, .n f]) : a = b ∧ e = f := ite_fun h g
theorem taps_fun {d w e f : Int} {a b : List Int} (h : tapsPost [.n d, .n w] [.l a, .n e]) (g : tapsPost [.n d, .n w] [.l b, .n f]) : a = b ∧ e = f := ite_fun h g
theorem code_fun {d w e f : Int} {a b : List Int} (h : codePost [.n d, .n w] [.l a, .n e]) (g : codePost [.n d, .n w] [.l b, .n f]) : a = b ∧ e = f := ite_fun h g
theorem sum_fun {d w e a b f : Int} (h : sumPost [.n d, .n w] [.n a, .n e]) (g : sumPost [.n d, .n w] [.n b, .n f]) : a = b ∧ e = f := ite_fun h g
def sigNG (k : Nat) : Sig := ⟨List.replicate k (.one i64), [.one .b], fun _ => True, fun _ rs => rs = [.b true]⟩
end Go.Sp
