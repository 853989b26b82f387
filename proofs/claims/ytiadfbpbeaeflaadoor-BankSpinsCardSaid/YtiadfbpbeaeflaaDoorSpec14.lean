import Derived.Test.YtiadfbpbeaeflaaDoorSpecNco
namespace Go.Sp
open Go.Ev
noncomputable section
def smpS (m : Nat) : VK := .one (.l [.i .i64 (-9223372036854775808) 9223372036854775807, .i .i64 (-9223372036854775808) 9223372036854775807] m)
def inS (a b : Int) : Prop := -1048576 ≤ a ∧ a ≤ 1048576 ∧ -1048576 ≤ b ∧ b ≤ 1048576
def okS (x y : List Int) : Prop := ∀ j : Nat, j < x.length → inS (x.getD j 0) (y.getD j 0)
def cpPost : List DV → List DV → Prop
  | [.l x, .l y, .n _], [.n e] => (okS x y ∧ e = 0) ∨ (¬okS x y ∧ e = 2)
  | _, _ => False
def sigCp : Sig := ⟨[smpS 30, .one (ib 1048576 1048576)], [.one (ib 0 18)], fun _ => True, cpPost⟩
def cpInv : List DV → List DV → Prop
  | [.l x, .l y], [.n i] => 0 ≤ i ∧ i ≤ (x.length : Int) ∧ x.length = y.length ∧ ∀ j : Nat, (j : Int) < i → inS (x.getD j 0) (y.getD j 0)
  | _, _ => False
def mea14 : List DV → List DV → Nat
  | .l x :: _, .n i :: _ => ((x.length : Int) - i).toNat
  | _, _ => 0
def csPost : List DV → List DV → Prop
  | [.l x, .l y], [.n e] => (16 < (x.length : Int) ∧ e = 4) ∨ ((x.length : Int) ≤ 16 ∧ okS x y ∧ e = 0) ∨ ((x.length : Int) ≤ 16 ∧ ¬okS x y ∧ e = 2)
  | _, _ => False
def sigCs : Sig := ⟨[smpS 30], [.one (ib 0 18)], fun _ => True, csPost⟩
def smPost : List DV → List DV → Prop
  | [.l x, .l y, .n m], [.n e] => (m < (x.length : Int) ∧ e = 4) ∨ ((x.length : Int) ≤ m ∧ okS x y ∧ e = 0) ∨ ((x.length : Int) ≤ m ∧ ¬okS x y ∧ e = 2)
  | _, _ => False
def sigSm : Sig := ⟨[smpS 30, .one (ib 0 100000)], [.one (ib 0 18)], fun _ => True, smPost⟩
def spI (x y : List Int) (st : Int) : Nat → Int
  | 0 => 0
  | k + 1 => spI x y st k + (x.getD k 0 * wC (adv 0 st k) + y.getD k 0 * wS (adv 0 st k))
def spQ (x y : List Int) (st : Int) : Nat → Int
  | 0 => 0
  | k + 1 => spQ x y st k + (y.getD k 0 * wC (adv 0 st k) - x.getD k 0 * wS (adv 0 st k))
def spPre : List DV → Prop
  | [.l x, .l y, .n _] => (x.length : Int) ≤ 16 ∧ okS x y
  | _ => False
def spPost : List DV → List DV → Prop
  | [.l x, .l y, .n st], [.n a, .n b] => a = spI x y st x.length ∧ b = spQ x y st x.length
  | _, _ => False
def bSp : CX := ib (-4261412864) 4261412864
def sigSp : Sig := ⟨[smpS 30, .one u32], [.agg [bSp, bSp]], spPre, spPost⟩
def spInv : List DV → List DV → Prop
  | [.l x, .l y, .n st], [.n i, .n a, .n b] => 0 ≤ i ∧ i ≤ (x.length : Int) ∧ x.length = y.length ∧ (x.length : Int) ≤ 16 ∧ okS x y ∧ a = spI x y st i.toNat ∧ b = spQ x y st i.toNat
  | _, _ => False
def spnPost : List DV → List DV → Prop
  | [.l x, .l y, .n st], [.n a, .n b, .n e] => (16 < (x.length : Int) ∧ a = 0 ∧ b = 0 ∧ e = 4) ∨ ((x.length : Int) ≤ 16 ∧ okS x y ∧ a = spI x y st x.length ∧ b = spQ x y st x.length ∧ e = 0) ∨ ((x.length : Int) ≤ 16 ∧ ¬okS x y ∧ a = 0 ∧ b = 0 ∧ e = 2)
  | _, _ => False
def sigSpn : Sig := ⟨[smpS 30, .one u32], [.agg [bSp, bSp], .one (ib 0 18)], fun _ => True, spnPost⟩
def sw (x : Int) : Int := (x + 9223372036854775808) % 18446744073709551616 - 9223372036854775808
def pw (a b : Int) : Int := sw (sw (a * a) + sw (b * b))
/-- the first with the greatest power -/
def isBest (x y : List Int) (n a : Int) : Prop := 0 ≤ a ∧ a < n ∧ (∀ j : Nat, (j : Int) < n → pw (x.getD j 0) (y.getD j 0) ≤ pw (x.getD a.toNat 0) (y.getD a.toNat 0)) ∧ (∀ j : Nat, (j : Int) < a → pw (x.getD j 0) (y.getD j 0) < pw (x.getD a.toNat 0) (y.getD a.toNat 0))
def bstPost : List DV → List DV → Prop
  | [.l x, .l y], [.n a, .n p, .n e] => ((x.length : Int) = 0 ∧ a = 0 ∧ p = 0 ∧ e = 3) ∨ (1 ≤ (x.length : Int) ∧ okS x y ∧ isBest x y x.length a ∧ p = pw (x.getD a.toNat 0) (y.getD a.toNat 0) ∧ e = 0) ∨ (1 ≤ (x.length : Int) ∧ ¬okS x y ∧ a = 0 ∧ p = 0 ∧ e = 2)
  | _, _ => False
def sigBst : Sig := ⟨[smpS 30], [.one (ib 0 30), .one i64, .one (ib 0 18)], fun _ => True, bstPost⟩
def two (n : Int) : Prop := n = 1 ∨ n = 2 ∨ n = 4 ∨ n = 8 ∨ n = 16 ∨ n = 32 ∨ n = 64
def onesPost : List DV → List DV → Prop
  | [.n n], [.n r] => (r = 1 ↔ two n)
  | _, _ => False
def sigOnes : Sig := ⟨[.one (.i .u64 1 64)], [.one (ib 0 64)], fun _ => True, onesPost⟩
theorem all64 {P : Int → Prop} (h : ∀ k : Fin 64, P ((k.val : Int) + 1)) : ∀ n : Int, 1 ≤ n → n ≤ 64 → P n := fun n h1 h2 => by
  have g := h ⟨(n - 1).toNat, by omega⟩
  rwa [show (((⟨(n - 1).toNat, by omega⟩ : Fin 64).val : Nat) : Int) + 1 = n by show ((n - 1).toNat : Int) + 1 = n; omega] at g
theorem best_one {x y : List Int} : isBest x y 1 0 := ⟨by omega, by omega, fun j hj => by rw [show j = (0 : Int).toNat by omega]; omega, fun j hj => by omega⟩
theorem best_new {x y : List Int} {n a : Int} (h : isBest x y n a) (hn : 0 ≤ n) (g : pw (x.getD a.toNat 0) (y.getD a.toNat 0) < pw (x.getD n.toNat 0) (y.getD n.toNat 0)) : isBest x y (n + 1) n := by
  obtain ⟨h1, h2, h3, h4⟩ := h
  refine ⟨hn, by omega, fun j hj => ?_, fun j hj => ?_⟩
  · rcases Int.lt_or_le (j : Int) n with c | c
    · have := h3 j c; omega
    · rw [show j = n.toNat by omega]; omega
  · have := h3 j hj; omega
theorem best_old {x y : List Int} {n a : Int} (h : isBest x y n a) (hn : 0 ≤ n) (g : ¬pw (x.getD a.toNat 0) (y.getD a.toNat 0) < pw (x.getD n.toNat 0) (y.getD n.toNat 0)) : isBest x y (n + 1) a := by
  obtain ⟨h1, h2, h3, h4⟩ := h
  refine ⟨h1, by omega, fun j hj => ?_, h4⟩
  rcases Int.lt_or_le (j : Int) n with c | c
  · exact h3 j c
  · rw [show j = n.toNat by omega]; omega
theorem best_fun {x y : List Int} {n a b : Int} (h : isBest x y n a) (g : isBest x y n b) : a = b := by
  obtain ⟨h1, h2, h3, h4⟩ := h
  obtain ⟨g1, g2, g3, g4⟩ := g
  rcases Int.lt_or_le a b with c | c
  · have k1 := g4 a.toNat (by omega)
    have k2 := h3 b.toNat (by omega)
    omega
  · rcases Int.lt_or_le b a with d | d
    · have k1 := h4 b.toNat (by omega)
      have k2 := g3 a.toNat (by omega)
      omega
    · omega
def grInv : List DV → List DV → Prop
  | [.l x, .l y], [.n i, .n a, .n p] => 0 ≤ i ∧ i ≤ (x.length : Int) ∧ x.length = y.length ∧ ((i = 0 ∧ a = 0 ∧ p = pw (x.getD 0 0) (y.getD 0 0)) ∨ (1 ≤ i ∧ isBest x y i a ∧ p = pw (x.getD a.toNat 0) (y.getD a.toNat 0)))
  | _, _ => False
def grRInv : List DV → List DV → Prop
  | [.l x, .l y], [.n i, .n a] => 0 ≤ i ∧ i ≤ (x.length : Int) ∧ x.length = y.length ∧ ((i = 0 ∧ a = 0) ∨ (1 ≤ i ∧ isBest x y i a))
  | _, _ => False
def pwPost : List DV → List DV → Prop
  | [.n a, .n b], [.n r] => r = pw a b
  | _, _ => False
def sigPw : Sig := ⟨[.agg [i64, i64]], [.one i64], fun _ => True, pwPost⟩
theorem spI_next {x y : List Int} {st i : Int} (h : 0 ≤ i) : spI x y st (i + 1).toNat = spI x y st i.toNat + (x.getD i.toNat 0 * wC (adv 0 st i) + y.getD i.toNat 0 * wS (adv 0 st i)) := by
  rw [toNat_succ h]; show _ + _ = _; rw [Int.toNat_of_nonneg h]
theorem spQ_next {x y : List Int} {st i : Int} (h : 0 ≤ i) : spQ x y st (i + 1).toNat = spQ x y st i.toNat + (y.getD i.toNat 0 * wC (adv 0 st i) - x.getD i.toNat 0 * wS (adv 0 st i)) := by
  rw [toNat_succ h]; show _ + _ = _; rw [Int.toNat_of_nonneg h]
theorem sp_bd {x y : List Int} {st : Int} (h : okS x y) : ∀ k : Nat, k ≤ x.length → (-(266338304 * (k : Int)) ≤ spI x y st k ∧ spI x y st k ≤ 266338304 * (k : Int)) ∧ (-(266338304 * (k : Int)) ≤ spQ x y st k ∧ spQ x y st k ≤ 266338304 * (k : Int))
  | 0, _ => ⟨by show _ ≤ (0 : Int) ∧ (0 : Int) ≤ _; omega, by show _ ≤ (0 : Int) ∧ (0 : Int) ≤ _; omega⟩
  | k + 1, hk => by
    have ih := sp_bd (st := st) h k (by omega)
    have g := h k (by omega)
    unfold inS at g
    have w := w_bd (adv 0 st k)
    have p1 := mul_abs (a := x.getD k 0) (b := wC (adv 0 st k)) (A := 1048576) (B := 127) (by omega) (by omega) (by omega) (by omega)
    have p2 := mul_abs (a := y.getD k 0) (b := wS (adv 0 st k)) (A := 1048576) (B := 127) (by omega) (by omega) (by omega) (by omega)
    have p3 := mul_abs (a := y.getD k 0) (b := wC (adv 0 st k)) (A := 1048576) (B := 127) (by omega) (by omega) (by omega) (by omega)
    have p4 := mul_abs (a := x.getD k 0) (b := wS (adv 0 st k)) (A := 1048576) (B := 127) (by omega) (by omega) (by omega) (by omega)
    simp only [spI, spQ]
    omega
def cpL : LSpec := ⟨[0, 1, 6, 7], [(.tmp 8, ib 0 30)], [(.tmp 0, .l [.i .i64 (-9223372036854775808) 9223372036854775807, .i .i64 (-9223372036854775808) 9223372036854775807] 30)], cpInv, mea14, 60⟩
def smL : LSpec := ⟨[0, 1], [(.tmp 5, ib 0 30)], [(.tmp 0, .l [.i .i64 (-9223372036854775808) 9223372036854775807, .i .i64 (-9223372036854775808) 9223372036854775807] 30)], cpInv, mea14, 60⟩
def spL : LSpec := ⟨[0, 1, 4, 5, 10, 11], [(.tmp 12, ib 0 30), (.cell (key 3) 0, bSp), (.cell (key 3) 1, bSp)], [(.tmp 0, .l [.i .i64 (-9223372036854775808) 9223372036854775807, .i .i64 (-9223372036854775808) 9223372036854775807] 30), (.tmp 1, u32)], spInv, mea14, 80⟩
def spRL : LSpec := ⟨[0, 1, 4, 5], [(.tmp 6, ib 0 30), (.cell (key 3) 0, bSp), (.cell (key 3) 1, bSp)], [(.tmp 0, .l [.i .i64 (-9223372036854775808) 9223372036854775807, .i .i64 (-9223372036854775808) 9223372036854775807] 30), (.tmp 1, u32)], spInv, mea14, 80⟩
def grL : LSpec := ⟨[0, 1, 14, 15], [(.tmp 16, ib 0 30), (.tmp 4, ib 0 30), (.tmp 5, i64)], [(.tmp 0, .l [.i .i64 (-9223372036854775808) 9223372036854775807, .i .i64 (-9223372036854775808) 9223372036854775807] 30)], grInv, mea14, 60⟩
def grRL : LSpec := ⟨[0, 3, 4, 5], [(.tmp 6, ib 0 30), (.tmp 2, ib 0 30)], [(.tmp 0, .l [.i .i64 (-9223372036854775808) 9223372036854775807, .i .i64 (-9223372036854775808) 9223372036854775807] 30)], grRInv, mea14, 60⟩
def stp (b j : Int) : Int := j * 4294967296 / b
def stAt (x y : List Int) (b j : Int) : Int := pw (spI x y (stp b j) x.length) (spQ x y (stp b j) x.length)
def cM : CX := .l [.i .i64 (-9223372036854775808) 9223372036854775807] 64
def stPost : List DV → List DV → Prop
  | [.l x, .l y, .n b], [.l m, .n e] => (16 < (x.length : Int) ∧ e = 4 ∧ m = []) ∨ ((x.length : Int) ≤ 16 ∧ ¬okS x y ∧ e = 2 ∧ m = []) ∨ ((x.length : Int) ≤ 16 ∧ okS x y ∧ ¬two b ∧ e = 3 ∧ m = []) ∨ ((x.length : Int) ≤ 16 ∧ okS x y ∧ two b ∧ e = 0 ∧ (m.length : Int) = b ∧ ∀ j : Nat, (j : Int) < b → m.getD j 0 = stAt x y b j)
  | _, _ => False
def sigSt : Sig := ⟨[smpS 30, .one i64], [.one cM, .one (ib 0 18)], fun _ => True, stPost⟩
def stInv : List DV → List DV → Prop
  | [.l x, .l y, .n b], [.n i, .l m] => 0 ≤ i ∧ i ≤ b ∧ two b ∧ x.length = y.length ∧ (x.length : Int) ≤ 16 ∧ okS x y ∧ (m.length : Int) = b ∧ ∀ j : Nat, (j : Int) < i → m.getD j 0 = stAt x y b j
  | _, _ => False
def stRInv : List DV → List DV → Prop
  | [.l x, .l y, .n b], [.n i, .l m] => 0 ≤ i ∧ i ≤ b ∧ two b ∧ x.length = y.length ∧ (x.length : Int) ≤ 16 ∧ okS x y ∧ (m.length : Int) = i ∧ ∀ j : Nat, (j : Int) < i → m.getD j 0 = stAt x y b j
  | _, _ => False
def stMea : List DV → List DV → Nat
  | [.l _, .l _, .n b], .n i :: _ => (b - i).toNat
  | _, _ => 0
def stL : LSpec := ⟨[0, 1, 7, 28], [(.tmp 29, ib 0 64), (.blk (key 2), cM)], [(.tmp 0, .l [.i .i64 (-9223372036854775808) 9223372036854775807, .i .i64 (-9223372036854775808) 9223372036854775807] 30), (.tmp 1, ib 1 64)], stInv, stMea, 60⟩
def stRL : LSpec := ⟨[0, 1], [(.tmp 8, ib 0 64), (.tmp 7, cM)], [(.tmp 0, .l [.i .i64 (-9223372036854775808) 9223372036854775807, .i .i64 (-9223372036854775808) 9223372036854775807] 30), (.tmp 1, ib 1 64)], stRInv, stMea, 60⟩
theorem stp_bd {b j : Int} (h : two b) (h0 : 0 ≤ j) (h1 : j < b) : 0 ≤ stp b j ∧ stp b j ≤ 4294967295 ∧ (j * 4294967296).tdiv b = stp b j ∧ j * (4294967296 : Int).tdiv b = stp b j := by
  unfold stp two at *
  rw [tdiv_nn (a := j * 4294967296) (by omega), tdiv_nn (a := 4294967296) (by omega)]
  rcases h with h | h | h | h | h | h | h <;> subst h <;> omega
theorem td4 {b : Int} (h : two b) : 0 ≤ (4294967296 : Int).tdiv b ∧ (4294967296 : Int).tdiv b ≤ 4294967296 := by
  unfold two at h
  rw [tdiv_nn (by omega)]
  rcases h with h | h | h | h | h | h | h <;> subst h <;> omega
theorem and_two {n : Int} (h : 1 ≤ n) (g : n ≤ 64) : opI (.and .i64) n (n - 1) = 0 ↔ two n := by
  unfold two
  exact all64 (P := fun n => opI (.and .i64) n (n - 1) = 0 ↔ n = 1 ∨ n = 2 ∨ n = 4 ∨ n = 8 ∨ n = 16 ∨ n = 32 ∨ n = 64) (by decide +kernel) n h g
theorem st_set {l : List Int} {f : Int → Int} {i v : Int} (h0 : 0 ≤ i) (hl : i < (l.length : Int)) (hv : v = f i) (h : ∀ j : Nat, (j : Int) < i → l.getD j 0 = f j) : ∀ j : Nat, (j : Int) < i + 1 → (l.set i.toNat v).getD j 0 = f j := by
  intro j hj
  rw [getD_set]
  by_cases c : i.toNat = j
  · rw [if_pos ⟨c, by omega⟩, hv, show (j : Int) = i by omega]
  · rw [if_neg (fun g => c g.1), h j (by omega)]
theorem st_app {l : List Int} {f : Int → Int} {i v : Int} (hl : (l.length : Int) = i) (hv : v = f i) (h : ∀ j : Nat, (j : Int) < i → l.getD j 0 = f j) : ∀ j : Nat, (j : Int) < i + 1 → (l ++ [v]).getD j 0 = f j := by
  intro j hj
  rcases Nat.lt_or_ge j l.length with c | c
  · rw [getD_app1 c, h j (by omega)]
  · rw [show j = l.length by omega, getD_last, hv, hl]
theorem st_fun {x y m m' : List Int} {b e e' : Int} (h : sigSt.post [.l x, .l y, .n b] [.l m, .n e]) (g : sigSt.post [.l x, .l y, .n b] [.l m', .n e']) : m = m' ∧ e = e' := by
  rcases h with ⟨a1, a2, a3⟩ | ⟨a1, a2, a3, a4⟩ | ⟨a1, a2, a3, a4, a5⟩ | ⟨a1, a2, a3, a4, a5, a6⟩ <;> rcases g with ⟨b1, b2, b3⟩ | ⟨b1, b2, b3, b4⟩ | ⟨b1, b2, b3, b4, b5⟩ | ⟨b1, b2, b3, b4, b5, b6⟩
  all_goals first | (exfalso; omega) | exact absurd b2 a2 | exact absurd a2 b2 | exact absurd b3 a3 | exact absurd a3 b3 | skip
  · exact ⟨by rw [a3, b3], by omega⟩
  · exact ⟨by rw [a4, b4], by omega⟩
  · exact ⟨by rw [a5, b5], by omega⟩
  · exact ⟨eq_of_getD (d := 0) (by omega) fun j hj => by rw [a6 j (by omega), b6 j (by omega)], by omega⟩
theorem spn_fun {x y : List Int} {s a b e a' b' e' : Int} (h : sigSpn.post [.l x, .l y, .n s] [.n a, .n b, .n e]) (g : sigSpn.post [.l x, .l y, .n s] [.n a', .n b', .n e']) : a = a' ∧ b = b' ∧ e = e' := by
  rcases h with ⟨a1, a2, a3, a4⟩ | ⟨a1, a2, a3, a4, a5⟩ | ⟨a1, a2, a3, a4, a5⟩ <;> rcases g with ⟨b1, b2, b3, b4⟩ | ⟨b1, b2, b3, b4, b5⟩ | ⟨b1, b2, b3, b4, b5⟩
  all_goals first | (exfalso; omega) | exact absurd b2 a2 | exact absurd a2 b2 | exact ⟨by omega, by omega, by omega⟩
theorem bst_fun {x y : List Int} {a p e a' p' e' : Int} (h : sigBst.post [.l x, .l y] [.n a, .n p, .n e]) (g : sigBst.post [.l x, .l y] [.n a', .n p', .n e']) : a = a' ∧ p = p' ∧ e = e' := by
  rcases h with ⟨a1, a2, a3, a4⟩ | ⟨a1, a2, a3, a4, a5⟩ | ⟨a1, a2, a3, a4, a5⟩ <;> rcases g with ⟨b1, b2, b3, b4⟩ | ⟨b1, b2, b3, b4, b5⟩ | ⟨b1, b2, b3, b4, b5⟩
  all_goals first | (exfalso; omega) | exact absurd b2 a2 | exact absurd a2 b2 | exact ⟨by omega, by omega, by omega⟩ | skip
  have q := best_fun a3 b3
  exact ⟨q, by rw [a4, b4, q], by omega⟩
def equP : List DV → List DV → Prop
  | [.l a, .l b], [.b r] => (r = true ↔ a = b)
  | _, _ => False
def sigEqu : Sig := ⟨[.one cM, .one cM], [.one .b], fun _ => True, equP⟩
def equInv : List DV → List DV → Prop
  | [.l a, .l b], [.n i] => 0 ≤ i ∧ a.length = b.length ∧ i ≤ (a.length : Int) ∧ ∀ j : Nat, (j : Int) < i → a.getD j 0 = b.getD j 0
  | _, _ => False
def equL : LSpec := ⟨[0, 1], [(.tmp 5, ib 0 64)], [(.tmp 0, cM), (.tmp 1, cM)], equInv, mea14, 20⟩
def sigSpins : Sig := ⟨[.one (.l [.i .i64 (-9223372036854775808) 9223372036854775807, .i .i64 (-9223372036854775808) 9223372036854775807] 9223372036854775807), .one u32, .one i64], [.one .b], fun _ => True, fun _ rs => rs = [.b true]⟩
end
end Go.Sp
