import Derived.Test.YtlhcjklfcpbcaaaEvSY
namespace Go.Sp
open Go.Ev
noncomputable section
def cI (k : IntKind) : CX := .i k k.min k.max
def i64 : CX := .i .i64 (-9223372036854775808) 9223372036854775807
def lockV : VK := .agg [i64, i64, i64, i64, .b]
/-- a detector: need, miss, up, down, locked -/
def chk (a b c d : Int) (e : Bool) : Int :=
  if a < 1 ∨ 100 < a ∨ b < 1 ∨ 100 < b then 2
  else if c = 0 ∧ d = 0 then (if e then 3 else 0)
  else if d = 0 ∧ 0 < c ∧ c < a then (if e = true ∧ b ≤ 1 then 3 else 0)
  else if d = 0 ∧ c = a then (if e then 0 else 3)
  else if c = 0 ∧ 0 < d ∧ d < b then 0
  else if c = 0 ∧ d = b then (if e then 3 else 0)
  else 3
def chkPost : List DV → List DV → Prop
  | [.n a, .n b, .n c, .n d, .b e], [.n r] => r = chk a b c d e ∧ 0 ≤ r ∧ r ≤ 3 ∧ (r = 0 → 1 ≤ a ∧ a ≤ 100 ∧ 1 ≤ b ∧ b ≤ 100 ∧ 0 ≤ c ∧ c ≤ 100 ∧ 0 ≤ d ∧ d ≤ 100)
  | _, _ => False
def sigChk : Sig := ⟨[lockV], [.one i64], fun _ => True, chkPost⟩
def lbV : VK := .one (.l [.b] 9223372036854775807)
def samePost : List DV → List DV → Prop
  | [.lb a, .lb b], [.b r] => (r = true ↔ a = b)
  | _, _ => False
def sigSame : Sig := ⟨[lbV, lbV], [.one .b], fun _ => True, samePost⟩
def sameInv : List DV → List DV → Prop
  | [.lb a, .lb b], [.n i] => 0 ≤ i ∧ i ≤ (a.length : Int) ∧ (a.length : Int) = b.length ∧ ∀ j : Nat, (j : Int) < i → a.getD j false = b.getD j false
  | _, _ => False
def sameMea : List DV → List DV → Nat
  | [.lb a, .lb _], [.n i] => ((a.length : Int) - i).toNat
  | _, _ => 0
def samL : LSpec := ⟨[0, 1, 4], [(.tmp 5, i64)], [(.tmp 0, .l [.b] 9223372036854775807), (.tmp 1, .l [.b] 9223372036854775807)], sameInv, sameMea, 4⟩
/-- a step: up, down, locked -/
def stp (a b : Int) (s : Int × Int × Bool) (k : Bool) : Int × Int × Bool :=
  if k then (min (s.1 + 1) a, 0, s.2.2 || decide (min (s.1 + 1) a = a)) else (0, min (s.2.1 + 1) b, s.2.2 && decide (min (s.2.1 + 1) b < b))
def lockN : VK := .agg [.i .i64 1 100, .i .i64 1 100, .i .i64 0 100, .i .i64 0 100, .b]
def stepPost : List DV → List DV → Prop
  | [.n a, .n b, .n c, .n d, .b e, .b k], [.n a', .n b', .n c', .n d', .b e'] => a' = a ∧ b' = b ∧ (c', d', e') = stp a b (c, d, e) k
  | _, _ => False
def sigStep : Sig := ⟨[lockN, .one .b], [lockN], fun _ => True, stepPost⟩
def outS (a b : Int) : Int × Int × Bool → List Bool → List Bool
  | _, [] => []
  | s, k :: l => (stp a b s k).2.2 :: outS a b (stp a b s k) l
def runS (a b : Int) (s : Int × Int × Bool) (l : List Bool) : Int × Int × Bool := l.foldl (stp a b) s
def runPost : List DV → List DV → Prop
  | [.n a, .n b, .n c, .n d, .b e, .lb l], [.n a', .n b', .n c', .n d', .b e', .lb o, .n x] =>
    (chk a b c d e ≠ 0 → x = chk a b c d e ∧ a' = 0 ∧ b' = 0 ∧ c' = 0 ∧ d' = 0 ∧ e' = false ∧ o = []) ∧
    (chk a b c d e = 0 → 10000 < l.length → x = 4 ∧ a' = 0 ∧ b' = 0 ∧ c' = 0 ∧ d' = 0 ∧ e' = false ∧ o = []) ∧
    (chk a b c d e = 0 → l.length ≤ 10000 → x = 0 ∧ a' = a ∧ b' = b ∧ (c', d', e') = runS a b (c, d, e) l ∧ o = outS a b (c, d, e) l)
  | _, _ => False
def sigRun : Sig := ⟨[lockV, lbV], [lockV, .one (.l [.b] 10000), .one i64], fun _ => True, runPost⟩
def runInv : List DV → List DV → Prop
  | [.lb l, .n a, .n b, .n c0, .n d0, .b e0], [.lb o, .n i, .n a', .n b', .n c, .n d, .b e] => a' = a ∧ b' = b ∧ 0 ≤ i ∧ i ≤ (l.length : Int) ∧ l.length ≤ 10000 ∧ o = outS a b (c0, d0, e0) (l.take i.toNat) ∧ (c, d, e) = runS a b (c0, d0, e0) (l.take i.toNat)
  | _, _ => False
def runMea : List DV → List DV → Nat
  | .lb l :: _, _ :: .n i :: _ => ((l.length : Int) - i).toNat
  | _, _ => 0
def c100 : CX := .i .i64 0 100
def runRL : LSpec := ⟨[1, 2, 4, 6], [(.tmp 5, .l [.b] 10000), (.tmp 8, .i .i64 0 10000), (.cell (key 2) 0, .i .i64 1 100), (.cell (key 2) 1, .i .i64 1 100), (.cell (key 2) 2, c100), (.cell (key 2) 3, c100), (.cell (key 2) 4, .b)],
  [(.tmp 1, .l [.b] 9223372036854775807), (.cell (key 2) 0, .i .i64 1 100), (.cell (key 2) 1, .i .i64 1 100), (.cell (key 2) 2, c100), (.cell (key 2) 3, c100), (.cell (key 2) 4, .b)], runInv, runMea, 40⟩
def foldInv : List DV → List DV → Prop
  | [.lb l, .n a, .n b, .n c0, .n d0, .b e0], [.lb o, .n i, .n c, .n d, .b e] => 0 ≤ i ∧ i ≤ (l.length : Int) ∧ l.length ≤ 10000 ∧ o = outS a b (c0, d0, e0) (l.take i.toNat) ∧ (c, d, e) = runS a b (c0, d0, e0) (l.take i.toNat)
  | _, _ => False
def foldL : LSpec := ⟨[0, 2, 9, 10], [(.tmp 1, .l [.b] 10000), (.tmp 11, .i .i64 0 10000), (.cell (key 4) 2, c100), (.cell (key 4) 3, c100), (.cell (key 4) 4, .b)],
  [(.tmp 0, .l [.b] 9223372036854775807), (.cell (key 4) 0, .i .i64 1 100), (.cell (key 4) 1, .i .i64 1 100), (.cell (key 4) 2, c100), (.cell (key 4) 3, c100), (.cell (key 4) 4, .b)], foldInv, runMea, 40⟩
def sigTrue0 : Sig := ⟨[], [.one .b], fun _ => True, fun _ rs => rs = [.b true]⟩
def sigLockRuns : Sig := ⟨[lockV, lbV, .one .b], [.one .b], fun _ => True, fun _ rs => rs = [.b true]⟩
def pickF (x n : Int) : Int := x % n
def pickPost : List DV → List DV → Prop
  | [.n x, .n n], [.n r] => r = x % n ∧ 0 ≤ r ∧ r < n
  | _, _ => False
def sigPick : Sig := ⟨[.one i64, .one (.i .i64 1 1000000)], [.one (.i .i64 0 1000000)], fun _ => True, pickPost⟩
def newPost : List DV → List DV → Prop
  | [.n a, .n b], [.n a', .n b', .n c, .n d, .b e, .n x] => a' = a ∧ b' = b ∧ c = 0 ∧ d = 0 ∧ e = false ∧ x = 0
  | _, _ => False
def sigNew : Sig := ⟨[.one (.i .i64 1 100), .one (.i .i64 1 100)], [lockN, .one i64], fun _ => True, newPost⟩
def stepLPost : List DV → List DV → Prop
  | [.n a, .n b, .n c, .n d, .b e, .b k], [.n a', .n b', .n c', .n d', .b e', .n x] => chk a b c d e = 0 → x = 0 ∧ a' = a ∧ b' = b ∧ (c', d', e') = stp a b (c, d, e) k
  | _, _ => False
def sigStepL : Sig := ⟨[lockV, .one .b], [lockV, .one i64], fun _ => True, stepLPost⟩
def sigParts : Sig := ⟨[.one i64, .one i64, .one i64, lbV], [.one .b], fun _ => True, fun _ rs => rs = [.b true]⟩
def partsInv : List DV → List DV → Prop
  | [.lb l, .lb o, .n a, .n b], [.n i, .n a', .n b', .n c, .n d, .b e] => 0 ≤ i ∧ i ≤ (l.length : Int) ∧ a' = a ∧ b' = b ∧ chk a b 0 0 false = 0 ∧ o = outS a b (0, 0, false) l ∧ (c, d, e) = runS a b (0, 0, false) (l.take i.toNat)
  | _, _ => False
def partsMea : List DV → List DV → Nat
  | .lb l :: _, .n i :: _ => ((l.length : Int) - i).toNat
  | _, _ => 0
def partsL : LSpec := ⟨[3, 9, 10, 12, 13], [(.tmp 21, .i .i64 0 1000), (.cell (key 2) 0, i64), (.cell (key 2) 1, i64), (.cell (key 2) 2, i64), (.cell (key 2) 3, i64), (.cell (key 2) 4, .b)],
  [(.tmp 3, .l [.b] 9223372036854775807), (.tmp 13, .l [.b] 10000), (.cell (key 2) 0, .i .i64 1 100), (.cell (key 2) 1, .i .i64 1 100)], partsInv, partsMea, 60⟩
def downPost : List DV → List DV → Prop
  | [.n x], [.n r] => r = x / 1024
  | _, _ => False
def sigDown : Sig := ⟨[.one (.i .i64 (-1000000) 1000000)], [.one (.i .i64 (-1000000) 1000000)], fun _ => True, downPost⟩
def reachPre : List DV → Prop
  | [.n a, .n b, .n c, .n d, .b e, .n o] => chk a b c d e = 0
  | _ => False
def reachPost : List DV → List DV → Prop
  | [.n _, .n b, .n _, .n _, .b _, .n o], [.n r, .n x] => x = 0 ∧ r = o - 1 + (b - 1) + ((b - 1) * 64 + 1023) / 1024 + 1
  | _, _ => False
def sigReach : Sig := ⟨[lockN, .one (.i .i64 1 8)], [.one (.i .i64 0 1000), .one i64], reachPre, reachPost⟩
def sigLR : Sig := ⟨[.one i64, .one i64, .one i64, .one i64, .one (.l [.i .i64 (-9223372036854775808) 9223372036854775807] 9223372036854775807)], [.one .b], fun _ => True, fun _ rs => rs = [.b true]⟩
/-- where the emitter's period k begins -/
def flr (x : Int) : Int := x / 1024
/-- a locked detector's place: at most over less 1 off at its last claim, d windows ago, and then d + 1 moves and the periods' -/
structure near (over rate b k off d : Int) (e : Bool) : Prop where
  h : e = true → d < b ∧ d < k ∧ ∃ o : Int, -(over - 1) ≤ o ∧ o ≤ over - 1 ∧ -(d + 1) ≤ off - o + flr (k * rate) - flr ((k - (d + 1)) * rate) ∧ off - o + flr (k * rate) - flr ((k - (d + 1)) * rate) ≤ d + 1
def reachInv : List DV → List DV → Prop
  | [.n rate, .n over, .l l, .n a, .n b], [.n off, .n k, .n a', .n b', .n c, .n d, .b e] => -64 ≤ rate ∧ rate ≤ 64 ∧ 1 ≤ over ∧ over ≤ 8 ∧ 0 ≤ k ∧ k ≤ (l.length : Int) ∧ l.length ≤ 200 ∧ a' = a ∧ b' = b ∧ chk a b c d e = 0 ∧
      -2 * k ≤ off ∧ off ≤ 2 * k ∧
      near over rate b k off d e
  | _, _ => False
def reachMea : List DV → List DV → Nat
  | _ :: _ :: .l l :: _, _ :: .n k :: _ => ((l.length : Int) - k).toNat
  | _, _ => 0
def i64l : CX := .l [.i .i64 (-9223372036854775808) 9223372036854775807] 9223372036854775807
def reachLS : LSpec := ⟨[2, 3, 4, 11, 12, 14], [(.tmp 16, .i .i64 (-100000) 100000), (.tmp 17, .i .i64 0 1000), (.cell (key 2) 0, i64), (.cell (key 2) 1, i64), (.cell (key 2) 2, i64), (.cell (key 2) 3, i64), (.cell (key 2) 4, .b)],
  [(.tmp 3, i64), (.tmp 2, i64), (.tmp 4, i64l), (.cell (key 2) 0, .i .i64 1 100), (.cell (key 2) 1, .i .i64 1 100)], reachInv, reachMea, 60⟩
def at2 (f p f0 p0 : Nat) (s : LSpec) (r : Option LSpec) : Option LSpec := bR (Nat.beq f f0) (bR (Nat.beq p p0) (some s) r) r
def tab : Nat → LT := fun f p c => at2 f p 20 58 samL (at2 f p 19 122 runRL (bR (Nat.beq (valL c) 8) (at2 f p 26 26 foldL none) (at2 f p 7 8186 partsL (at2 f p 8 4090 reachLS none))))
def noA : Nat → LT := fun _ _ _ => none
theorem tmod_of {x n : Int} (h : 0 < n) : (x.tmod n < 0 → x.tmod n + n = x % n) ∧ (¬ x.tmod n < 0 → x.tmod n = x % n) ∧ 0 ≤ x % n ∧ x % n < n := by
  have h1 := Int.emod_nonneg x (Int.ne_of_gt h)
  have h2 := Int.emod_lt_of_pos x h
  have h3 := Int.tmod_eq_emod (a := x) (b := n)
  split at h3 <;> omega
theorem mul_bd {k r : Int} (h : 0 ≤ k) (h1 : -64 ≤ r) (h2 : r ≤ 64) : -64 * k ≤ k * r ∧ k * r ≤ 64 * k := by
  have a := Int.mul_le_mul_of_nonneg_left h1 h
  have b := Int.mul_le_mul_of_nonneg_left h2 h
  constructor <;> omega
theorem near_test {a b c d c' d' over rate k off : Int} {e e' cl : Bool} (hn : near over rate b k off d e) (hs : (c', d', e') = stp a b (c, d, e) cl) (hc : cl = true → off < over ∧ 0 - off < over) (he : e' = true) (h0 : 0 ≤ d) (h1 : 1 ≤ b) (h2 : b ≤ 100) (h3 : 1 ≤ over) (h5 : -64 ≤ rate) (h6 : rate ≤ 64) :
    off ≤ over - 1 + (b - 1) + ((b - 1) * 64 + 1023) / 1024 + 1 ∧ 0 - off ≤ over - 1 + (b - 1) + ((b - 1) * 64 + 1023) / 1024 + 1 := by
  cases cl with
  | true => have := hc rfl; omega
  | false =>
    simp only [stp, Bool.false_eq_true, if_false, Prod.mk.injEq] at hs
    obtain ⟨_, _, q⟩ := hs
    rw [he] at q
    have q := q.symm
    simp only [Bool.and_eq_true, decide_eq_true_eq] at q
    obtain ⟨q1, q2⟩ := q
    obtain ⟨n1, n2, o, n3, n4, n5, n6⟩ := hn.h q1
    have m := mul_bd (k := d + 1) (r := rate) (by omega) h5 h6
    have e1 : (k - (d + 1)) * rate = k * rate - (d + 1) * rate := Int.sub_mul ..
    rw [e1] at n5 n6
    unfold flr at n5 n6
    generalize k * rate = K at *
    generalize (d + 1) * rate = D at *
    omega
theorem near_step {a b c d c' d' over rate k off m : Int} {e e' cl : Bool} (hn : near over rate b k off d e) (hs : (c', d', e') = stp a b (c, d, e) cl) (hc : cl = true → off < over ∧ 0 - off < over) (h0 : 0 ≤ d) (h1 : 1 ≤ b) (hk : 0 ≤ k) (m1 : -1 ≤ m) (m2 : m ≤ 1) :
    near over rate b (k + 1) (off + m - ((k + 1) * rate / 1024 - k * rate / 1024)) d' e' := ⟨by
  intro he
  cases cl with
  | true =>
    have := hc rfl
    simp only [stp, if_true, Prod.mk.injEq] at hs
    obtain ⟨_, q, _⟩ := hs
    subst q
    refine ⟨by omega, by omega, off, by omega, by omega, ?_⟩
    rw [show k + 1 - (0 + 1) = k by omega]
    unfold flr
    omega
  | false =>
    simp only [stp, Bool.false_eq_true, if_false, Prod.mk.injEq] at hs
    obtain ⟨_, q0, q⟩ := hs
    rw [he] at q
    have q := q.symm
    simp only [Bool.and_eq_true, decide_eq_true_eq] at q
    obtain ⟨q1, q2⟩ := q
    obtain ⟨n1, n2, o, n3, n4, n5, n6⟩ := hn.h q1
    have e0 : d' = d + 1 := by omega
    subst e0
    refine ⟨by omega, by omega, o, n3, n4, ?_⟩
    rw [show k + 1 - (d + 1 + 1) = k - (d + 1) by omega]
    unfold flr at *
    omega⟩
theorem near_step2 {a b c d c' d' over rate k off off' m : Int} {e e' cl : Bool} (hn : near over rate b k off d e) (hs : (c', d', e') = stp a b (c, d, e) cl) (hc : cl = true → off < over ∧ 0 - off < over) (h0 : 0 ≤ d) (h1 : 1 ≤ b) (hk : 0 ≤ k) (m1 : 0 ≤ m) (m2 : m < 3)
    (ho : off' = off + m - 1 - ((k + 1) * rate / 1024 - k * rate / 1024)) : near over rate b (k + 1) off' d' e' := by
  have := near_step (m := m - 1) hn hs hc h0 h1 hk (by omega) (by omega)
  rw [show off + (m - 1) - ((k + 1) * rate / 1024 - k * rate / 1024) = off' by omega] at this
  exact this
theorem getD_bd {l : List Int} {lo hi : Int} {i : Nat} (h : ∀ y ∈ l, lo ≤ y ∧ y ≤ hi) (h1 : lo ≤ 0) (h2 : 0 ≤ hi) : lo ≤ l.getD i 0 ∧ l.getD i 0 ≤ hi := by
  rw [List.getD_eq_getElem?_getD]
  cases e : l[i]? with
  | none => exact ⟨h1, h2⟩
  | some y => exact h y (List.mem_of_getElem? e)
theorem fl_step {k r : Int} (h1 : -64 ≤ r) (h2 : r ≤ 64) : -1 ≤ (k + 1) * r / 1024 - k * r / 1024 ∧ (k + 1) * r / 1024 - k * r / 1024 ≤ 1 := by
  rw [Int.add_mul, Int.one_mul]
  generalize k * r = K
  omega
theorem chk_zero {a b c d : Int} {e : Bool} (h : chk a b c d e = 0) : 1 ≤ a ∧ a ≤ 100 ∧ 1 ≤ b ∧ b ≤ 100 ∧ 0 ≤ c ∧ c ≤ 100 ∧ 0 ≤ d ∧ d ≤ 100 := by
  unfold chk at h
  repeat' split at h
  all_goals first | omega | (exfalso; revert h; decide)
theorem chk_range (a b c d : Int) (e : Bool) : 0 ≤ chk a b c d e ∧ chk a b c d e ≤ 3 := by
  unfold chk
  repeat' split
  all_goals omega
theorem runS_snoc (a b : Int) (s : Int × Int × Bool) (l : List Bool) (k : Bool) : runS a b s (l ++ [k]) = stp a b (runS a b s l) k := by
  simp [runS]
theorem outS_snoc (a b : Int) : ∀ (l : List Bool) (s : Int × Int × Bool) (k : Bool), outS a b s (l ++ [k]) = outS a b s l ++ [(stp a b (runS a b s l) k).2.2]
  | [], s, k => rfl
  | x :: l, s, k => by simp [outS, outS_snoc a b l, runS]
theorem outS_length (a b : Int) : ∀ (l : List Bool) (s : Int × Int × Bool), (outS a b s l).length = l.length
  | [], s => rfl
  | x :: l, s => by simp [outS, outS_length a b l]
theorem take_next {l : List Bool} {n : Int} (h : 0 ≤ n) (k : n < (l.length : Int)) : l.take (n + 1).toNat = l.take n.toNat ++ [l.getD n.toNat false] := by
  have e : (n + 1).toNat = n.toNat + 1 := by omega
  have hl : n.toNat < l.length := by omega
  rw [e, List.take_succ_eq_append_getElem hl]
  simp [List.getD_eq_getElem?_getD, hl]
theorem chk_stp {a b c d : Int} {e k : Bool} {s : Int × Int × Bool} (h : chk a b c d e = 0) (hs : s = stp a b (c, d, e) k) : chk a b s.1 s.2.1 s.2.2 = 0 := by
  obtain ⟨h1, h2, h3, h4, h5, h6, h7, h8⟩ := chk_zero h
  subst hs
  have e1 : ¬ (a < 1 ∨ 100 < a ∨ b < 1 ∨ 100 < b) := by omega
  cases k <;> cases e <;> simp only [stp, chk, e1, if_false, Bool.false_eq_true, if_true, false_and, true_and, Bool.true_or, Bool.false_or, Bool.true_and, Bool.false_and, decide_eq_true_eq] at h ⊢ <;> grind
theorem chk_runS {a b : Int} : ∀ {l : List Bool} {s : Int × Int × Bool}, chk a b s.1 s.2.1 s.2.2 = 0 → chk a b (runS a b s l).1 (runS a b s l).2.1 (runS a b s l).2.2 = 0
  | [], s, h => h
  | k :: l, s, h => chk_runS (l := l) (s := stp a b s k) (chk_stp h rfl)
theorem runS_append (a b : Int) (s : Int × Int × Bool) (l m : List Bool) : runS a b s (l ++ m) = runS a b (runS a b s l) m := by simp [runS]
theorem outS_append (a b : Int) : ∀ (l m : List Bool) (s : Int × Int × Bool), outS a b s (l ++ m) = outS a b s l ++ outS a b (runS a b s l) m
  | [], m, s => rfl
  | x :: l, m, s => by simp [outS, outS_append a b l, runS]
theorem outS_get (a b : Int) : ∀ (l : List Bool) (s : Int × Int × Bool) (i : Nat), i < l.length → (outS a b s l).getD i false = (stp a b (runS a b s (l.take i)) (l.getD i false)).2.2
  | [], s, i, h => by simp at h
  | x :: l, s, 0, h => rfl
  | x :: l, s, i + 1, h => by simpa [outS, runS] using outS_get a b l (stp a b s x) i (by simpa using h)
theorem chk_new {a b : Int} (h1 : 1 ≤ a) (h2 : a ≤ 100) (h3 : 1 ≤ b) (h4 : b ≤ 100) : chk a b 0 0 false = 0 := by
  have e1 : ¬ (a < 1 ∨ 100 < a ∨ b < 1 ∨ 100 < b) := by omega
  simp [chk, e1]
theorem run_ok {a b c d : Int} {e : Bool} {l : List Bool} {a1 b1 c1 d1 x1 : Int} {e1 : Bool} {o1 : List Bool} (h : runPost [.n a, .n b, .n c, .n d, .b e, .lb l] [.n a1, .n b1, .n c1, .n d1, .b e1, .lb o1, .n x1]) (hc : chk a b c d e = 0) (hl : l.length ≤ 10000) :
    x1 = 0 ∧ a1 = a ∧ b1 = b ∧ (c1, d1, e1) = runS a b (c, d, e) l ∧ o1 = outS a b (c, d, e) l ∧ chk a b c1 d1 e1 = 0 := by
  obtain ⟨q1, q2, q3, q4, q5⟩ := h.2.2 hc hl
  refine ⟨q1, q2, q3, q4, q5, ?_⟩
  have := chk_runS (l := l) (s := (c, d, e)) hc
  rw [← q4] at this
  exact this
theorem parts_ok {a b : Int} {l : List Bool} {k : Nat} : runS a b (runS a b (0, 0, false) (l.take k)) (l.drop k) = runS a b (0, 0, false) l ∧ outS a b (0, 0, false) (l.take k) ++ outS a b (runS a b (0, 0, false) (l.take k)) (l.drop k) = outS a b (0, 0, false) l := by
  rw [← runS_append, ← outS_append, List.take_append_drop]
  exact ⟨rfl, rfl⟩
theorem chk_run' {a b c d : Int} {e : Bool} {m : List Bool} (h : (c, d, e) = runS a b (0, 0, false) m) (k : chk a b 0 0 false = 0) : chk a b c d e = 0 := by
  have := chk_runS (l := m) (s := (0, 0, false)) k
  rw [← h] at this; exact this
theorem chk_stp' {a b c d c' d' : Int} {e e' k : Bool} (h : chk a b c d e = 0) (hs : (c', d', e') = stp a b (c, d, e) k) : chk a b c' d' e' = 0 := chk_stp h hs
theorem andB_iff' {a b : Bool} : andB a b = true ↔ a = true ∧ b = true := by cases a <;> cases b <;> simp [andB, bR]
theorem beqB_iff' {a b : Bool} : beqB a b = true ↔ a = b := by cases a <;> cases b <;> simp [beqB, bR]
theorem ne_self (x : Bool) : ¬((x = true → x = false) ∧ (x = false → ¬x = false)) := by cases x <;> simp
theorem take_all {l : List Bool} {n : Int} (h : ¬ n < (l.length : Int)) : l.take n.toNat = l := List.take_of_length_le (by omega)
theorem parts_run {a b c d : Int} {e : Bool} {l : List Bool} {k : Nat} {a1 b1 c1 d1 x1 a2 b2 c2 d2 x2 a3 b3 c3 d3 x3 : Int} {e1 e2 e3 : Bool} {o1 o2 o3 : List Bool}
    (H1 : runPost [.n a, .n b, .n c, .n d, .b e, .lb l] [.n a1, .n b1, .n c1, .n d1, .b e1, .lb o1, .n x1]) (H2 : runPost [.n a, .n b, .n c, .n d, .b e, .lb (l.take k)] [.n a2, .n b2, .n c2, .n d2, .b e2, .lb o2, .n x2])
    (H3 : runPost [.n a2, .n b2, .n c2, .n d2, .b e2, .lb ((l.drop k).take (l.length - k))] [.n a3, .n b3, .n c3, .n d3, .b e3, .lb o3, .n x3]) (h1 : 1 ≤ a) (h2 : a ≤ 100) (h3 : 1 ≤ b) (h4 : b ≤ 100) (h5 : c = 0) (h6 : d = 0) (h7 : e = false) (hl : l.length ≤ 200) :
    x1 = 0 ∧ x2 = 0 ∧ x3 = 0 ∧ a1 = a3 ∧ b1 = b3 ∧ c1 = c3 ∧ d1 = d3 ∧ e1 = e3 ∧ o1 = o2 ++ o3 ∧ chk a b 0 0 false = 0 ∧ o1 = outS a b (0, 0, false) l ∧ a1 = a ∧ b1 = b ∧ (c1, d1, e1) = runS a b (0, 0, false) l := by
  subst h5 h6 h7
  have hc := chk_new h1 h2 h3 h4
  rw [List.take_of_length_le (by simp)] at H3
  obtain ⟨p1, p2, p3, p4, p5, _⟩ := run_ok H1 hc (by omega)
  obtain ⟨q1, q2, q3, q4, q5, q6⟩ := run_ok H2 hc (by simp; omega)
  subst q2 q3
  obtain ⟨r1, r2, r3, r4, r5, _⟩ := run_ok H3 q6 (by simp; omega)
  obtain ⟨t1, t2⟩ := parts_ok (a := a2) (b := b2) (l := l) (k := k)
  rw [← q4] at t1 t2
  have u := p4.trans (t1.symm.trans r4.symm)
  simp only [Prod.mk.injEq] at u
  refine ⟨p1, q1, r1, p2.trans r2.symm, p3.trans r3.symm, u.1, u.2.1, u.2.2, ?_, hc, p5, p2, p3, p4⟩
  rw [p5, q5, r5, t2]
theorem run_fun {a b c d : Int} {e : Bool} {l : List Bool} {a1 b1 c1 d1 x1 a2 b2 c2 d2 x2 : Int} {e1 e2 : Bool} {o1 o2 : List Bool} (h : runPost [.n a, .n b, .n c, .n d, .b e, .lb l] [.n a1, .n b1, .n c1, .n d1, .b e1, .lb o1, .n x1])
    (k : runPost [.n a, .n b, .n c, .n d, .b e, .lb l] [.n a2, .n b2, .n c2, .n d2, .b e2, .lb o2, .n x2]) : a1 = a2 ∧ b1 = b2 ∧ c1 = c2 ∧ d1 = d2 ∧ e1 = e2 ∧ o1 = o2 ∧ x1 = x2 := by
  obtain ⟨h1, h2, h3⟩ := h
  obtain ⟨k1, k2, k3⟩ := k
  by_cases hc : chk a b c d e = 0
  · rcases Nat.lt_or_ge 10000 l.length with hl | hl
    · obtain ⟨q1, q2, q3, q4, q5, q6, q7⟩ := h2 hc hl
      obtain ⟨r1, r2, r3, r4, r5, r6, r7⟩ := k2 hc hl
      exact ⟨q2.trans r2.symm, q3.trans r3.symm, q4.trans r4.symm, q5.trans r5.symm, q6.trans r6.symm, q7.trans r7.symm, q1.trans r1.symm⟩
    · obtain ⟨q1, q2, q3, q4, q5⟩ := h3 hc hl
      obtain ⟨r1, r2, r3, r4, r5⟩ := k3 hc hl
      have := q4.trans r4.symm
      simp only [Prod.mk.injEq] at this
      exact ⟨q2.trans r2.symm, q3.trans r3.symm, this.1, this.2.1, this.2.2, q5.trans r5.symm, q1.trans r1.symm⟩
  · obtain ⟨q1, q2, q3, q4, q5, q6, q7⟩ := h1 hc
    obtain ⟨r1, r2, r3, r4, r5, r6, r7⟩ := k1 hc
    exact ⟨q2.trans r2.symm, q3.trans r3.symm, q4.trans r4.symm, q5.trans r5.symm, q6.trans r6.symm, q7.trans r7.symm, q1.trans r1.symm⟩
theorem eq_of_getD {a b : List Bool} (h : a.length = b.length) (k : ∀ j, j < a.length → a.getD j false = b.getD j false) : a = b :=
  List.ext_getElem h fun i h1 h2 => by have := k i h1; simpa [List.getD_eq_getElem?_getD, h1, h2] using this
end
end Go.Sp
