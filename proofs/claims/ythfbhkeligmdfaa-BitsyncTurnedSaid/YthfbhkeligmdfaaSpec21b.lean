import Derived.Test.YthfbhkeligmdfaaSpec21
namespace Go.Sp
open Go.Ev
def cSm : CX := .l [.i .i64 (-1000) 1000, .i .i64 (-1000) 1000] 200
def cChg : CX := .l [.i .i64 0 1000] 20
def syncV : VK := .agg [cChg, ib 0 1000, ib (-1000) 1000, ib (-1000) 1000]
def newPost : List DV → List DV → Prop
  | [.n p], [.l c, .n s, .n a, .n b, .n e] => e = 0 ∧ c = List.replicate p.toNat 0 ∧ s = 0 ∧ a = 0 ∧ b = 0
  | _, _ => False
def sigNew : Sig := ⟨[.one (ib 1 20)], [syncV, .one (ib 0 18)], fun _ => True, newPost⟩
def feedPre : List DV → Prop
  | [.l c, .n s, .n a, .n b, .l x, .l _] => 1 ≤ c.length ∧ sumL c ≤ s ∧ (s = 0 → a = 0 ∧ b = 0) ∧ s + x.length ≤ 1000
  | _ => False
def feedPost : List DV → List DV → Prop
  | [.l c, .n s, .n a, .n b, .l x, .l y], [.l c', .n s', .n a', .n b', .n e] => e = 0 ∧ c' = chN c s a b x y x.length ∧ s' = s + x.length ∧ a' = prv a x x.length ∧ b' = prv b y y.length
  | _, _ => False
def sigFeed : Sig := ⟨[syncV, .one cSm], [syncV, .one (ib 0 18)], feedPre, feedPost⟩
def chk21Inv : List DV → List DV → Prop
  | [.l c, .n s], [.n i, .n left] => 0 ≤ i ∧ i ≤ (c.length : Int) ∧ left = s - sumL (c.take i.toNat)
  | _, _ => False
def feedInv : List DV → List DV → Prop
  | [.l c, .n s, .n a, .n b, .l x, .l y], [.n i, .l c', .n s', .n a', .n b'] => 0 ≤ i ∧ i ≤ (x.length : Int) ∧ c' = chN c s a b x y i.toNat ∧ s' = s + i ∧ a' = prv a x i.toNat ∧ b' = prv b y i.toNat
  | _, _ => False
def mea1 : List DV → List DV → Nat
  | .l c :: _, .n i :: _ => ((c.length : Int) - i).toNat
  | _, _ => 0
def mea5 : List DV → List DV → Nat
  | [.l _, .n _, .n _, .n _, .l x, .l _], .n i :: _ => ((x.length : Int) - i).toNat
  | _, _ => 0
def smsPost : List DV → List DV → Prop
  | [.l l], [.l x, .l _] => x.length = l.length
  | _, _ => False
def cIn (m : Nat) : CX := .l [.i .i64 (-9223372036854775808) 9223372036854775807] m
def sigSms : Sig := ⟨[.one (cIn 60)], [.one (.l [.i .i64 (-100) 100, .i .i64 (-100) 100] 60)], fun _ => True, smsPost⟩
def smsInv : List DV → List DV → Prop
  | [.l l], [.n i, .l x, .l _] => 0 ≤ i ∧ i ≤ (l.length : Int) ∧ (x.length : Int) = i
  | _, _ => False
def turnPost : List DV → List DV → Prop
  | [.n x, .n m], [.n r] => r = x % m
  | _, _ => False
def sigTurn : Sig := ⟨[.one i64, .one (.i .i64 1 1000)], [.one (ib 0 1000)], fun _ => True, turnPost⟩
def equP : List DV → List DV → Prop
  | [.l a, .l b], [.b r] => (r = true ↔ a = b)
  | _, _ => False
def sigEqu : Sig := ⟨[.one (cIn 1000), .one (cIn 1000)], [.one .b], fun _ => True, equP⟩
def equInv : List DV → List DV → Prop
  | [.l a, .l b], [.n i] => 0 ≤ i ∧ a.length = b.length ∧ i ≤ (a.length : Int) ∧ ∀ j : Nat, (j : Int) < i → a.getD j 0 = b.getD j 0
  | _, _ => False
theorem equ_of {a b : List Int} {i : Int} (h : a.length = b.length) (k : ¬i < (a.length : Int)) (g : ∀ j : Nat, (j : Int) < i → a.getD j 0 = b.getD j 0) : a = b :=
  eq_of_getD (d := 0) h fun j hj => g j (by omega)
def sigParts : Sig := ⟨[.one i64, .one (cIn 9223372036854775807), .one (cIn 9223372036854775807)], [.one .b], fun _ => True, fun _ rs => rs = [.b true]⟩
noncomputable section
def equL : LSpec := ⟨[0, 1], [(.tmp 5, ib 0 1000)], [(.tmp 0, cIn 1000), (.tmp 1, cIn 1000)], equInv, mea1, 20⟩
def sumsL : LSpec := ⟨[0], [(.tmp 4, ib 0 60), (.tmp 3, .l [.i .i64 (-100) 100, .i .i64 (-100) 100] 60)], [(.tmp 0, cIn 60)], smsInv, mea1, 60⟩
def chk21L : LSpec := ⟨[1, 34, 36, 37], [(.tmp 38, ib 0 20), (.tmp 4, ib 0 1000)], [(.tmp 36, cChg), (.tmp 34, ib 0 1000)], chk21Inv, mea1, 20⟩
def feedL : LSpec := ⟨[1, 2, 4, 7, 23, 24], [(.tmp 25, ib 0 200), (.blk (key 29), cChg), (.cell (key 30) 1, ib 0 1000), (.cell (key 30) 2, ib (-1000) 1000), (.cell (key 30) 3, ib (-1000) 1000)],
  [(.cell (key 3) 0, cChg), (.cell (key 3) 1, ib 0 1000), (.cell (key 3) 2, ib (-1000) 1000), (.cell (key 3) 3, ib (-1000) 1000), (.tmp 23, cSm)], feedInv, mea5, 100⟩
end
end Go.Sp
namespace Go.Sp
open Go.Ev
def clonePost : List DV → List DV → Prop
  | [.l a], [.l b] => b = a
  | _, _ => False
def clonePre : List DV → Prop
  | [.l a] => a.length ≠ 0
  | _ => False
def sigClone : Sig := ⟨[.one (cIn 30)], [.one (cIn 30)], clonePre, clonePost⟩
theorem tdiv201 {x : Int} (h : -9223372036854775808 ≤ x) (g : x ≤ 9223372036854775807) : -9223372036854775808 ≤ x.tdiv 201 ∧ x.tdiv 201 ≤ 9223372036854775807 := by
  rcases Int.lt_or_le x 0 with c | c
  · have e := Int.neg_tdiv (a := x) (b := 201)
    rw [tdiv_nn (a := -x) (by omega)] at e; omega
  · rw [tdiv_nn c]; omega
def sigCnt : Sig := ⟨[syncV], [syncV], fun _ => True, fun _ _ => True⟩
end Go.Sp
namespace Go.Sp
open Go.Ev
theorem prv_succ {a : Int} {xs : List Int} {n : Int} (h : 0 ≤ n) : prv a xs (n + 1).toNat = xs.getD n.toNat 0 := by
  unfold prv; rw [if_neg (by omega), show (n + 1).toNat - 1 = n.toNat by omega]
theorem feed_yes {ch c : List Int} {seen la lb n s L : Int} {xs ys : List Int} (hc : chg la lb xs ys n.toNat) (h0 : 0 ≤ n) (hl : c = chN ch seen la lb xs ys n.toNat) (hs : s = seen + n) (hn : 0 ≤ s) (hL : L = (c.length : Int)) :
    c.set (s.tmod L).toNat (c.getD (s.tmod L).toNat 0 + 1) = chN ch seen la lb xs ys (n + 1).toNat := by
  rw [toNat_succ h0]
  simp only [chN]
  rw [if_pos hc, ← hl, bump, tmod_nn hn, hL, hs, Int.toNat_of_nonneg h0]
theorem feed_no {ch c : List Int} {seen la lb n : Int} {xs ys : List Int} (hc : ¬chg la lb xs ys n.toNat) (h0 : 0 ≤ n) (hl : c = chN ch seen la lb xs ys n.toNat) : c = chN ch seen la lb xs ys (n + 1).toNat := by
  rw [toNat_succ h0]
  simp only [chN]
  rw [if_neg hc, ← hl]
theorem getD_le_sum {l : List Int} {i : Nat} (h : ∀ y ∈ l, 0 ≤ y) : l.getD i 0 ≤ sumL l := by
  rcases Nat.lt_or_ge i l.length with k | k
  · rw [List.getD_eq_getElem?_getD, List.getElem?_eq_getElem k]
    exact mem_le_sum h _ (List.getElem_mem k)
  · rw [List.getD_eq_getElem?_getD, List.getElem?_eq_none k]
    exact sumL_nn h
theorem cng_bd {la lb : Int} {xs ys : List Int} {n : Nat} : 0 ≤ cngN la lb xs ys n ∧ cngN la lb xs ys n ≤ n := cntN_bd
theorem mod_bd {a n : Int} (h : 0 ≤ a) (hn : 0 < n) : 0 ≤ a.tmod n ∧ a.tmod n < n := by
  rw [tmod_nn h]; exact ⟨Int.emod_nonneg a (by omega), Int.emod_lt_of_pos a hn⟩
end Go.Sp
namespace Go.Sp
open Go.Ev
def partsInv : List DV → List DV → Prop
  | [.l x, .l y], [.n i, .n c] => 1 ≤ i ∧ (i ≤ (x.length : Int) ∨ i = 1) ∧ c = cngN 0 0 x y i.toNat
  | _, _ => False
def meaP : List DV → List DV → Nat
  | .l x :: _, .n i :: _ => ((x.length : Int) - i).toNat
  | _, _ => 0
def totInv : List DV → List DV → Prop
  | [.l c], [.n i, .n s] => 0 ≤ i ∧ i ≤ (c.length : Int) ∧ s = sumL (c.take i.toNat)
  | _, _ => False
noncomputable section
def partsL : LSpec := ⟨[0, 7, 10, 15, 17, 20], [(.tmp 21, ib 1 200), (.tmp 19, ib 0 200)], [(.tmp 10, cSm)], partsInv, meaP, 20⟩
def totL : LSpec := ⟨[0, 7, 17, 19], [(.tmp 22, ib 0 20), (.tmp 20, ib 0 1000)], [(.cell (key 15) 0, cChg)], totInv, meaP, 20⟩
end
theorem cng_one {x y : List Int} : cngN 0 0 x y 1 = 0 := by
  have : ¬chg 0 0 x y 0 := by unfold chg prv; rw [if_pos rfl, if_pos rfl]; omega
  show cntN (chg 0 0 x y) (0 + 1) = 0
  rw [cntN_no this]; rfl
end Go.Sp
namespace Go.Sp
open Go.Ev
theorem mul100 {a b : Int} (h : -100 ≤ a ∧ a ≤ 100) (g : -100 ≤ b ∧ b ≤ 100) : -10000 ≤ a * b ∧ a * b ≤ 10000 := by
  have h1 : 0 ≤ (100 - a) * (100 + b) := Int.mul_nonneg (by omega) (by omega)
  have h2 : 0 ≤ (100 + a) * (100 - b) := Int.mul_nonneg (by omega) (by omega)
  have h3 : 0 ≤ (100 + a) * (100 + b) := Int.mul_nonneg (by omega) (by omega)
  have h4 : 0 ≤ (100 - a) * (100 - b) := Int.mul_nonneg (by omega) (by omega)
  rw [Int.sub_mul, Int.mul_add] at h1
  rw [Int.add_mul, Int.mul_sub] at h2
  rw [Int.add_mul, Int.mul_add] at h3
  rw [Int.sub_mul, Int.mul_sub] at h4
  rw [Int.mul_add] at h1
  rw [Int.mul_sub] at h2
  rw [Int.mul_add] at h3
  rw [Int.mul_sub] at h4
  omega
theorem prv_pos {a : Int} {xs : List Int} {n : Int} (h : 1 ≤ n) : prv a xs n.toNat = xs.getD (n - 1).toNat 0 := by
  unfold prv; rw [if_neg (by omega), show n.toNat - 1 = (n - 1).toNat by omega]
theorem cng_yes {x y : List Int} {n : Int} (h : 0 ≤ n) (c : chg 0 0 x y n.toNat) : cngN 0 0 x y (n + 1).toNat = cngN 0 0 x y n.toNat + 1 := by
  rw [toNat_succ h]; exact cntN_yes c
theorem cng_no {x y : List Int} {n : Int} (h : 0 ≤ n) (c : ¬chg 0 0 x y n.toNat) : cngN 0 0 x y (n + 1).toNat = cngN 0 0 x y n.toNat := by
  rw [toNat_succ h]; exact cntN_no c
theorem parts_end {x y : List Int} {n c : Int} {L : Nat} (h1 : 1 ≤ n) (h2 : n ≤ (L : Int) ∨ n = 1) (h3 : ¬n < (L : Int)) (h4 : c = cngN 0 0 x y n.toNat) : c = cngN 0 0 x y L := by
  rw [h4]
  by_cases e : L = 0
  · rw [show n.toNat = 1 by omega, cng_one, e]; rfl
  · rw [show n.toNat = L by omega]
end Go.Sp
