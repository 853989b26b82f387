import Derived.Test.YthfbhkeligmdfaaSpec21c
namespace Go.Sp
open Go.Ev
def bitF (u v : List Int) : Nat → Int
  | 0 => 0
  | n + 1 => if u.getD n 0 * u.getD (n + 1) 0 + v.getD n 0 * v.getD (n + 1) 0 < 0 then 1 - bitF u v n else bitF u v n
def bitsL (u v : List Int) : List Int := (List.range u.length).map fun n => bitF u v n
def readR (x y : List Int) (pb a : Int) (b : List Int) (e : Int) : Prop := (badV x y pb a ∧ b = [] ∧ e = 2) ∨ (¬badV x y pb a ∧ (x.length : Int) < a + pb ∧ b = [] ∧ e = 16) ∨ (¬badV x y pb a ∧ a + pb ≤ (x.length : Int) ∧ b = bitsL (valL x pb a) (valL y pb a) ∧ e = 0)
def readPost : List DV → List DV → Prop
  | [.l x, .l y, .n pb, .n a], [.l b, .n e] => readR x y pb a b e
  | _, _ => False
def cBt : CX := .l [.i .i64 0 1] 200
def sigRead : Sig := ⟨[.one cS2, .one i64, .one i64], [.one cBt, .one (ib 0 18)], fun _ => True, readPost⟩
theorem read_fun {x y b b' : List Int} {pb a e e' : Int} (h : readR x y pb a b e) (g : readR x y pb a b' e') : b = b' ∧ e = e' := by
  rcases h with ⟨h1, h2, h4⟩ | ⟨h0, h1, h2, h4⟩ | ⟨h0, h1, h2, h4⟩ <;> rcases g with ⟨g1, g2, g4⟩ | ⟨g0, g1, g2, g4⟩ | ⟨g0, g1, g2, g4⟩
  all_goals first | exact absurd h1 g0 | exact absurd g1 h0 | (exfalso; omega) | exact ⟨h2.trans g2.symm, by omega⟩
def readInv : List DV → List DV → Prop
  | [.l u, .l v], [.n i, .l b] => 1 ≤ i ∧ (i ≤ (u.length : Int) ∨ i = 1) ∧ b.length = u.length ∧ ∀ j : Nat, (j : Int) < i → j < u.length → b.getD j 0 = bitF u v j
  | _, _ => False
theorem bitF_01 {u v : List Int} : ∀ {n : Nat}, 0 ≤ bitF u v n ∧ bitF u v n ≤ 1
  | 0 => by simp [bitF]
  | n + 1 => by
    have := bitF_01 (u := u) (v := v) (n := n)
    simp only [bitF]; split <;> omega
theorem bitsL_of {u v b : List Int} {i : Int} (h : b.length = u.length) (hi : ¬i < (u.length : Int)) (g : ∀ j : Nat, (j : Int) < i → j < u.length → b.getD j 0 = bitF u v j) : b = bitsL u v :=
  eq_of_getD (d := 0) (by simp [bitsL, h]) fun j hj => by
    rw [g j (by omega) (by omega)]
    have : j < u.length := by omega
    simp [bitsL, List.getD_eq_getElem?_getD, this]
theorem bitsL_bd {u v : List Int} : ∀ y ∈ bitsL u v, 0 ≤ y ∧ y ≤ 1 := fun y hy => by
  obtain ⟨j, _, rfl⟩ := List.mem_map.1 hy
  exact bitF_01
def rrInv : List DV → List DV → Prop
  | [.l u, .l v], [.n i, .l b] => 1 ≤ i ∧ (i ≤ (u.length : Int) ∨ i = 1) ∧ (b.length : Int) = i ∧ ∀ j : Nat, (j : Int) < i → b.getD j 0 = bitF u v j
  | _, _ => False
theorem valL_pos {x : List Int} {pb a : Int} (h : 1 ≤ pb) (g : a + pb ≤ (x.length : Int)) : 1 ≤ (valL x pb a).length := by
  rw [valL_len]
  unfold valN
  have : 1 ≤ ((x.length : Int) - a) / pb := by
    rw [Int.le_ediv_iff_mul_le (by omega)]; omega
  omega
theorem good_V {x y : List Int} {pb a : Int} (h : ¬badV x y pb a) : 1 ≤ pb := by
  by_cases g : 1 ≤ pb
  · exact g
  · exact absurd (.inl fun k => g k.1) h
theorem bit_step {u v : List Int} {i : Int} (h : 1 ≤ i) : bitF u v i.toNat = if u.getD (i - 1).toNat 0 * u.getD i.toNat 0 + v.getD (i - 1).toNat 0 * v.getD i.toNat 0 < 0 then 1 - bitF u v (i - 1).toNat else bitF u v (i - 1).toNat := by
  have e : i.toNat = (i - 1).toNat + 1 := by omega
  conv => lhs; rw [e]
  simp only [bitF]; rw [← e]
theorem mulV {a b : Int} (h : -21000000 ≤ a ∧ a ≤ 21000000) (g : -21000000 ≤ b ∧ b ≤ 21000000) : -441000000000000 ≤ a * b ∧ a * b ≤ 441000000000000 := by
  have h1 : 0 ≤ (21000000 - a) * (21000000 + b) := Int.mul_nonneg (by omega) (by omega)
  have h2 : 0 ≤ (21000000 + a) * (21000000 - b) := Int.mul_nonneg (by omega) (by omega)
  have h3 : 0 ≤ (21000000 + a) * (21000000 + b) := Int.mul_nonneg (by omega) (by omega)
  have h4 : 0 ≤ (21000000 - a) * (21000000 - b) := Int.mul_nonneg (by omega) (by omega)
  rw [Int.sub_mul, Int.mul_add, Int.mul_add] at h1
  rw [Int.add_mul, Int.mul_sub, Int.mul_sub] at h2
  rw [Int.add_mul, Int.mul_add, Int.mul_add] at h3
  rw [Int.sub_mul, Int.mul_sub, Int.mul_sub] at h4
  omega
theorem read_step {u v b : List Int} {i x : Int} (h : 1 ≤ i) (hi : i < (u.length : Int)) (hb : b.length = u.length) (g : ∀ j : Nat, (j : Int) < i → j < u.length → b.getD j 0 = bitF u v j) (hx : x = bitF u v i.toNat) :
    ∀ j : Nat, (j : Int) < i + 1 → j < u.length → (b.set i.toNat x).getD j 0 = bitF u v j := fun j h1 h2 => by
  rw [getD_set]
  by_cases e : i.toNat = j
  · rw [if_pos ⟨e, by omega⟩, hx, e]
  · rw [if_neg (fun g => e g.1)]; exact g j (by omega) h2
theorem rr_step {u v b : List Int} {i x : Int} (hb : (b.length : Int) = i) (g : ∀ j : Nat, (j : Int) < i → b.getD j 0 = bitF u v j) (hx : x = bitF u v i.toNat) :
    ((b ++ [x]).length : Int) = i + 1 ∧ ∀ j : Nat, (j : Int) < i + 1 → (b ++ [x]).getD j 0 = bitF u v j := by
  refine ⟨by simp; omega, fun j hj => ?_⟩
  rcases Int.lt_or_le (j : Int) i with c | c
  · rw [getD_app1 (by omega)]; exact g j c
  · have e : j = b.length := by omega
    rw [e, getD_last, hx]; congr 1; omega
theorem set_get {l : List Int} {i : Nat} {x : Int} (h : i < l.length) : (l.set i x).getD i 0 = x := by rw [getD_set, if_pos ⟨rfl, h⟩]
def smpsP : List DV → List DV → Prop
  | [.l a, .l b, .l c, .l d], [.b r] => (r = true ↔ (a = c ∧ b = d))
  | _, _ => False
def cW2 : CX := .l [.i .i64 (-9223372036854775808) 9223372036854775807, .i .i64 (-9223372036854775808) 9223372036854775807] 1000
def sigSmps : Sig := ⟨[.one cW2, .one cW2], [.one .b], fun _ => True, smpsP⟩
def smps2Inv : List DV → List DV → Prop
  | [.l a, .l b, .l c, .l d], [.n i] => 0 ≤ i ∧ a.length = c.length ∧ i ≤ (a.length : Int) ∧ ∀ j : Nat, (j : Int) < i → a.getD j 0 = c.getD j 0 ∧ b.getD j 0 = d.getD j 0
  | _, _ => False
def sigReads : Sig := ⟨[.one (.l [.i .i64 (-9223372036854775808) 9223372036854775807, .i .i64 (-9223372036854775808) 9223372036854775807] 9223372036854775807), .one i64, .one i64], [.one .b], fun _ => True, fun _ rs => rs = [.b true]⟩
noncomputable section
def smpsL : LSpec := ⟨[0, 1], [(.tmp 5, ib 0 1000)], [(.tmp 0, cW2), (.tmp 1, cW2)], smps2Inv, mea1, 20⟩
def readL : LSpec := ⟨[8, 10], [(.tmp 11, ib 1 250), (.blk (key 3), cBt)], [(.tmp 8, cV)], readInv, mea1, 20⟩
def rrL : LSpec := ⟨[8], [(.tmp 11, ib 1 250), (.tmp 10, .l [.i .i64 0 1] 250)], [(.tmp 8, cV)], rrInv, mea1, 20⟩
end
end Go.Sp
