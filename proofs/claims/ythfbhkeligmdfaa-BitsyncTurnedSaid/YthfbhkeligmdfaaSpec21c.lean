import Derived.Test.YthfbhkeligmdfaaSpec21b
namespace Go.Sp
open Go.Ev
def cS2 : CX := .l [.i .i64 (-9223372036854775808) 9223372036854775807, .i .i64 (-9223372036854775808) 9223372036854775807] 200
def cV : CX := .l [.i .i64 (-21000000) 21000000, .i .i64 (-21000000) 21000000] 200
def insA (x y : List Int) : Prop := ∀ j : Nat, j < x.length → (-1048576 ≤ x.getD j 0 ∧ x.getD j 0 ≤ 1048576) ∧ -1048576 ≤ y.getD j 0 ∧ y.getD j 0 ≤ 1048576
def badV (x y : List Int) (pb a : Int) : Prop := ¬(1 ≤ pb ∧ pb ≤ 20 ∧ 0 ≤ a ∧ a < pb) ∨ ¬insA x y
def sumS (x : List Int) (s : Int) : Nat → Int
  | 0 => 0
  | n + 1 => sumS x s n + x.getD (s + n).toNat 0
def valN (x : List Int) (pb a : Int) : Int := ((x.length : Int) - a) / pb
def valL (x : List Int) (pb a : Int) : List Int := (List.range (valN x pb a).toNat).map fun k : Nat => sumS x (a + (k : Int) * pb) pb.toNat
def valR (x y : List Int) (pb a : Int) (u v : List Int) (e : Int) : Prop := (badV x y pb a ∧ u = [] ∧ v = [] ∧ e = 2) ∨ (¬badV x y pb a ∧ (x.length : Int) < a + pb ∧ u = [] ∧ v = [] ∧ e = 16) ∨ (¬badV x y pb a ∧ a + pb ≤ (x.length : Int) ∧ u = valL x pb a ∧ v = valL y pb a ∧ e = 0)
def valPost : List DV → List DV → Prop
  | [.l x, .l y, .n pb, .n a], [.l u, .l v, .n e] => valR x y pb a u v e
  | _, _ => False
def sigVal : Sig := ⟨[.one cS2, .one i64, .one i64], [.one cV, .one (ib 0 18)], fun _ => True, valPost⟩
theorem val_fun {x y u v u' v' : List Int} {pb a e e' : Int} (h : valR x y pb a u v e) (g : valR x y pb a u' v' e') : u = u' ∧ v = v' ∧ e = e' := by
  rcases h with ⟨h1, h2, h3, h4⟩ | ⟨h0, h1, h2, h3, h4⟩ | ⟨h0, h1, h2, h3, h4⟩ <;> rcases g with ⟨g1, g2, g3, g4⟩ | ⟨g0, g1, g2, g3, g4⟩ | ⟨g0, g1, g2, g3, g4⟩
  all_goals first | exact absurd h1 g0 | exact absurd g1 h0 | (exfalso; omega) | exact ⟨h2.trans g2.symm, h3.trans g3.symm, by omega⟩
def chkVInv : List DV → List DV → Prop
  | [.l x, .l y], [.n i] => 0 ≤ i ∧ i ≤ (x.length : Int) ∧ ∀ j : Nat, (j : Int) < i → (-1048576 ≤ x.getD j 0 ∧ x.getD j 0 ≤ 1048576) ∧ -1048576 ≤ y.getD j 0 ∧ y.getD j 0 ≤ 1048576
  | _, _ => False
def chunkInv : List DV → List DV → Prop
  | [.l x, .l y, .w o0 L0, .n pb], [.w o len, .l u, .l v] => 1 ≤ pb ∧ (x.length : Int) = L0 ∧ (o : Int) = o0 + u.length * pb ∧ (len : Int) = L0 - u.length * pb ∧ (∀ j : Nat, j < u.length → u.getD j 0 = sumS x ((j : Int) * pb) pb.toNat) ∧ ∀ j : Nat, j < u.length → v.getD j 0 = sumS y ((j : Int) * pb) pb.toNat
  | _, _ => False
def chunkMea : List DV → List DV → Nat
  | _, .w _ len :: _ => len
  | _, _ => 0
def cP : CX := .l [.i .i64 (-1048576) 1048576, .i .i64 (-1048576) 1048576] 20
def bodyInv : List DV → List DV → Prop
  | [.l p, .l q], [.n i, .n a, .n b] => 0 ≤ i ∧ i ≤ (p.length : Int) ∧ a = sumS p 0 i.toNat ∧ b = sumS q 0 i.toNat
  | _, _ => False
theorem sumS_bd {x : List Int} {s : Int} {n : Nat} (h : ∀ y ∈ x, -1048576 ≤ y ∧ y ≤ 1048576) : -(1048576 * (n : Int)) ≤ sumS x s n ∧ sumS x s n ≤ 1048576 * (n : Int) := by
  induction n with
  | zero => simp [sumS]
  | succ n ih =>
    have g := getD_bd (i := (s + (n : Int)).toNat) h (by omega) (by omega)
    simp only [sumS]; omega
theorem sumS_next {x : List Int} {i : Int} (h : 0 ≤ i) : sumS x 0 (i + 1).toNat = sumS x 0 i.toNat + x.getD i.toNat 0 := by
  rw [toNat_succ h]; simp only [sumS]; rw [Int.zero_add, show ((i.toNat : Nat) : Int).toNat = i.toNat by omega]
theorem td_get {l : List Int} {n m j : Nat} (h : j < n) : ((l.drop m).take n).getD j 0 = l.getD (m + j) 0 := by
  simp [List.getD_eq_getElem?_getD, List.getElem?_take, h]
theorem sumS_td {l : List Int} {n m : Nat} {s : Int} : ∀ {k : Nat}, 0 ≤ s → s + k ≤ n → sumS ((l.drop m).take n) s k = sumS l (m + s) k
  | 0, _, _ => rfl
  | k + 1, h, g => by
    simp only [sumS]
    rw [sumS_td h (by omega), td_get (by omega)]
    congr 2; omega
theorem ins_mem {x y : List Int} (hl : y.length = x.length) (h : insA x y) : (∀ z ∈ x, -1048576 ≤ z ∧ z ≤ 1048576) ∧ ∀ z ∈ y, -1048576 ≤ z ∧ z ≤ 1048576 := by
  constructor <;> intro z hz <;> obtain ⟨j, hj, e⟩ := List.getElem_of_mem hz
  · have := (h j hj).1
    rw [List.getD_eq_getElem?_getD, List.getElem?_eq_getElem hj] at this
    rw [← e]; exact this
  · have := (h j (by omega)).2
    rw [List.getD_eq_getElem?_getD, List.getElem?_eq_getElem hj] at this
    rw [← e]; exact this
theorem snoc_all {f : Nat → Int} {o : List Int} {x : Int} (g : ∀ j : Nat, j < o.length → o.getD j 0 = f j) (hx : x = f o.length) : ∀ j : Nat, j < (o ++ [x]).length → (o ++ [x]).getD j 0 = f j := fun j hj => by
  rw [List.length_append, List.length_singleton] at hj
  rcases Nat.lt_or_ge j o.length with c | c
  · rw [getD_app1 c]; exact g j c
  · have e : j = o.length := by omega
    rw [e, getD_last, hx]
theorem chunk_next {x y u v : List Int} {o0 L0 o len o' len' : Nat} {pb a b : Int} (hl : v.length = u.length) (h : 1 ≤ pb ∧ (x.length : Int) = L0 ∧ (o : Int) = o0 + u.length * pb ∧ (len : Int) = L0 - u.length * pb ∧ (∀ j : Nat, j < u.length → u.getD j 0 = sumS x ((j : Int) * pb) pb.toNat) ∧ ∀ j : Nat, j < u.length → v.getD j 0 = sumS y ((j : Int) * pb) pb.toNat)
    (ho : (o' : Int) = o + pb) (hn : (len' : Int) = len - pb) (ha : a = sumS x ((u.length : Int) * pb) pb.toNat) (hb : b = sumS y ((u.length : Int) * pb) pb.toNat) :
    1 ≤ pb ∧ (x.length : Int) = L0 ∧ (o' : Int) = o0 + (u ++ [a]).length * pb ∧ (len' : Int) = L0 - (u ++ [a]).length * pb ∧ (∀ j : Nat, j < (u ++ [a]).length → (u ++ [a]).getD j 0 = sumS x ((j : Int) * pb) pb.toNat) ∧ ∀ j : Nat, j < (u ++ [a]).length → (v ++ [b]).getD j 0 = sumS y ((j : Int) * pb) pb.toNat := by
  obtain ⟨h1, h2, h3, h4, h5, h6⟩ := h
  have e : ((u ++ [a]).length : Int) * pb = u.length * pb + pb := by rw [List.length_append, List.length_singleton, Int.natCast_add, Int.add_mul]; simp
  refine ⟨h1, h2, by omega, by omega, snoc_all h5 ha, fun j hj => ?_⟩
  have := snoc_all (o := v) (x := b) (f := fun j => sumS y ((j : Int) * pb) pb.toNat) (fun j hj => h6 j (by omega)) (by rw [hl]; exact hb) j (by simp at hj ⊢; omega)
  exact this
theorem valL_len {x : List Int} {pb a : Int} : (valL x pb a).length = (valN x pb a).toNat := by simp [valL]
theorem valL_get {x : List Int} {pb a : Int} {j : Nat} (h : j < (valN x pb a).toNat) : (valL x pb a).getD j 0 = sumS x (a + (j : Int) * pb) pb.toNat := by
  simp [valL, List.getD_eq_getElem?_getD, h]
theorem valN_of {x : List Int} {pb a : Int} {n : Nat} (h : 1 ≤ pb) (h1 : (n : Int) * pb ≤ (x.length : Int) - a) (h2 : (x.length : Int) - a < (n : Int) * pb + pb) : valN x pb a = n := by
  unfold valN
  have e : (x.length : Int) - a = ((x.length : Int) - a - n * pb) + n * pb := by omega
  rw [e, Int.add_mul_ediv_right _ _ (by omega), Int.ediv_eq_zero_of_lt (by omega) (by omega)]; omega
theorem val_of {x u : List Int} {pb a : Int} (h : 1 ≤ pb) (h1 : (u.length : Int) * pb ≤ (x.length : Int) - a) (h2 : (x.length : Int) - a < (u.length : Int) * pb + pb) (g : ∀ j : Nat, j < u.length → u.getD j 0 = sumS x (a + (j : Int) * pb) pb.toNat) : u = valL x pb a := by
  have n := valN_of h h1 h2
  exact eq_of_getD (d := 0) (by rw [valL_len, n]; rfl) fun j hj => by rw [g j hj, valL_get (by rw [n]; exact hj)]
theorem mul_next {j n : Nat} {pb : Int} (h : j < n) (hp : 1 ≤ pb) : (j : Int) * pb + pb ≤ (n : Int) * pb ∧ 0 ≤ (j : Int) * pb := by
  have := Int.mul_le_mul_of_nonneg_right (show (j : Int) + 1 ≤ n by omega) (show 0 ≤ pb by omega)
  rw [Int.add_mul, Int.one_mul] at this
  exact ⟨this, Int.mul_nonneg (by omega) (by omega)⟩
theorem mul_nn {n : Nat} {pb : Int} (hp : 1 ≤ pb) : 0 ≤ (n : Int) * pb := Int.mul_nonneg (by omega) (by omega)
/-- what the program has gathered -/
theorem val_prog {x u : List Int} {pb a : Int} {m : Nat} (ha : 0 ≤ a) (hp : 1 ≤ pb) (hx : a ≤ (x.length : Int)) (h4 : (m : Int) = ((x.length - a.toNat : Nat) : Int) - u.length * pb) (h5 : ∀ j : Nat, j < u.length → u.getD j 0 = sumS ((x.drop a.toNat).take (x.length - a.toNat)) ((j : Int) * pb) pb.toNat) (hm : ¬pb ≤ (m : Int)) : u = valL x pb a := by
  refine val_of hp (by omega) (by omega) fun j hj => ?_
  have := mul_next hj hp
  rw [h5 j hj, sumS_td (by omega) (by omega)]
  congr 1; omega
def rvInv : List DV → List DV → Prop
  | [.l x, .l y, .n pb, .n a], [.n i, .l u, .l v] => 1 ≤ pb ∧ i = a + u.length * pb ∧ (i ≤ (x.length : Int) ∨ u.length = 0) ∧ (∀ j : Nat, j < u.length → u.getD j 0 = sumS x (a + (j : Int) * pb) pb.toNat) ∧ ∀ j : Nat, j < u.length → v.getD j 0 = sumS y (a + (j : Int) * pb) pb.toNat
  | _, _ => False
def rvMea : List DV → List DV → Nat
  | .l x :: _, .n i :: _ => ((x.length : Int) - i).toNat
  | _, _ => 0
def rv2Inv : List DV → List DV → Prop
  | [.l x, .l y, .n pb, .n i], [.n j, .n a, .n b] => i ≤ j ∧ j ≤ i + pb ∧ a = sumS x i (j - i).toNat ∧ b = sumS y i (j - i).toNat
  | _, _ => False
def rv2Mea : List DV → List DV → Nat
  | [.l _, .l _, .n pb, .n i], .n j :: _ => (i + pb - j).toNat
  | _, _ => 0
theorem sumS_step {x : List Int} {i j : Int} (h : i ≤ j) : sumS x i (j + 1 - i).toNat = sumS x i (j - i).toNat + x.getD j.toNat 0 := by
  rw [show (j + 1 - i).toNat = (j - i).toNat + 1 by omega]; simp only [sumS]; congr 3; omega
theorem rv_next {x y u v : List Int} {pb a i i' b c : Int} (hl : v.length = u.length) (h : 1 ≤ pb ∧ i = a + u.length * pb ∧ (i ≤ (x.length : Int) ∨ u.length = 0) ∧ (∀ j : Nat, j < u.length → u.getD j 0 = sumS x (a + (j : Int) * pb) pb.toNat) ∧ ∀ j : Nat, j < u.length → v.getD j 0 = sumS y (a + (j : Int) * pb) pb.toNat)
    (hi : i' = i + pb) (hx : i' ≤ (x.length : Int)) (hb : b = sumS x i pb.toNat) (hc : c = sumS y i pb.toNat) :
    1 ≤ pb ∧ i' = a + (u ++ [b]).length * pb ∧ (i' ≤ (x.length : Int) ∨ (u ++ [b]).length = 0) ∧ (∀ j : Nat, j < (u ++ [b]).length → (u ++ [b]).getD j 0 = sumS x (a + (j : Int) * pb) pb.toNat) ∧ ∀ j : Nat, j < (u ++ [b]).length → (v ++ [c]).getD j 0 = sumS y (a + (j : Int) * pb) pb.toNat := by
  obtain ⟨h1, h2, h3, h5, h6⟩ := h
  have e : ((u ++ [b]).length : Int) * pb = u.length * pb + pb := by rw [List.length_append, List.length_singleton, Int.natCast_add, Int.add_mul]; simp
  refine ⟨h1, by omega, .inl hx, snoc_all h5 (by rw [← h2]; exact hb), fun j hj => ?_⟩
  have := snoc_all (o := v) (x := c) (f := fun j => sumS y (a + (j : Int) * pb) pb.toNat) (fun j hj => h6 j (by omega)) (by rw [hl, ← h2]; exact hc) j (by simp at hj ⊢; omega)
  exact this
noncomputable section
def chkVL : LSpec := ⟨[0, 1, 2, 34, 35], [(.tmp 36, ib 0 200)], [(.tmp 34, cS2)], chkVInv, mea1, 20⟩
def chunkL : LSpec := ⟨[0, 1, 2], [(.cell (key 23) 0, .w), (.cell (key 22) 0, cV)], [(.cell (key 23) 0, cS2), (.cell (key 23) 0, .w), (.cell (key 24) 0, ib 1 20)], chunkInv, chunkMea, 200⟩
def bodyL : LSpec := ⟨[0, 1, 2, 11, 12, 13, 58, 59], [(.tmp 60, ib 0 20), (.cell (key 28) 0, ib (-21000000) 21000000), (.cell (key 28) 1, ib (-21000000) 21000000)], [(.tmp 58, cP)], bodyInv, mea1, 20⟩
def rvL : LSpec := ⟨[0, 1, 2], [(.tmp 10, ib 0 250), (.tmp 9, cV)], [(.tmp 0, cS2), (.tmp 1, ib 1 20), (.tmp 2, ib 0 19)], rvInv, rvMea, 200⟩
def rv2L : LSpec := ⟨[0, 1, 2, 9, 10, 11], [(.tmp 12, ib 0 250), (.cell (key 23) 0, ib (-21000000) 21000000), (.cell (key 23) 1, ib (-21000000) 21000000)], [(.tmp 0, cS2), (.tmp 1, ib 1 20), (.tmp 10, ib 0 250)], rv2Inv, rv2Mea, 20⟩
def chkVRL : LSpec := ⟨[0, 1, 2], [(.tmp 8, ib 0 200)], [(.tmp 0, cS2)], chkVInv, mea1, 20⟩
end
end Go.Sp
