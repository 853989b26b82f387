import Derived.Test.YtblcahackjpnjaaDoorSpecNco
import Derived.Test.YtblcahackjpnjaaDoorSpecGold2
namespace Go.Sp
open Go.Ev
/-- a chip that is read -/
def chE (c : List Int) (a r : Int) (j : Nat) : Int := c.getD (((a + (j : Int) * r) / 65536) % (c.length : Int)).toNat 0
def chipsL (c : List Int) (a r m : Int) : List Int := (List.range m.toNat).map fun j => chE c a r j
theorem chipsL_len {c : List Int} {a r m : Int} : (chipsL c a r m).length = m.toNat := by simp [chipsL]
theorem chipsL_get {c : List Int} {a r m : Int} {j : Nat} (h : (j : Int) < m) : (chipsL c a r m).getD j 0 = chE c a r j := by
  have : j < m.toNat := by omega
  simp [chipsL, List.getD_eq_getElem?_getD, this]
def okC (d p a r m : Int) : Prop := (okD d ∧ 1 ≤ p ∧ p ≤ nG d + 2) ∧ -1099511627776 ≤ a ∧ a ≤ 1099511627776 ∧ -1048576 ≤ r ∧ r ≤ 1048576 ∧ 0 ≤ m ∧ m ≤ 100000
instance (d p a r m : Int) : Decidable (okC d p a r m) := inferInstanceAs (Decidable (_ ∧ _))
def chipsPost : List DV → List DV → Prop
  | [.n d, .n p, .n a, .n r, .n m], [.l l, .n e] => if okC d p a r m then e = 0 ∧ l = chipsL (codeL d p) a r m else e = 2 ∧ l = []
  | _, _ => False
def chipsPre : List DV → Prop
  | [.n _, .n _, .n _, .n _, .n m] => m ≤ 600 ∨ 100000 < m
  | _ => False
def cChL : CX := .l [.i .i64 (-1) 1] 600
def sigChips : Sig := ⟨[.one i64, .one i64, .one i64, .one i64, .one i64], [.one cChL, .one (ib 0 18)], chipsPre, chipsPost⟩
def chInv : List DV → List DV → Prop
  | [.l c, .n a, .n r, .n m], [.n i, .l x] => 0 ≤ i ∧ i ≤ m ∧ (x.length : Int) = m ∧ ∀ j : Nat, (j : Int) < i → x.getD j 0 = chE c a r j
  | _, _ => False
def chRInv : List DV → List DV → Prop
  | [.l c, .n a, .n r, .n m], [.n i, .l x] => 0 ≤ i ∧ i ≤ m ∧ (x.length : Int) = i ∧ ∀ j : Nat, (j : Int) < i → x.getD j 0 = chE c a r j
  | _, _ => False
def meaCh : List DV → List DV → Nat
  | [.l _, .n _, .n _, .n m], .n i :: _ => (m - i).toNat
  | _, _ => 0
noncomputable section
def chL : LSpec := ⟨[2, 3, 12, 14, 50], [(.tmp 51, ib 0 600), (.blk (key 2), .l [.i .i64 (-9223372036854775808) 9223372036854775807] 1000000)], [(.tmp 12, cCh), (.tmp 2, ib (-1099511627776) 1099511627776), (.tmp 3, ib (-1048576) 1048576), (.tmp 50, ib 0 600)], chInv, meaCh, 20⟩
def chRL : LSpec := ⟨[2, 3, 4, 12], [(.tmp 15, ib 0 600), (.tmp 14, cChL)], [(.tmp 12, cCh), (.tmp 2, ib (-1099511627776) 1099511627776), (.tmp 3, ib (-1048576) 1048576), (.tmp 4, ib 0 600)], chRInv, meaCh, 20⟩
end
theorem chips_fun {d p a r m e f : Int} {x y : List Int} (h : chipsPost [.n d, .n p, .n a, .n r, .n m] [.l x, .n e]) (g : chipsPost [.n d, .n p, .n a, .n r, .n m] [.l y, .n f]) : x = y ∧ e = f := ite_fun h g
theorem tmod_add {a L : Int} (hL : 0 < L) : 0 ≤ a.tmod L + L ∧ a.tmod L < L ∧ -L < a.tmod L ∧ (a.tmod L + L).tmod L = a % L ∧ (a.tmod L < 0 → a.tmod L + L = a % L) ∧ (0 ≤ a.tmod L → a.tmod L = a % L) := by
  have h1 := Int.tmod_lt_of_pos a hL
  have h2 := Int.neg_tmod a L
  have h3 := Int.tmod_lt_of_pos (-a) hL
  have h0 : a.tmod L % L = a % L := by
    have := Int.mul_tdiv_add_tmod a L
    have e : a.tmod L = a + L * (-(a.tdiv L)) := by rw [Int.mul_neg]; omega
    rw [e, Int.add_mul_emod_self_left]
  refine ⟨by omega, h1, by omega, ?_, fun g => ?_, fun g => ?_⟩
  · rw [tmod_nn (by omega), Int.add_emod_right, h0]
  · rw [← h0, ← Int.add_emod_right, Int.emod_eq_of_lt (by omega) (by omega)]
  · rw [← h0, Int.emod_eq_of_lt g h1]
theorem mul_bd3 {i r : Int} (h0 : 0 ≤ i) (h1 : i ≤ 600) (h2 : -1048576 ≤ r) (h3 : r ≤ 1048576) : -629145600 ≤ i * r ∧ i * r ≤ 629145600 := by
  constructor
  · have := Int.mul_le_mul_of_nonneg_left h2 h0
    have := Int.mul_le_mul_of_nonpos_right h1 (show (-1048576 : Int) ≤ 0 by omega)
    omega
  · have := Int.mul_le_mul_of_nonneg_left h3 h0
    have := Int.mul_le_mul_of_nonneg_right h1 (show (0 : Int) ≤ 1048576 by omega)
    omega
theorem shr16 {a : Int} : opI (.shr .i64) a 16 = a / 65536 := by
  rw [shr_eq (by omega) (by omega)]; rfl
theorem set_next {f : Nat → Int} {c : List Int} {i x : Int} (h0 : 0 ≤ i) (hi : i < (c.length : Int)) (h : ∀ j : Nat, (j : Int) < i → c.getD j 0 = f j) (hx : x = f i.toNat) : ∀ j : Nat, (j : Int) < i + 1 → (c.set i.toNat x).getD j 0 = f j := fun j hj => by
  rw [getD_set]
  by_cases e : i.toNat = j
  · rw [if_pos ⟨e, by omega⟩, hx, e]
  · rw [if_neg (fun g => e g.1)]; exact h j (by omega)
theorem snoc_next {f : Nat → Int} {o : List Int} {i x : Int} (ho : (o.length : Int) = i) (g : ∀ j : Nat, (j : Int) < i → o.getD j 0 = f j) (hx : x = f i.toNat) :
    ((o ++ [x]).length : Int) = i + 1 ∧ ∀ j : Nat, (j : Int) < i + 1 → (o ++ [x]).getD j 0 = f j := by
  refine ⟨by simp; omega, fun j hj => ?_⟩
  rcases Int.lt_or_le (j : Int) i with c | c
  · rw [getD_app1 (by omega)]; exact g j c
  · have e : j = o.length := by omega
    rw [e, getD_last, hx]; congr 1; omega
theorem ch_e {c : List Int} {a r i m : Int} (h : 0 ≤ i) (e : m = ((a + i * r) / 65536) % (c.length : Int)) : c.getD m.toNat 0 = chE c a r i.toNat := by
  unfold chE; rw [Int.toNat_of_nonneg h, e]
theorem chE_bd {c : List Int} {a r : Int} {j : Nat} (h : ∀ y ∈ c, -1 ≤ y ∧ y ≤ 1) : -1 ≤ chE c a r j ∧ chE c a r j ≤ 1 := getD_bd h (by omega) (by omega)
theorem chipsL_bd {c : List Int} {a r m : Int} (h : ∀ y ∈ c, -1 ≤ y ∧ y ≤ 1) : ∀ y ∈ chipsL c a r m, -1 ≤ y ∧ y ≤ 1 := fun y hy => by
  obtain ⟨j, _, rfl⟩ := List.mem_map.1 hy
  exact chE_bd h
theorem chipsL_of {c x : List Int} {a r m : Int} (h : (x.length : Int) = m) (g : ∀ j : Nat, (j : Int) < m → x.getD j 0 = chE c a r j) : x = chipsL c a r m :=
  eq_of_getD (d := 0) (by rw [chipsL_len]; omega) fun j hj => by rw [chipsL_get (by omega), g j (by omega)]
theorem chips_no {d p a r m e : Int} (h : ¬okC d p a r m) (he : e = 2) : chipsPost [.n d, .n p, .n a, .n r, .n m] [.l [], .n e] := ite_no h ⟨he, rfl⟩
theorem chips_yes {d p a r m e : Int} {l : List Int} (h : okC d p a r m) (he : e = 0) (hl : l = chipsL (codeL d p) a r m) : chipsPost [.n d, .n p, .n a, .n r, .n m] [.l l, .n e] := ite_yes h ⟨he, hl⟩
end Go.Sp
namespace Go.Sp
open Go.Ev
/-- each element o times -/
def sampL (c : List Int) (o : Int) : List Int := (List.range (c.length * o.toNat)).map fun j => c.getD (j / o.toNat) 0
def sampPost : List DV → List DV → Prop
  | [.n d, .n o, .n p], [.l l, .n e] => if okD d ∧ (1 ≤ o ∧ o ≤ 8) ∧ 1 ≤ p ∧ p ≤ nG d + 2 then e = 0 ∧ l = sampL (codeL d p) o else e = 2 ∧ l = []
  | _, _ => False
def sampPre : List DV → Prop
  | [.n d, .n o, .n _] => okD d → 1 ≤ o → o ≤ 8 → nG d * o ≤ 600
  | _ => False
def sigSampC : Sig := ⟨[.one i64, .one i64, .one i64], [.one cChL, .one (ib 0 18)], sampPre, sampPost⟩
end Go.Sp
namespace Go.Sp
open Go.Ev
def sampAInv : List DV → List DV → Prop
  | [.l c, .n o], [.n i, .l x] => 0 ≤ i ∧ i ≤ (c.length : Int) ∧ (x.length : Int) = i * o ∧ ∀ j : Nat, (j : Int) < i * o → x.getD j 0 = c.getD (j / o.toNat) 0
  | _, _ => False
def sampBInv : List DV → List DV → Prop
  | [.l c, .n o, .n i, .n e], [.n m, .l x] => 0 ≤ m ∧ m ≤ o ∧ 0 ≤ i ∧ i < (c.length : Int) ∧ e = c.getD i.toNat 0 ∧ (x.length : Int) = i * o + m ∧ ∀ j : Nat, (j : Int) < i * o + m → x.getD j 0 = c.getD (j / o.toNat) 0
  | _, _ => False
def meaB : List DV → List DV → Nat
  | .l _ :: .n o :: _, .n m :: _ => (o - m).toNat
  | _, _ => 0
noncomputable section
def sampAL : LSpec := ⟨[0, 1, 2, 10, 13, 15, 32, 33, 34, 55, 56], [(.tmp 57, ib 0 1100), (.cell (key 4) 0, cChL)], [(.tmp 55, cCh), (.tmp 1, ib 1 8)], sampAInv, meaC, 400⟩
def sampBL : LSpec := ⟨[0, 1, 2, 10, 13, 15, 17, 32, 33, 34, 55, 56, 57, 61], [(.tmp 62, ib 0 8), (.cell (key 4) 0, cChL)], [(.tmp 55, cCh), (.tmp 1, ib 1 8), (.tmp 57, ib 0 1100), (.tmp 17, ib (-1) 1)], sampBInv, meaB, 20⟩
end
theorem sampL_len {c : List Int} {o : Int} (h : 0 ≤ o) : ((sampL c o).length : Int) = (c.length : Int) * o := by
  simp [sampL, Int.toNat_of_nonneg h]
theorem sampL_get {c : List Int} {o : Int} {j : Nat} (h : 0 ≤ o) (hj : (j : Int) < (c.length : Int) * o) : (sampL c o).getD j 0 = c.getD (j / o.toNat) 0 := by
  have : j < c.length * o.toNat := by
    have e : ((c.length * o.toNat : Nat) : Int) = (c.length : Int) * o := by rw [Int.natCast_mul, Int.toNat_of_nonneg h]
    omega
  simp [sampL, List.getD_eq_getElem?_getD, this]
theorem sampL_bd {c : List Int} {o : Int} (h : ∀ y ∈ c, -1 ≤ y ∧ y ≤ 1) : ∀ y ∈ sampL c o, -1 ≤ y ∧ y ≤ 1 := fun y hy => by
  obtain ⟨j, _, rfl⟩ := List.mem_map.1 hy
  exact getD_bd h (by omega) (by omega)
theorem sampL_of {c x : List Int} {o i : Int} (ho : 0 ≤ o) (hi : i = (c.length : Int)) (h : (x.length : Int) = i * o) (g : ∀ j : Nat, (j : Int) < i * o → x.getD j 0 = c.getD (j / o.toNat) 0) : x = sampL c o := by
  subst hi
  have l := sampL_len (c := c) ho
  exact eq_of_getD (d := 0) (by omega) fun j hj => by rw [g j (by omega), sampL_get ho (by omega)]
theorem samp_div {o i m : Int} (ho : 1 ≤ o) (hi : 0 ≤ i) (h0 : 0 ≤ m) (hm : m < o) : (i * o + m).toNat / o.toNat = i.toNat := by
  have h1 : 0 ≤ i * o := Int.mul_nonneg hi (by omega)
  have e : (((i * o + m).toNat / o.toNat : Nat) : Int) = (i : Int) := by
    rw [Int.natCast_ediv, Int.toNat_of_nonneg (by omega), Int.toNat_of_nonneg (by omega), Int.add_comm, Int.add_mul_ediv_right _ _ (by omega), Int.ediv_eq_zero_of_lt h0 hm, Int.zero_add]
  omega
theorem sampB_next {c x : List Int} {o i m e : Int} (ho : 1 ≤ o) (hi : 0 ≤ i) (h0 : 0 ≤ m) (hm : m < o) (he : e = c.getD i.toNat 0) (hx : (x.length : Int) = i * o + m) (g : ∀ j : Nat, (j : Int) < i * o + m → x.getD j 0 = c.getD (j / o.toNat) 0) :
    ((x ++ [e]).length : Int) = i * o + (m + 1) ∧ ∀ j : Nat, (j : Int) < i * o + (m + 1) → (x ++ [e]).getD j 0 = c.getD (j / o.toNat) 0 := by
  have := snoc_next (f := fun j => c.getD (j / o.toNat) 0) (o := x) (i := i * o + m) (x := e) hx g (by show e = c.getD ((i * o + m).toNat / o.toNat) 0; rw [samp_div ho hi h0 hm]; exact he)
  rw [Int.add_assoc] at this
  exact this
theorem sampA_next {o i m : Int} (h : m = o) : i * o + m = (i + 1) * o := by subst h; rw [Int.add_mul, Int.one_mul]
theorem samp_bd {n o i m : Int} (hi : 0 ≤ i) (h : i < n) (ho : 1 ≤ o) (hm : m ≤ o) (hb : n * o ≤ 600) : i * o + m ≤ 600 := by
  have := Int.mul_le_mul_of_nonneg_right (show i + 1 ≤ n by omega) (show 0 ≤ o by omega)
  rw [Int.add_mul, Int.one_mul] at this; omega
theorem samp_bd1 {n o i : Int} (h : i ≤ n) (ho : 0 ≤ o) (hb : n * o ≤ 600) : i * o ≤ 600 := by
  have := Int.mul_le_mul_of_nonneg_right h ho; omega
theorem samp_no {d o p e : Int} (h : ¬(okD d ∧ (1 ≤ o ∧ o ≤ 8) ∧ 1 ≤ p ∧ p ≤ nG d + 2)) (he : e = 2) : sampPost [.n d, .n o, .n p] [.l [], .n e] := ite_no h ⟨he, rfl⟩
theorem samp_yes {d o p e : Int} {l : List Int} (h : okD d ∧ (1 ≤ o ∧ o ≤ 8) ∧ 1 ≤ p ∧ p ≤ nG d + 2) (he : e = 0) (hl : l = sampL (codeL d p) o) : sampPost [.n d, .n o, .n p] [.l l, .n e] := ite_yes h ⟨he, hl⟩
end Go.Sp
