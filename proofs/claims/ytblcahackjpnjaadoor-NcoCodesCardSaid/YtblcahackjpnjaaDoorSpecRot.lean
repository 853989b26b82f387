import Derived.Test.YtblcahackjpnjaaDoorSpecNg
namespace Go.Sp
open Go.Ev
def cC2 : CX := .l [.i .i64 (-1) 1] 1100
def pickGP : List DV → List DV → Prop
  | [.n x, .n m], [.n r] => r = x % m
  | _, _ => False
def sigTurn : Sig := ⟨[.one i64, .one (.i .i64 1 4000000000)], [.one (ib 0 4000000000)], fun _ => True, pickGP⟩
def meaR1 : List DV → List DV → Nat
  | .l l :: _, .n i :: _ => ((l.length : Int) - i).toNat
  | _, _ => 0
def su (u : List Int) (i : Int) : Int := u.getD (i % (u.length : Int)).toNat 0
theorem su_add {u : List Int} {i : Int} : su u (i + (u.length : Int)) = su u i := by unfold su; rw [Int.add_emod_right]
theorem su_nat {u : List Int} {i : Nat} (h : i < u.length) : su u i = u.getD i 0 := by
  unfold su; rw [Int.emod_eq_of_lt (by omega) (by omega)]; rfl
def rotL (l : List Int) (k : Int) : List Int := (List.range l.length).map fun j : Nat => su l ((j : Int) + k)
theorem rotL_len {l : List Int} {k : Int} : (rotL l k).length = l.length := by simp [rotL]
theorem rotL_get {l : List Int} {k : Int} {j : Nat} (h : j < l.length) : (rotL l k).getD j 0 = su l ((j : Int) + k) := by
  simp [rotL, List.getD_eq_getElem?_getD, h]
theorem rotL_bd {l : List Int} {k lo hi : Int} (h : ∀ y ∈ l, lo ≤ y ∧ y ≤ hi) (h1 : lo ≤ 0) (h2 : 0 ≤ hi) : ∀ y ∈ rotL l k, lo ≤ y ∧ y ≤ hi := fun y hy => by
  obtain ⟨j, _, rfl⟩ := List.mem_map.1 hy
  exact getD_bd h h1 h2
def rotPost : List DV → List DV → Prop
  | [.l l, .n k], [.l r] => r = rotL l k
  | _, _ => False
def sigRotd : Sig := ⟨[.one cC2, .one (ib 0 2000)], [.one cC2], fun _ => True, rotPost⟩
def rotInv : List DV → List DV → Prop
  | [.l l, .n k], [.n i, .l r] => 0 ≤ i ∧ i ≤ (l.length : Int) ∧ (r.length : Int) = i ∧ ∀ j : Nat, (j : Int) < i → r.getD j 0 = su l ((j : Int) + k)
  | _, _ => False
theorem rot_done {l r : List Int} {i k : Int} (h : ¬i < (l.length : Int)) (h0 : i ≤ (l.length : Int)) (hr : (r.length : Int) = i) (g : ∀ j : Nat, (j : Int) < i → r.getD j 0 = su l ((j : Int) + k)) : r = rotL l k :=
  eq_of_getD (d := 0) (by rw [rotL_len]; omega) fun j hj => by rw [rotL_get (by omega)]; exact g j (by omega)
theorem rot_next {l r : List Int} {i k x : Int} (h0 : 0 ≤ i) (hr : (r.length : Int) = i) (g : ∀ j : Nat, (j : Int) < i → r.getD j 0 = su l ((j : Int) + k)) (hx : x = su l (i + k)) :
    ((r ++ [x]).length : Int) = i + 1 ∧ ∀ j : Nat, (j : Int) < i + 1 → (r ++ [x]).getD j 0 = su l ((j : Int) + k) := by
  refine ⟨by simp; omega, fun j hj => ?_⟩
  rcases Int.lt_or_le (j : Int) i with c | c
  · rw [getD_app1 (by omega)]; exact g j c
  · have e : j = r.length := by omega
    rw [e, getD_last, hx, hr]
theorem su_int {l : List Int} {i : Int} (h : 0 ≤ i) (h' : i < (l.length : Int)) : l.getD i.toNat 0 = su l i := by
  have := su_nat (u := l) (i := i.toNat) (by omega)
  rw [Int.toNat_of_nonneg h] at this; exact this.symm
noncomputable section
def rotLS : LSpec := ⟨[0, 1], [(.tmp 6, ib 0 1100), (.tmp 5, cC2)], [(.tmp 0, cC2), (.tmp 1, ib 0 2000)], rotInv, meaR1, 60⟩
end
theorem codes_b {n o j : Int} (hn : n = 31 ∨ n = 63) (ho : o = 1 ∨ o = 2 ∨ o = 4 ∨ o = 8) (h0 : 0 ≤ j) (h1 : j < n * o) : (0 + j * (65536 / o)) / 65536 % n = j / o := by
  rcases hn with rfl | rfl <;> rcases ho with rfl | rfl | rfl | rfl <;> omega
theorem codes_b2 {n o j : Int} (hn : n = 31 ∨ n = 63) (ho : o = 1 ∨ o = 2 ∨ o = 4 ∨ o = 8) (h0 : 0 ≤ j) (h1 : j < 5) : (0 + (n * o + j) * (65536 / o)) / 65536 % n = j / o := by
  rcases hn with rfl | rfl <;> rcases ho with rfl | rfl | rfl | rfl <;> omega
theorem codes_c {n o j k : Int} (hn : n = 31 ∨ n = 63) (ho : o = 1 ∨ o = 2 ∨ o = 4 ∨ o = 8) (h0 : 0 ≤ j) (h1 : j < n * o) : (k * 65536 + j * (65536 / o)) / 65536 % n = (j + k % n * o) % (n * o) / o := by
  rcases hn with rfl | rfl <;> rcases ho with rfl | rfl | rfl | rfl <;> omega
theorem codes_pb {n o : Int} (hn : n = 31 ∨ n = 63) (ho : o = 1 ∨ o = 2 ∨ o = 4 ∨ o = 8) : 31 ≤ n * o ∧ n * o ≤ 504 := by
  rcases hn with rfl | rfl <;> rcases ho with rfl | rfl | rfl | rfl <;> omega
theorem codes_kb {n o k : Int} (hn : n = 31 ∨ n = 63) (ho : o = 1 ∨ o = 2 ∨ o = 4 ∨ o = 8) : 0 ≤ k % n * o ∧ k % n * o ≤ 504 := by
  rcases hn with rfl | rfl <;> rcases ho with rfl | rfl | rfl | rfl <;> omega
theorem take_get {l : List Int} {m j : Nat} (h : j < m) : (l.take m).getD j 0 = l.getD j 0 := by simp [List.getD_eq_getElem?_getD, h]
theorem drop_get {l : List Int} {m j : Nat} : (l.drop m).getD j 0 = l.getD (m + j) 0 := by simp [List.getD_eq_getElem?_getD]
theorem nat_div {j : Nat} {o : Int} (ho : 0 ≤ o) : ((j : Int) / o).toNat = j / o.toNat := by
  have e : (((j / o.toNat : Nat) : Nat) : Int) = (j : Int) / o := by rw [Int.natCast_ediv, Int.toNat_of_nonneg ho]
  rw [← e]; rfl
theorem codes_E1 {c : List Int} {n o r m : Int} (hn : n = 31 ∨ n = 63) (ho : o = 1 ∨ o = 2 ∨ o = 4 ∨ o = 8) (hr : r = 65536 / o) (hc : (c.length : Int) = n) (hm : m = n * o + 5) : (chipsL c 0 r m).take (n * o).toNat = sampL c o := by
  have pb := codes_pb hn ho
  have l := sampL_len (c := c) (o := o) (by omega)
  rw [hc] at l
  have lm : (chipsL c 0 r m).length = m.toNat := chipsL_len
  refine eq_of_getD (d := 0) (by rw [List.length_take, lm]; omega) fun j hj => ?_
  rw [List.length_take, lm] at hj
  rw [take_get (by omega), chipsL_get (by omega), sampL_get (by omega) (by rw [hc]; omega)]
  unfold chE
  rw [hr, hc, codes_b hn ho (by omega) (by omega), nat_div (by omega)]
theorem codes_E2 {c : List Int} {n o r m : Int} (hn : n = 31 ∨ n = 63) (ho : o = 1 ∨ o = 2 ∨ o = 4 ∨ o = 8) (hr : r = 65536 / o) (hc : (c.length : Int) = n) (hm : m = n * o + 5) : (chipsL c 0 r m).drop (n * o).toNat = (sampL c o).take 5 := by
  have pb := codes_pb hn ho
  have l := sampL_len (c := c) (o := o) (by omega)
  rw [hc] at l
  have lm : (chipsL c 0 r m).length = m.toNat := chipsL_len
  refine eq_of_getD (d := 0) (by rw [List.length_take, List.length_drop, lm]; omega) fun j hj => ?_
  rw [List.length_drop, lm] at hj
  rw [drop_get, take_get (by omega), chipsL_get (by omega), sampL_get (by omega) (by rw [hc]; omega)]
  unfold chE
  rw [hr, hc, show (((n * o).toNat + j : Nat) : Int) = n * o + (j : Int) by omega, codes_b2 hn ho (by omega) (by omega), nat_div (by omega)]
theorem codes_E3 {c : List Int} {n o r k : Int} (hn : n = 31 ∨ n = 63) (ho : o = 1 ∨ o = 2 ∨ o = 4 ∨ o = 8) (hr : r = 65536 / o) (hc : (c.length : Int) = n) : chipsL c (k * 65536) r (n * o) = rotL (sampL c o) (k % n * o) := by
  have pb := codes_pb hn ho
  have kb := codes_kb (k := k) hn ho
  have l := sampL_len (c := c) (o := o) (by omega)
  rw [hc] at l
  have lm : (chipsL c (k * 65536) r (n * o)).length = (n * o).toNat := chipsL_len
  refine eq_of_getD (d := 0) (by rw [lm, rotL_len]; omega) fun j hj => ?_
  rw [lm] at hj
  rw [chipsL_get (by omega), rotL_get (by omega)]
  unfold su chE
  have b1 := Int.emod_nonneg ((j : Int) + k % n * o) (b := n * o) (by omega)
  have b2 := Int.emod_lt_of_pos ((j : Int) + k % n * o) (b := n * o) (by omega)
  rw [l, sampL_get (by omega) (by rw [hc, Int.toNat_of_nonneg b1]; exact b2), hr, hc, codes_c hn ho (by omega) (by omega), ← nat_div (by omega), Int.toNat_of_nonneg b1]
end Go.Sp
