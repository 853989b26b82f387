import Derived.Test.YtpmlodchbgfmeaaSpec08d
namespace Go.Sp
open Go.Ev
theorem sumR_bd {f : Int → Int} {n : Nat} (h : ∀ i : Nat, i < n → -1 ≤ f i ∧ f i ≤ 1) : -(n : Int) ≤ sumR f n ∧ sumR f n ≤ n := by
  induction n with
  | zero => simp [sumR]
  | succ n ih =>
    have a := ih fun i hi => h i (by omega)
    have b := h n (by omega)
    simp only [sumR]; omega
theorem sumL_R : ∀ {l : List Int}, sumL l = sumR (fun i => l.getD i.toNat 0) l.length
  | [] => rfl
  | x :: l => by
    have e := sumR_1 (f := fun i => (x :: l).getD i.toNat 0) (n := l.length)
    have e2 : sumR (fun i => (x :: l).getD (i + 1).toNat 0) l.length = sumR (fun i => l.getD i.toNat 0) l.length := sumR_ext fun i _ => by rw [toNat_succ (by omega), List.getD_cons_succ]
    rw [e2, ← sumL_R] at e
    show x + sumL l = sumR _ (l.length + 1)
    simp only [sumR]
    have e3 : (x :: l).getD (0 : Int).toNat 0 = x := rfl
    omega
def rotL (l : List Int) (k : Int) : List Int := (List.range l.length).map fun j : Nat => su l ((j : Int) + k)
theorem rotL_len {l : List Int} {k : Int} : (rotL l k).length = l.length := by simp [rotL]
theorem rotL_get {l : List Int} {k : Int} {j : Nat} (h : j < l.length) : (rotL l k).getD j 0 = su l ((j : Int) + k) := by
  simp [rotL, List.getD_eq_getElem?_getD, h]
theorem rotE_rotL {l o : List Int} {k : Int} (h : o.length = l.length) : rotE l o k ↔ o = rotL l k := by
  constructor
  · intro g
    exact eq_of_getD (d := 0) (by rw [rotL_len, h]) fun j hj => by rw [rotL_get (by omega)]; exact (g j (by omega)).symm
  · rintro rfl j hj
    rw [rotL_get hj]; rfl
theorem rotL_bd {l : List Int} {k lo hi : Int} (h : ∀ y ∈ l, lo ≤ y ∧ y ≤ hi) (h1 : lo ≤ 0) (h2 : 0 ≤ hi) : ∀ y ∈ rotL l k, lo ≤ y ∧ y ≤ hi := fun y hy => by
  obtain ⟨j, _, rfl⟩ := List.mem_map.1 hy
  exact getD_bd h h1 h2
def rotPost : List DV → List DV → Prop
  | [.l l, .n k], [.l r] => r = rotL l k
  | _, _ => False
def sigRotd : Sig := ⟨[.one cC2, .one (ib 0 2000)], [.one cC2], fun _ => True, rotPost⟩
def rotInv : List DV → List DV → Prop
  | [.l l, .n k], [.n i, .l r] => 0 ≤ i ∧ i ≤ (l.length : Int) ∧ (r.length : Int) = i ∧ ∀ j : Nat, (j : Int) < i → r.getD j 0 = su l ((j : Int) + k)
  | _, _ => False
theorem rot_done {l r : List Int} {i k : Int} (h : ¬i < (l.length : Int)) (h0 : i ≤ (l.length : Int)) (hr : (r.length : Int) = i) (g : ∀ j : Nat, (j : Int) < i → r.getD j 0 = su l ((j : Int) + k)) : r = rotL l k :=
  eq_of_getD (d := 0) (by rw [rotL_len]; omega) fun j hj => by rw [rotL_get (by omega)]; exact g j (by omega)
theorem rot_next {l r : List Int} {i k x : Int} (h0 : 0 ≤ i) (hr : (r.length : Int) = i) (g : ∀ j : Nat, (j : Int) < i → r.getD j 0 = su l ((j : Int) + k)) (hx : x = su l (i + k)) :
    ((r ++ [x]).length : Int) = i + 1 ∧ ∀ j : Nat, (j : Int) < i + 1 → (r ++ [x]).getD j 0 = su l ((j : Int) + k) := by
  refine ⟨by simp; omega, fun j hj => ?_⟩
  rcases Int.lt_or_le (j : Int) i with c | c
  · rw [getD_app1 (by omega)]; exact g j c
  · have e : j = r.length := by omega
    rw [e, getD_last, hx, hr]
def degPost : List DV → List DV → Prop
  | [.n x], [.n r] => r = 5 + x % 3
  | _, _ => False
def sigDeg : Sig := ⟨[.one i64], [.one (ib 5 7)], fun _ => True, degPost⟩
theorem okT_of {d : Int} (h1 : 5 ≤ d) (h2 : d ≤ 7) : okT d := by unfold okT; omega
theorem shlG {d : Int} (h : okT d) : opI (.shl .i64) 1 d = nG d + 1 := by rcases h with rfl | rfl | rfl <;> decide
theorem nT_bd {d : Int} (h : okT d) : 31 ≤ nG d ∧ nG d ≤ 127 := by rcases h with rfl | rfl | rfl <;> decide
def g3Inv : List DV → List DV → Prop
  | [.l a, .l b, .n k, .n n], [.n i, .n s] => 0 ≤ i ∧ i ≤ n ∧ s = sumR (fun j => su a j * su b (j + k)) i.toNat
  | _, _ => False
def gsInv : List DV → List DV → Prop
  | [.l u, .l _, .l c, .n k, .n n], [.n i, .n s, .l o] => 0 ≤ i ∧ i ≤ n ∧ s = sumR (fun j => su c j * su c (j + k)) i.toNat ∧ (o.length : Int) = i ∧ ∀ j : Nat, (j : Int) < i → o.getD j 0 = (su u j + su u (j + k)) % 2
  | _, _ => False
def gs2Inv : List DV → List DV → Prop
  | [.l u, .l o, .n n], [.n j, .b f] => 0 ≤ j ∧ j ≤ n ∧ (f = false → ∀ i : Int, 0 ≤ i → i < j → ¬rotL u i = o)
  | _, _ => False
def mea4n : List DV → List DV → Nat
  | [.l _, .l _, .n _, .n n], .n i :: _ => (n - i).toNat
  | _, _ => 0
def mea5n : List DV → List DV → Nat
  | [.l _, .l _, .l _, .n _, .n n], .n i :: _ => (n - i).toNat
  | _, _ => 0
def mea3n : List DV → List DV → Nat
  | [.l _, .l _, .n n], .n i :: _ => (n - i).toNat
  | _, _ => 0
noncomputable section
def rotLS : LSpec := ⟨[0, 1], [(.tmp 6, ib 0 1100), (.tmp 5, cC2)], [(.tmp 0, cC2), (.tmp 1, ib 0 2000)], rotInv, meaR1, 60⟩
def g3L : LSpec := ⟨[0, 1, 2, 3, 9, 10, 13, 14], [(.tmp 17, ib 0 200), (.tmp 16, ib (-200) 200)], [(.tmp 13, cC2), (.tmp 14, cC2), (.tmp 3, ib 0 200), (.tmp 10, ib 31 127)], g3Inv, mea4n, 60⟩
def gsL : LSpec := ⟨[0, 1, 2, 7, 8, 10, 12, 15], [(.tmp 18, ib 0 200), (.tmp 16, ib (-200) 200), (.tmp 17, cB)], [(.tmp 8, cB), (.tmp 15, cC2), (.tmp 10, cC2), (.tmp 2, ib 0 200), (.tmp 12, ib 31 127)], gsInv, mea5n, 60⟩
def gs2L : LSpec := ⟨[0, 1, 2, 7, 8, 12, 16, 17], [(.tmp 20, ib 0 200), (.tmp 19, .b)], [(.tmp 8, cB), (.tmp 17, cB), (.tmp 12, ib 31 127)], gs2Inv, mea3n, 100⟩
end
theorem su_code_bd {d p : Int} (i : Int) : -1 ≤ su (codeL d p) i ∧ su (codeL d p) i ≤ 1 ∨ ¬okD d := by
  by_cases h : okD d
  · exact .inl (getD_bd (chips_bd (bits_01 h (.inl rfl)) (bits_01 h (.inr rfl))) (by omega) (by omega))
  · exact .inr h
theorem mul1 {a b : Int} (h : -1 ≤ a ∧ a ≤ 1) (g : -1 ≤ b ∧ b ≤ 1) : -1 ≤ a * b ∧ a * b ≤ 1 := by
  rcases (by omega : a = -1 ∨ a = 0 ∨ a = 1) with rfl | rfl | rfl <;> omega
theorem su_c2 {l : List Int} (h : ∀ y ∈ l, -1 ≤ y ∧ y ≤ 1) (i : Int) : -1 ≤ su l i ∧ su l i ≤ 1 := getD_bd h (by omega) (by omega)
theorem sumR_c2 {a b : List Int} {k : Int} {n : Nat} (h : ∀ y ∈ a, -1 ≤ y ∧ y ≤ 1) (g : ∀ y ∈ b, -1 ≤ y ∧ y ≤ 1) : -(n : Int) ≤ sumR (fun j => su a j * su b (j + k)) n ∧ sumR (fun j => su a j * su b (j + k)) n ≤ n :=
  sumR_bd fun i _ => mul1 (su_c2 h _) (su_c2 g _)
theorem sumR_next {f : Int → Int} {i : Int} (h : 0 ≤ i) : sumR f (i + 1).toNat = sumR f i.toNat + f i := by
  rw [toNat_succ h]; simp only [sumR]; rw [Int.toNat_of_nonneg h]
/-- the codes 1 and 2, moved, have the sum -1 -/
theorem corr_own {d w k : Int} (hd : okT d) (hw : w = 1 ∨ w = 2) (h1 : 1 ≤ k) (h2 : k < nG d) : corr d w w k (nG d).toNat = -1 := by
  obtain ⟨z, z1, z2, z3⟩ := shift_add hd hw h1 h2
  rw [← sum_bits hd hw z z1]
  refine sumR_ext fun i _ => ?_
  have e : ∀ j : Int, su (codeL d w) j = chi (su (bitsL d w) j) := fun j => by
    rw [code_su hd (by omega)]
    have := bits_su hd hw j
    rcases hw with rfl | rfl
    · rw [cA, cBv, if_neg (by omega), if_pos rfl, show (su (bitsL d 1) j + 0) % 2 = su (bitsL d 1) j by omega]
    · rw [cA, cBv, if_pos rfl, if_neg (by omega), if_pos rfl, show (0 + su (bitsL d 2) j) % 2 = su (bitsL d 2) j by omega]
  rw [e, e, chi_mul (bits_su hd hw _) (bits_su hd hw _), z3]
theorem sum_codeL {d p : Int} (hd : okT d) (hp : 1 ≤ p) : sumL (codeL d p) = sumR (fun i => chi ((cA d p (i + 0) + cBv d p (i + 0)) % 2)) (nG d).toNat := by
  have hl := len_code (p := p) (okT_D hd)
  have nb := @nG_bd d
  rw [sumL_R, show (codeL d p).length = (nG d).toNat by omega]
  exact sumR_ext fun i hi => by
    rw [← code_su hd hp, Int.add_zero, su_nat (by omega)]; rfl
theorem sum_three {d p : Int} (hd : okT d) (hp : 1 ≤ p) : three d (sumL (codeL d p)) := by
  rw [sum_codeL hd hp]
  rcases sh_sum hd (sh_cA (d := d) (p := p) (k := 0) (by omega)) (sh_cB (d := d) (p := p) (k := 0) hp (by omega)) with h | h
  · exfalso
    have h1 := fun i => (h i).1
    have h2 := fun i => (h i).2
    by_cases p2 : p = 2
    · simp only [cBv, if_pos p2, if_neg (show ¬p = 1 by omega)] at h2
      exact su_nz hd (.inr rfl) 0 h2
    · simp only [cA, if_neg p2] at h1
      exact su_nz hd (.inl rfl) 0 h1
  · exact h
theorem sum_w {d w : Int} (hd : okT d) (hw : w = 1 ∨ w = 2) : sumL (codeL d w) = -1 := by
  rw [sum_codeL hd (by omega)]
  rw [← sum_bits hd hw 0 (by omega)]
  refine sumR_ext fun i _ => ?_
  have := bits_su hd hw (i + 0)
  rcases hw with rfl | rfl
  · rw [cA, cBv, if_neg (by omega), if_pos rfl, show (su (bitsL d 1) (i + 0) + 0) % 2 = su (bitsL d 1) (i + 0) by omega]
  · rw [cA, cBv, if_pos rfl, if_neg (by omega), if_pos rfl, show (0 + su (bitsL d 2) (i + 0)) % 2 = su (bitsL d 2) (i + 0) by omega]
theorem sumL_rot {l : List Int} {k : Int} (hk : 0 ≤ k) : sumL (rotL l k) = sumL l := by
  rw [sumL_R, sumL_R, rotL_len]
  have e := sumR_rot (f := fun i => su l i) (n := l.length) (fun i => su_add) k.toNat
  rw [Int.toNat_of_nonneg hk] at e
  rw [show sumR (fun i => (rotL l k).getD i.toNat 0) l.length = sumR (fun i => su l (i + k)) l.length from sumR_ext fun i hi => by rw [show ((i : Int)).toNat = i from rfl, rotL_get hi], e]
  exact sumR_ext fun i hi => by rw [su_nat hi]; rfl
theorem sumL_set : ∀ {l : List Int} {i : Nat} {x : Int}, i < l.length → sumL (l.set i x) = sumL l - l.getD i 0 + x
  | [], _, _, h => by cases h
  | y :: l, 0, x, _ => by simp [sumL]; omega
  | y :: l, i + 1, x, h => by
    have := sumL_set (l := l) (i := i) (x := x) (by simpa using h)
    simp only [List.set_cons_succ, sumL, List.getD_cons_succ, this]; omega
theorem code_pm {d p : Int} (hd : okT d) (hp : 1 ≤ p) (i : Int) : su (codeL d p) i = 1 ∨ su (codeL d p) i = -1 := by
  rw [code_su hd hp]; unfold chi; omega
/-- a rotation of a code is one of no other -/
theorem rot_uniq {d p q k j : Int} (hd : okT d) (hp : 1 ≤ p) (hp' : p ≤ nG d + 2) (hq : 1 ≤ q) (hq' : q ≤ nG d + 2) (hk : 0 ≤ k) (hk' : k < nG d) (hj : 0 ≤ j) (hj' : j < nG d) (h : rotL (codeL d p) k = rotL (codeL d q) j) : p = q ∧ k = j := by
  have nb := nT_bd hd
  have hlp := len_code (p := p) (okT_D hd)
  have hlq := len_code (p := q) (okT_D hd)
  have e : ∀ i : Int, su (codeL d q) (i + j) = su (codeL d p) (i + k) := fun i => by
    have b1 := Int.emod_nonneg i (show nG d ≠ 0 by omega)
    have b2 := Int.emod_lt_of_pos i (show 0 < nG d by omega)
    have a : (rotL (codeL d p) k).getD (i % nG d).toNat 0 = (rotL (codeL d q) j).getD (i % nG d).toNat 0 := by rw [h]
    rw [rotL_get (by omega), rotL_get (by omega), Int.toNat_of_nonneg b1] at a
    unfold su at a ⊢
    rw [hlp, hlq, Int.emod_add_emod, Int.emod_add_emod] at a
    rw [hlp, hlq]; exact a.symm
  have t := corr_three (p := q) (q := p) (k := (k - j) % nG d) hd hq hq' hp hp' (Int.emod_nonneg _ (by omega)) (Int.emod_lt_of_pos _ (by omega))
  have c : corr d q p ((k - j) % nG d) (nG d).toNat = nG d := by
    refine Eq.trans (sumR_ext fun i _ => ?_) (corr_self hd hq)
    have e1 := e (i - j)
    rw [show (i : Int) - j + j = i by omega, show (i : Int) - j + k = i + (k - j) by omega] at e1
    have e2 : su (codeL d p) (i + (k - j) % nG d) = su (codeL d p) (i + (k - j)) := by unfold su; rw [hlp, Int.add_emod_emod]
    rw [e2, ← e1, Int.add_zero]
  rcases t with ⟨t1, t2⟩ | t
  · refine ⟨t1.symm, ?_⟩
    rcases Int.lt_or_le k j with x | x
    · rw [← Int.add_emod_right, Int.emod_eq_of_lt (by omega) (by omega)] at t2; omega
    · rw [Int.emod_eq_of_lt (by omega) (by omega)] at t2; omega
  · rw [c] at t
    exfalso
    unfold three at t
    rcases hd with rfl | rfl | rfl <;> revert t <;> decide
theorem found_back {d p k q j e : Int} (hd : okT d) (hp : 1 ≤ p) (hp' : p ≤ nG d + 2) (hk : 0 ≤ k) (hk' : k < nG d) (h : findR d (rotL (codeL d p) k) q j e) : q = p ∧ j = k ∧ e = 0 := by
  have hl := len_code (p := p) (okT_D hd)
  have ok := okT_D hd
  have hr : ((rotL (codeL d p) k).length : Int) = nG d := by rw [rotL_len, hl]
  have pm : pm1 (rotL (codeL d p) k) := fun i hi => by rw [rotL_get (by rw [rotL_len] at hi; exact hi)]; exact code_pm hd hp _
  rcases h with ⟨h1, _⟩ | ⟨_, h2, _⟩ | ⟨_, _, _, h4, h5⟩ | ⟨_, _, _, h4, _⟩
  · exact absurd ok h1
  · exact absurd ⟨hr, pm⟩ h2
  · obtain ⟨a1, a2, a3, a4, a5, _, _⟩ := h4
    have hq := len_code (p := q) ok
    have := rot_uniq hd hp hp' a1 a2 hk hk' a3 a4 ((rotE_rotL (by omega)).1 a5)
    omega
  · exact absurd ((rotE_rotL (by omega)).2 rfl) (h4 p hp (by omega) k hk (by omega))
theorem found_flip {d p k q j e i : Int} (hd : okT d) (hp : 1 ≤ p) (hk : 0 ≤ k) (hi : 0 ≤ i) (hi' : i < nG d) (h : findR d ((rotL (codeL d p) k).set i.toNat (-(rotL (codeL d p) k).getD i.toNat 0)) q j e) : e = 18 := by
  have hl := len_code (p := p) (okT_D hd)
  have ok := okT_D hd
  have hr : ((rotL (codeL d p) k).length : Int) = nG d := by rw [rotL_len, hl]
  have g := code_pm (p := p) hd hp (((i.toNat : Nat) : Int) + k)
  rw [← rotL_get (by omega)] at g
  have pm : pm1 ((rotL (codeL d p) k).set i.toNat (-(rotL (codeL d p) k).getD i.toNat 0)) := fun m hm => by
    rw [List.length_set] at hm
    rw [getD_set]
    split
    · omega
    · rw [rotL_get (by rw [rotL_len] at hm; exact hm)]; exact code_pm hd hp _
  rcases h with ⟨h1, _⟩ | ⟨_, h2, _⟩ | ⟨_, h3, _, h4, h5⟩ | ⟨_, _, _, h4, h5, _⟩
  · exact absurd ok h1
  · exact absurd ⟨by rw [List.length_set]; exact hr, pm⟩ h2
  · exfalso
    obtain ⟨a1, a2, a3, a4, a5, _, _⟩ := h4
    have hq := len_code (p := q) ok
    have e := (rotE_rotL (by omega)).1 a5
    have s1 := sumL_set (l := rotL (codeL d p) k) (i := i.toNat) (x := -(rotL (codeL d p) k).getD i.toNat 0) (by omega)
    rw [e, sumL_rot a3, sumL_rot hk] at s1
    have t1 := sum_three (p := p) hd hp
    have t2 := sum_three (p := q) hd a1
    unfold three tG at t1 t2
    rcases hd with rfl | rfl | rfl
    · simp only [if_true] at t1 t2; omega
    · simp only [if_neg (show ¬(6 : Int) = 5 by omega)] at t1 t2; omega
    · simp only [if_neg (show ¬(7 : Int) = 5 by omega)] at t1 t2; omega
  · exact h5
theorem su_int {l : List Int} {i : Int} (h : 0 ≤ i) (h' : i < (l.length : Int)) : l.getD i.toNat 0 = su l i := by
  have := su_nat (u := l) (i := i.toNat) (by omega)
  rw [Int.toNat_of_nonneg h] at this; exact this.symm
theorem su_tmod {l : List Int} {a n : Int} (h : (l.length : Int) = n) (h0 : 0 ≤ a) : l.getD (a.tmod n).toNat 0 = su l a := by
  unfold su; rw [tmod_nn h0, h]
theorem tG_cases (d : Int) : (d = 5 → tG d = 9) ∧ (d ≠ 5 → tG d = 17) := ⟨fun h => if_pos h, fun h => if_neg h⟩
theorem shl2 {d : Int} (h : okT d) (h6 : d ≠ 6) : opI (.shl .i64) 1 ((d + 1).tdiv 2) + 1 = tG d := by
  rcases h with rfl | rfl | rfl
  · decide
  · exact absurd rfl h6
  · decide
theorem app_next {f : Int → Int} {o : List Int} {i x : Int} (ho : (o.length : Int) = i) (g : ∀ j : Nat, (j : Int) < i → o.getD j 0 = f j) (hx : x = f i) :
    ((o ++ [x]).length : Int) = i + 1 ∧ ∀ j : Nat, (j : Int) < i + 1 → (o ++ [x]).getD j 0 = f j := by
  refine ⟨by simp; omega, fun j hj => ?_⟩
  rcases Int.lt_or_le (j : Int) i with c | c
  · rw [getD_app1 (by omega)]; exact g j c
  · have e : j = o.length := by omega
    rw [e, getD_last, hx, ho]
theorem code_own {d w : Int} (hd : okT d) (hw : w = 1 ∨ w = 2) (j : Int) : su (codeL d w) j = 1 - 2 * su (bitsL d w) j := by
  rw [code_su hd (by omega)]
  have := bits_su hd hw j
  rcases hw with rfl | rfl
  · rw [cA, cBv, if_neg (by omega), if_pos rfl, show (su (bitsL d 1) j + 0) % 2 = su (bitsL d 1) j by omega]; rfl
  · rw [cA, cBv, if_pos rfl, if_neg (by omega), if_pos rfl, show (0 + su (bitsL d 2) j) % 2 = su (bitsL d 2) j by omega]; rfl
end Go.Sp
