import Derived.Test.YtpmlodchbgfmeaaSpec08
namespace Go.Sp
open Go.Ev
/-- the element of a list that goes round -/
def su (u : List Int) (i : Int) : Int := u.getD (i % (u.length : Int)).toNat 0
def chi (x : Int) : Int := 1 - 2 * x
def sumR (f : Int → Int) : Nat → Int
  | 0 => 0
  | n + 1 => sumR f n + f n
theorem sumR_ext {f g : Int → Int} {n : Nat} (h : ∀ i : Nat, i < n → f i = g i) : sumR f n = sumR g n := by
  induction n with
  | zero => rfl
  | succ n ih => simp only [sumR]; rw [ih fun i hi => h i (by omega), h n (by omega)]
theorem sumR_1 {f : Int → Int} {n : Nat} : sumR (fun i => f (i + 1)) n = sumR f n + f n - f 0 := by
  induction n with
  | zero => simp [sumR]
  | succ n ih => simp only [sumR]; rw [ih, show ((n + 1 : Nat) : Int) = (n : Int) + 1 by omega]; omega
theorem sumR_rot {f : Int → Int} {n : Nat} (h : ∀ i : Int, f (i + n) = f i) (x : Nat) : sumR (fun i => f (i + x)) n = sumR f n := by
  induction x with
  | zero => exact sumR_ext fun i _ => by simp
  | succ x ih =>
    have e := sumR_1 (f := fun i => f (i + x)) (n := n)
    have e2 : sumR (fun i => f (i + ((x + 1 : Nat) : Int))) n = sumR (fun i => f (i + 1 + (x : Int))) n := sumR_ext fun i _ => by rw [show (i : Int) + ((x + 1 : Nat) : Int) = i + 1 + x by omega]
    rw [e2, e, ih, show (n : Int) + (x : Int) = (0 + x) + n by omega, h]
    omega
theorem su_add {u : List Int} {i : Int} : su u (i + (u.length : Int)) = su u i := by unfold su; rw [Int.add_emod_right]
theorem su_mod {u : List Int} {i : Int} : su u (i % (u.length : Int)) = su u i := by unfold su; rw [Int.emod_emod_of_dvd _ (Int.dvd_refl _)]
theorem su_nat {u : List Int} {i : Nat} (h : i < u.length) : su u i = u.getD i 0 := by
  unfold su; rw [Int.emod_eq_of_lt (by omega) (by omega)]; rfl
theorem su_bd {u : List Int} (h : ∀ y ∈ u, 0 ≤ y ∧ y ≤ 1) (i : Int) : 0 ≤ su u i ∧ su u i ≤ 1 := getD_bd h (by omega) (by omega)
/-- what the kernel runs -/
def eqN : Nat → List Int → List Int → List Int → Bool
  | 0, _, _, _ => true
  | n + 1, x :: a, y :: b, z :: c => if (x + y) % 2 = z then eqN n a b c else false
  | _ + 1, _, _, _ => false
def findT (n : Nat) (a b : List Int) : Nat → List Int → Bool
  | 0, _ => false
  | m + 1, w => if eqN n a b w then true else findT n a b m w.tail
def allT (n : Nat) (a W : List Int) : Nat → List Int → Bool
  | 0, _ => true
  | m + 1, w => if findT n a w n W then allT n a W m w.tail else false
def dotN : Nat → List Int → List Int → Int → Int
  | 0, _, _, s => s
  | n + 1, x :: a, y :: b, s => dotN n a b (s + (1 - 2 * ((x + y) % 2)))
  | _ + 1, _, _, s => s
def allD (n : Nat) (a : List Int) (t : Int) : Nat → List Int → Bool
  | 0, _ => true
  | m + 1, w => if dotN n a w 0 = -1 ∨ dotN n a w 0 = -t ∨ dotN n a w 0 = t - 2 then allD n a t m w.tail else false
theorem eqN_ok : ∀ {n : Nat} {a b c : List Int}, eqN n a b c = true → ∀ i : Nat, i < n → (a.getD i 0 + b.getD i 0) % 2 = c.getD i 0
  | 0, _, _, _, _, i, hi => by omega
  | n + 1, x :: a, y :: b, z :: c, h, i, hi => by
    simp only [eqN] at h
    split at h
    · rename_i e
      cases i with
      | zero => exact e
      | succ i => simp only [List.getD_cons_succ]; exact eqN_ok h i (by omega)
    · cases h
  | n + 1, [], _, _, h, _, _ => by simp [eqN] at h
  | n + 1, _ :: _, [], _, h, _, _ => by simp [eqN] at h
  | n + 1, _ :: _, _ :: _, [], h, _, _ => by simp [eqN] at h
theorem findT_ok {n : Nat} {a b : List Int} : ∀ {m : Nat} {w : List Int}, findT n a b m w = true → ∃ z, z < m ∧ eqN n a b (w.drop z) = true
  | 0, w, h => by cases h
  | m + 1, w, h => by
    simp only [findT] at h
    split at h
    · rename_i e; exact ⟨0, by omega, e⟩
    · obtain ⟨z, h1, h2⟩ := findT_ok h
      exact ⟨z + 1, by omega, by rw [← h2, List.drop_tail]⟩
theorem allT_ok {n : Nat} {a W : List Int} : ∀ {m : Nat} {w : List Int}, allT n a W m w = true → ∀ k, k < m → findT n a (w.drop k) n W = true
  | 0, w, h, k, hk => by omega
  | m + 1, w, h, k, hk => by
    simp only [allT] at h
    split at h
    · rename_i e
      cases k with
      | zero => exact e
      | succ k => have := allT_ok h k (by omega); rw [← this, List.drop_tail]
    · cases h
theorem dotN_ok : ∀ {n : Nat} {a b : List Int} {s : Int}, n ≤ a.length → n ≤ b.length → dotN n a b s = s + sumR (fun i => chi ((a.getD i.toNat 0 + b.getD i.toNat 0) % 2)) n
  | 0, a, b, s, _, _ => by simp [dotN, sumR]
  | n + 1, x :: a, y :: b, s, h, g => by
    have h : n + 1 ≤ a.length + 1 := h
    have g : n + 1 ≤ b.length + 1 := g
    rw [dotN, dotN_ok (by omega) (by omega)]
    have e := sumR_1 (f := fun i => chi (((x :: a).getD i.toNat 0 + (y :: b).getD i.toNat 0) % 2)) (n := n)
    have e2 : sumR (fun i => chi (((x :: a).getD (i + 1).toNat 0 + (y :: b).getD (i + 1).toNat 0) % 2)) n = sumR (fun i => chi ((a.getD i.toNat 0 + b.getD i.toNat 0) % 2)) n := sumR_ext fun i _ => by
      rw [toNat_succ (by omega), List.getD_cons_succ, List.getD_cons_succ]
    rw [e2] at e
    simp only [sumR]
    rw [e]
    have e3 : chi (((x :: a).getD (0 : Int).toNat 0 + (y :: b).getD (0 : Int).toNat 0) % 2) = 1 - 2 * ((x + y) % 2) := rfl
    omega
  | n + 1, [], _, _, h, _ => by simp at h
  | n + 1, _ :: _, [], _, _, h => by simp at h
theorem allD_ok {n : Nat} {a : List Int} {t : Int} : ∀ {m : Nat} {w : List Int}, allD n a t m w = true → ∀ k, k < m → dotN n a (w.drop k) 0 = -1 ∨ dotN n a (w.drop k) 0 = -t ∨ dotN n a (w.drop k) 0 = t - 2
  | 0, w, h, k, hk => by omega
  | m + 1, w, h, k, hk => by
    simp only [allD] at h
    split at h
    · rename_i e
      cases k with
      | zero => exact e
      | succ k => have := allD_ok h k (by omega); rw [List.drop_tail] at this; exact this
    · cases h
theorem dbl_get {u : List Int} {k i : Nat} (hk : k < u.length) (hi : i < u.length) : ((u ++ u).drop k).getD i 0 = su u ((i : Int) + (k : Int)) := by
  have e : ((u ++ u).drop k).getD i 0 = (u ++ u).getD (k + i) 0 := by simp [List.getD_eq_getElem?_getD]
  rw [e]
  rcases Nat.lt_or_ge (k + i) u.length with x | x
  · rw [getD_app1 x, show (i : Int) + (k : Int) = ((k + i : Nat) : Int) by omega, su_nat x]
  · have e2 : (u ++ u).getD (k + i) 0 = u.getD (k + i - u.length) 0 := by simp [List.getD_eq_getElem?_getD, List.getElem?_append_right x]
    rw [e2, show (i : Int) + (k : Int) = ((k + i - u.length : Nat) : Int) + (u.length : Int) by omega, su_add, su_nat (by omega)]
def okT (d : Int) : Prop := d = 5 ∨ d = 6 ∨ d = 7
def tG (d : Int) : Int := if d = 5 then 9 else 17
theorem okT_D {d : Int} (h : okT d) : okD d := by unfold okT at h; unfold okD; omega
def runSA (d w : Int) : Bool := allT (nG d).toNat (bitsL d w) (bitsL d w ++ bitsL d w) ((nG d).toNat - 1) (bitsL d w ++ bitsL d w).tail
theorem runSA_ok {d w : Int} (h : okT d) (g : w = 1 ∨ w = 2) : runSA d w = true := by
  rcases h with rfl | rfl | rfl <;> rcases g with rfl | rfl <;> decide +kernel
def runD (d : Int) : Bool := allD (nG d).toNat (bitsL d 1) (tG d) (nG d).toNat (bitsL d 2 ++ bitsL d 2)
theorem runD_ok {d : Int} (h : okT d) : runD d = true := by rcases h with rfl | rfl | rfl <;> decide +kernel
def zer : Nat → List Int := fun n => List.replicate n 0
theorem runZ_ok {d w : Int} (h : okT d) (g : w = 1 ∨ w = 2) : dotN (nG d).toNat (bitsL d w) (zer (nG d).toNat) 0 = -1 := by
  rcases h with rfl | rfl | rfl <;> rcases g with rfl | rfl <;> decide +kernel
end Go.Sp
