/- Contradictions between facts by certificates: sums of products of what is known not to be negative. -/
import Derived.Test.YtcddopooofdgcaaEvT
namespace Go.Ev
set_option linter.unusedSectionVars false
abbrev Poly := List (List Nat × Int)
def monV (w : Nat → Int) : List Nat → Int
  | [] => 1
  | i :: m => w i * monV w m
def polyV (w : Nat → Int) : Poly → Int
  | [] => 0
  | t :: p => t.2 * monV w t.1 + polyV w p
noncomputable section
def insM (i : Nat) (m : List Nat) : List Nat := List.rec (motive := fun _ => List Nat) [i] (fun j m' ih => bR (Nat.ble i j) (i :: j :: m') (j :: ih)) m
def mulM (a b : List Nat) : List Nat := List.rec (motive := fun _ => List Nat) b (fun i _ ih => insM i ih) a
def eqM (a : List Nat) : List Nat → Bool := List.rec (motive := fun _ => List Nat → Bool) (fun b => List.rec (motive := fun _ => Bool) true (fun _ _ _ => false) b)
  (fun i _ ih b => List.rec (motive := fun _ => Bool) false (fun j b' _ => andB (Nat.beq i j) (ih b')) b) a
def addT (m : List Nat) (c : Int) (p : Poly) : Poly := List.rec (motive := fun _ => Poly) [(m, c)] (fun t p' ih => bR (eqM m t.1) ((m, c + t.2) :: p') (t :: ih)) p
def addP (k : Int) (p q : Poly) : Poly := List.rec (motive := fun _ => Poly) q (fun t _ ih => addT t.1 (k * t.2) ih) p
def mulT (m : List Nat) (c : Int) (p : Poly) : Poly := List.rec (motive := fun _ => Poly) [] (fun t _ ih => addT (mulM m t.1) (c * t.2) ih) p
def mulP (p q : Poly) : Poly := List.rec (motive := fun _ => Poly) [] (fun t _ ih => addP 1 (mulT t.1 t.2 q) ih) p
/-- the number of an atom -/
def atomN (ats : List SE) (e : SE) : Option Nat := List.rec (motive := fun _ => Option Nat) none (fun a _ ih => bR (SE.beq e a) (some 0) (Option.rec (motive := fun _ => Option Nat) none (fun n => some (Nat.succ n)) ih)) ats
def atomP (ats : List SE) (e : SE) : Option Poly := Option.rec (motive := fun _ => Option Poly) none (fun n => some [([n], 1)]) (atomN ats e)
def lift2 (g : Poly → Poly → Poly) (a b : Option Poly) : Option Poly := Option.rec (motive := fun _ => Option Poly) none (fun p => Option.rec (motive := fun _ => Option Poly) none (fun q => some (g p q)) b) a
def polyS (ats : List SE) (e : SE) : Option Poly := SE.rec (motive := fun _ => Option Poly)
  (fun n => some [([], n)]) (fun i => atomP ats (.var i))
  (fun o a b ha hb => SO.rec (motive := fun _ => Option Poly) (lift2 (addP 1) ha hb) (lift2 (fun p q => addP (-1) q p) ha hb) (lift2 mulP ha hb)
    (atomP ats (.bin o a b)) (atomP ats (.bin o a b)) (atomP ats (.bin o a b)) (fun _ => atomP ats (.bin o a b)) (fun _ => atomP ats (.bin o a b)) (fun _ => atomP ats (.bin o a b)) (fun _ => atomP ats (.bin o a b)) (fun _ => atomP ats (.bin o a b)) (fun _ => atomP ats (.bin o a b)) o)
  (fun k a _ => atomP ats (.wrap k a)) (fun f a b _ _ => atomP ats (.app f a b)) e
end
/-- what is not negative if the fact holds -/
def slackF (f : Fact) : SE := match f.le with | true => .bin .sub (.lit f.c) f.e | false => .bin .sub f.e (.lit (f.c + 1))
/-- what is never negative: of shifts, quotients, remainders and wraps -/
def axs : SE → List SE
  | .bin .fdiv x (.lit k) => match decide (0 < k) with
    | true => [.bin .sub x (.bin .mul (.lit k) (.bin .fdiv x (.lit k))), .bin .sub (.bin .add (.bin .mul (.lit k) (.bin .fdiv x (.lit k))) (.lit (k - 1))) x]
    | false => []
  | .bin .rem x (.lit k) => match decide (0 < k) with
    | true => [.bin .sub x (.bin .add (.bin .mul (.lit k) (.bin .quo x (.lit k))) (.bin .rem x (.lit k))), .bin .sub (.bin .add (.bin .mul (.lit k) (.bin .quo x (.lit k))) (.bin .rem x (.lit k))) x,
        .bin .sub (.lit (k - 1)) (.bin .rem x (.lit k)), .bin .add (.bin .rem x (.lit k)) (.lit (k - 1)), .bin .mul x (.bin .rem x (.lit k))]
    | false => []
  | .bin .rem x y => [.bin .sub x (.bin .add (.bin .mul y (.bin .quo x y)) (.bin .rem x y)), .bin .sub (.bin .add (.bin .mul y (.bin .quo x y)) (.bin .rem x y)) x, .bin .mul x (.bin .rem x y)]
  | .wrap k x => [.bin .sub (.wrap k x) (.lit k.min), .bin .sub (.lit k.max) (.wrap k x)]
  | _ => []
/-! ### they are sound -/
theorem eqM_ok : ∀ {a b : List Nat}, eqM a b = true → a = b
  | [], [], _ => rfl
  | [], _ :: _, h => absurd (show false = true from h) (by decide)
  | _ :: _, [], h => absurd (show false = true from h) (by decide)
  | i :: a, j :: b, h => by
    obtain ⟨h1, h2⟩ := andB_ok (show andB (Nat.beq i j) (eqM a b) = true from h)
    rw [Nat.eq_of_beq_eq_true h1, eqM_ok h2]
theorem insM_v {w : Nat → Int} {i : Nat} : ∀ {m : List Nat}, monV w (insM i m) = w i * monV w m
  | [] => rfl
  | j :: m => by
    show monV w (bR (Nat.ble i j) (i :: j :: m) (j :: insM i m)) = _
    cases Nat.ble i j
    · show w j * monV w (insM i m) = w i * (w j * monV w m)
      rw [insM_v, Int.mul_left_comm]
    · rfl
theorem mulM_v {w : Nat → Int} {b : List Nat} : ∀ {a : List Nat}, monV w (mulM a b) = monV w a * monV w b
  | [] => (Int.one_mul _).symm
  | i :: a => by
    show monV w (insM i (mulM a b)) = w i * monV w a * monV w b
    rw [insM_v, mulM_v, Int.mul_assoc]
theorem addT_v {w : Nat → Int} {m : List Nat} {c : Int} : ∀ {p : Poly}, polyV w (addT m c p) = c * monV w m + polyV w p
  | [] => rfl
  | t :: p => by
    show polyV w (bR (eqM m t.1) ((m, c + t.2) :: p) (t :: addT m c p)) = _
    cases h : eqM m t.1
    · show t.2 * monV w t.1 + polyV w (addT m c p) = c * monV w m + (t.2 * monV w t.1 + polyV w p)
      rw [addT_v]; omega
    · show (c + t.2) * monV w m + polyV w p = c * monV w m + (t.2 * monV w t.1 + polyV w p)
      rw [eqM_ok h, Int.add_mul, Int.add_assoc]
theorem addP_v {w : Nat → Int} {k : Int} {q : Poly} : ∀ {p : Poly}, polyV w (addP k p q) = k * polyV w p + polyV w q
  | [] => by show polyV w q = k * 0 + polyV w q; omega
  | t :: p => by
    show polyV w (addT t.1 (k * t.2) (addP k p q)) = k * (t.2 * monV w t.1 + polyV w p) + polyV w q
    rw [addT_v, addP_v, Int.mul_add, Int.mul_assoc]; omega
theorem mulT_v {w : Nat → Int} {m : List Nat} {c : Int} : ∀ {p : Poly}, polyV w (mulT m c p) = c * monV w m * polyV w p
  | [] => by show (0 : Int) = _ * 0; omega
  | t :: p => by
    show polyV w (addT (mulM m t.1) (c * t.2) (mulT m c p)) = c * monV w m * (t.2 * monV w t.1 + polyV w p)
    rw [addT_v, mulT_v, mulM_v, Int.mul_add]
    congr 1
    simp only [Int.mul_assoc, Int.mul_left_comm]
theorem mulP_v {w : Nat → Int} {q : Poly} : ∀ {p : Poly}, polyV w (mulP p q) = polyV w p * polyV w q
  | [] => by show (0 : Int) = 0 * _; omega
  | t :: p => by
    show polyV w (addP 1 (mulT t.1 t.2 q) (mulP p q)) = (t.2 * monV w t.1 + polyV w p) * polyV w q
    rw [addP_v, mulP_v, mulT_v, Int.add_mul]; omega
def atV (ats : List SE) (v : VAL) (i : Nat) : Int := (ats.getD i (.lit 0)).ev v
theorem atomN_ok {v : VAL} {e : SE} : ∀ {ats : List SE} {n : Nat}, atomN ats e = some n → atV ats v n = e.ev v
  | [], _, h => nomatch h
  | a :: ats, n, h => by
    have h : bR (SE.beq e a) (some 0) (Option.rec (motive := fun _ => Option Nat) none (fun n => some (Nat.succ n)) (atomN ats e)) = some n := h
    cases hb : SE.beq e a with
    | true =>
      rw [hb] at h
      have h : some 0 = some n := h
      cases h
      rw [SE.beq_ok hb]; rfl
    | false =>
      rw [hb] at h
      cases hr : atomN ats e with
      | none => rw [hr] at h; exact nomatch (show none = some n from h)
      | some k =>
        rw [hr] at h
        have h : some (Nat.succ k) = some n := h
        cases h
        have := atomN_ok (v := v) hr
        exact this
theorem atomP_ok {v : VAL} {ats : List SE} {e : SE} {p : Poly} (h : atomP ats e = some p) : polyV (atV ats v) p = e.ev v := by
  unfold atomP at h
  cases hn : atomN ats e with
  | none => rw [hn] at h; exact nomatch (show none = some p from h)
  | some n =>
    rw [hn] at h
    have h : some [([n], (1 : Int))] = some p := h
    cases h
    show 1 * (atV ats v n * 1) + 0 = _
    rw [atomN_ok hn]; omega
theorem lift2_ok {g : Poly → Poly → Poly} {a b : Option Poly} {p : Poly} (h : lift2 g a b = some p) : ∃ x y, a = some x ∧ b = some y ∧ g x y = p := by
  cases a with
  | none => exact nomatch (show none = some p from h)
  | some x =>
    cases b with
    | none => exact nomatch (show none = some p from h)
    | some y =>
      have h : some (g x y) = some p := h
      exact ⟨x, y, rfl, rfl, by cases h; rfl⟩
theorem polyS_ok {v : VAL} {ats : List SE} : ∀ {e : SE} {p : Poly}, polyS ats e = some p → polyV (atV ats v) p = e.ev v
  | .lit n, p, h => by
    have h : some [(([] : List Nat), n)] = some p := h
    cases h
    show n * 1 + 0 = n
    omega
  | .var i, p, h => atomP_ok (show atomP ats (.var i) = some p from h)
  | .wrap k a, p, h => atomP_ok (show atomP ats (.wrap k a) = some p from h)
  | .app f a b, p, h => atomP_ok (show atomP ats (.app f a b) = some p from h)
  | .bin .add a b, p, h => by
    obtain ⟨x, y, h1, h2, rfl⟩ := lift2_ok (show lift2 (addP 1) (polyS ats a) (polyS ats b) = some p from h)
    rw [addP_v, polyS_ok h1, polyS_ok h2]
    show 1 * _ + _ = a.ev v + b.ev v
    omega
  | .bin .sub a b, p, h => by
    obtain ⟨x, y, h1, h2, rfl⟩ := lift2_ok (show lift2 (fun p q => addP (-1) q p) (polyS ats a) (polyS ats b) = some p from h)
    show polyV _ (addP (-1) y x) = a.ev v - b.ev v
    rw [addP_v, polyS_ok h1, polyS_ok h2]
    omega
  | .bin .mul a b, p, h => by
    obtain ⟨x, y, h1, h2, rfl⟩ := lift2_ok (show lift2 mulP (polyS ats a) (polyS ats b) = some p from h)
    rw [mulP_v, polyS_ok h1, polyS_ok h2]; rfl
  | .bin .quo a b, p, h => atomP_ok (show atomP ats (.bin .quo a b) = some p from h)
  | .bin .rem a b, p, h => atomP_ok (show atomP ats (.bin .rem a b) = some p from h)
  | .bin .fdiv a b, p, h => atomP_ok (show atomP ats (.bin .fdiv a b) = some p from h)
  | .bin (.and k) a b, p, h => atomP_ok (show atomP ats (.bin (.and k) a b) = some p from h)
  | .bin (.or k) a b, p, h => atomP_ok (show atomP ats (.bin (.or k) a b) = some p from h)
  | .bin (.xor k) a b, p, h => atomP_ok (show atomP ats (.bin (.xor k) a b) = some p from h)
  | .bin (.andNot k) a b, p, h => atomP_ok (show atomP ats (.bin (.andNot k) a b) = some p from h)
  | .bin (.shl k) a b, p, h => atomP_ok (show atomP ats (.bin (.shl k) a b) = some p from h)
  | .bin (.shr k) a b, p, h => atomP_ok (show atomP ats (.bin (.shr k) a b) = some p from h)
theorem slackF_ok {v : VAL} {f : Fact} (h : f.holds v) : 0 ≤ (slackF f).ev v := by
  obtain ⟨e, c, le⟩ := f
  cases le
  · have h : c < e.ev v := h
    show 0 ≤ e.ev v - (c + 1)
    omega
  · have h : e.ev v ≤ c := h
    show 0 ≤ c - e.ev v
    omega
theorem rem_sign (x y : Int) : 0 ≤ x * Int.tmod x y := by
  by_cases h : 0 ≤ x
  · exact Int.mul_nonneg h (Int.tmod_nonneg y h)
  · have h1 : 0 ≤ (-x) * Int.tmod (-x) y := Int.mul_nonneg (by omega) (Int.tmod_nonneg y (by omega))
    rw [Int.neg_tmod, Int.neg_mul_neg] at h1
    exact h1
theorem axs_ok {v : VAL} {e s : SE} (h : s ∈ axs e) : 0 ≤ s.ev v := by
  unfold axs at h
  split at h
  · rename_i x k
    cases hk : decide (0 < k) with
    | false => rw [hk] at h; cases h
    | true =>
      have hk' : 0 < k := of_decide_eq_true hk
      rw [hk] at h
      have e1 : Int.fdiv (x.ev v) k = x.ev v / k := Int.fdiv_eq_ediv_of_nonneg _ (by omega)
      have e2 := Int.mul_ediv_add_emod (x.ev v) k
      have e3 := Int.emod_nonneg (x.ev v) (show k ≠ 0 by omega)
      have e4 := Int.emod_lt_of_pos (x.ev v) hk'
      simp only [List.mem_cons, List.not_mem_nil, or_false] at h
      rcases h with rfl | rfl
      · show 0 ≤ x.ev v - k * Int.fdiv (x.ev v) k
        rw [e1]; omega
      · show 0 ≤ k * Int.fdiv (x.ev v) k + (k - 1) - x.ev v
        rw [e1]; omega
  · rename_i x k
    cases hk : decide (0 < k) with
    | false => rw [hk] at h; cases h
    | true =>
      have hk' : 0 < k := of_decide_eq_true hk
      rw [hk] at h
      have e2 := Int.mul_tdiv_add_tmod (x.ev v) k
      have e3 := Int.tmod_lt_of_pos (x.ev v) hk'
      have e4 := Int.lt_tmod_of_pos (x.ev v) hk'
      simp only [List.mem_cons, List.not_mem_nil, or_false] at h
      rcases h with rfl | rfl | rfl | rfl | rfl
      · show 0 ≤ x.ev v - (k * Int.tdiv (x.ev v) k + Int.tmod (x.ev v) k)
        omega
      · show 0 ≤ (k * Int.tdiv (x.ev v) k + Int.tmod (x.ev v) k) - x.ev v
        omega
      · show 0 ≤ (k - 1) - Int.tmod (x.ev v) k
        omega
      · show 0 ≤ Int.tmod (x.ev v) k + (k - 1)
        omega
      · exact rem_sign _ _
  · rename_i x y _
    have e2 := Int.mul_tdiv_add_tmod (x.ev v) (y.ev v)
    simp only [List.mem_cons, List.not_mem_nil, or_false] at h
    rcases h with rfl | rfl | rfl
    · show 0 ≤ x.ev v - (y.ev v * Int.tdiv (x.ev v) (y.ev v) + Int.tmod (x.ev v) (y.ev v))
      omega
    · show 0 ≤ (y.ev v * Int.tdiv (x.ev v) (y.ev v) + Int.tmod (x.ev v) (y.ev v)) - x.ev v
      omega
    · exact rem_sign _ _
  · rename_i k x
    have := @wrap_rng ⟨[]⟩ (@Env.mk ⟨[]⟩ v (fun f hf => nomatch hf)) k (x.ev v)
    simp only [List.mem_cons, List.not_mem_nil, or_false] at h
    rcases h with rfl | rfl
    · show 0 ≤ k.wrap (x.ev v) - k.min
      omega
    · show 0 ≤ k.max - k.wrap (x.ev v)
      omega
  · cases h
/-! ### certificates -/
/-- why some facts can't hold together: atoms, numbers whose axioms are used, and the sum of products that is negative -/
structure Dead where
  cl : List Fact
  ats : List SE
  ax : List SE
  cert : List (Nat × List Nat)
noncomputable section
def prodC (S : List (Option Poly)) (l : List Nat) : Option Poly := List.rec (motive := fun _ => Option Poly) (some [([], 1)])
  (fun i _ ih => Option.rec (motive := fun _ => Option Poly) none (fun o => lift2 mulP o ih) (nthN i S)) l
def sumC (S : List (Option Poly)) (l : List (Nat × List Nat)) : Option Poly := List.rec (motive := fun _ => Option Poly) (some [])
  (fun t _ ih => lift2 (fun p q => addP (Int.ofNat t.1) p q) (prodC S t.2) ih) l
def negP (p : Poly) : Int → Bool := List.rec (motive := fun _ => Int → Bool) (fun a => Int.rec (motive := fun _ => Bool) (fun _ => false) (fun _ => true) a)
  (fun t _ ih a => List.rec (motive := fun _ => Bool) (ih (a + t.2)) (fun _ _ _ => andB (eqI t.2 0) (ih a)) t.1) p
def deadB (d : Dead) : Bool := Option.rec (motive := fun _ => Bool) false (fun p => negP p 0) (sumC ((d.cl.map slackF ++ d.ax.flatMap axs).map (polyS d.ats)) d.cert)
def deadsB (l : List Dead) : Bool := List.rec (motive := fun _ => Bool) true (fun d _ ih => andB (deadB d) ih) l
end
theorem prodC_ok {w : Nat → Int} {S : List (Option Poly)} (hS : ∀ p, some p ∈ S → 0 ≤ polyV w p) : ∀ {l : List Nat} {p : Poly}, prodC S l = some p → 0 ≤ polyV w p
  | [], p, h => by
    have h : some [(([] : List Nat), (1 : Int))] = some p := h
    cases h
    show (0 : Int) ≤ 1 * 1 + 0
    omega
  | i :: l, p, h => by
    have h : Option.rec (motive := fun _ => Option Poly) none (fun o => lift2 mulP o (prodC S l)) (nthN i S) = some p := h
    cases hn : nthN i S with
    | none => rw [hn] at h; exact nomatch (show none = some p from h)
    | some o =>
      rw [hn] at h
      obtain ⟨x, y, h1, h2, rfl⟩ := lift2_ok (show lift2 mulP o (prodC S l) = some p from h)
      rw [mulP_v]
      exact Int.mul_nonneg (hS x (h1 ▸ nthN_mem hn)) (prodC_ok hS h2)
theorem sumC_ok {w : Nat → Int} {S : List (Option Poly)} (hS : ∀ p, some p ∈ S → 0 ≤ polyV w p) : ∀ {l : List (Nat × List Nat)} {p : Poly}, sumC S l = some p → 0 ≤ polyV w p
  | [], p, h => by
    have h : some [] = some p := h
    cases h
    exact Int.le_refl 0
  | t :: l, p, h => by
    obtain ⟨x, y, h1, h2, rfl⟩ := lift2_ok (show lift2 (fun p q => addP (Int.ofNat t.1) p q) (prodC S t.2) (sumC S l) = some p from h)
    show 0 ≤ polyV w (addP (Int.ofNat t.1) x y)
    rw [addP_v]
    have a := Int.mul_nonneg (Int.natCast_nonneg t.1) (prodC_ok hS h1)
    have b := sumC_ok hS h2
    have e : (Int.ofNat t.1 : Int) = (t.1 : Int) := rfl
    rw [e]; omega
theorem negP_ok {w : Nat → Int} : ∀ {p : Poly} {a : Int}, negP p a = true → a + polyV w p < 0
  | [], a, h => by
    cases a with
    | ofNat n => exact absurd (show false = true from h) (by decide)
    | negSucc n => show Int.negSucc n + 0 < 0; omega
  | (m, c) :: p, a, h => by
    cases m with
    | nil =>
      have := negP_ok (w := w) (show negP p (a + c) = true from h)
      show a + (c * 1 + polyV w p) < 0
      omega
    | cons i m =>
      obtain ⟨h1, h2⟩ := andB_ok (show andB (eqI c 0) (negP p a) = true from h)
      have := negP_ok (w := w) h2
      have e := eqI_iff h1
      subst e
      show a + (0 * monV w (i :: m) + polyV w p) < 0
      rw [Int.zero_mul]; omega
theorem deadB_ok {d : Dead} (h : deadB d = true) (v : VAL) : ¬ ∀ f ∈ d.cl, f.holds v := by
  intro hf
  unfold deadB at h
  cases hs : sumC ((d.cl.map slackF ++ d.ax.flatMap axs).map (polyS d.ats)) d.cert with
  | none => rw [hs] at h; exact absurd (show false = true from h) (by decide)
  | some p =>
    rw [hs] at h
    have h1 := negP_ok (w := atV d.ats v) (show negP p 0 = true from h)
    have h2 := sumC_ok (w := atV d.ats v) (fun p hp => ?_) hs
    · omega
    · obtain ⟨s, hm, he⟩ := List.mem_map.1 hp
      rw [polyS_ok he]
      rcases List.mem_append.1 hm with hm | hm
      · obtain ⟨f, hf', rfl⟩ := List.mem_map.1 hm
        exact slackF_ok (hf f hf')
      · obtain ⟨a, _, hs'⟩ := List.mem_flatMap.1 hm
        exact axs_ok hs'
theorem deadsB_ok : ∀ {l : List Dead}, deadsB l = true → ∀ (v : VAL), ∀ cl ∈ l.map Dead.cl, ¬ ∀ f ∈ cl, f.holds v
  | [], _, _, _, h => nomatch h
  | d :: l, h, v, cl, hc => by
    obtain ⟨h1, h2⟩ := andB_ok (show andB (deadB d) (deadsB l) = true from h)
    rcases List.mem_cons.1 (show cl ∈ d.cl :: l.map Dead.cl from hc) with rfl | hc
    · exact deadB_ok h1 v
    · exact deadsB_ok h2 v cl hc
end Go.Ev
