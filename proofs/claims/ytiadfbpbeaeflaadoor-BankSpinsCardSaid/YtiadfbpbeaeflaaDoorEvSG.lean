/- Contracts over laid package variables: a call looks them up in what is only read. -/
import Derived.Test.YtiadfbpbeaeflaaDoorEvSX
namespace Go.Ev
open Go.RowKit (Below)
noncomputable section
/-- the same integers -/
def sameIs (xs : List EV) : List EV → Bool := List.rec (motive := fun _ => List EV → Bool) (fun ys => nilB ys) (fun x _ ih ys => List.rec (motive := fun _ => Bool) false (fun y ys _ => asInt x fun k a => asInt y fun k' b => guardB (kindEq k k') (guardB (eqI a b) (ih ys))) ys) xs
theorem sameIs_ok : ∀ {xs ys : List EV}, sameIs xs ys = true → xs = ys ∧ ∀ x ∈ xs, ∃ k n, x = .int k n
  | [], ys, h => ⟨(nilB_ok (show nilB ys = true from h)).symm, fun x hx => by cases hx⟩
  | x :: xs, [], h => absurd (show false = true from h) (by decide)
  | x :: xs, y :: ys, h => by
    obtain ⟨k, a, e1, g1⟩ := asInt_ok (show asInt x (fun k a => asInt y fun k' b => guardB (kindEq k k') (guardB (eqI a b) (sameIs xs ys))) = true from h)
    obtain ⟨k', b, e2, g2⟩ := asInt_ok g1
    obtain ⟨h1, g3⟩ := guard_ok g2
    obtain ⟨h2, g4⟩ := guard_ok g3
    obtain ⟨e3, h3⟩ := sameIs_ok g4
    have e4 := kindEq_ok h1
    have e5 := eqI_same h2
    subst e1 e2 e3 e4 e5
    refine ⟨rfl, fun z hz => ?_⟩
    rcases List.mem_cons.1 hz with e | hz
    · exact ⟨k, a, e⟩
    · exact h3 z hz
def laidK (gl : List (Nat × List EV)) (R : List Heap) (K : Ans) : Ans := List.rec (motive := fun _ => Ans) K
  (fun p _ ih => lookR (gkey p.1) R fun k => guardB (flatB k) (guardB (Nat.ble (lenN p.2) k.n) (readN k.cells (lenN p.2) 0 fun xs => guardB (sameIs p.2 xs) ih))) gl
theorem laidK_ok {R : List Heap} {K : Ans} : ∀ {gl : List (Nat × List EV)}, laidK gl R K = true → K = true ∧ ∀ p ∈ gl, ∃ k, (∃ hp ∈ R, hp.get (gkey p.1) = some k) ∧ k.cols = [] ∧ p.2.length ≤ k.n ∧ ∀ i v, p.2[i]? = some v → (∃ kd n, v = .int kd n) ∧ k.cells.get (key i) = some v
  | [], h => ⟨h, fun p hp => by cases hp⟩
  | p :: gl, h => by
    obtain ⟨k, g1, hk⟩ := lookR_ok (show lookR (gkey p.1) R (fun k => guardB (flatB k) (guardB (Nat.ble (lenN p.2) k.n) (readN k.cells (lenN p.2) 0 fun xs => guardB (sameIs p.2 xs) (laidK gl R K)))) = true from h)
    obtain ⟨h1, g2⟩ := guard_ok g1
    obtain ⟨h2, g3⟩ := guard_ok g2
    obtain ⟨xs, g4, hl, hx⟩ := readN_ok g3
    obtain ⟨h3, g5⟩ := guard_ok g4
    obtain ⟨e3, h4⟩ := sameIs_ok h3
    obtain ⟨h5, h6⟩ := laidK_ok g5
    subst e3
    refine ⟨h5, fun q hq => ?_⟩
    rcases List.mem_cons.1 hq with rfl | hq
    · have h2 := Nat.le_of_ble_eq_true h2
      rw [lenN_eq] at h2
      refine ⟨k, hk, flatB_ok h1, h2, fun i v hv => ?_⟩
      have hi := (List.getElem?_eq_some_iff.1 hv).1
      obtain ⟨v', e1, e2⟩ := hx i (by rw [lenN_eq]; exact hi)
      rw [hv] at e1; cases e1
      rw [Nat.zero_add] at e2
      exact ⟨h4 v (List.mem_of_getElem? hv), e2⟩
    · exact h6 q hq
theorem laid_here {gl : List (Nat × List EV)} {s : St} {w0 w : World} {φ : Phi} (hg : GR φ) (hw : WR w0 φ s w)
    (h : ∀ p ∈ gl, ∃ k, (∃ hp ∈ s.R, hp.get (gkey p.1) = some k) ∧ k.cols = [] ∧ p.2.length ≤ k.n ∧ ∀ i v, p.2[i]? = some v → (∃ kd n, v = .int kd n) ∧ k.cells.get (key i) = some v) : Laid gl w := fun p hp => by
  obtain ⟨k, ⟨hh, hm, hk⟩, h1, h2, h3⟩ := h p hp
  obtain ⟨q, fz, hq, arr, ty, g1, g2, g3, g4, _⟩ := ((hw.ro hh hm _ k hk).world hw.below.block).real (real_flat h1)
  obtain ⟨S, hS⟩ := hg p.1
  rw [hS] at hq; cases hq
  have g3 : 0 + k.n ≤ arr.size := g3
  refine ⟨arr, ty, fz, g1, by omega, fun ψ i v hv => ?_⟩
  have hi := (List.getElem?_eq_some_iff.1 hv).1
  obtain ⟨⟨kd, n, rfl⟩, e⟩ := h3 i v hv
  obtain ⟨v', e1, e2⟩ := g4 i _ (by omega) e
  have e1 : arr[0 + i]? = some v' := e1
  rw [Nat.zero_add] at e1
  cases e2
  exact ⟨_, e1, .int _ _⟩
def ctOfG (gl : List (Nat × List EV)) (g : Sig) : CT := fun args s K => laidK gl s.R (ctOf g args s K)
theorem FnOk.laid {P : Program} {f : Nat} {g : Sig} {gl : List (Nat × List EV)} (h : FnOk P f g []) : FnOk P f g gl := fun dss h1 h2 => by
  obtain ⟨cs, rss, a, b, c, d⟩ := h dss h1 h2
  exact ⟨cs, rss, a, b, c, fun w args' _ => d w args' fun p hp => by cases hp⟩
theorem ctrG_ok {P : Program} {f : Nat} {g : Sig} {gl : List (Nat × List EV)} (hF : FnOk P f g gl) : CtOk P f (ctOfG gl g) := by
  intro args s K h
  obtain ⟨h, hlaid⟩ := laidK_ok (show laidK gl s.R (ctOf g args s K) = true from h)
  revert h
  refine fun h => ctr_ok' (gl := gl) hF (fun {w0 φ w} hf hw => laid_here hf hw hlaid) h
theorem ctsOk_ofG {P : Program} {ext : List (Nat × Ext)} {gl : List (Nat × List EV)} {cs : List (Nat × Sig)} (hc : ∀ p ∈ cs, FnOk P p.1 p.2 gl) (he : ∀ f c, ext.lookup f = some (.ctr c) → ∃ g, (f, g) ∈ cs ∧ c = ctOfG gl g) : CtsOk P ext := fun f c h => by
  obtain ⟨g, h1, rfl⟩ := he f c h
  exact ctrG_ok (hc _ h1)
end
end Go.Ev
