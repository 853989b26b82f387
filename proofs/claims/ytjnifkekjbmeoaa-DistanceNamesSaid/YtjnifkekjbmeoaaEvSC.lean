/- A region that draws its order: the theorem. -/
import Derived.Test.YtjnifkekjbmeoaaEvSB
namespace Go.Ev
open Go.RowKit (Below)
/-! ### what is looked up once -/
theorem hasN_ok {t : Nat} : ∀ {l : List Nat}, t ∈ l → hasN t l = true
  | x :: l, h => by
    show bR (Nat.beq x t) true (hasN t l) = true
    cases hb : Nat.beq x t with
    | true => rfl
    | false =>
      rcases List.mem_cons.1 h with rfl | h
      · simp at hb
      · exact hasN_ok h
theorem clash_ok {dx : Option Nat} {ly : List Nat} {dy : Option Nat} {t : Nat} (h1 : dx = some t) (h2 : t ∈ ly ∨ dy = some t) : clash dx ly dy = true := by
  subst h1
  unfold clash
  simp only []
  rcases h2 with h2 | rfl
  · rw [hasN_ok h2]; rfl
  · cases hasN t ly <;> simp [bR]
theorem pairOk_tmp {i : Nat} {x y : DI} {t : Nat} (h : pairOk i x y = true) (hh : (x.dst = some t ∧ (t ∈ y.looks ∨ y.dst = some t)) ∨ (y.dst = some t ∧ t ∈ x.looks)) : y.mask.testBit i = true := by
  have : bR (clash x.dst y.looks y.dst) true (clash y.dst x.looks none) = true := by
    rcases hh with ⟨h1, h2⟩ | ⟨h1, h2⟩
    · rw [clash_ok h1 h2]; rfl
    · rw [clash_ok h1 (.inl h2)]; cases clash x.dst y.looks y.dst <;> rfl
  unfold pairOk at h
  rw [this] at h
  exact h
theorem pairOk_heap {i : Nat} {x y : DI} (h : pairOk i x y = true) (hh : (x.kind = .write ∧ y.kind ≠ .pure) ∨ (y.kind = .write ∧ x.kind ≠ .pure)) : y.mask.testBit i = true := by
  unfold pairOk at h
  cases hc : bR (clash x.dst y.looks y.dst) true (clash y.dst x.looks none) with
  | true => rw [hc] at h; exact h
  | false =>
    rw [hc] at h
    have : bR (isWrite x.kind) (not (isPure y.kind)) (bR (isWrite y.kind) (not (isPure x.kind)) false) = true := by
      rcases hh with ⟨h1, h2⟩ | ⟨h1, h2⟩
      · rw [h1]; revert h2; cases y.kind <;> simp [bR, isWrite, isPure]
      · rw [h1]; revert h2; cases x.kind <;> simp [bR, isWrite, isPure]
    have h : bR (bR (isWrite x.kind) (not (isPure y.kind)) (bR (isWrite y.kind) (not (isPure x.kind)) false)) (Nat.testBit y.mask i) true = true := h
    rw [this] at h; exact h
theorem rowOk_ok {y : DI} : ∀ {l : List DI} {k : Nat}, rowOk y k l = true → ∀ i x, l[i]? = some x → pairOk (k + i) x y = true
  | x :: l, k, h, i, z, hz => by
    have h : bR (pairOk k x y) (rowOk y (k + 1) l) false = true := h
    cases hp : pairOk k x y with
    | false => rw [hp] at h; cases h
    | true =>
      rw [hp] at h
      cases i with
      | zero => simp at hz; subst hz; exact hp
      | succ i => have := rowOk_ok (l := l) (k := k + 1) h i z (by simpa using hz); rw [← this]; congr 1; omega
  | [], _, _, i, z, hz => by simp at hz
theorem allOk_ok : ∀ {l done : List DI}, allOk done l = true → ∀ j y, l[j]? = some y → ∀ i x, i < done.length + j → (done ++ l)[i]? = some x → pairOk i x y = true
  | y :: l, done, h, j, z, hz, i, x, hi, hx => by
    have h : bR (rowOk y 0 done) (allOk (done ++ [y]) l) false = true := h
    cases hr : rowOk y 0 done with
    | false => rw [hr] at h; cases h
    | true =>
      rw [hr] at h
      cases j with
      | zero =>
        simp at hz; subst hz
        rw [List.getElem?_append_left (by omega)] at hx
        have := rowOk_ok hr i x hx
        simpa using this
      | succ j =>
        refine allOk_ok (l := l) (done := done ++ [y]) h j z (by simpa using hz) i x (by simp; omega) ?_
        simpa using hx
  | [], _, _, j, z, hz, _, _, _, _ => by simp at hz
theorem edgesOk_ok : ∀ {l : List Oper} {k : Nat}, edgesOk k l = true → ∀ i o, l[i]? = some o → ∀ e ∈ o.after, Region.binds .any e = true → e.on < k + i
  | o :: l, k, h, i, z, hz => by
    have h : bR (o.after.toList.all fun e => match Region.binds .any e with | true => Nat.blt e.on k | false => true) (edgesOk (k + 1) l) false = true := h
    cases hr : (o.after.toList.all fun e => match Region.binds .any e with | true => Nat.blt e.on k | false => true) with
    | false => rw [hr] at h; cases h
    | true =>
      rw [hr] at h
      cases i with
      | zero =>
        simp at hz; subst hz
        intro e he hb
        have := List.all_eq_true.1 hr e (by simpa using he)
        rw [hb] at this
        exact Nat.le_of_ble_eq_true this
      | succ i => intro e he hb; have := edgesOk_ok (l := l) (k := k + 1) h i z (by simpa using hz) e he hb; omega
  | [], _, _, i, z, hz => by simp at hz
theorem maskOf_ok {acc : List Nat} {i : Nat} : ∀ {es : List Edge}, (maskOf acc es).testBit i = true → ∃ e ∈ es, Region.binds .any e = true ∧ (e.on = i ∨ (acc.getD e.on 0).testBit i = true)
  | [], h => by simp [maskOf] at h
  | e :: es, h => by
    have h : (Nat.lor (match Region.binds .any e with | true => Nat.lor (2 ^ e.on) (acc.getD e.on 0) | false => 0) (maskOf acc es)).testBit i = true := h
    have h : ((match Region.binds .any e with | true => Nat.lor (2 ^ e.on) (acc.getD e.on 0) | false => 0) ||| (maskOf acc es)).testBit i = true := h
    rw [Nat.testBit_or, Bool.or_eq_true] at h
    rcases h with h | h
    · cases hb : Region.binds .any e with
      | false => rw [hb] at h; simp at h
      | true =>
        rw [hb] at h
        have h : ((2 ^ e.on) ||| (acc.getD e.on 0)).testBit i = true := h
        rw [Nat.testBit_or, Bool.or_eq_true] at h
        refine ⟨e, List.mem_cons_self, hb, ?_⟩
        rcases h with h | h
        · left; rw [Nat.testBit_two_pow] at h; simpa using h
        · exact .inr h
    · obtain ⟨e', h1, h2⟩ := maskOf_ok h
      exact ⟨e', List.mem_cons_of_mem _ h1, h2⟩
theorem masksOf_ok : ∀ (l : List Oper) (acc : List Nat), (masksOf l acc).length = acc.length + l.length ∧ (∀ j, j < acc.length → (masksOf l acc)[j]? = acc[j]?) ∧
    ∀ j o, l[j]? = some o → ∃ m, (masksOf l acc)[acc.length + j]? = some m ∧ ∀ i, m.testBit i = true → ∃ e ∈ o.after, Region.binds .any e = true ∧ (e.on = i ∨ (((masksOf l acc).getD e.on 0).testBit i = true ∧ e.on < acc.length + j))
  | [], acc => ⟨by simp [masksOf], fun j _ => rfl, fun j o h => by simp at h⟩
  | o :: l, acc => by
    obtain ⟨h1, h2, h3⟩ := masksOf_ok l (acc ++ [maskOf acc o.after.toList])
    have e0 : masksOf (o :: l) acc = masksOf l (acc ++ [maskOf acc o.after.toList]) := rfl
    rw [e0]
    refine ⟨by rw [h1]; simp; omega, fun j hj => ?_, fun j z hz => ?_⟩
    · rw [h2 j (by simp; omega), List.getElem?_append_left hj]
    · cases j with
      | zero =>
        simp at hz; subst hz
        refine ⟨maskOf acc o.after.toList, ?_, fun i hi => ?_⟩
        · rw [Nat.add_zero, h2 _ (by simp)]; simp
        · obtain ⟨e, g1, g2, g3⟩ := maskOf_ok hi
          refine ⟨e, by simpa using g1, g2, ?_⟩
          rcases g3 with g3 | g3
          · exact .inl g3
          · refine .inr ⟨?_, ?_⟩
            · have hlt : e.on < acc.length := by
                rcases Nat.lt_or_ge e.on acc.length with h | h
                · exact h
                · rw [List.getD_eq_getElem?_getD, List.getElem?_eq_none h] at g3; simp at g3
              rw [List.getD_eq_getElem?_getD, h2 _ (by simp; omega), List.getElem?_append_left hlt, ← List.getD_eq_getElem?_getD]; exact g3
            · rcases Nat.lt_or_ge e.on acc.length with h | h
              · omega
              · rw [List.getD_eq_getElem?_getD, List.getElem?_eq_none h] at g3; simp at g3
      | succ j =>
        obtain ⟨m, g1, g2⟩ := h3 j z (by simpa using hz)
        refine ⟨m, by rw [← g1]; congr 1; simp; omega, fun i hi => ?_⟩
        obtain ⟨e, k1, k2, k3⟩ := g2 i hi
        refine ⟨e, k1, k2, ?_⟩
        rcases k3 with k3 | ⟨k3, k4⟩
        · exact .inl k3
        · exact .inr ⟨k3, by simp at k4; omega⟩
theorem isB_at {T : Tr EV} {a : Act} {g : Nat} {w : Bool} {φ : Phi} (hv : VR φ (getT (key g) T) (a.tmps.getD g undef)) : isB T (key g) w = ((match (a.tmps[g]? : Option Value) with | some (.bool b) => some b | _ => none) == some w) := by
  unfold isB
  unfold getT at hv
  rw [Array.getD_eq_getD_getElem?] at hv
  cases hg : T.get (key g) with
  | none =>
    rw [hg] at hv
    have hv : VR φ (.tuple []) (a.tmps[g]?.getD undef) := hv
    cases hx : a.tmps[g]? with
    | none => cases w <;> rfl
    | some x =>
      rw [hx] at hv
      have hv : VR φ (.tuple []) x := hv
      cases hv
      cases w <;> rfl
  | some v =>
    rw [hg] at hv
    have hv : VR φ v (a.tmps[g]?.getD undef) := hv
    cases hx : a.tmps[g]? with
    | none =>
      rw [hx] at hv
      have hv : VR φ v undef := hv
      show asBool v (fun b => beqB b w) = _
      unfold undef at hv
      generalize hu : Value.tuple #[] = u at hv
      cases hv <;> first | (cases hu; done) | (cases w <;> rfl)
    | some x =>
      rw [hx] at hv
      have hv : VR φ v x := hv
      show asBool v (fun b => beqB b w) = _
      cases hv with
      | bool b => cases b <;> cases w <;> rfl
      | _ => cases w <;> rfl
end Go.Ev
