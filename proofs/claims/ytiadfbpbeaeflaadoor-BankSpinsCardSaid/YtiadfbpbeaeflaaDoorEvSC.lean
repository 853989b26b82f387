/- A region that draws its order: the theorem. -/
import Derived.Test.YtiadfbpbeaeflaaDoorEvSB
namespace Go.Ev
open Go.RowKit (Below)
/-! ### loads that writers may pass -/
theorem sameB_ok : ∀ {a b : List Bool}, sameB a b = true → a = b
  | [], [], _ => rfl
  | [], _ :: _, h => absurd (show false = true from h) (by decide)
  | _ :: _, [], h => absurd (show false = true from h) (by decide)
  | x :: a, y :: b, h => by
    have h : bR (beqB x y) (sameB a b) false = true := h
    cases hb : beqB x y with
    | false => rw [hb] at h; cases h
    | true =>
      rw [hb] at h
      rw [sameB_ok (show sameB a b = true from h)]
      have : x = y := by revert hb; cases x <;> cases y <;> simp [beqB, bR]
      rw [this]
theorem bR_and {a b : Bool} (h : bR a b false = true) : a = true ∧ b = true := by
  cases a with
  | true => exact ⟨rfl, h⟩
  | false => exact absurd (show false = true from h) (by decide)
theorem eqI_same {a b : Int} (h : eqI a b = true) : a = b := by
  unfold eqI iR at h
  cases a <;> cases b <;> simp_all
theorem sameL_ok {f : EV → EV → Bool} (hf : ∀ x y, f x y = true → x = y) : ∀ {a b : List EV}, sameL f a b = true → a = b
  | [], [], _ => rfl
  | [], _ :: _, h => by simp [sameL] at h
  | _ :: _, [], h => by simp [sameL] at h
  | x :: a, y :: b, h => by
    obtain ⟨h1, h2⟩ := bR_and (show bR (f x y) (sameL f a b) false = true from h)
    rw [hf _ _ h1, sameL_ok hf h2]
theorem beq_bytes_ok {a b : ByteArray} (h : (a == b) = true) : a = b := by
  have h : (a.data == b.data) = true := h
  exact ByteArray.ext (eq_of_beq h)
theorem evSame_ok : ∀ (n : Nat) (x y : EV), evSame n x y = true → x = y
  | 0, x, y, h => by simp [evSame] at h
  | n + 1, x, y, h => by
    have ih := evSame_ok n
    unfold evSame at h
    split at h
    · rename_i a b
      revert h; cases a <;> cases b <;> simp [beqB, bR]
    · obtain ⟨h1, h2⟩ := bR_and h
      unfold kindEq at h1
      have h1 := by simpa using h1
      rw [eqI_same h2, h1]
    · obtain ⟨h1, h2⟩ := bR_and h
      obtain ⟨h2, h3⟩ := bR_and h2
      obtain ⟨h3, h4⟩ := bR_and h3
      rw [kindEq_ok h1, eqI_same h2, eqI_same h3, dec_iff.1 h4]
    · obtain ⟨h1, h2⟩ := bR_and h
      obtain ⟨h2, h3⟩ := bR_and h2
      obtain ⟨h3, h4⟩ := bR_and h3
      rw [sameB_ok h1, Nat.eq_of_beq_eq_true h2, Nat.eq_of_beq_eq_true h3, dec_iff.1 h4]
    · obtain ⟨h1, h2⟩ := bR_and h
      obtain ⟨h2, h3⟩ := bR_and h2
      obtain ⟨h3, h4⟩ := bR_and h3
      obtain ⟨h4, h5⟩ := bR_and h4
      rw [sameB_ok h1, Nat.eq_of_beq_eq_true h2, Nat.eq_of_beq_eq_true h3, dec_iff.1 h4, dec_iff.1 h5]
    · rename_i a b
      have : (a == b) = true := (beq_toListBytes a b).trans h
      rw [beq_bytes_ok this]
    · rfl
    · obtain ⟨h1, h2⟩ := bR_and h
      rw [sameB_ok h1, Nat.eq_of_beq_eq_true h2]
    · rfl
    · obtain ⟨h1, h2⟩ := bR_and h
      obtain ⟨h2, h3⟩ := bR_and h2
      obtain ⟨h3, h4⟩ := bR_and h3
      rw [sameB_ok h1, Nat.eq_of_beq_eq_true h2, Nat.eq_of_beq_eq_true h3, Nat.eq_of_beq_eq_true h4]
    · obtain ⟨h1, h2⟩ := bR_and h
      obtain ⟨h2, h3⟩ := bR_and h2
      rw [Nat.eq_of_beq_eq_true h1, sameL_ok ih h2, sameL_ok ih h3]
    · rfl
    · obtain ⟨h1, h2⟩ := bR_and h
      rw [Nat.eq_of_beq_eq_true h1, ih _ _ h2]
    · rfl
    · rw [sameL_ok ih h]
    · rfl
    · rw [sameB_ok h]
    · rw [sameL_ok ih h]
    · cases h
theorem sameN_ok : ∀ {vs : List EV} {o : Nat} {t : Tr EV}, sameN vs o t = true → ∀ (j : Nat) (v : EV), vs[j]? = some v → t.get (key (o + j)) = some v
  | [], _, _, _, j, v, h => by simp at h
  | x :: vs, o, t, h, j, v, hj => by
    have h : Option.rec (motive := fun _ => Bool) false (fun u => bR (evSame 6 x u) (sameN vs (Nat.succ o) t) false) (t.get (key o)) = true := h
    cases hg : t.get (key o) with
    | none => rw [hg] at h; exact absurd (show false = true from h) (by decide)
    | some u =>
      rw [hg] at h
      obtain ⟨h1, h2⟩ := bR_and (show bR (evSame 6 x u) (sameN vs (Nat.succ o) t) false = true from h)
      cases j with
      | zero => simp at hj; subst hj; rw [Nat.add_zero, hg, evSame_ok _ _ _ h1]
      | succ j =>
        have := sameN_ok h2 j v (by simpa using hj)
        rw [← this]; congr 2; omega
/-- memory has what the load read -/
def Has (M : Mem) (d : LD) : Prop := ∃ k, M d.b k ∧ k.cols = [] ∧ d.o + d.vs.length ≤ k.n ∧ ∀ (j : Nat) (v : EV), d.vs[j]? = some v → k.cells.get (key (d.o + j)) = some v
theorem Has.le {M M' : Mem} {d : LD} (h : Has M d) (hm : ∀ b k, M b k → M' b k) : Has M' d := let ⟨k, h1, h2, h3⟩ := h; ⟨k, hm _ _ h1, h2, h3⟩
theorem hasW_ok {d : LD} {H : Heap} (h : hasW d.b d.o d.vs H = true) : Has (fun b k => H.get b = some k) d := by
  unfold hasW at h
  cases hg : H.get d.b with
  | none => rw [hg] at h; exact absurd (show false = true from h) (by decide)
  | some k =>
    rw [hg] at h
    obtain ⟨h0, h⟩ := bR_and (show bR (flatB k) (bR (Nat.ble (Nat.add d.o (lenN d.vs)) k.n) (sameN d.vs d.o k.cells) false) false = true from h)
    obtain ⟨h1, h2⟩ := bR_and h
    have := Nat.le_of_ble_eq_true h1
    rw [lenN_eq] at this
    exact ⟨k, hg, flatB_ok h0, this, fun j v hj => sameN_ok h2 j v hj⟩
theorem window_at {φ : Phi} {w : World} {d : LD} {k : Blk} {p : Nat × Nat × Nat} {fz : Nat × Nat} (h : At φ d.b k w p fz) (h1 : d.o + d.vs.length ≤ k.n) (h2 : ∀ (j : Nat) (v : EV), d.vs[j]? = some v → k.cells.get (key (d.o + j)) = some v) :
    ∀ b k', (window d.b d.o d.vs).get b = some k' → ∃ p fz, At φ b k' w p fz := by
  intro b k' hb
  unfold window at hb
  rw [Tr.get_set] at hb
  split at hb
  · cases hb
    rename_i hbb
    subst hbb
    obtain ⟨e1, cs, ty, e2, e3, e4, e5, _⟩ := h
    refine ⟨p, fz, e1, cs, ty, e2, e3, ?_, fun i v hi hv => ?_, fun j c hj => by cases hj⟩
    · simp only [lenN_eq]
      have : d.o + d.vs.length ≤ k.n := h1
      show p.2.1 + (d.o + d.vs.length) ≤ cs.size
      omega
    · have hi : i < d.o + d.vs.length := by simpa [lenN_eq] using hi
      simp only at hv
      rw [get_writeN] at hv
      split at hv
      · rename_i hr
        have := h2 (i - d.o) v hv
        rw [show d.o + (i - d.o) = i from by omega] at this
        exact e5 i v (by omega) this
      · rw [Tr.get_nil] at hv; cases hv
  · rw [Tr.get_nil] at hb; cases hb
theorem revA_eq : ∀ (l a : List LE), revA l a = l.reverse ++ a
  | [], a => rfl
  | x :: l, a => by
    show revA l (x :: a) = _
    rw [revA_eq l]; simp
theorem allStable_ok {base : Heap} {log : List LE} : ∀ {lds : List LD}, allStable base log lds = true → ∀ d ∈ lds, stable d log.reverse 0 (hasW d.b d.o d.vs base) = true
  | d :: l, h, x, hx => by
    obtain ⟨h1, h2⟩ := bR_and (show bR (stable d (revA log []) 0 (hasW d.b d.o d.vs base)) (allStable base log l) false = true from h)
    rcases List.mem_cons.1 hx with rfl | hx
    · rw [revA_eq, List.append_nil] at h1; exact h1
    · exact allStable_ok h2 x hx
theorem stab_ok {S : Nat → Bool} {d : LD} (hm : ∀ i, d.mask.testBit i = true → S i = true) : ∀ (a : List Rec) (i : Nat) (M : Mem) (acc : Bool), (∀ k r, a[k]? = some r → r.d.mask.testBit d.j = true → S (i + k) = false) → (acc = true → Has M d) →
    stable d (a.map Rec.le) i acc = true → Has (MS S a i M) d
  | [], i, M, acc, _, h, hs => h hs
  | r :: a, i, M, acc, hq, h, hs => by
    have hq' : ∀ k x, a[k]? = some x → x.d.mask.testBit d.j = true → S (i + 1 + k) = false := fun k x hx hb => by
      have := hq (k + 1) x (by simpa using hx) hb; rw [← this]; congr 1; omega
    have go := fun M' acc' h' hs' => stab_ok hm a (i + 1) M' acc' hq' h' hs'
    show Has (MS S a (i + 1) (if S i then r.mem M else M)) d
    have same : r.le = .n → r.mem M = M → Has (MS S a (i + 1) (if S i then r.mem M else M)) d := fun h1 h2 => by
      rw [h2, ite_self]
      have hs : stable d (r.le :: a.map Rec.le) i acc = true := hs
      rw [h1] at hs
      exact go M acc h hs
    cases hr : r.ran with
    | false => exact same (by unfold Rec.le; rw [hr]) (by unfold Rec.mem; rw [hr])
    | true =>
      cases hk : r.d.kind with
      | pure => exact same (by unfold Rec.le; rw [hr, hk]) (by unfold Rec.mem; rw [hr, hk])
      | load x n => exact same (by unfold Rec.le; rw [hr, hk]) (by unfold Rec.mem; rw [hr, hk])
      | heap =>
        have hm' : r.mem M = fun b k => M b k ∨ r.H.get b = some k := by unfold Rec.mem; rw [hr, hk]
        have hs : stable d (r.le :: a.map Rec.le) i acc = true := hs
        rw [show r.le = .h r.H from by unfold Rec.le; rw [hr, hk]] at hs
        have hs : bR (Nat.testBit d.mask i) (stable d (a.map Rec.le) (i + 1) (bR acc true (hasW d.b d.o d.vs r.H))) (stable d (a.map Rec.le) (i + 1) acc) = true := hs
        cases hd : Nat.testBit d.mask i with
        | true =>
          rw [hd] at hs
          rw [hm i hd, if_pos rfl, hm']
          refine go _ _ (fun hacc => ?_) (show stable d (a.map Rec.le) (i + 1) (bR acc true (hasW d.b d.o d.vs r.H)) = true from hs)
          cases acc with
          | true => exact (h rfl).le fun _ _ h => .inl h
          | false => exact (hasW_ok (show hasW d.b d.o d.vs r.H = true from hacc)).le fun _ _ h => .inr h
        | false =>
          rw [hd] at hs
          refine go _ _ (fun hacc => ?_) (show stable d (a.map Rec.le) (i + 1) acc = true from hs)
          refine (h hacc).le fun b k hb => ?_
          rw [hm']
          cases S i with
          | true => exact .inl hb
          | false => exact hb
      | write =>
        have hm' : r.mem M = fun b k => r.H.get b = some k := by unfold Rec.mem; rw [hr, hk]
        have hs : stable d (r.le :: a.map Rec.le) i acc = true := hs
        rw [show r.le = .w r.d.mask r.H from by unfold Rec.le; rw [hr, hk]] at hs
        have hs : bR (Nat.testBit d.mask i) (stable d (a.map Rec.le) (i + 1) (hasW d.b d.o d.vs r.H)) (bR (Nat.testBit r.d.mask d.j) (stable d (a.map Rec.le) (i + 1) acc) (stable d (a.map Rec.le) (i + 1) (bR acc (hasW d.b d.o d.vs r.H) false))) = true := hs
        cases hd : Nat.testBit d.mask i with
        | true =>
          rw [hd] at hs
          rw [hm i hd, if_pos rfl, hm']
          exact go _ _ (fun hacc => hasW_ok hacc) (show stable d (a.map Rec.le) (i + 1) (hasW d.b d.o d.vs r.H) = true from hs)
        | false =>
          rw [hd] at hs
          have hs : bR (Nat.testBit r.d.mask d.j) (stable d (a.map Rec.le) (i + 1) acc) (stable d (a.map Rec.le) (i + 1) (bR acc (hasW d.b d.o d.vs r.H) false)) = true := hs
          cases hj : Nat.testBit r.d.mask d.j with
          | true =>
            rw [hj] at hs
            have hS : S i = false := hq 0 r rfl hj
            rw [hS]
            exact go _ _ h (show stable d (a.map Rec.le) (i + 1) acc = true from hs)
          | false =>
            rw [hj] at hs
            refine go _ _ (fun hacc => ?_) (show stable d (a.map Rec.le) (i + 1) (bR acc (hasW d.b d.o d.vs r.H) false) = true from hs)
            obtain ⟨h1, h2⟩ := bR_and hacc
            cases S i with
            | true => rw [if_pos rfl, hm']; exact hasW_ok h2
            | false => exact h h1

/-! ### what is looked up once -/
theorem hasN_ok {t : Nat} : ∀ {l : List Nat}, t ∈ l → hasN t l = true
  | x :: l, h => by
    show bR (Nat.beq x t) true (hasN t l) = true
    cases hb : Nat.beq x t with
    | true => rfl
    | false =>
      rcases List.mem_cons.1 h with rfl | h
      · simp at hb
      · exact hasN_ok h
theorem clash_ok {dx : Option Nat} {ly : List Nat} {dy : Option Nat} {t : Nat} (h1 : dx = some t) (h2 : t ∈ ly ∨ dy = some t) : clash dx ly dy = true := by
  subst h1
  unfold clash
  simp only []
  rcases h2 with h2 | rfl
  · rw [hasN_ok h2]; rfl
  · cases hasN t ly <;> simp [bR]
theorem pairOk_tmp {i : Nat} {x y : DI} {t : Nat} (h : pairOk i x y = true) (hh : (x.dst = some t ∧ (t ∈ y.looks ∨ y.dst = some t)) ∨ (y.dst = some t ∧ t ∈ x.looks)) : y.mask.testBit i = true := by
  have : bR (clash x.dst y.looks y.dst) true (clash y.dst x.looks none) = true := by
    rcases hh with ⟨h1, h2⟩ | ⟨h1, h2⟩
    · rw [clash_ok h1 h2]; rfl
    · rw [clash_ok h1 (.inl h2)]; cases clash x.dst y.looks y.dst <;> rfl
  unfold pairOk at h
  rw [this] at h
  exact h
theorem pairOk_heap {i : Nat} {x y : DI} (h : pairOk i x y = true) (hh : (x.kind = .write ∧ isFree y.kind = false) ∨ (y.kind = .write ∧ isFree x.kind = false)) : y.mask.testBit i = true := by
  unfold pairOk at h
  cases hc : bR (clash x.dst y.looks y.dst) true (clash y.dst x.looks none) with
  | true => rw [hc] at h; exact h
  | false =>
    rw [hc] at h
    have : bR (isWrite x.kind) (not (isFree y.kind)) (bR (isWrite y.kind) (not (isFree x.kind)) false) = true := by
      rcases hh with ⟨h1, h2⟩ | ⟨h1, h2⟩
      · rw [h1, h2]; rfl
      · rw [h1, h2]; cases x.kind <;> rfl
    have h : bR (bR (isWrite x.kind) (not (isFree y.kind)) (bR (isWrite y.kind) (not (isFree x.kind)) false)) (Nat.testBit y.mask i) true = true := h
    rw [this] at h; exact h
theorem rowOk_ok {y : DI} : ∀ {l : List DI} {k : Nat}, rowOk y k l = true → ∀ i x, l[i]? = some x → pairOk (k + i) x y = true
  | x :: l, k, h, i, z, hz => by
    have h : bR (pairOk k x y) (rowOk y (k + 1) l) false = true := h
    cases hp : pairOk k x y with
    | false => rw [hp] at h; cases h
    | true =>
      rw [hp] at h
      cases i with
      | zero => simp at hz; subst hz; exact hp
      | succ i => have := rowOk_ok (l := l) (k := k + 1) h i z (by simpa using hz); rw [← this]; congr 1; omega
  | [], _, _, i, z, hz => by simp at hz
theorem allOk_ok : ∀ {l done : List DI}, allOk done l = true → ∀ j y, l[j]? = some y → ∀ i x, i < done.length + j → (done ++ l)[i]? = some x → pairOk i x y = true
  | y :: l, done, h, j, z, hz, i, x, hi, hx => by
    have h : bR (rowOk y 0 done) (allOk (done ++ [y]) l) false = true := h
    cases hr : rowOk y 0 done with
    | false => rw [hr] at h; cases h
    | true =>
      rw [hr] at h
      cases j with
      | zero =>
        simp at hz; subst hz
        rw [List.getElem?_append_left (by omega)] at hx
        have := rowOk_ok hr i x hx
        simpa using this
      | succ j =>
        refine allOk_ok (l := l) (done := done ++ [y]) h j z (by simpa using hz) i x (by simp; omega) ?_
        simpa using hx
  | [], _, _, j, z, hz, _, _, _, _ => by simp at hz
theorem edgesOk_ok : ∀ {l : List Oper} {k : Nat}, edgesOk k l = true → ∀ i o, l[i]? = some o → ∀ e ∈ o.after, Region.binds .any e = true → e.on < k + i
  | o :: l, k, h, i, z, hz => by
    have h : bR (o.after.toList.all fun e => match Region.binds .any e with | true => Nat.blt e.on k | false => true) (edgesOk (k + 1) l) false = true := h
    cases hr : (o.after.toList.all fun e => match Region.binds .any e with | true => Nat.blt e.on k | false => true) with
    | false => rw [hr] at h; cases h
    | true =>
      rw [hr] at h
      cases i with
      | zero =>
        simp at hz; subst hz
        intro e he hb
        have := List.all_eq_true.1 hr e (by simpa using he)
        rw [hb] at this
        exact Nat.le_of_ble_eq_true this
      | succ i => intro e he hb; have := edgesOk_ok (l := l) (k := k + 1) h i z (by simpa using hz) e he hb; omega
  | [], _, _, i, z, hz => by simp at hz
theorem maskOf_ok {acc : List Nat} {i : Nat} : ∀ {es : List Edge}, (maskOf acc es).testBit i = true → ∃ e ∈ es, Region.binds .any e = true ∧ (e.on = i ∨ (acc.getD e.on 0).testBit i = true)
  | [], h => by simp [maskOf] at h
  | e :: es, h => by
    have h : (Nat.lor (match Region.binds .any e with | true => Nat.lor (2 ^ e.on) (acc.getD e.on 0) | false => 0) (maskOf acc es)).testBit i = true := h
    have h : ((match Region.binds .any e with | true => Nat.lor (2 ^ e.on) (acc.getD e.on 0) | false => 0) ||| (maskOf acc es)).testBit i = true := h
    rw [Nat.testBit_or, Bool.or_eq_true] at h
    rcases h with h | h
    · cases hb : Region.binds .any e with
      | false => rw [hb] at h; simp at h
      | true =>
        rw [hb] at h
        have h : ((2 ^ e.on) ||| (acc.getD e.on 0)).testBit i = true := h
        rw [Nat.testBit_or, Bool.or_eq_true] at h
        refine ⟨e, List.mem_cons_self, hb, ?_⟩
        rcases h with h | h
        · left; rw [Nat.testBit_two_pow] at h; simpa using h
        · exact .inr h
    · obtain ⟨e', h1, h2⟩ := maskOf_ok h
      exact ⟨e', List.mem_cons_of_mem _ h1, h2⟩
theorem masksOf_ok : ∀ (l : List Oper) (acc : List Nat), (masksOf l acc).length = acc.length + l.length ∧ (∀ j, j < acc.length → (masksOf l acc)[j]? = acc[j]?) ∧
    ∀ j o, l[j]? = some o → ∃ m, (masksOf l acc)[acc.length + j]? = some m ∧ ∀ i, m.testBit i = true → ∃ e ∈ o.after, Region.binds .any e = true ∧ (e.on = i ∨ (((masksOf l acc).getD e.on 0).testBit i = true ∧ e.on < acc.length + j))
  | [], acc => ⟨by simp [masksOf], fun j _ => rfl, fun j o h => by simp at h⟩
  | o :: l, acc => by
    obtain ⟨h1, h2, h3⟩ := masksOf_ok l (acc ++ [maskOf acc o.after.toList])
    have e0 : masksOf (o :: l) acc = masksOf l (acc ++ [maskOf acc o.after.toList]) := rfl
    rw [e0]
    refine ⟨by rw [h1]; simp; omega, fun j hj => ?_, fun j z hz => ?_⟩
    · rw [h2 j (by simp; omega), List.getElem?_append_left hj]
    · cases j with
      | zero =>
        simp at hz; subst hz
        refine ⟨maskOf acc o.after.toList, ?_, fun i hi => ?_⟩
        · rw [Nat.add_zero, h2 _ (by simp)]; simp
        · obtain ⟨e, g1, g2, g3⟩ := maskOf_ok hi
          refine ⟨e, by simpa using g1, g2, ?_⟩
          rcases g3 with g3 | g3
          · exact .inl g3
          · refine .inr ⟨?_, ?_⟩
            · have hlt : e.on < acc.length := by
                rcases Nat.lt_or_ge e.on acc.length with h | h
                · exact h
                · rw [List.getD_eq_getElem?_getD, List.getElem?_eq_none h] at g3; simp at g3
              rw [List.getD_eq_getElem?_getD, h2 _ (by simp; omega), List.getElem?_append_left hlt, ← List.getD_eq_getElem?_getD]; exact g3
            · rcases Nat.lt_or_ge e.on acc.length with h | h
              · omega
              · rw [List.getD_eq_getElem?_getD, List.getElem?_eq_none h] at g3; simp at g3
      | succ j =>
        obtain ⟨m, g1, g2⟩ := h3 j z (by simpa using hz)
        refine ⟨m, by rw [← g1]; congr 1; simp; omega, fun i hi => ?_⟩
        obtain ⟨e, k1, k2, k3⟩ := g2 i hi
        refine ⟨e, k1, k2, ?_⟩
        rcases k3 with k3 | ⟨k3, k4⟩
        · exact .inl k3
        · exact .inr ⟨k3, by simp at k4; omega⟩
theorem isB_at {T : Tr EV} {a : Act} {g : Nat} {w : Bool} {φ : Phi} (hv : VR φ (getT (key g) T) (a.tmps.getD g undef)) (hk : okB T (key g) = true) : isB T (key g) w = ((match (a.tmps[g]? : Option Value) with | some (.bool b) => some b | _ => none) == some w) := by
  unfold isB
  unfold getT at hv
  rw [Array.getD_eq_getD_getElem?] at hv
  cases hg : T.get (key g) with
  | none => unfold okB at hk; rw [hg] at hk; exact absurd (show false = true from hk) (by decide)
  | some v =>
    rw [hg] at hv
    unfold okB at hk; rw [hg] at hk
    have hk : notAny v = true := hk
    have hv : VR φ v (a.tmps[g]?.getD undef) := hv
    cases hx : a.tmps[g]? with
    | none =>
      rw [hx] at hv
      have hv : VR φ v undef := hv
      show asBool v (fun b => beqB b w) = _
      unfold undef at hv
      generalize hu : Value.tuple #[] = u at hv
      cases hv <;> first | (cases hu; done) | exact absurd (show false = true from hk) (by decide) | (cases w <;> rfl)
    | some x =>
      rw [hx] at hv
      have hv : VR φ v x := hv
      show asBool v (fun b => beqB b w) = _
      cases hv with
      | bool b => cases b <;> cases w <;> rfl
      | any => exact absurd (show false = true from hk) (by decide)
      | _ => cases w <;> rfl
end Go.Ev
