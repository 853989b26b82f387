/- Regions, code, functions. -/
import Derived.Test.YtgjigdgmlbcbcaaDoorEvS8
import Derived.LoopN
namespace Go.Ev
open Go.RowKit (Below)
def TR (φ : Phi) (nt : Nat) (T : Tr EV) (tmps : Array Value) : Prop := nt ≤ tmps.size ∧ ∀ t : Nat, VR φ (getT (key t) T) (tmps.getD t undef)
theorem TR.mono {φ φ' : Phi} (hx : Ext2 φ φ') {nt : Nat} {T : Tr EV} {tmps : Array Value} (h : TR φ nt T tmps) : TR φ' nt T tmps := ⟨h.1, fun t => (h.2 t).mono hx⟩
theorem undef_ok {φ : Phi} : VR φ (.tuple []) undef := VR.tuple (cs' := []) .nil
theorem getT_set {d t : Nat} {v : EV} {T : Tr EV} : getT (key t) (Tr.set (some v) (key d) T) = if d = t then v else getT (key t) T := by
  unfold getT
  rw [Tr.get_set]
  by_cases h : d = t
  · subst h; simp
  · rw [if_neg h, if_neg (fun e => h (key_inj e))]
theorem TR.put {φ : Phi} {nt : Nat} {T : Tr EV} {a : Act} {d : Nat} {v : EV} {v' : Value} (h : TR φ nt T a.tmps) (hd : d < nt) (hv : VR φ v v') : TR φ nt (Tr.set (some v) (key d) T) (a.put (some d) v').tmps := by
  refine ⟨by simp [Act.put]; exact h.1, fun t => ?_⟩
  rw [getT_set]
  have hds : d < a.tmps.size := Nat.lt_of_lt_of_le hd h.1
  simp only [Act.put, Array.getD_eq_getD_getElem?, Array.getElem?_setIfInBounds]
  by_cases h1 : d = t
  · subst h1
    rw [if_pos rfl, if_pos rfl, if_pos hds]; exact hv
  · rw [if_neg h1, if_neg h1]
    have := h.2 t
    rwa [Array.getD_eq_getD_getElem?] at this
theorem TR.opd {φ : Phi} {nt : Nat} {T : Tr EV} {a : Act} (h : TR φ nt T a.tmps) (hg : GR φ) (x : Operand) (p : Opd) (hp : cOpd x = some p) : VR φ (p.run T) (a.eval x) := by
  unfold cOpd at hp
  split at hp
  · cases hp; exact h.2 _
  · split at hp
    · cases hp; exact ofValue_ok ‹_›
    · cases hp
  · cases hp; exact VR.func (a' := []) (c' := []) .nil .nil
  · rename_i g
    cases hp
    obtain ⟨S, hS⟩ := hg g
    exact VR.ptr (o := 0) hS
theorem upon_of_next {P : Program} {o : Oper} {a : Act} {r : Result Next} {Qv : Value → World → Prop} {next : Act → World → Prop} {Q : Exit → Act → World → Prop} (h : NextRun P r Qv)
    (hn : ∀ v w, Qv v w → next (a.put o.dst v) w) : o.upon P a next Q r := by
  unfold NextRun at h
  split at h
  · exact hn _ _ h
  · exact hn _ _ h
  · exact h.mono fun e w ⟨v, he, hq⟩ => by subst he; exact hn _ _ hq
  · exact h.elim
theorem isB_ok {φ : Phi} {nt : Nat} {T : Tr EV} {a : Act} (h : TR φ nt T a.tmps) {g : Nat} {w : Bool} : isB T (key g) w = ((match (a.tmps[g]? : Option Value) with | some (.bool b) => some b | _ => none) == some w) := by
  have hv := h.2 g
  unfold isB
  unfold getT at hv
  rw [Array.getD_eq_getD_getElem?] at hv
  cases hg : T.get (key g) with
  | none =>
    rw [hg] at hv
    have hv : VR φ (.tuple []) (a.tmps[g]?.getD undef) := hv
    cases hx : a.tmps[g]? with
    | none => cases w <;> rfl
    | some x =>
      rw [hx] at hv
      have hv : VR φ (.tuple []) x := hv
      cases hv
      cases w <;> rfl
  | some v =>
    rw [hg] at hv
    have hv : VR φ v (a.tmps[g]?.getD undef) := hv
    cases hx : a.tmps[g]? with
    | none =>
      rw [hx] at hv
      have hv : VR φ v undef := hv
      show asBool v (fun b => beqB b w) = _
      unfold undef at hv
      generalize hu : Value.tuple #[] = u at hv
      cases hv <;> first | (cases hu; done) | (cases w <;> rfl)
    | some x =>
      rw [hx] at hv
      have hv : VR φ v x := hv
      show asBool v (fun b => beqB b w) = _
      cases hv with
      | bool b => cases b <;> cases w <;> rfl
      | _ => cases w <;> rfl
section
variable {P : Program} {C : CallK} {nt : Nat} {ops : Array Oper}
abbrev OpsOk (P : Program) (nt : Nat) (ops : Array Oper) (k n : Nat) (T : Tr EV) (s : St) (T' : Tr EV) (s' : St) : Prop :=
  ∀ {w0 : World} {φ : Phi} {w : World} {a : Act} {Q : Exit → Act → World → Prop}, Fresh φ s.c s'.c → WR w0 φ s w → TR φ nt T a.tmps →
    (∀ φ' a' w', Step φ φ' s.c s'.c → TR φ' nt T' a'.tmps → a'.defers = a.defers → WR w0 φ' s' w' → Q .normal a' w') → wpOps P ops Q (List.range' k n) a w
theorem put_defers (a : Act) (d : Option Tmp) (v : Value) : (a.put d v).defers = a.defers := by cases d <;> rfl
theorem ops_sound (hC : CallSound P C) : ∀ (l : List Oper) (k : Nat), (∀ j : Nat, l[j]? = ops[k + j]?) → ∀ (T : Tr EV) (s : St) (K : Tr EV → St → Ans), (cOps P nt ops l).run C T s K = true →
    ∃ T' s', K T' s' = true ∧ val s.c ≤ val s'.c ∧ OpsOk P nt ops k l.length T s T' s' := by
  intro l
  induction l with
  | nil =>
    intro k _ T s K h
    exact ⟨T, s, h, Nat.le_refl _, fun _ hw ht hq => hq _ _ _ (Step.refl _ _) ht rfl hw⟩
  | cons o l ih =>
    intro k hl T s K h
    have h0 : ops[k]? = some o := by simpa using (hl 0).symm
    have hl' : ∀ j : Nat, l[j]? = ops[(k + 1) + j]? := fun j => by have := hl (j + 1); simpa [Nat.add_assoc, Nat.add_comm 1 j] using this
    have cons : ∀ (Q : Exit → Act → World → Prop) (a : Act) (w : World), wpOps P ops Q (List.range' k (o :: l).length) a w =
        (if Region.wanted o (yielded ops a.tmps) then o.wp P a w (wpOps P ops Q (List.range' (k + 1) l.length)) Q ∨ (o.asks P a w ∧ LetsOut Q) else wpOps P ops Q (List.range' (k + 1) l.length) (a.put o.dst undef) w) := by
      intro Q a w
      show wpOps P ops Q (List.range' k (l.length + 1)) a w = _
      rw [List.range'_succ]
      simp only [wpOps, h0]
    -- the operation is carried out
    have doing : ∀ {T : Tr EV} {s : St}, (plain nt (cOp P o.op) o.dst (cOps P nt ops l)).run C T s K = true → ∃ T' s', K T' s' = true ∧ val s.c ≤ val s'.c ∧
        ∀ {w0 : World} {φ : Phi} {w : World} {a : Act} {Q : Exit → Act → World → Prop}, Fresh φ s.c s'.c → WR w0 φ s w → TR φ nt T a.tmps →
          (∀ φ' a' w', Step φ φ' s.c s'.c → TR φ' nt T' a'.tmps → a'.defers = a.defers → WR w0 φ' s' w' → Q .normal a' w') → o.wp P a w (wpOps P ops Q (List.range' (k + 1) l.length)) Q := by
      intro T s h
      cases hd : o.dst with
      | none =>
        rw [hd] at h
        obtain ⟨v, s1, h1, h2, h3⟩ := cOp_sound hC o.op T s (fun _ s => (cOps P nt ops l).run C T s K) h
        obtain ⟨T', s', h4, h5, h6⟩ := ih (k + 1) hl' T s1 K h1
        refine ⟨T', s', h4, by omega, fun {w0 φ w a Q} hf hw ht hq => ?_⟩
        refine upon_of_next (h3 o rfl (hf.left h5) hw fun x _ p hp => ht.opd hf.1 x p hp) fun v' w1 ⟨φ1, g1, _, g3⟩ => ?_
        rw [hd]
        exact h6 (hf.right g1 h2) g3 (ht.mono g1.ext) fun φ' a' w' k1 k2 k3 k4 => hq φ' a' w' (g1.trans k1 h2 h5) k2 k3 k4
      | some d =>
        rw [hd] at h
        have h' : (bR (Nat.blt d nt) (⟨opsPut (cOp P o.op) (key d) (cOps P nt ops l)⟩ : POps) ⟨opsBad⟩).run C T s K = true := h
        cases hlt : Nat.blt d nt with
        | false => rw [hlt] at h'; exact absurd (show false = true from h') (by decide)
        | true =>
          rw [hlt] at h'
          have hdn : d < nt := Nat.le_of_ble_eq_true hlt
          obtain ⟨v, s1, h1, h2, h3⟩ := cOp_sound hC o.op T s (fun v s => (cOps P nt ops l).run C (Tr.set (some v) (key d) T) s K) h'
          obtain ⟨T', s', h4, h5, h6⟩ := ih (k + 1) hl' _ s1 K h1
          refine ⟨T', s', h4, by omega, fun {w0 φ w a Q} hf hw ht hq => ?_⟩
          refine upon_of_next (h3 o rfl (hf.left h5) hw fun x _ p hp => ht.opd hf.1 x p hp) fun v' w1 ⟨φ1, g1, g2, g3⟩ => ?_
          rw [hd]
          exact h6 (hf.right g1 h2) g3 ((ht.mono g1.ext).put hdn g2) fun φ' a' w' k1 k2 k3 k4 => hq φ' a' w' (g1.trans k1 h2 h5) k2 (k3.trans (put_defers _ _ _)) k4
    have skipping : ∀ {T : Tr EV} {s : St}, (skipped nt o.dst (cOps P nt ops l)).run C T s K = true → ∃ T' s', K T' s' = true ∧ val s.c ≤ val s'.c ∧
        ∀ {w0 : World} {φ : Phi} {w : World} {a : Act} {Q : Exit → Act → World → Prop}, Fresh φ s.c s'.c → WR w0 φ s w → TR φ nt T a.tmps →
          (∀ φ' a' w', Step φ φ' s.c s'.c → TR φ' nt T' a'.tmps → a'.defers = a.defers → WR w0 φ' s' w' → Q .normal a' w') → wpOps P ops Q (List.range' (k + 1) l.length) (a.put o.dst undef) w := by
      intro T s h
      cases hd : o.dst with
      | none =>
        rw [hd] at h
        obtain ⟨T', s', h4, h5, h6⟩ := ih (k + 1) hl' T s K h
        exact ⟨T', s', h4, h5, fun hf hw ht hq => h6 hf hw ht hq⟩
      | some d =>
        rw [hd] at h
        have h' : (bR (Nat.blt d nt) (⟨opsSkip (some (key d)) (cOps P nt ops l)⟩ : POps) ⟨opsBad⟩).run C T s K = true := h
        cases hlt : Nat.blt d nt with
        | false => rw [hlt] at h'; exact absurd (show false = true from h') (by decide)
        | true =>
          rw [hlt] at h'
          have hdn : d < nt := Nat.le_of_ble_eq_true hlt
          obtain ⟨T', s', h4, h5, h6⟩ := ih (k + 1) hl' (Tr.set (some (.tuple [])) (key d) T) s K h'
          exact ⟨T', s', h4, h5, fun hf hw ht hq => h6 hf hw (ht.put hdn undef_ok) fun φ' a' w' k1 k2 k3 k4 => hq φ' a' w' k1 k2 (k3.trans (put_defers _ _ _)) k4⟩
    unfold cOps at h
    split at h
    · rename_i hg
      obtain ⟨T', s', h1, h2, h3⟩ := doing h
      refine ⟨T', s', h1, h2, fun {w0 φ w a Q} hf hw ht hq => ?_⟩
      rw [cons, if_pos (by simp [Region.wanted, hg])]
      exact .inl (h3 hf hw ht hq)
    · rename_i j w' hg
      split at h
      · rename_i g hj
        have h' : bR (isB T (key g) w') ((plain nt (cOp P o.op) o.dst (cOps P nt ops l)).run C T s K) ((skipped nt o.dst (cOps P nt ops l)).run C T s K) = true := h
        have hwant : ∀ {φ : Phi} {a : Act}, TR φ nt T a.tmps → Region.wanted o (yielded ops a.tmps) = isB T (key g) w' := by
          intro φ a ht
          rw [isB_ok ht]
          simp only [Region.wanted, hg, yielded, hj, Option.bind_some]
          rfl
        cases hb : isB T (key g) w' with
        | true =>
          rw [hb] at h'
          obtain ⟨T', s', h1, h2, h3⟩ := doing h'
          refine ⟨T', s', h1, h2, fun {w0 φ w a Q} hf hw ht hq => ?_⟩
          rw [cons, if_pos ((hwant ht).trans hb)]
          exact .inl (h3 hf hw ht hq)
        | false =>
          rw [hb] at h'
          obtain ⟨T', s', h1, h2, h3⟩ := skipping h'
          refine ⟨T', s', h1, h2, fun {w0 φ w a Q} hf hw ht hq => ?_⟩
          rw [cons, if_neg (by rw [hwant ht, hb]; simp)]
          exact h3 hf hw ht hq
      · rename_i hj
        obtain ⟨T', s', h1, h2, h3⟩ := skipping h
        refine ⟨T', s', h1, h2, fun {w0 φ w a Q} hf hw ht hq => ?_⟩
        rw [cons, if_neg (by simp [Region.wanted, hg, yielded, hj])]
        exact h3 hf hw ht hq
end
end Go.Ev
