/- Regions, code, functions. -/
import Derived.Test.YtiadfbpbeaeflaaDoorEvS8
import Derived.LoopNIn
import Derived.OrdersIn
namespace Go.Ev
open Go.RowKit (Below)
theorem undef_ok {φ : Phi} : VR φ (.tuple []) undef := VR.tuple (cs' := []) .nil
theorem getT_set {d t : Nat} {v : EV} {T : Tr EV} : getT (key t) (Tr.set (some v) (key d) T) = if d = t then v else getT (key t) T := by
  unfold getT
  rw [Tr.get_set]
  by_cases h : d = t
  · subst h; simp
  · rw [if_neg h, if_neg (fun e => h (key_inj e))]
theorem TR.put {φ : Phi} {nt : Nat} {T : Tr EV} {a : Act} {d : Nat} {v : EV} {v' : Value} (h : TR φ nt T a.tmps) (hd : d < nt) (hv : VR φ v v') : TR φ nt (Tr.set (some v) (key d) T) (a.put (some d) v').tmps := by
  refine ⟨by simp [Act.put]; exact h.1, fun t => ?_⟩
  rw [getT_set]
  have hds : d < a.tmps.size := Nat.lt_of_lt_of_le hd h.1
  simp only [Act.put, Array.getD_eq_getD_getElem?, Array.getElem?_setIfInBounds]
  by_cases h1 : d = t
  · subst h1
    rw [if_pos rfl, if_pos rfl, if_pos hds]; exact hv
  · rw [if_neg h1, if_neg h1]
    have := h.2 t
    rwa [Array.getD_eq_getD_getElem?] at this
theorem TR.opd {φ : Phi} {nt : Nat} {T : Tr EV} {a : Act} (h : TR φ nt T a.tmps) (hg : GR φ) (x : Operand) (p : Opd) (hp : cOpd x = some p) : VR φ (p.run T) (a.eval x) := by
  unfold cOpd at hp
  split at hp
  · cases hp; exact h.2 _
  · split at hp
    · cases hp; exact ofValue_ok ‹_›
    · cases hp
  · cases hp; exact VR.func (a' := []) (c' := []) .nil .nil
  · rename_i g
    cases hp
    obtain ⟨S, hS⟩ := hg g
    exact VR.ptr (o := 0) hS
theorem calls_wd {P : Program} {r r' : Option Nat} {n m : Nat} {f : FuncId} {args : Array Value} {w : World} {R : Ending → World → Prop} (h : CallsIn (Wd r) n P f args w R) : CallsIn (Wd r') m P f args w R :=
  ⟨trivial, fun cs _ => h.2 cs (fun d hd => by cases hd)⟩
theorem rounds_wd {P : Program} {r r' : Option Nat} {n m : Nat} {l : Nat} {f : FuncId} {tmps : Array Value} {a b : Code} {w : World} {R : Ending → World → Prop} (h : RoundIn (Wd r) n P l f tmps a b w R) : RoundIn (Wd r') m P l f tmps a b w R :=
  ⟨trivial, fun c cs _ => h.2 c cs (fun d hd => by cases hd)⟩
theorem upon_of_next {P : Program} {o : Oper} {a : Act} {r : Result Next} {Qv : Value → World → Prop} {next : Act → World → Prop} {Q : Exit → Act → World → Prop} {ro : Option Nat} (h : NextRun P r Qv)
    (hn : ∀ v w, Qv v w → next (a.put o.dst v) w) : o.uponIn (Wd ro) 0 P a next Q r := by
  unfold NextRun at h
  split at h
  · exact hn _ _ h
  · exact hn _ _ h
  · exact ⟨(fun h => by cases h), calls_wd (callsIn_mono h fun e w ⟨v, he, hq⟩ => by subst he; exact hn _ _ hq)⟩
  · exact ⟨(fun h => by cases h), rounds_wd (RoundIn.mono h fun e w ⟨v, he, hq⟩ => by subst he; exact hn _ _ hq)⟩
  · exact h.elim
/-- the deferred calls that the temporaries bear -/
inductive DRs (φ : Phi) : List EV → List Deferred → Prop
  | nil : DRs φ [] []
  | mark {k : List Bool} {l : Nat} {q : Nat × Nat} {r : List EV} {r' : List Deferred} (h : φ k = some (l, q)) (hs : DRs φ r r') : DRs φ (.map (true :: k) :: r) ({ target := .collected l, args := #[] } :: r')
  | call {f : FuncId} {as cp : List EV} {as' cp' : List Value} {r : List EV} {r' : List Deferred} (h1 : VRs φ as as') (h2 : VRs φ cp cp') (hs : DRs φ r r') :
      DRs φ (.tuple [.func (.func f) [] cp, .agg as] :: r) ({ target := .fn (.func f) cp'.toArray, args := as'.toArray } :: r')
theorem DRs.mono {φ φ' : Phi} (hx : Ext2 φ φ') {l : List EV} {l' : List Deferred} (h : DRs φ l l') : DRs φ' l l' := by
  induction h with
  | nil => exact .nil
  | mark h _ ih => exact .mark (hx _ _ h) ih
  | call h1 h2 _ ih => exact .call (h1.mono hx) (h2.mono hx) ih
/-- the round in which the code runs -/
def RO (φ : Phi) (T : Tr EV) (r : Option Nat) : Prop := (T.get rk = none ∧ r = none) ∨ ∃ k l q, T.get rk = some (.map (true :: k)) ∧ φ k = some (l, q) ∧ r = some l
theorem RO.mono {φ φ' : Phi} (hx : Ext2 φ φ') {T : Tr EV} {r : Option Nat} (h : RO φ T r) : RO φ' T r := by
  rcases h with h | ⟨k, l, q, h1, h2, h3⟩
  · exact .inl h
  · exact .inr ⟨k, l, q, h1, hx _ _ h2, h3⟩
theorem key_ne_rk (n : Nat) : key n ≠ rk := fun h => by
  have h0 : n = 0 := by rw [← val_key n, h]; rfl
  subst h0; cases h
theorem key_ne_dk (n : Nat) : key n ≠ dk := fun h => by
  have h0 : n = 0 := by rw [← val_key n, h]; rfl
  subst h0; cases h
/-- an activation: its temporaries, its deferred calls, its round -/
structure AR (φ : Phi) (nt : Nat) (ro : Option Nat) (T : Tr EV) (a : Act) : Prop where
  tr : TR φ nt T a.tmps
  dr : DRs φ (defersOf T) a.defers
  ro : RO φ T ro
theorem AR.mono {φ φ' : Phi} (hx : Ext2 φ φ') {nt : Nat} {ro : Option Nat} {T : Tr EV} {a : Act} (h : AR φ nt ro T a) : AR φ' nt ro T a := ⟨h.tr.mono hx, h.dr.mono hx, h.ro.mono hx⟩
theorem defersOf_set {d : Nat} {v : Option EV} {T : Tr EV} : defersOf (Tr.set v (key d) T) = defersOf T := by
  unfold defersOf; rw [Tr.get_set, if_neg (key_ne_dk d)]
theorem RO.set {φ : Phi} {d : Nat} {v : Option EV} {T : Tr EV} {r : Option Nat} (h : RO φ T r) : RO φ (Tr.set v (key d) T) r := by
  unfold RO; rw [Tr.get_set, if_neg (key_ne_rk d)]; exact h
theorem put_defers (a : Act) (d : Option Tmp) (v : Value) : (a.put d v).defers = a.defers := by cases d <;> rfl
theorem AR.put {φ : Phi} {nt : Nat} {ro : Option Nat} {T : Tr EV} {a : Act} {d : Nat} {v : EV} {v' : Value} (h : AR φ nt ro T a) (hd : d < nt) (hv : VR φ v v') : AR φ nt ro (Tr.set (some v) (key d) T) (a.put (some d) v') :=
  ⟨h.tr.put hd hv, by rw [defersOf_set]; exact h.dr, h.ro.set⟩
theorem noneR_ok {α : Type} {o : Option α} {k : Ans} (h : noneR o k = true) : o = none ∧ k = true := by
  cases o with
  | none => exact ⟨rfl, h⟩
  | some x => exact absurd (show false = true from h) (by decide)
theorem RO.none {φ : Phi} {T : Tr EV} {r : Option Nat} (h : RO φ T r) (h0 : T.get rk = .none) : r = .none := by
  rcases h with h | ⟨k, l, q, h1, _, _⟩
  · exact h.2
  · rw [h0] at h1; cases h1
theorem AR.defer {φ : Phi} {nt : Nat} {ro : Option Nat} {T : Tr EV} {a : Act} {v : EV} {d : Deferred} (h : AR φ nt ro T a) (hv : DRs φ (v :: defersOf T) (d :: a.defers)) :
    AR φ nt ro (Tr.set (some (.agg (v :: defersOf T))) dk T) { a with defers := d :: a.defers } := by
  refine ⟨⟨h.tr.1, fun t => ?_⟩, ?_, ?_⟩
  · unfold getT
    rw [Tr.get_set, if_neg (fun e => key_ne_dk t e.symm)]
    exact h.tr.2 t
  · have : defersOf (Tr.set (some (.agg (v :: defersOf T))) dk T) = v :: defersOf T := by
      show Option.rec (motive := fun _ => List EV) [] (fun v => EV.cells v) ((Tr.set (some (.agg (v :: defersOf T))) dk T).get dk) = _
      rw [Tr.get_set_self]; rfl
    rw [this]; exact hv
  · unfold RO; rw [Tr.get_set, if_neg (by decide)]; exact h.ro
theorem isB_ok {φ : Phi} {nt : Nat} {T : Tr EV} {a : Act} (h : TR φ nt T a.tmps) {g : Nat} {w : Bool} (hk : okB T (key g) = true) : isB T (key g) w = ((match (a.tmps[g]? : Option Value) with | some (.bool b) => some b | _ => none) == some w) := by
  have hv := h.2 g
  unfold isB
  unfold getT at hv
  rw [Array.getD_eq_getD_getElem?] at hv
  cases hg : T.get (key g) with
  | none => unfold okB at hk; rw [hg] at hk; exact absurd (show false = true from hk) (by decide)
  | some v =>
    rw [hg] at hv
    unfold okB at hk; rw [hg] at hk
    have hk : notAny v = true := hk
    have hv : VR φ v (a.tmps[g]?.getD undef) := hv
    cases hx : a.tmps[g]? with
    | none =>
      rw [hx] at hv
      have hv : VR φ v undef := hv
      show asBool v (fun b => beqB b w) = _
      unfold undef at hv
      generalize hu : Value.tuple #[] = u at hv
      cases hv <;> first | (cases hu; done) | exact absurd (show false = true from hk) (by decide) | (cases w <;> rfl)
    | some x =>
      rw [hx] at hv
      have hv : VR φ v x := hv
      show asBool v (fun b => beqB b w) = _
      cases hv with
      | bool b => cases b <;> cases w <;> rfl
      | any => exact absurd (show false = true from hk) (by decide)
      | _ => cases w <;> rfl
theorem settle_ok {k : List Bool} {T : Tr EV} {K : Tr EV → Ans} (h : settle k T K = true) : ∃ T1, K T1 = true ∧ ∀ q, T1.get q = T.get q := by
  unfold settle at h
  cases hg : T.get k with
  | none => rw [hg] at h; exact ⟨T, h, fun _ => rfl⟩
  | some v =>
    rw [hg] at h
    cases v with
    | bool b =>
      have h : bR b (Tr.setC (some (.bool true)) k T K) (Tr.setC (some (.bool false)) k T K) = true := h
      cases b with
      | true =>
        have h : Tr.setC (some (.bool true)) k T K = true := h
        rw [Tr.setC_eq] at h
        refine ⟨_, h, fun q => ?_⟩
        rw [Tr.get_set]; split
        · rename_i e; subst e; exact hg.symm
        · rfl
      | false =>
        have h : Tr.setC (some (.bool false)) k T K = true := h
        rw [Tr.setC_eq] at h
        refine ⟨_, h, fun q => ?_⟩
        rw [Tr.get_set]; split
        · rename_i e; subst e; exact hg.symm
        · rfl
    | _ => exact ⟨T, h, fun _ => rfl⟩
theorem settle_same {k : List Bool} {T : Tr EV} {K : Tr EV → Ans} (h : settle k T K = true) : K T = true := by
  unfold settle at h
  cases hg : T.get k with
  | none => rw [hg] at h; exact h
  | some v =>
    rw [hg] at h
    cases v with
    | bool b =>
      have h : bR b (Tr.setC (some (.bool true)) k T K) (Tr.setC (some (.bool false)) k T K) = true := h
      cases b with
      | true =>
        have h : Tr.setC (some (.bool true)) k T K = true := h
        rw [Tr.setC_eq, Tr.set_self hg] at h; exact h
      | false =>
        have h : Tr.setC (some (.bool false)) k T K = true := h
        rw [Tr.setC_eq, Tr.set_self hg] at h; exact h
    | _ => exact h
theorem settleO_ok {o : Option (List Bool)} {T : Tr EV} {K : Tr EV → Ans} (h : settleO o T K = true) : ∃ T1, K T1 = true ∧ ∀ q, T1.get q = T.get q := by
  cases o with
  | none => exact ⟨T, h, fun _ => rfl⟩
  | some k => exact settle_ok h
theorem AR.same {φ : Phi} {nt : Nat} {ro : Option Nat} {T T1 : Tr EV} {a : Act} (h : AR φ nt ro T a) (e : ∀ q, T1.get q = T.get q) : AR φ nt ro T1 a := by
  refine ⟨⟨h.tr.1, fun t => ?_⟩, ?_, ?_⟩
  · unfold getT; rw [e]; exact h.tr.2 t
  · unfold defersOf; rw [e]; exact h.dr
  · unfold RO; rw [e]; exact h.ro
section
variable {P : Program} {C : CallK} {nt : Nat} {ops : Array Oper}
abbrev OpsOk (P : Program) (nt : Nat) (ops : Array Oper) (k n : Nat) (T : Tr EV) (s : St) (T' : Tr EV) (s' : St) : Prop :=
  ∀ {w0 : World} {φ : Phi} {w : World} {a : Act} {ro : Option Nat} {Q : Exit → Act → World → Prop}, Fresh φ s.c s'.c → WR w0 φ s w → AR φ nt ro T a →
    (∀ φ' a' w', Step φ φ' s.c s'.c → AR φ' nt ro T' a' → WR w0 φ' s' w' → Q .normal a' w') → wpOpsIn (Wd ro) 0 P ops Q (List.range' k n) a w
theorem deferOf_some {op : Op} {c : Call} (h : deferOf op = some c) : op = .defer c := by
  cases op <;> first | (cases h; done) | (cases h; rfl)
theorem semAt_wd {ro : Option Nat} {ρ : Operand → Value} {o : Oper} (h : ∀ c, o.op ≠ .defer c) : o.semAt (Wd ro).round ρ = execOp ρ o := Oper.semAt_eq _ _ _ h
theorem ops_sound (hC : CallSound P C) : ∀ (l : List Oper) (k : Nat), (∀ j : Nat, l[j]? = ops[k + j]?) → ∀ (T : Tr EV) (s : St) (K : Tr EV → St → Ans), (cOps P nt ops l).run C T s K = true →
    ∃ T' s', K T' s' = true ∧ val s.c ≤ val s'.c ∧ OpsOk P nt ops k l.length T s T' s' := by
  intro l
  induction l with
  | nil =>
    intro k _ T s K h
    exact ⟨T, s, h, Nat.le_refl _, fun _ hw ht hq => hq _ _ _ (Step.refl _ _) ht hw⟩
  | cons o l ih =>
    intro k hl T s K h
    have h0 : ops[k]? = some o := by simpa using (hl 0).symm
    have hl' : ∀ j : Nat, l[j]? = ops[(k + 1) + j]? := fun j => by have := hl (j + 1); simpa [Nat.add_assoc, Nat.add_comm 1 j] using this
    have cons : ∀ (ro : Option Nat) (Q : Exit → Act → World → Prop) (a : Act) (w : World), wpOpsIn (Wd ro) 0 P ops Q (List.range' k (o :: l).length) a w =
        (if Region.wanted o (yielded ops a.tmps) then o.wpIn (Wd ro) 0 P a w (wpOpsIn (Wd ro) 0 P ops Q (List.range' (k + 1) l.length)) Q
          else (∀ f, o.about P w a.eval = some f → (Wd ro).fn f) ∧ wpOpsIn (Wd ro) 0 P ops Q (List.range' (k + 1) l.length) (a.put o.dst undef) w) := by
      intro ro Q a w
      show wpOpsIn (Wd ro) 0 P ops Q (List.range' k (l.length + 1)) a w = _
      rw [List.range'_succ]
      simp only [wpOpsIn, h0]
    -- the operation is carried out
    have doing : ∀ {T : Tr EV} {s : St}, (plain nt (cOp P o.op) o.dst (cOps P nt ops l)).run C T s K = true → ∃ T' s', K T' s' = true ∧ val s.c ≤ val s'.c ∧
        ∀ {w0 : World} {φ : Phi} {w : World} {a : Act} {ro : Option Nat} {Q : Exit → Act → World → Prop}, Fresh φ s.c s'.c → WR w0 φ s w → AR φ nt ro T a →
          (∀ φ' a' w', Step φ φ' s.c s'.c → AR φ' nt ro T' a' → WR w0 φ' s' w' → Q .normal a' w') → o.wpIn (Wd ro) 0 P a w (wpOpsIn (Wd ro) 0 P ops Q (List.range' (k + 1) l.length)) Q := by
      intro T s h
      have hnd : ∀ c, o.op ≠ .defer c := by
        intro c hc
        have hb : cOp P o.op = bad := by rw [hc]; rfl
        rw [hb] at h
        cases hd : o.dst with
        | none => rw [hd] at h; exact absurd (show false = true from h) (by decide)
        | some d =>
          rw [hd] at h
          have h' : (bR (Nat.blt d nt) (⟨opsPut bad (key d) (cOps P nt ops l)⟩ : POps) ⟨opsBad⟩).run C T s K = true := h
          cases hlt : Nat.blt d nt <;> rw [hlt] at h' <;> exact absurd (show false = true from h') (by decide)
      cases hd : o.dst with
      | none =>
        rw [hd] at h
        obtain ⟨v, s1, h1, h2, h3⟩ := cOp_sound hC o.op T s (fun _ s => (cOps P nt ops l).run C T s K) h
        obtain ⟨T', s', h4, h5, h6⟩ := ih (k + 1) hl' T s1 K h1
        refine ⟨T', s', h4, by omega, fun {w0 φ w a ro Q} hf hw ht hq => ?_⟩
        refine ⟨fun _ _ => trivial, ?_⟩
        rw [semAt_wd hnd]
        refine upon_of_next (h3 o rfl (hf.left h5) hw fun x _ p hp => ht.tr.opd hf.1 x p hp) fun v' w1 ⟨φ1, g1, _, g3⟩ => ?_
        rw [hd]
        exact h6 (hf.right g1 h2) g3 (ht.mono g1.ext) fun φ' a' w' k1 k2 k4 => hq φ' a' w' (g1.trans k1 h2 h5) k2 k4
      | some d =>
        rw [hd] at h
        have h' : (bR (Nat.blt d nt) (⟨opsPut (cOp P o.op) (key d) (cOps P nt ops l)⟩ : POps) ⟨opsBad⟩).run C T s K = true := h
        cases hlt : Nat.blt d nt with
        | false => rw [hlt] at h'; exact absurd (show false = true from h') (by decide)
        | true =>
          rw [hlt] at h'
          have hdn : d < nt := Nat.le_of_ble_eq_true hlt
          obtain ⟨v, s1, h1, h2, h3⟩ := cOp_sound hC o.op T s (fun v s => Tr.setC (some v) (key d) T fun T => (cOps P nt ops l).run C T s K) h'
          rw [Tr.setC_eq] at h1
          obtain ⟨T', s', h4, h5, h6⟩ := ih (k + 1) hl' _ s1 K h1
          refine ⟨T', s', h4, by omega, fun {w0 φ w a ro Q} hf hw ht hq => ?_⟩
          refine ⟨fun _ _ => trivial, ?_⟩
          rw [semAt_wd hnd]
          refine upon_of_next (h3 o rfl (hf.left h5) hw fun x _ p hp => ht.tr.opd hf.1 x p hp) fun v' w1 ⟨φ1, g1, g2, g3⟩ => ?_
          rw [hd]
          exact h6 (hf.right g1 h2) g3 ((ht.mono g1.ext).put hdn g2) fun φ' a' w' k1 k2 k4 => hq φ' a' w' (g1.trans k1 h2 h5) k2 k4
    have skipping : ∀ {T : Tr EV} {s : St}, (skipped nt o.dst (cOps P nt ops l)).run C T s K = true → ∃ T' s', K T' s' = true ∧ val s.c ≤ val s'.c ∧
        ∀ {w0 : World} {φ : Phi} {w : World} {a : Act} {ro : Option Nat} {Q : Exit → Act → World → Prop}, Fresh φ s.c s'.c → WR w0 φ s w → AR φ nt ro T a →
          (∀ φ' a' w', Step φ φ' s.c s'.c → AR φ' nt ro T' a' → WR w0 φ' s' w' → Q .normal a' w') → wpOpsIn (Wd ro) 0 P ops Q (List.range' (k + 1) l.length) (a.put o.dst undef) w := by
      intro T s h
      cases hd : o.dst with
      | none =>
        rw [hd] at h
        obtain ⟨T', s', h4, h5, h6⟩ := ih (k + 1) hl' T s K h
        exact ⟨T', s', h4, h5, fun hf hw ht hq => h6 hf hw ht hq⟩
      | some d =>
        rw [hd] at h
        have h' : (bR (Nat.blt d nt) (⟨opsSkip (some (key d)) (cOps P nt ops l)⟩ : POps) ⟨opsBad⟩).run C T s K = true := h
        cases hlt : Nat.blt d nt with
        | false => rw [hlt] at h'; exact absurd (show false = true from h') (by decide)
        | true =>
          rw [hlt] at h'
          have hdn : d < nt := Nat.le_of_ble_eq_true hlt
          have h' : Tr.setC (some (.tuple [])) (key d) T (fun T => (cOps P nt ops l).run C T s K) = true := h'
          rw [Tr.setC_eq] at h'
          obtain ⟨T', s', h4, h5, h6⟩ := ih (k + 1) hl' (Tr.set (some (.tuple [])) (key d) T) s K h'
          exact ⟨T', s', h4, h5, fun hf hw ht hq => h6 hf hw (ht.put hdn undef_ok) hq⟩
    unfold cOps at h
    split at h
    · rename_i hg
      split at h
      · obtain ⟨T', s', h1, h2, h3⟩ := doing h
        refine ⟨T', s', h1, h2, fun {w0 φ w a ro Q} hf hw ht hq => ?_⟩
        rw [cons, if_pos (by simp [Region.wanted, hg])]
        exact h3 hf hw ht hq
      · rename_i c hdf
        have hop := deferOf_some hdf
        cases hd : o.dst with
        | some d => rw [hd] at h; exact absurd (show false = true from h) (by decide)
        | none =>
          rw [hd] at h
          have h : (cDefer c (cOps P nt ops l)).run C T s K = true := h
          unfold cDefer at h
          split at h
          · rename_i f as hcal has
            split at h
            · rename_i p hp
              obtain ⟨hrk, h⟩ := noneR_ok (show noneR (T.get rk) _ = true from h)
              obtain ⟨fn, fa, cp, hx, h⟩ := asFunc_ok h
              cases fn with
              | func g =>
                have h : (cOps P nt ops l).run C (Tr.set (some (.agg (.tuple [.func (.func g) [] cp, .agg (appN fa (opds T as))] :: defersOf T))) dk T) s K = true := h
                obtain ⟨T', s', h4, h5, h6⟩ := ih (k + 1) hl' _ s K h
                refine ⟨T', s', h4, h5, fun {w0 φ w a ro Q} hf hw ht hq => ?_⟩
                rw [cons, if_pos (by simp [Region.wanted, hg])]
                obtain rfl := ht.ro.none hrk
                refine ⟨fun _ _ => trivial, ?_⟩
                have hfn := ht.tr.opd hf.1 f p hp
                rw [hx] at hfn
                generalize hvf : a.eval f = vf at hfn
                cases hfn with
                | func g1 g2 =>
                  rename_i fs ca
                  have hargs : VRs φ (opds T as) (c.args.map a.eval).toList := call_args has fun x hx p hp => ht.tr.opd hf.1 x p hp
                  have hrun : (o.semAt (Wd none).round a.eval).run P w = .ok (.defer { target := .fn (.func g) ca.toArray, args := (fs ++ (c.args.map a.eval).toList).toArray }) w := by
                    show (execOp a.eval o).run P w = _
                    obtain ⟨dst, op, ty, pos, after, guard⟩ := o
                    simp only at hop
                    subst hop
                    simp only [execOp, resolve, hcal, hvf, Deferred.ofValue, Sem.run_bind, Sem.run_pure, Result.andThen_ok]
                    congr 4
                    apply Array.ext'; simp
                  rw [hrun, Oper.uponIn_defer, hd]
                  refine h6 hf hw (ht.defer ?_) hq
                  rw [appN_eq]
                  exact .call (g1.append hargs) g2 ht.dr
              | _ => exact absurd (show false = true from h) (by decide)
            · exact absurd (show false = true from h) (by decide)
          · exact absurd (show false = true from h) (by decide)
    · rename_i j w' hg
      split at h
      · rename_i g hj
        obtain ⟨hok, h⟩ := guard_ok (show guardB (okB T (key g)) _ = true from h)
        obtain ⟨T1, h, hsame⟩ := settle_ok (show settle (key g) T (fun T => bR (isB T (key g) w') ((plain nt (cOp P o.op) o.dst (cOps P nt ops l)).run C T s K) ((skipped nt o.dst (cOps P nt ops l)).run C T s K)) = true from h)
        have h' : bR (isB T1 (key g) w') ((plain nt (cOp P o.op) o.dst (cOps P nt ops l)).run C T1 s K) ((skipped nt o.dst (cOps P nt ops l)).run C T1 s K) = true := h
        have hok1 : okB T1 (key g) = true := by unfold okB; rw [hsame]; exact hok
        have hwant : ∀ {φ : Phi} {a : Act}, TR φ nt T1 a.tmps → Region.wanted o (yielded ops a.tmps) = isB T1 (key g) w' := by
          intro φ a ht
          rw [isB_ok ht hok1]
          simp only [Region.wanted, hg, yielded, hj, Option.bind_some]
          rfl
        cases hb : isB T1 (key g) w' with
        | true =>
          rw [hb] at h'
          obtain ⟨T', s', h1, h2, h3⟩ := doing h'
          refine ⟨T', s', h1, h2, fun {w0 φ w a ro Q} hf hw ht hq => ?_⟩
          rw [cons, if_pos ((hwant (ht.same hsame).tr).trans hb)]
          exact h3 hf hw (ht.same hsame) hq
        | false =>
          rw [hb] at h'
          obtain ⟨T', s', h1, h2, h3⟩ := skipping h'
          refine ⟨T', s', h1, h2, fun {w0 φ w a ro Q} hf hw ht hq => ?_⟩
          rw [cons, if_neg (by rw [hwant (ht.same hsame).tr, hb]; simp)]
          exact ⟨fun _ _ => trivial, h3 hf hw (ht.same hsame) hq⟩
      · rename_i hj
        obtain ⟨T', s', h1, h2, h3⟩ := skipping h
        refine ⟨T', s', h1, h2, fun {w0 φ w a ro Q} hf hw ht hq => ?_⟩
        rw [cons, if_neg (by simp [Region.wanted, hg, yielded, hj])]
        exact ⟨fun _ _ => trivial, h3 hf hw ht hq⟩
end
end Go.Ev
