/- Code, functions: what the evaluator says of a call holds. -/
import Derived.Test.YtgjigdgmlbcbcaaDoorEvSE
import Derived.Laws.Externs
import Derived.Scope
namespace Go.Ev
open Go.RowKit (Below)
def exOf : Ex → Exit
  | .normal => .normal
  | .exit id => .exit id
  | .ret => .ret
abbrev CodeOk (P : Program) (nt : Nat) (c : Code) (T : Tr EV) (s : St) (e : Ex) (T' : Tr EV) (s' : St) : Prop :=
  ∀ {w0 : World} {φ : Phi} {w : World} {a : Act} {Q : Exit → Act → World → Prop}, Fresh φ s.c s'.c → WR w0 φ s w → TR φ nt T a.tmps →
    (∀ φ' a' w', Step φ φ' s.c s'.c → TR φ' nt T' a'.tmps → a'.defers = a.defers → WR w0 φ' s' w' → Q (exOf e) a' w') → c.wp P Q a w
section
variable {P : Program} {C : CallK} {nt : Nat}
theorem exR_cases {e : Ex} {n : Ans} {x : Nat → Ans} {r : Ans} (h : exR e n x r = true) : (e = .normal ∧ n = true) ∨ (∃ i, e = .exit i ∧ x i = true) ∨ (e = .ret ∧ r = true) := by
  cases e with
  | normal => exact .inl ⟨rfl, h⟩
  | exit i => exact .inr (.inl ⟨i, rfl, h⟩)
  | ret => exact .inr (.inr ⟨rfl, h⟩)
theorem iter_sound {c : Code} {f : Tr EV → St → CodeK → Ans} (hf : ∀ T s K, f T s K = true → ∃ e T' s', K e T' s' = true ∧ val s.c ≤ val s'.c ∧ CodeOk P nt c T s e T' s') :
    ∀ (n : Nat) (T : Tr EV) (s : St) (K : CodeK), iter f n T s K = true → ∃ e T' s', K e T' s' = true ∧ val s.c ≤ val s'.c ∧
      ∀ {w0 : World} {φ : Phi} {w : World} {a : Act} {Q : Exit → Act → World → Prop}, Fresh φ s.c s'.c → WR w0 φ s w → TR φ nt T a.tmps →
        (∀ φ' a' w', Step φ φ' s.c s'.c → TR φ' nt T' a'.tmps → a'.defers = a.defers → WR w0 φ' s' w' → Q (exOf e) a' w') → Code.rounds P c Q n a w := by
  intro n
  induction n with
  | zero => intro T s K h; exact absurd (show false = true from h) (by decide)
  | succ n ih =>
    intro T s K h
    obtain ⟨e, T1, s1, h1, h2, h3⟩ := hf T s _ h
    rcases exR_cases h1 with ⟨rfl, h1⟩ | ⟨i, rfl, h1⟩ | ⟨rfl, h1⟩
    · obtain ⟨e, T', s', h4, h5, h6⟩ := ih T1 s1 K h1
      refine ⟨e, T', s', h4, by omega, fun {w0 φ w a Q} hf hw ht hq => ?_⟩
      show c.wp P (Exit.then (Code.rounds P c Q n) Q) a w
      refine h3 (hf.left h5) hw ht fun φ1 a1 w1 g1 g2 g3 g4 => ?_
      exact h6 (hf.right g1 h2) g4 g2 fun φ' a' w' k1 k2 k3 k4 => hq φ' a' w' (g1.trans k1 h2 h5) k2 (k3.trans g3) k4
    · refine ⟨_, T1, s1, h1, h2, fun {w0 φ w a Q} hf hw ht hq => ?_⟩
      show c.wp P (Exit.then (Code.rounds P c Q n) Q) a w
      exact h3 hf hw ht fun φ1 a1 w1 g1 g2 g3 g4 => hq φ1 a1 w1 g1 g2 g3 g4
    · refine ⟨_, T1, s1, h1, h2, fun {w0 φ w a Q} hf hw ht hq => ?_⟩
      show c.wp P (Exit.then (Code.rounds P c Q n) Q) a w
      exact h3 hf hw ht fun φ1 a1 w1 g1 g2 g3 g4 => hq φ1 a1 w1 g1 g2 g3 g4
theorem code_sound (hm : P.follows .mixedOrders = true) (hC : CallSound P C) (n : Nat) : ∀ (c : Code) (T : Tr EV) (s : St) (K : CodeK), (cCode P nt c).run C n T s K = true → ∃ e T' s', K e T' s' = true ∧ val s.c ≤ val s'.c ∧ CodeOk P nt c T s e T' s' := by
  intro c
  induction c with
  | skip => intro T s K h; exact ⟨.normal, T, s, h, Nat.le_refl _, fun _ hw ht hq => wp_skip (hq _ _ _ (Step.refl _ _) ht rfl hw)⟩
  | region id ops draw =>
    intro T s K h
    cases draw with
    | true =>
      obtain ⟨T', s', h1, h2, h3⟩ := draw_sound hm hC T s (fun T s => K .normal T s) h
      exact ⟨.normal, T', s', h1, h2, fun hf hw ht hq => h3 id hf hw ht hq⟩
    | false =>
      obtain ⟨T', s', h1, h2, h3⟩ := ops_sound hC ops.toList 0 (fun j => by simp) T s (fun T s => K .normal T s) h
      refine ⟨.normal, T', s', h1, h2, fun hf hw ht hq => wp_region ?_⟩
      have := h3 (Q := _) hf hw ht hq
      rwa [← List.range_eq_range', Array.length_toList] at this
  | seq x y ihx ihy =>
    intro T s K h
    obtain ⟨e, T1, s1, h1, h2, h3⟩ := ihx T s _ h
    rcases exR_cases h1 with ⟨rfl, h1⟩ | ⟨i, rfl, h1⟩ | ⟨rfl, h1⟩
    · obtain ⟨e, T', s', h4, h5, h6⟩ := ihy T1 s1 K h1
      refine ⟨e, T', s', h4, by omega, fun {w0 φ w a Q} hf hw ht hq => wp_seq (h3 (hf.left h5) hw ht fun φ1 a1 w1 g1 g2 g3 g4 => ?_)⟩
      exact h6 (hf.right g1 h2) g4 g2 fun φ' a' w' k1 k2 k3 k4 => hq φ' a' w' (g1.trans k1 h2 h5) k2 (k3.trans g3) k4
    · exact ⟨_, T1, s1, h1, h2, fun {w0 φ w a Q} hf hw ht hq => wp_seq (h3 hf hw ht fun φ1 a1 w1 g1 g2 g3 g4 => hq φ1 a1 w1 g1 g2 g3 g4)⟩
    · exact ⟨_, T1, s1, h1, h2, fun {w0 φ w a Q} hf hw ht hq => wp_seq (h3 hf hw ht fun φ1 a1 w1 g1 g2 g3 g4 => hq φ1 a1 w1 g1 g2 g3 g4)⟩
  | cond x a b iha ihb =>
    intro T s K h
    simp only [cCode] at h
    split at h
    · rename_i p hp
      obtain ⟨t, ht, h1⟩ := asBool_ok (show asBool (p.run T) (fun t => bR t ((cCode P nt a).run C n T s K) ((cCode P nt b).run C n T s K)) = true from h)
      have hc : ∀ {φ : Phi} {ac : Act}, GR φ → TR φ nt T ac.tmps → ac.eval x = .bool t := by
        intro φ ac hg htr
        have := htr.opd hg x p hp
        rw [ht] at this
        generalize ac.eval x = v at this
        cases this; rfl
      cases t with
      | true =>
        obtain ⟨e, T', s', h2, h3, h4⟩ := iha T s K h1
        exact ⟨e, T', s', h2, h3, fun hf hw htr hq => wp_cond_true (hc hf.1 htr) (h4 hf hw htr hq)⟩
      | false =>
        obtain ⟨e, T', s', h2, h3, h4⟩ := ihb T s K h1
        exact ⟨e, T', s', h2, h3, fun hf hw htr hq => wp_cond_false (hc hf.1 htr) (h4 hf hw htr hq)⟩
    · exact absurd (show false = true from h) (by decide)
  | block id c ih =>
    intro T s K h
    obtain ⟨e, T1, s1, h1, h2, h3⟩ := ih T s _ h
    rcases exR_cases h1 with ⟨rfl, h1⟩ | ⟨i, rfl, h1⟩ | ⟨rfl, h1⟩
    · exact ⟨.normal, T1, s1, h1, h2, fun {w0 φ w a Q} hf hw ht hq => wp_block (h3 hf hw ht fun φ1 a1 w1 g1 g2 g3 g4 => hq φ1 a1 w1 g1 g2 g3 g4)⟩
    · rename_i hdup
      have hB : bR (Nat.beq i id) (K .normal T1 s1) (K (.exit i) T1 s1) = true := h1
      cases hi : Nat.beq i id with
      | true =>
        rw [hi] at hB
        have h1 : K .normal T1 s1 = true := hB
        have hid := Nat.eq_of_beq_eq_true hi
        refine ⟨.normal, T1, s1, h1, h2, fun {w0 φ w a Q} hf hw ht hq => wp_block (h3 hf hw ht fun φ1 a1 w1 g1 g2 g3 g4 => ?_)⟩
        show (if i = id then Q .normal a1 w1 else Q (.exit i) a1 w1)
        rw [if_pos hid]; exact hq φ1 a1 w1 g1 g2 g3 g4
      | false =>
        rw [hi] at hB
        have h1 : K (.exit i) T1 s1 = true := hB
        have hid : i ≠ id := fun e => by subst e; simp at hi
        refine ⟨.exit i, T1, s1, h1, h2, fun {w0 φ w a Q} hf hw ht hq => wp_block (h3 hf hw ht fun φ1 a1 w1 g1 g2 g3 g4 => ?_)⟩
        show (if i = id then Q .normal a1 w1 else Q (.exit i) a1 w1)
        rw [if_neg hid]; exact hq φ1 a1 w1 g1 g2 g3 g4
    · exact ⟨.ret, T1, s1, h1, h2, fun {w0 φ w a Q} hf hw ht hq => wp_block (h3 hf hw ht fun φ1 a1 w1 g1 g2 g3 g4 => hq φ1 a1 w1 g1 g2 g3 g4)⟩
  | loop c ih =>
    intro T s K h
    obtain ⟨e, T', s', h1, h2, h3⟩ := iter_sound (P := P) (nt := nt) (c := c) (f := (cCode P nt c).run C n) (fun T s K h => ih T s K h) n T s K h
    exact ⟨e, T', s', h1, h2, fun {w0 φ w a Q} hf hw ht hq => wp_loop_rounds n (h3 hf hw ht hq)⟩
  | exit id => intro T s K h; exact ⟨.exit id, T, s, h, Nat.le_refl _, fun _ hw ht hq => wp_exit (hq _ _ _ (Step.refl _ _) ht rfl hw)⟩
  | ret => intro T s K h; exact ⟨.ret, T, s, h, Nat.le_refl _, fun _ hw ht hq => wp_ret (hq _ _ _ (Step.refl _ _) ht rfl hw)⟩
  | label l => intro T s K h; exact ⟨.normal, T, s, h, Nat.le_refl _, fun _ hw ht hq => wp_label (hq _ _ _ (Step.refl _ _) ht rfl hw)⟩
  | scope c ih =>
    intro T s K h
    obtain ⟨e, T', s', h1, h2, h3⟩ := ih T s K h
    refine ⟨e, T', s', h1, h2, fun {w0 φ w a Q} hf hw ht hq => wp_scope_straight (h3 hf hw ht fun φ' a' w' k1 k2 k3 k4 => ?_)⟩
    have := hq φ' a' w' k1 k2 k3 k4
    cases e <;> exact this
  | _ => intro T s K h; exact absurd (show false = true from h) (by decide)

/-! ### results and functions -/
def resOne (tmps : Array Value) : ResultVar → Sem Value
  | .tmp t => pure (tmps.getD t undef)
  | .cell a t => do loadVar t (← Go.asAddr (tmps.getD a undef))
theorem results_eq (fn : Func) (tmps : Array Value) : results fn tmps = (do let vs ← fn.results.mapM (resOne tmps); pure (if h : vs.size = 1 then vs[0] else .tuple vs)) := by
  unfold results
  congr 1
theorem res_sound {T : Tr EV} {s : St} : ∀ {rs : List ResultVar} {ps : List PRes} {K : List EV → Ans}, cRes P rs = some ps → evRes T s ps K = true → ∃ l, K l = true ∧
    ∀ {w0 : World} {φ : Phi} {w : World} {tmps : Array Value}, WR w0 φ s w → TR φ nt T tmps → ∃ l' : List Value, VRs φ l l' ∧
      (rs.mapM (resOne tmps)).run P w = .ok l' w
  | [], ps, K, hp, h => by
    cases hp
    exact ⟨[], h, fun _ _ => ⟨[], .nil, rfl⟩⟩
  | .tmp t :: rs, ps, K, hp, h => by
    simp only [cRes] at hp
    cases hr : cRes P rs with
    | none => rw [hr] at hp; cases hp
    | some qs =>
      rw [hr] at hp; cases hp
      obtain ⟨l, h1, h2⟩ := res_sound hr (show evRes T s qs (fun l => K (getT (key t) T :: l)) = true from h)
      refine ⟨_, h1, fun {w0 φ w tmps} hw ht => ?_⟩
      obtain ⟨l', h3, h4⟩ := h2 hw ht
      refine ⟨_, .cons (ht.2 t) h3, ?_⟩
      simp only [List.mapM_cons, Sem.run_bind, resOne, Sem.run_pure, Result.andThen_ok, h4]
  | .cell a t :: rs, ps, K, hp, h => by
    simp only [cRes] at hp
    cases hr : cRes P rs with
    | none => rw [hr] at hp; split at hp <;> cases hp
    | some qs =>
      rw [hr] at hp
      split at hp
      · rename_i n h1 h2
        cases hp
        obtain ⟨b, o, hx, h3⟩ := asPtr_ok (show asPtr (getT (key a) T) (fun b o => loadB s b o n fun c => evRes T s qs fun l => K (.agg c :: l)) = true from h)
        obtain ⟨cs, h4, h5, h6⟩ := loadB_ok h3
        obtain ⟨l, h7, h8⟩ := res_sound hr h4
        refine ⟨_, h7, fun {w0 φ w tmps} hw ht => ?_⟩
        obtain ⟨l', g1, g2⟩ := h8 hw ht
        have hv := ht.2 a
        rw [hx] at hv
        generalize hva : tmps.getD a undef = va at hv
        cases hv with
        | ptr hφ =>
          obtain ⟨cs', e1, e2⟩ := h6 hw hφ
          refine ⟨.agg cs'.toArray :: l', .cons (.agg e1) g1, ?_⟩
          have hone : (resOne tmps (.cell a t)).run P w = .ok (.agg cs'.toArray) w := by
            simp only [resOne, Sem.run_bind, hva, Go.asAddr, Sem.run_pure, Result.andThen_ok, loadVar, run_isAgg' h1, if_true, run_sizeOf h2, run_loadCells' e2 (by rw [← e1.length, h5])]
          simp only [List.mapM_cons, Sem.run_bind, hone, Sem.run_pure, Result.andThen_ok, g2]
      · have h1 : isAggT P t = some false := by assumption
        cases hp
        obtain ⟨b, o, hx, h3⟩ := asPtr_ok (show asPtr (getT (key a) T) (fun b o => loadB s b o 1 fun c => oneV c fun v => evRes T s qs fun l => K (v :: l)) = true from h)
        obtain ⟨cs, h4, h5, h6⟩ := loadB_ok h3
        obtain ⟨v, rfl⟩ : ∃ v, cs = [v] := by
          cases cs with
          | nil => simp at h5
          | cons v l => cases l with | nil => exact ⟨v, rfl⟩ | cons _ _ => simp at h5
        obtain ⟨l, h7, h8⟩ := res_sound hr (show evRes T s qs (fun l => K (v :: l)) = true from h4)
        refine ⟨_, h7, fun {w0 φ w tmps} hw ht => ?_⟩
        obtain ⟨l', g1, g2⟩ := h8 hw ht
        have hv := ht.2 a
        rw [hx] at hv
        generalize hva : tmps.getD a undef = va at hv
        cases hv with
        | ptr hφ =>
          obtain ⟨cs', e1, e2⟩ := h6 hw hφ
          cases e1 with
          | cons k1 k2 =>
            cases k2
            have k3 := e2 0 _ rfl
            simp only [Nat.add_zero] at k3
            have hone : ∃ u, (resOne tmps (.cell a t)).run P w = .ok u w ∧ VR φ v u := ⟨_, by
              simp only [resOne, Sem.run_bind, hva, Go.asAddr, Sem.run_pure, Result.andThen_ok, loadVar, run_isAgg' h1, Bool.false_eq_true, if_false, run_load, k3], k1⟩
            obtain ⟨u, hu, hvu⟩ := hone
            refine ⟨_, .cons hvu g1, ?_⟩
            simp only [List.mapM_cons, Sem.run_bind, hu, Sem.run_pure, Result.andThen_ok, g2]
      · cases hp
theorem tup_ok {φ : Phi} {l : List EV} {l' : List Value} (h : VRs φ l l') : VR φ (tup l) (if h : l'.toArray.size = 1 then l'.toArray[0] else .tuple l'.toArray) := by
  cases h with
  | nil => exact VR.tuple (cs' := []) .nil
  | cons h1 h2 =>
    cases h2 with
    | nil => simpa [tup] using h1
    | cons h3 h4 => 
      rw [dif_neg (by simp)]
      exact VR.tuple (.cons h1 (.cons h3 h4))
theorem args0_ok {φ : Phi} {l : List EV} : ∀ {l' : List Value} {i : Nat} {T : Tr EV} (tmps : Nat → Value), VRs φ l l' → (∀ t, t < i → VR φ (getT (key t) T) (tmps t)) → (∀ t, i ≤ t → t < i + l'.length → some (tmps t) = l'[t - i]?) →
    (∀ t, i ≤ t → getT (key t) T = .tuple []) → (∀ t, i + l'.length ≤ t → tmps t = undef) → ∀ t, VR φ (getT (key t) (args0 l i T)) (tmps t) := by
  induction l with
  | nil =>
    intro l' i T tmps h h1 h2 h3 h4 t
    cases h
    show VR φ (getT (key t) T) _
    by_cases ht : t < i
    · exact h1 t ht
    · rw [h3 t (by omega), h4 t (by simp; omega)]; exact undef_ok
  | cons v l ih =>
    intro l' i T tmps h h1 h2 h3 h4 t
    cases h with
    | cons g1 g2 =>
      rename_i v' r'
      show VR φ (getT (key t) (args0 l (Nat.succ i) (Tr.set (some v) (key i) T))) _
      refine ih tmps g2 (fun t ht => ?_) (fun t h5 h6 => ?_) (fun t ht => ?_) (fun t ht => h4 t (by simp; omega)) t
      · rw [getT_set]
        by_cases hti : i = t
        · subst hti
          rw [if_pos rfl]
          have := h2 i (Nat.le_refl _) (by simp)
          simp at this
          rw [this]; exact g1
        · rw [if_neg hti]; exact h1 t (by omega)
      · have := h2 t (by omega) (by simp; omega)
        rw [this]
        obtain ⟨j, rfl⟩ : ∃ j, t = i + 1 + j := ⟨t - (i + 1), by omega⟩
        have e1 : i + 1 + j - i = j + 1 := by omega
        have e2 : i + 1 + j - Nat.succ i = j := by omega
        rw [e1, e2]; rfl
      · rw [getT_set, if_neg (by omega)]; exact h3 t (by omega)
def ExtOk (P : Program) (ext : List (Nat × Ext)) : Prop := ∀ (f : Nat) (e : Ext) (fn : Func), ext.lookup f = some e → P.funcs[f]? = some fn → fn.body = none → ∀ (args : List EV) (K : EV → Ans), evExt e args K = true → ∃ v, K v = true ∧
  ∀ {φ : Phi} {args' : List Value} (w : World), VRs φ args args' → ∃ u, VR φ v u ∧ (callFunc f args'.toArray).run P w = .ok (.value u) w
def NamesOk (P : Program) : Prop := ∀ (f : Nat) (fn : Func), P.funcs[f]? = some fn → fn.body ≠ none → (fn.name == "runtime.NumGoroutine") = false
theorem call_sound {ext : List (Nat × Ext)} (hm : P.follows .mixedOrders = true) (hE : ExtOk P ext) (hN : NamesOk P) : ∀ n, CallSound P (evCall (cFun P ext) n) := by
  intro n
  induction n with
  | zero => intro f args s K h; exact absurd (show false = true from h) (by decide)
  | succ n ih =>
    intro f args s K h
    have h : PF.rec (motive := fun _ => Ans) false (fun e => evExt e args fun v => K v s) (fun c rs => c.run (evCall (cFun P ext) n) n (args0 args 0 .nil) s (exitK rs K)) (cFun P ext f) = true := h
    unfold cFun at h
    cases hf : P.funcs[f]? with
    | none => rw [hf] at h; exact absurd (show false = true from h) (by decide)
    | some fn =>
      rw [hf] at h
      cases hb : fn.body with
      | none =>
        simp only [hb] at h
        cases he : ext.lookup f with
        | none => rw [he] at h; exact absurd (show false = true from h) (by decide)
        | some e =>
          rw [he] at h
          obtain ⟨v, h1, h2⟩ := hE f e fn he hf hb args (fun v => K v s) h
          refine ⟨v, s, h1, Nat.le_refl _, fun {w0 φ w args'} _ hw ha => ?_⟩
          obtain ⟨u, h3, h4⟩ := h2 w ha
          rw [h4]
          exact ⟨φ, Step.refl _ _, h3, hw⟩
      | some c =>
        simp only [hb] at h
        cases hr : cRes P fn.results.toList with
        | none => rw [hr] at h; exact absurd (show false = true from h) (by decide)
        | some rs =>
          rw [hr] at h
          obtain ⟨e, T', s', h1, h2, h3⟩ := code_sound (nt := fn.ntmps) hm ih n c (args0 args 0 .nil) s (exitK rs K) h
          have h1' : (e = .normal ∨ e = .ret) ∧ evRes T' s' rs (fun l => K (tup l) s') = true := by
            cases e with
            | normal => exact ⟨.inl rfl, h1⟩
            | exit i => exact absurd (show false = true from h1) (by decide)
            | ret => exact ⟨.inr rfl, h1⟩
          obtain ⟨l, h4, h5⟩ := res_sound (P := P) (nt := fn.ntmps) hr h1'.2
          refine ⟨_, s', h4, h2, fun {w0 φ w args'} hfr hw ha => ?_⟩
          have hcf : (callFunc f args'.toArray).run P w = .ok (.enter f args'.toArray) w := by
            have h1 : fn.name ≠ "runtime.NumGoroutine" := by simpa using hN f fn hf (by simp [hb])
            simp [callFunc, hf, h1, hb]
          rw [hcf]
          show Calls P f args'.toArray w _
          have htr : TR φ fn.ntmps (args0 args 0 .nil) (args'.toArray ++ Array.replicate (fn.ntmps - args'.toArray.size) undef) := by
            refine ⟨by simp; omega, ?_⟩
            refine args0_ok (fun t => (args'.toArray ++ Array.replicate (fn.ntmps - args'.toArray.size) undef).getD t undef) ha (fun t ht => by omega) (fun t _ h7 => ?_) (fun t _ => rfl) (fun t ht => ?_)
            · have h7 : t < args'.length := by simpa using h7
              rw [Array.getD_eq_getD_getElem?, Array.getElem?_append_left (by simpa using h7)]
              simp [List.getElem?_eq_getElem h7]
            · have ht : args'.length ≤ t := by simpa using ht
              rw [Array.getD_eq_getD_getElem?, Array.getElem?_append_right (by simpa using ht), Array.getElem?_replicate]
              split <;> rfl
          refine calls_of_wp hf hb (h3 hfr hw htr fun φ' a' w' k1 k2 k3 k4 => ?_)
          have hd : a'.defers = [] := k3
          obtain ⟨l', g1, g2⟩ := h5 k4 k2
          have hres : (results fn a'.tmps).run P w' = .ok (if h : l'.toArray.size = 1 then l'.toArray[0] else .tuple l'.toArray) w' := by
            simp only [results_eq, Array.mapM_eq_mapM_toList, Sem.run_bind, Sem.run_map, g2, Result.andThen_ok, Sem.run_pure]
          rcases h1'.1 with rfl | rfl
          · exact ⟨hd, _, hres, _, rfl, φ', k1, tup_ok g1, k4⟩
          · exact ⟨hd, _, hres, _, rfl, φ', k1, tup_ok g1, k4⟩
end
end Go.Ev
