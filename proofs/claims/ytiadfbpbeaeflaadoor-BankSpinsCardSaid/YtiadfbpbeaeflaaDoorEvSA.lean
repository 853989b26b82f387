/- Code, functions: what the evaluator says of a call holds. -/
import Derived.Test.YtiadfbpbeaeflaaDoorEvSR
import Derived.Laws.Externs
namespace Go.Ev
open Go.RowKit (Below)
def exOf : Ex → Exit
  | .normal => .normal
  | .exit id => .exit id
  | .ret => .ret
abbrev CodeOk (P : Program) (nt : Nat) (c : Code) (T : Tr EV) (s : St) (e : Ex) (T' : Tr EV) (s' : St) : Prop :=
  ∀ {w0 : World} {φ : Phi} {w : World} {a : Act} {ro : Option Nat} {Q : Exit → Act → World → Prop}, Fresh φ s.c s'.c → WR w0 φ s w → AR φ nt ro T a →
    (∀ φ' a' w', Step φ φ' s.c s'.c → AR φ' nt ro T' a' → WR w0 φ' s' w' → Q (exOf e) a' w') → c.wpIn (Wd ro) 0 P Q a w
section
variable {P : Program} {C : CallK} {nt : Nat}
theorem exR_cases {e : Ex} {n : Ans} {x : Nat → Ans} {r : Ans} (h : exR e n x r = true) : (e = .normal ∧ n = true) ∨ (∃ i, e = .exit i ∧ x i = true) ∨ (e = .ret ∧ r = true) := by
  cases e with
  | normal => exact .inl ⟨rfl, h⟩
  | exit i => exact .inr (.inl ⟨i, rfl, h⟩)
  | ret => exact .inr (.inr ⟨rfl, h⟩)
def NamesOk (P : Program) : Prop := ∀ (f : Nat) (fn : Func), P.funcs[f]? = some fn → fn.body ≠ none → (fn.name == "runtime.NumGoroutine") = false
theorem callFunc_enter (hN : NamesOk P) {f : Nat} (hb : hasBody P f = true) (as : Array Value) (w : World) : (callFunc f as).run P w = .ok (.enter f as) w := by
  unfold hasBody at hb
  split at hb
  · rename_i fn hf
    obtain ⟨c, hc⟩ := Option.isSome_iff_exists.1 hb
    have h1 : fn.name ≠ "runtime.NumGoroutine" := by simpa using hN f fn hf (by simp [hc])
    simp [callFunc, hf, h1, hc]
  · cases hb
theorem leftBy_ok {st : JS} {k : Ex → Ans} (h : leftBy st k = true) : ∃ e, k e = true ∧ (st = .ready ∧ e = .normal ∨ st = .done e) := by
  cases st with
  | ready => exact ⟨.normal, h, .inl ⟨rfl, rfl⟩⟩
  | busy => exact absurd (show false = true from h) (by decide)
  | done e => exact ⟨e, h, .inr rfl⟩
theorem isReady_ok {st : JS} {k : Ans} (h : isReady st k = true) : st = .ready ∧ k = true := by
  cases st with
  | ready => exact ⟨rfl, h⟩
  | busy => exact absurd (show false = true from h) (by decide)
  | done e => exact absurd (show false = true from h) (by decide)
theorem ro_eq {φ : Phi} {T : Tr EV} {r : Option Nat} {k : List Bool} (h : RO φ T r) (hk : T.get rk = some (.map (true :: k))) : ∃ l q, φ k = some (l, q) ∧ r = some l := by
  rcases h with ⟨h1, _⟩ | ⟨k', l, q, h1, h2, h3⟩
  · rw [hk] at h1; cases h1
  · rw [hk] at h1; cases h1; exact ⟨l, q, h2, h3⟩
theorem upto_mem : ∀ {n t : Nat}, t < n → t ∈ upto n
  | 0, _, h => absurd h (Nat.not_lt_zero _)
  | n + 1, t, h => by
    show t ∈ n :: upto n
    rcases Nat.lt_or_ge t n with c | c
    · exact List.mem_cons_of_mem _ (upto_mem c)
    · rw [show t = n by omega]; exact List.mem_cons_self
theorem mem_upto : ∀ {n t : Nat}, t ∈ upto n → t < n
  | 0, _, h => by cases h
  | n + 1, t, h => by
    rcases List.mem_cons.1 (show t ∈ n :: upto n from h) with c | c
    · omega
    · have := mem_upto c; omega
theorem restC_ok : ∀ {ts : List Nat} {T : Tr EV} {K : Tr EV → Ans}, restC ts T K = true → ∃ R, K R = true ∧ ∀ q v, R.get q = some v → T.get q = some v ∧ ∃ t, t ∈ ts ∧ q = key t
  | [], T, K, h => ⟨_, h, fun q v hq => by rw [Tr.get_nil] at hq; cases hq⟩
  | t :: ts, T, K, h => by
    obtain ⟨R, h1, h2⟩ := restC_ok (ts := ts) (show restC ts T (fun R => Option.rec (motive := fun _ => Ans) (K R) (fun v => Tr.setC (some v) (key t) R K) (T.get (key t))) = true from h)
    cases hT : T.get (key t) with
    | none =>
      rw [hT] at h1
      exact ⟨R, h1, fun q v hq => by obtain ⟨a, t', b, c⟩ := h2 q v hq; exact ⟨a, t', List.mem_cons_of_mem _ b, c⟩⟩
    | some v =>
      rw [hT] at h1
      have h1 : Tr.setC (some v) (key t) R K = true := h1
      rw [Tr.setC_eq] at h1
      refine ⟨_, h1, fun q u hq => ?_⟩
      rw [Tr.get_set] at hq
      split at hq
      · rename_i e
        subst e
        cases hq
        exact ⟨hT, t, List.mem_cons_self, rfl⟩
      · obtain ⟨a, t', b, c⟩ := h2 q u hq
        exact ⟨a, t', List.mem_cons_of_mem _ b, c⟩
theorem rest_TR {φ : Phi} {nt : Nat} {T R : Tr EV} {tmps : Array Value} (h : ∀ q v, R.get q = some v → T.get q = some v ∧ ∃ t, t ∈ upto nt ∧ q = key t) (g : TR φ nt T tmps) : TR φ nt R tmps := ⟨g.1, fun t => by
  have e := g.2 t
  unfold getT at e ⊢
  cases hR : R.get (key t) with
  | none => exact .any _
  | some v => rw [(h _ _ hR).1] at e; exact e⟩
theorem rest_none {nt : Nat} {T R : Tr EV} (h : ∀ q v, R.get q = some v → T.get q = some v ∧ ∃ t, t ∈ upto nt ∧ q = key t) : ∀ t, nt ≤ t → R.get (key t) = none := fun t ht => by
  cases hR : R.get (key t) with
  | none => rfl
  | some v =>
    obtain ⟨_, t', h1, h2⟩ := h _ _ hR
    have := mem_upto h1
    have := key_inj h2
    omega
set_option maxHeartbeats 2000000 in
/-- the one call of a loop over a function, its record laid -/
theorem rangeIn_sound (hN : NamesOk P) (hC : CallSound P C) {x : Operand} {ps : Array Tmp} {as body : Code} {g : Nat} {fa cp : List EV} {n : Nat} (T : Tr EV) (s : St) (K : CodeK) (hb : hasBody P g = true)
    (h : rangeIn ⟨nt, ps, as, body⟩ g fa cp C n T s K = true) : ∃ R, (∀ q v, R.get q = some v → T.get q = some v ∧ ∃ t, t ∈ upto nt ∧ q = key t) ∧ ∃ e s', K e T s' = true ∧ val s.c + 1 ≤ val s'.c ∧
      ∀ {w0 : World} {φ : Phi} {w1 : World} {a a' : Act} {ro : Option Nat} {w : World} {l : Nat} {mark : List Deferred} {fn : FuncId} {r : Loop} {fs ca : List Value} {Q : Exit → Act → World → Prop},
        Fresh (φ.put s.c (w.heap.size, 0, 0)) (inc s.c) s'.c → WR w0 (φ.put s.c (w.heap.size, 0, 0)) ⟨inc s.c, s.L, s.R, .loop s.c .ready R nt ps as body :: s.J⟩ w1 → l = w.heap.size → w0.heap.size ≤ l →
        a.eval x = .func (.func g) fs.toArray ca.toArray → VRs (φ.put s.c (w.heap.size, 0, 0)) fa fs → VRs (φ.put s.c (w.heap.size, 0, 0)) cp ca → a' = { a with defers := mark ++ a.defers } → AR (φ.put s.c (w.heap.size, 0, 0)) nt ro T a' →
        (∀ φ' w', Step (φ.put s.c (w.heap.size, 0, 0)) φ' (inc s.c) s'.c → AR φ' nt ro T a' → WR w0 φ' s' w' → Q (exOf e) a' w') →
        ∃ (d : Deferred) (w1' : World) (f : FuncId) (args : Array Value) (w2 : World), (resolve a.eval (rangeCall x l) 0).run P w1 = .ok d w1' ∧ (∀ f', Target.leads P w1' d.target d.args = some f' → (Wd ro).fn f') ∧
          (invoke d.target d.args).run P w1' = .ok (.enter f args) w2 ∧ ((Wd ro).depth.isSome = true → 1 ≤ 0) ∧ CallsIn (Wd ro) (0 - 1) P f args w2 (rangePost (Wd ro) 0 P l Q { a with defers := mark ++ a.defers }) := by
  obtain ⟨R, h, hR⟩ := restC_ok h
  have h : C (.fn g) (appN fa (appN [.map (true :: s.c)] cp)) ⟨inc s.c, s.L, s.R, .loop s.c .ready R nt ps as body :: s.J⟩ (fun _ s1 =>
    findJ s.c s1.J (fun st _ _ _ _ _ => leftBy st fun e => K e T ⟨s1.c, s1.L, s1.R, delJ s.c s1.J⟩) false) = true := h
  obtain ⟨v, s1, h1, h2, h3⟩ := hC.fn _ _ _ _ h
  rcases findJ_ok h1 with ⟨st, T1, nt1, ps1, a1, b1, hm, hl⟩ | ⟨_, hf⟩
  rotate_left
  · exact absurd hf (by decide)
  obtain ⟨e, hK, hst⟩ := leftBy_ok hl
  rw [appN_eq, appN_eq] at h3
  have h2' : val (inc s.c) ≤ val s1.c := h2
  refine ⟨R, hR, e, _, hK, by rw [val_inc] at h2'; exact h2', fun {w0 φ w1 a a' ro w l mark fn r fs ca Q} hf hw hlw hlo hev hfa hca ha har hq => ?_⟩
  have hself : (φ.put s.c (w.heap.size, 0, 0)) s.c = some (l, 0, 0) := by simp [Phi.put, hlw]
  have hargs := hfa.append ((VRs.cons (VR.yld hself) .nil).append hca)
  have hnx := h3 hf hw hargs
  rw [callFunc_enter hN hb] at hnx
  have hnx : CallsIn (Wd none) 0 P g _ w1 _ := hnx
  refine ⟨{ target := .fn (.func g) ca.toArray, args := (fs ++ [Value.func (.yield l) #[] #[]]).toArray }, w1, g, (fs ++ ([Value.func (.yield l) #[] #[]] ++ ca)).toArray, w1, ?_, fun _ _ => trivial, ?_, (fun h => by cases h), calls_wd (callsIn_mono hnx ?_)⟩
  · simp only [resolve, rangeCall, hev, Deferred.ofValue, Sem.run_pure]
    congr 2
    apply Array.ext'; simp [Act.eval]
  · have : (invoke (Target.fn (.func g) ca.toArray) (fs ++ [Value.func (.yield l) #[] #[]]).toArray).run P w1 = (callFunc g ((fs ++ [Value.func (.yield l) #[] #[]]).toArray ++ ca.toArray)).run P w1 := rfl
    rw [this, callFunc_enter hN hb]
    simp
  · rintro e' w3 ⟨v', rfl, φ', g1, _, g3⟩
    have hk' := g1.ext _ _ hself
    have hin := g3.loops.all _ hm
    obtain ⟨l', q', r', k1, k2, k3, k4, k5, k6, k7, k8, _⟩ := hin
    rw [hk'] at k1; cases k1
    have hnb : r'.state ≠ .busy := by
      rcases hst with ⟨rfl, _⟩ | rfl
      · rw [k8.1]; simp
      · rw [k8.1]; simp
    have hpd : r'.pending = codeOfEx e := by
      rcases hst with ⟨rfl, rfl⟩ | rfl
      · exact k8.2
      · exact k8.2
    have hw4 := g3.delJ (o' := .loop { r' with state := .exhausted }) k2 hk' k3 (by intro _ _ _ e; cases e) ⟨_, hm, rfl⟩
    refine ⟨codeOfEx e, _, by rw [← hpd]; exact run_endLoop k3 hnb, ?_⟩
    have := hq φ' _ g1 (har.mono g1.ext) hw4
    subst ha
    cases e with
    | normal => exact this
    | exit id => exact wpIn_exit this
    | ret => exact wpIn_ret this
theorem range_sound (hN : NamesOk P) (hC : CallSound P C) {x : Operand} {p : Opd} {ps : Array Tmp} {as body : Code} {n : Nat} (hp : cOpd x = some p) (T : Tr EV) (s : St) (K : CodeK) (h : (kRange (hasBody P) ⟨nt, ps, as, body⟩ p) C n T s K = true) :
    ∃ e T' s', K e T' s' = true ∧ val s.c ≤ val s'.c ∧ CodeOk P nt (.rangeFunc x ps as body) T s e T' s' := by
  obtain ⟨fn, fa, cp, hx, h⟩ := asFunc_ok h
  cases fn with
  | func g =>
    obtain ⟨hb, h⟩ := guard_ok (show guardB (hasBody P g) _ = true from h)
    cases hr : T.get rk with
    | none =>
      rw [hr] at h
      obtain ⟨R, hR, e, s', hK, hv, hs⟩ := rangeIn_sound (x := x) hN hC _ _ K hb h
      have hv : val (inc s.c) + 1 ≤ val s'.c := hv
      rw [val_inc] at hv
      refine ⟨e, _, s', hK, by omega, fun {w0 φ w a ro Q} hf hw ht hq => ?_⟩
      obtain rfl := ht.ro.none hr
      refine wpIn_rangeFunc fun fn _ => ?_
      have hc0 : φ s.c = none := hf.2 s.c (Nat.le_refl _) (by omega)
      have hw1 := hw.push (o := .deferred (some [])) (e := .dfr s.c) hc0 rfl ⟨w.heap.size, (0, 0), by simp [Phi.put], hw.below.size, World.alloc_heap_new _ _⟩
      have hst1 := Step.put (φ := φ) (w.heap.size, 0, 0) hc0
      generalize hφ1 : φ.put s.c (w.heap.size, 0, 0) = φ1 at hw1 hst1
      have hself1 : φ1 s.c = some (w.heap.size, 0, 0) := by rw [← hφ1]; simp [Phi.put]
      have hc1 : φ1 (inc s.c) = none := by
        rw [← hφ1]
        have hne : inc s.c ≠ s.c := fun e => by have := val_inc s.c; rw [e] at this; omega
        simp only [Phi.put, hne, if_false]
        exact hf.2 _ (by rw [val_inc]; omega) (by rw [val_inc]; omega)
      have har1 : AR φ1 nt none (Tr.set (some (.agg (.map (true :: s.c) :: defersOf T))) dk T) { a with defers := [{ target := .collected w.heap.size, args := #[] }] ++ a.defers } :=
        (ht.mono hst1.ext).defer (.mark hself1 (ht.dr.mono hst1.ext))
      have hst2 := Step.put (φ := φ1) ((w.alloc (.deferred (some []))).heap.size, 0, 0) hc1
      have hsz : (w.alloc (.deferred (some []))).heap.size = w.heap.size + 1 := World.size_alloc _ _
      have har2 := har1.mono hst2.ext
      have hw2 := hw1.push (o := .loop { state := .ready, pending := none, fn := fn, tmps := a.tmps, params := ps, assign := as, body := body, defers := w.heap.size })
        (e := .loop (inc s.c) .ready R nt ps as body) hc1 rfl
        ⟨_, (0, 0), _, by simp [Phi.put], Nat.le_trans hw.below.size (by rw [hsz]; omega), World.alloc_heap_new _ _, rfl, rfl, rfl, rest_TR hR har2.tr, ⟨rfl, rfl⟩, rest_none hR⟩
      have hfr : Fresh (φ1.put (inc s.c) ((w.alloc (.deferred (some []))).heap.size, 0, 0)) (inc (inc s.c)) s'.c := by
        have h1 : Fresh φ1 (inc s.c) s'.c := hf.right hst1 (by rw [val_inc]; omega)
        exact h1.right hst2 (by simp only [val_inc]; omega)
      have hev := ht.tr.opd hf.1 x p hp
      rw [hx] at hev
      generalize hvx : a.eval x = vx at hev
      cases hev with
      | func q1 q2 =>
        rename_i fs ca
        have hstep : ∀ φ', Step (φ1.put (inc s.c) ((w.alloc (.deferred (some []))).heap.size, 0, 0)) φ' (inc (inc s.c)) s'.c → Step φ φ' s.c s'.c := fun φ' g1 =>
          (hst1.trans hst2 (by simp only [val_inc]; omega) (by simp only [val_inc]; omega)).trans g1 (by simp only [val_inc]; omega) (by simp only [val_inc]; omega)
        obtain ⟨d, w1', f, args, w2, e1, e2, e3, e4, e5⟩ := hs (w := w.alloc (.deferred (some []))) (l := w.heap.size + 1) (mark := [{ target := .collected w.heap.size, args := #[] }]) (fn := fn) (r := default) (Q := Q) (a := a) hfr hw2 hsz.symm (by have := hw.below.size; omega) hvx
          ((q1.mono hst1.ext).mono hst2.ext) ((q2.mono hst1.ext).mono hst2.ext) rfl har2 (fun φ' w' g1 g2 g3 => hq φ' _ w' (hstep φ' g1) g2 g3)
        exact ⟨w.heap.size + 1, _, _, d, w1', f, args, w2, run_enterLoop_outer _ _ _ _ _, e1, e2, e3, e4, e5⟩
    | some kv =>
      rw [hr] at h
      obtain ⟨k, rfl, h⟩ := asMap_ok (show known kv s.J _ = true from h)
      rcases findJ_ok h with ⟨st0, T0, nt0, ps0, a0, b0, hm0, h⟩ | ⟨_, hf0⟩
      rotate_left
      · exact absurd hf0 (by decide)
      obtain ⟨R, hR, e, s', hK, hv, hs⟩ := rangeIn_sound (x := x) hN hC _ _ K hb h
      refine ⟨e, _, s', hK, by omega, fun {w0 φ w a ro Q} hf hw ht hq => ?_⟩
      obtain ⟨l0, q0, hk0, rfl⟩ := ro_eq ht.ro hr
      refine wpIn_rangeFunc fun fn _ => ?_
      obtain ⟨l0', q0', r0, j1, j2, j3, _⟩ := hw.loops.all _ hm0
      rw [hk0] at j1; cases j1
      have hc0 : φ s.c = none := hf.2 s.c (Nat.le_refl _) (by omega)
      have hst1 := Step.put (φ := φ) (w.heap.size, 0, 0) hc0
      have har1 := ht.mono hst1.ext
      have hw1 := hw.push (o := .loop { state := .ready, pending := none, fn := fn, tmps := a.tmps, params := ps, assign := as, body := body, defers := r0.defers })
        (e := .loop s.c .ready R nt ps as body) hc0 rfl
        ⟨_, (0, 0), _, by simp [Phi.put], hw.below.size, World.alloc_heap_new _ _, rfl, rfl, rfl, rest_TR hR har1.tr, ⟨rfl, rfl⟩, rest_none hR⟩
      have hfr : Fresh (φ.put s.c (w.heap.size, 0, 0)) (inc s.c) s'.c := hf.right hst1 (by rw [val_inc]; omega)
      have hev := ht.tr.opd hf.1 x p hp
      rw [hx] at hev
      generalize hvx : a.eval x = vx at hev
      cases hev with
      | func q1 q2 =>
        rename_i fs ca
        obtain ⟨d, w1', f, args, w2, e1, e2, e3, e4, e5⟩ := hs (w := w) (l := w.heap.size) (mark := []) (fn := fn) (r := default) (Q := Q) (a := a) hfr hw1 rfl hw.below.size hvx
          (q1.mono hst1.ext) (q2.mono hst1.ext) rfl har1 (fun φ' w' g1 g2 g3 => hq φ' _ w' (hst1.trans g1 (by rw [val_inc]; omega) (by rw [val_inc]; omega)) g2 g3)
        exact ⟨w.heap.size, _, _, d, w1', f, args, w2, run_enterLoop_inner j3 _ _ _ _ _, e1, e2, e3, e4, e5⟩
  | _ => exact absurd (show false = true from h) (by decide)
theorem iter_sound {c : Code} {f : Tr EV → St → CodeK → Ans} (hf : ∀ T s K, f T s K = true → ∃ e T' s', K e T' s' = true ∧ val s.c ≤ val s'.c ∧ CodeOk P nt c T s e T' s') :
    ∀ (n : Nat) (T : Tr EV) (s : St) (K : CodeK), iter f n T s K = true → ∃ e T' s', K e T' s' = true ∧ val s.c ≤ val s'.c ∧
      ∀ {w0 : World} {φ : Phi} {w : World} {a : Act} {ro : Option Nat} {Q : Exit → Act → World → Prop}, Fresh φ s.c s'.c → WR w0 φ s w → AR φ nt ro T a →
        (∀ φ' a' w', Step φ φ' s.c s'.c → AR φ' nt ro T' a' → WR w0 φ' s' w' → Q (exOf e) a' w') → Code.roundsIn (Wd ro) 0 P c Q n a w := by
  intro n
  induction n with
  | zero => intro T s K h; exact absurd (show false = true from h) (by decide)
  | succ n ih =>
    intro T s K h
    obtain ⟨e, T1, s1, h1, h2, h3⟩ := hf T s _ h
    rcases exR_cases h1 with ⟨rfl, h1⟩ | ⟨i, rfl, h1⟩ | ⟨rfl, h1⟩
    · obtain ⟨e, T', s', h4, h5, h6⟩ := ih T1 s1 K h1
      refine ⟨e, T', s', h4, by omega, fun {w0 φ w a ro Q} hf hw ht hq => ?_⟩
      show c.wpIn (Wd ro) 0 P (Exit.then (Code.roundsIn (Wd ro) 0 P c Q n) Q) a w
      refine h3 (hf.left h5) hw ht fun φ1 a1 w1 g1 g2 g4 => ?_
      exact h6 (hf.right g1 h2) g4 g2 fun φ' a' w' k1 k2 k4 => hq φ' a' w' (g1.trans k1 h2 h5) k2 k4
    · refine ⟨_, T1, s1, h1, h2, fun {w0 φ w a ro Q} hf hw ht hq => ?_⟩
      show c.wpIn (Wd ro) 0 P (Exit.then (Code.roundsIn (Wd ro) 0 P c Q n) Q) a w
      exact h3 hf hw ht fun φ1 a1 w1 g1 g2 g4 => hq φ1 a1 w1 g1 g2 g4
    · refine ⟨_, T1, s1, h1, h2, fun {w0 φ w a ro Q} hf hw ht hq => ?_⟩
      show c.wpIn (Wd ro) 0 P (Exit.then (Code.roundsIn (Wd ro) 0 P c Q n) Q) a w
      exact h3 hf hw ht fun φ1 a1 w1 g1 g2 g4 => hq φ1 a1 w1 g1 g2 g4
/-- what holds when a round begins -/
theorem bRf_ok {x : Bool} {y : Bool} (h : bR x y false = true) : x = true ∧ y = true := by
  cases x with
  | true => exact ⟨rfl, h⟩
  | false => exact absurd (show false = true from h) (by decide)
theorem nilB_ok {α : Type} {l : List α} (h : nilB l = true) : l = [] := by cases l with | nil => rfl | cons x l => exact absurd (show false = true from h) (by decide)
theorem samePs_ok : ∀ {l m : List (EV × EV)}, samePs l m = true → m = l
  | [], m, h => nilB_ok h
  | p :: l, [], h => absurd (show false = true from h) (by decide)
  | (p1, p2) :: l, (q1, q2) :: m, h => by
    obtain ⟨h1, h⟩ := bRf_ok (show bR (evSame 6 p1 q1) (bR (evSame 6 p2 q2) (samePs l m) false) false = true from h)
    obtain ⟨h2, h⟩ := bRf_ok h
    rw [evSame_ok _ _ _ h1, evSame_ok _ _ _ h2, samePs_ok h]
theorem sameJS_ok {s s' : JS} (h : sameJS s s' = true) : s' = s := by
  cases s <;> cases s' <;> first | rfl | exact absurd (show false = true from h) (by decide)
theorem sameE_ok {φ φ1 : Phi} {w0 w w1 : World} {e e' : JE} (h : sameE e e' = true) (g : EOk φ w0 w e) (g1 : EOk φ1 w0 w1 e') : EOk φ1 w0 w1 e ∧ e'.key = e.key := by
  cases e with
  | loop k st T nt ps a b =>
    cases e' with
    | loop k' st' T' nt' ps' a' b' =>
      obtain ⟨h1, h⟩ := bRf_ok (show bR (sameB k k') (bR (sameJS st st') (bR (Nat.beq nt nt') (bR (keepsT (upto nt) [] T T') (dec (sameRT ps a b ps' a' b')) false) false) false) false = true from h)
      obtain ⟨h2, h⟩ := bRf_ok h
      obtain ⟨h3, h⟩ := bRf_ok h
      obtain ⟨h4, h5⟩ := bRf_ok h
      have h1 := sameB_ok h1
      subst h1
      have h2 := sameJS_ok h2
      have h3 := Nat.eq_of_beq_eq_true h3
      obtain ⟨h6, h7, h8⟩ := dec_iff.1 h5
      subst h2 h3 h6 h7 h8
      obtain ⟨_, _, _, _, _, _, _, _, _, _, _, hn⟩ := g
      obtain ⟨l, q, r, i1, i2, i3, i4, i5, i6, i7, i8, i9⟩ := g1
      refine ⟨⟨l, q, r, i1, i2, i3, i4, i5, i6, ⟨i7.1, fun t => ?_⟩, i8, hn⟩, rfl⟩
      have e7 := i7.2 t
      unfold getT at e7 ⊢
      cases hT : T.get (key t) with
      | none => exact .any _
      | some v =>
        rcases Nat.lt_or_ge t nt with c | c
        · rw [keepsT_ok h4 t v (upto_mem c) rfl hT] at e7
          exact e7
        · rw [hn t c] at hT; cases hT
    | _ => exact absurd (show false = true from h) (by decide)
  | dfr k =>
    cases e' with
    | dfr k' =>
      have e1 := sameB_ok (show sameB k k' = true from h)
      subst e1
      exact ⟨g1, rfl⟩
    | _ => exact absurd (show false = true from h) (by decide)
  | mp k l =>
    cases e' with
    | mp k' l' =>
      obtain ⟨h1, h2⟩ := bRf_ok (show bR (sameB k k') (samePs l l') false = true from h)
      have e1 := sameB_ok h1
      have e2 := samePs_ok h2
      subst e1 e2
      exact ⟨g1, rfl⟩
    | _ => exact absurd (show false = true from h) (by decide)
theorem eqJ_ok {φ φ1 : Phi} {w0 w w1 : World} : ∀ {J J' : List JE}, eqJ J J' = true → (∀ e ∈ J, EOk φ w0 w e) → (∀ e ∈ J', EOk φ1 w0 w1 e) → (∀ e ∈ J, EOk φ1 w0 w1 e) ∧ J'.map JE.key = J.map JE.key
  | [], m, h, _, _ => by
    have e : m = [] := nilB_ok h
    subst e
    exact ⟨(fun e he => by cases he), rfl⟩
  | e :: J, [], h, _, _ => absurd (show false = true from h) (by decide)
  | e :: J, e' :: m, h, g, g1 => by
    obtain ⟨h1, h⟩ := bRf_ok (show bR (sameE e e') (eqJ J m) false = true from h)
    obtain ⟨a1, a2⟩ := sameE_ok h1 (g e List.mem_cons_self) (g1 e' List.mem_cons_self)
    obtain ⟨b1, b2⟩ := eqJ_ok h (fun x hx => g x (List.mem_cons_of_mem _ hx)) (fun x hx => g1 x (List.mem_cons_of_mem _ hx))
    refine ⟨fun x hx => ?_, by rw [List.map_cons, List.map_cons, a2, b2]⟩
    rcases List.mem_cons.1 hx with rfl | hx
    · exact a1
    · exact b1 x hx
theorem eqJ_JOk {φ φ1 : Phi} {w0 w w1 : World} {J J' : List JE} (h : eqJ J J' = true) (g : JOk φ w0 w J) (g1 : JOk φ1 w0 w1 J') : JOk φ1 w0 w1 J := by
  obtain ⟨a1, a2⟩ := eqJ_ok h g.all g1.all
  refine ⟨a1, ?_⟩
  have h1 : (J'.map JE.key).Pairwise (fun a b => ∀ p p', φ1 a = some p → φ1 b = some p' → p.1 ≠ p'.1) := List.pairwise_map.2 g1.apart
  rw [a2] at h1
  exact (List.pairwise_map (f := JE.key)).1 h1
theorem sameJ_ok {J J' : List JE} {k : Ans} (h : sameJ J J' k = true) : eqJ J J' = true ∧ k = true :=
  let ⟨h1, h2⟩ := guard_ok h; ⟨h1, h2⟩
structure HeadIn (w0 : World) (φ : Phi) (nt : Nat) (ro : Option Nat) (sp : LSpec) (T : Tr EV) (c : List Bool) (R : List Heap) (J : List JE) (kept : List (List Bool × Blk)) (vs : List EV) (dss : List (List DV)) (w : World) (a : Act) : Prop where
  wr : WR w0 φ ⟨c, heapL kept, R, J⟩ w
  ar : AR φ nt ro (headT sp.keep sp.slots T) a
  sl : ∃ locs, HoldsPs w0 φ w a sp.slots vs dss locs ∧ Apart3 locs ∧ ∀ r, some r ∈ locs → Off φ (heapL kept) r
theorem wpIn_mono_exit {c : Code} {F : Fence} {n : Nat} {Q : Exit → Act → World → Prop} {a : Act} {w : World} (h : c.wpIn F n P Q a w) : c.wpIn F n P Q a w := h
theorem loopB_sound {sp : LSpec} {a : PC} {c : Code} (ha : ∀ (n : Nat) (T : Tr EV) (s : St) (K : CodeK), a.run C n T s K = true → ∃ e T' s', K e T' s' = true ∧ val s.c ≤ val s'.c ∧ CodeOk P nt c T s e T' s')
    {n : Nat} {T : Tr EV} {s : St} {K : CodeK} {g : List DV} {vs : List EV} {dss0 : List (List DV)} {κs : List (Option (List Bool))} {kept : List (List Bool × Blk)} {cE : List Bool} (hkept : kept = keptB s.L sp.slots (ownKeys sp.slots vs) (keysFrom (Nat.pred (valL s.c)) [true])) (hcE : val s.c ≤ val cE)
    (hsh : Shapes sp.slots dss0) (hkey : Keys sp.slots vs κs) (hdk : T.get dk = none)
    (hseen : ∀ {w0 : World} {φ : Phi} {w : World} {a : Act} {nt : Nat} {ro : Option Nat}, (∀ b ∈ ownKeys sp.slots vs, ∃ k, s.L.get b = some k ∧ k.fz = false) → WR w0 φ s w → AR φ nt ro T a → ∃ locs, HoldsPs w0 φ w a sp.slots vs dss0 locs ∧ Froms φ s κs locs ∧ Seens φ w a sp.slots vs)
    (h : kLoopB nt sp a g vs (flatD dss0) kept cE C n T s K = true) : ∃ e T' s', K e T' s' = true ∧ val s.c ≤ val s'.c ∧ CodeOk P nt (.loop c) T s e T' s' := by
  obtain ⟨hdist, h⟩ := guard_ok h
  obtain ⟨hown, h⟩ := guard_ok h
  obtain ⟨hinv0, hhead⟩ := reqB_ok h
  have hown := ownedK_ok hown
  have hdist := distinctK_ok hdist
  have nm : NoMate (heapL kept) := fun b k hb => by rw [hkept] at hb; exact keptB_mate hb
  -- from the head, whatever the slots hold
  have main : ∀ (m : Nat) (dss : List (List DV)), Shapes sp.slots dss → sp.inv g (flatD dss) → sp.mea g (flatD dss) = m →
      ∃ N e T' s', K e T' s' = true ∧ s'.c = cE ∧ ∀ {w0 : World} {φ : Phi} {w : World} {a : Act} {ro : Option Nat} {Q : Exit → Act → World → Prop}, Fresh φ s.c cE → (∃ w, WR w0 φ s w) → (∃ w a, AR φ nt ro T a ∧ Seens φ w a sp.slots vs) →
        HeadIn w0 φ nt ro sp T s.c s.R s.J kept vs dss w a → (∀ φ' a' w', Step φ φ' s.c cE → AR φ' nt ro T' a' → WR w0 φ' s' w' → Q (exOf e) a' w') → Code.roundsIn (Wd ro) 0 P c Q N a w := by
    intro m
    induction m using Nat.strongRecOn with
    | _ m ih =>
      intro dss hs hinv hmea
      obtain ⟨TH, sH, h1, h2, h3, h4, h5⟩ := headPs_ok hs hhead
      have hrun := impB_ok h1 hinv
      obtain ⟨e1, T1, s1, k1, k2, k3⟩ := ha n TH sH _ hrun
      -- the round's run, in the world
      have round : val s1.c ≤ val cE → ∀ {w0 : World} {φ : Phi} {w : World} {a : Act} {ro : Option Nat} {Q' : Exit → Act → World → Prop}, Fresh φ s.c cE → HeadIn w0 φ nt ro sp T s.c s.R s.J kept vs dss w a →
          (∀ φ1 a1 w1, Ext2 φ φ1 → Step φ φ1 s.c s1.c → AR φ1 nt ro T1 a1 → WR w0 φ1 s1 w1 → Q' (exOf e1) a1 w1) → c.wpIn (Wd ro) 0 P Q' a w := by
        intro hle w0 φ w a ro Q' hfr hin hq
        obtain ⟨locs, hl1, hl2, hl3⟩ := hin.sl
        have h2' : val s.c ≤ val sH.c := h2
        obtain ⟨φH, q1, q2, q3⟩ := h5 hl1 hl2 hl3 (fun b g1 g2 => hfr.2 b g1 (by omega)) nm hin.wr hin.ar
        have q1 : Step φ φH s.c sH.c := q1
        refine k3 ((hfr.right q1 h2').left hle) q2 q3 fun φ1 a1 w1 r1 r2 r3 => hq φ1 a1 w1 (q1.ext.trans r1.ext) (q1.trans r1 h2' k2) r2 r3
      rcases exR_cases k1 with ⟨rfl, k1⟩ | ⟨i, rfl, k1⟩ | ⟨rfl, k1⟩
      · obtain ⟨hJ1, k1⟩ := sameJ_ok (show backK nt s.J sp T kept g vs (flatD dss) cE T1 s1 = true from k1)
        obtain ⟨hd1, k1⟩ := noneR_ok k1
        obtain ⟨hle, k1⟩ := guard_ok k1
        have hle := Nat.le_of_ble_eq_true hle
        rw [valL_eq, valL_eq] at hle
        obtain ⟨hkT, k1⟩ := guard_ok k1
        obtain ⟨hkL, k1⟩ := guard_ok k1
        obtain ⟨vs1, dss1, κs1, k1, hs1, hkey1, hsee1⟩ := exPs_ok k1
        obtain ⟨hwin, k1⟩ := guard_ok k1
        obtain ⟨hdist1, k1⟩ := guard_ok k1
        obtain ⟨hown1, k1⟩ := guard_ok k1
        obtain ⟨hnone, k1⟩ := guard_ok k1
        obtain ⟨hinv1, k1⟩ := reqB_ok k1
        obtain ⟨hmea1, _⟩ := reqB_ok k1
        have hdist1 := distinctK_ok hdist1
        have hown1 := ownedK_ok hown1
        obtain ⟨N, e, T', s', g1, g2, g3⟩ := ih _ (by rw [← hmea]; exact hmea1) dss1 hs1 hinv1 rfl
        refine ⟨N + 1, e, T', s', g1, g2, fun {w0 φ w a ro Q} hfr hw0 ha0 hin hq => ?_⟩
        show c.wpIn (Wd ro) 0 P (Exit.then (Code.roundsIn (Wd ro) 0 P c Q N) Q) a w
        refine round hle hfr hin fun φ1 a1 w1 hx hst r2 r3 => ?_
        show Code.roundsIn (Wd ro) 0 P c Q N a1 w1
        obtain ⟨wE, hwE⟩ := hw0
        obtain ⟨wS, aE, haE, hsE⟩ := ha0
        obtain ⟨locs1, f1, f2, _⟩ := hsee1 (fun b hb => by obtain ⟨k, t1, t2, _⟩ := hown1 b hb; exact ⟨k, t1, t2⟩) r3 r2
        have hkL' : ∀ p ∈ keptB s.L sp.slots (ownKeys sp.slots vs) (keysFrom (Nat.pred (valL s.c)) [true]), ∃ k, s1.L.get p.1 = some k ∧ sameBlk p.2 k = true := by rw [← hkept]; exact keepsL_ok hkL
        refine g3 hfr ⟨wE, hwE⟩ ⟨wS, aE, haE, hsE⟩ ⟨?_, kept_AR hx haE r2 hd1 (keepsT_ok hkT), locs1, f1.rekey hx hsE hwin, ?_, ?_⟩ hq
        · rw [hkept]; exact kept_WR hx hwE r3 hwE.ro hkL' (fun g g1 => eqJ_JOk hJ1 g g1)
        · rw [hkey1.own] at hdist1 hown1
          exact f2.apart r3 hdist1 hown1
        · intro r hr
          rw [hkept]
          have hnone := noneIn_ok hnone
          rw [hkept] at hnone
          refine kept_off (own1 := ownKeys sp.slots vs1) hx hwE r3 hkL' hnone hown1 ?_
          rw [hkey1.own]
          exact f2.mem r hr
      · obtain ⟨hle, k1⟩ := guard_ok k1
        have hle := Nat.le_of_ble_eq_true hle
        rw [valL_eq, valL_eq] at hle
        refine ⟨1, _, _, _, k1, rfl, fun {w0 φ w a ro Q} hfr _ _ hin hq => ?_⟩
        show c.wpIn (Wd ro) 0 P (Exit.then (Code.roundsIn (Wd ro) 0 P c Q 0) Q) a w
        refine round hle hfr hin fun φ1 a1 w1 hx hst r2 r3 => ?_
        exact hq φ1 a1 w1 ⟨hst.ext, fun b hb => hst.out b (by omega)⟩ r2 ⟨r3.below, r3.ro, r3.loc, r3.apart, r3.loops⟩
      · obtain ⟨hle, k1⟩ := guard_ok k1
        have hle := Nat.le_of_ble_eq_true hle
        rw [valL_eq, valL_eq] at hle
        refine ⟨1, _, _, _, k1, rfl, fun {w0 φ w a ro Q} hfr _ _ hin hq => ?_⟩
        show c.wpIn (Wd ro) 0 P (Exit.then (Code.roundsIn (Wd ro) 0 P c Q 0) Q) a w
        refine round hle hfr hin fun φ1 a1 w1 hx hst r2 r3 => ?_
        exact hq φ1 a1 w1 ⟨hst.ext, fun b hb => hst.out b (by omega)⟩ r2 ⟨r3.below, r3.ro, r3.loc, r3.apart, r3.loops⟩
  obtain ⟨N, e, T', s', g1, g2, g3⟩ := main _ dss0 hsh hinv0 rfl
  refine ⟨e, T', s', g1, by rw [g2]; exact hcE, fun {w0 φ w a ro Q} hfr hw har hq => wpIn_loop_rounds N ?_⟩
  rw [g2] at hfr
  obtain ⟨locs, f1, f2, f3⟩ := hseen (fun b hb => by obtain ⟨k, t1, t2, _⟩ := hown b hb; exact ⟨k, t1, t2⟩) hw har
  refine g3 hfr ⟨w, hw⟩ ⟨w, a, har, f3⟩ ⟨?_, kept_AR (Ext2.refl _) har har hdk (fun t v _ _ h => h), locs, f1, ?_, ?_⟩ fun φ' a' w' r1 r2 r3 => hq φ' a' w' (by rw [g2]; exact r1) r2 r3
  · rw [hkept]; exact kept_WR0 hw
  · rw [hkey.own] at hdist hown
    exact f2.apart hw hdist hown
  · intro r hr b k p hb hre hp
    rw [hkept] at hb
    have hm := heapL_get hb
    obtain ⟨_, hno, k0, q1, q2, q3⟩ := keptB_mem hm
    have q3 : k = blank b sp.slots k0 := q3
    obtain ⟨b', hb', k2, δ, S, t1, t2, t3⟩ := f2.mem r hr
    rw [← hkey.own] at hb'
    obtain ⟨k3, u1, u2, u3⟩ := hown b' hb'
    rw [t1] at u1; cases u1
    have hre0 : Real φ b k0 ∧ (k0.fz = true → k2.fz = false) := by
      refine ⟨fun hg => hre ?_, fun _ => u2⟩
      rw [q3]
      cases hfl : flatB k0 with
      | true => exact absurd (flatB_ok hfl) hg.1.1
      | false => unfold blank; rw [hfl, bR_false]; exact ⟨hg.1, hg.2⟩
    exact hw.apart b b' k0 k2 p _ q1 t1 (fun e => hno b' hb' e.symm) (by rw [q2]; exact fun e => by cases e) ⟨hre0.1, t2, hre0.2⟩ hp t3
theorem numsD_ok : ∀ {cs : List EV} {K : List DV → Ans}, numsD cs K = true → ∃ d, K d = true
  | [], K, h => ⟨_, h⟩
  | v :: l, K, h => by
    rcases asNum2_ok (show asNum2 v (fun _ n => numsD l fun r => K (.n n :: r)) (fun _ n _ _ => numsD l fun r => K (.n n :: r)) = true from h) with ⟨_, n, _, h1⟩ | ⟨_, n, _, _, h1, _⟩
    · obtain ⟨d, h2⟩ := numsD_ok h1; exact ⟨_, h2⟩
    · obtain ⟨d, h2⟩ := numsD_ok h1; exact ⟨_, h2⟩
theorem aggOr_ok {v : EV} {ka : List EV → Ans} {kn : Ans} (h : aggOr v ka kn = true) : (∃ cs, ka cs = true) ∨ kn = true := by
  cases v <;> first | exact .inr h | exact .inl ⟨_, h⟩
theorem exG_ok {T : Tr EV} {s : St} {p : Place} {c : CX} {K : List DV → Ans} (h : exG T s p c K = true) : ∃ d, K d = true := by
  cases p with
  | cell b o => obtain ⟨_, d, h1, _⟩ := exP_ok (show exP T s (.cell b o) c (fun _ d => K d) = true from h); exact ⟨d, h1⟩
  | tmp t =>
    rcases aggOr_ok (show aggOr (getT (key t) T) (fun cs => numsD cs K) (exP T s (.tmp t) c fun _ d => K d) = true from h) with ⟨cs, h1⟩ | h1
    · exact numsD_ok h1
    · obtain ⟨_, d, h1, _⟩ := exP_ok h1; exact ⟨d, h1⟩
  | blk b => obtain ⟨_, d, h1, _⟩ := exP_ok (show exP T s (.blk b) c (fun _ d => K d) = true from h); exact ⟨d, h1⟩
theorem exGs_ok {T : Tr EV} {s : St} : ∀ {ps : List (Place × CX)} {K : List DV → Ans}, exGs T s ps K = true → ∃ d, K d = true
  | [], K, h => ⟨_, h⟩
  | p :: ps, K, h => by
    obtain ⟨d, h1⟩ := exG_ok (show exG T s p.1 p.2 (fun d => exGs T s ps fun ds => K (appN d ds)) = true from h)
    obtain ⟨ds, h2⟩ := exGs_ok h1
    exact ⟨_, h2⟩
theorem loopA_sound {sp : LSpec} {a : PC} {c : Code} (ha : ∀ (n : Nat) (T : Tr EV) (s : St) (K : CodeK), a.run C n T s K = true → ∃ e T' s', K e T' s' = true ∧ val s.c ≤ val s'.c ∧ CodeOk P nt c T s e T' s')
    {n : Nat} {T : Tr EV} {s : St} {K : CodeK} (h : kLoopA nt sp a C n T s K = true) : ∃ e T' s', K e T' s' = true ∧ val s.c ≤ val s'.c ∧ CodeOk P nt (.loop c) T s e T' s' := by
  obtain ⟨hdk, h⟩ := noneR_ok h
  obtain ⟨gd, h⟩ := exGs_ok h
  obtain ⟨vs, dss0, κs, h, hsh, hkey, hseen⟩ := exPs_ok h
  refine loopB_sound ha rfl ?_ hsh hkey hdk hseen h
  rw [val_key, valL_eq]
  show val s.c ≤ val s.c + sp.room
  omega
theorem code_sound (hm : P.follows .mixedOrders = true) (hN : NamesOk P) (hC : CallSound P C) (A : LT) : ∀ (c : Code) (pth n : Nat) (T : Tr EV) (s : St) (K : CodeK), (cCode P A nt pth c).run C n T s K = true → ∃ e T' s', K e T' s' = true ∧ val s.c ≤ val s'.c ∧ CodeOk P nt c T s e T' s' := by
  intro c
  induction c with
  | skip => intro pth n T s K h; exact ⟨.normal, T, s, h, Nat.le_refl _, fun _ hw ht hq => wpIn_skip (hq _ _ _ (Step.refl _ _) ht hw)⟩
  | region id ops draw =>
    intro pth n T s K h
    cases draw with
    | true =>
      obtain ⟨T', s', h1, h2, h3⟩ := draw_sound hm hC T s (fun T s => K .normal T s) h
      exact ⟨.normal, T', s', h1, h2, fun hf hw ht hq => h3 id hf hw ht hq⟩
    | false =>
      obtain ⟨T', s', h1, h2, h3⟩ := ops_sound hC ops.toList 0 (fun j => by simp) T s (fun T s => K .normal T s) h
      refine ⟨.normal, T', s', h1, h2, fun hf hw ht hq => wpIn_region ?_⟩
      have := h3 (Q := _) hf hw ht hq
      rwa [← List.range_eq_range', Array.length_toList] at this
  | seq x y ihx ihy =>
    intro pth n T s K h
    obtain ⟨e, T1, s1, h1, h2, h3⟩ := ihx _ n T s _ h
    rcases exR_cases h1 with ⟨rfl, h1⟩ | ⟨i, rfl, h1⟩ | ⟨rfl, h1⟩
    · obtain ⟨e, T', s', h4, h5, h6⟩ := ihy _ n T1 s1 K h1
      refine ⟨e, T', s', h4, by omega, fun {w0 φ w a ro Q} hf hw ht hq => wpIn_seq (h3 (hf.left h5) hw ht fun φ1 a1 w1 g1 g2 g4 => ?_)⟩
      exact h6 (hf.right g1 h2) g4 g2 fun φ' a' w' k1 k2 k4 => hq φ' a' w' (g1.trans k1 h2 h5) k2 k4
    · exact ⟨_, T1, s1, h1, h2, fun {w0 φ w a ro Q} hf hw ht hq => wpIn_seq (h3 hf hw ht fun φ1 a1 w1 g1 g2 g4 => hq φ1 a1 w1 g1 g2 g4)⟩
    · exact ⟨_, T1, s1, h1, h2, fun {w0 φ w a ro Q} hf hw ht hq => wpIn_seq (h3 hf hw ht fun φ1 a1 w1 g1 g2 g4 => hq φ1 a1 w1 g1 g2 g4)⟩
  | cond x a b iha ihb =>
    intro pth n T s K h
    simp only [cCode] at h
    split at h
    · rename_i p hp
      obtain ⟨T1, h, hsame⟩ := settleO_ok (show settleO (tmpK x) T (fun T => asBool (p.run T) (fun t => bR t ((cCode P A nt (2 * pth) a).run C n T s K) ((cCode P A nt (2 * pth + 1) b).run C n T s K))) = true from h)
      obtain ⟨t, ht, h1⟩ := asBool_ok h
      have hc : ∀ {φ : Phi} {ac : Act} {ro : Option Nat}, GR φ → AR φ nt ro T ac → ac.eval x = .bool t := by
        intro φ ac ro hg htr
        have := (htr.same hsame).tr.opd hg x p hp
        rw [ht] at this
        generalize ac.eval x = v at this
        cases this; rfl
      cases t with
      | true =>
        obtain ⟨e, T', s', h2, h3, h4⟩ := iha _ n T1 s K h1
        exact ⟨e, T', s', h2, h3, fun hf hw htr hq => wpIn_cond_true (hc hf.1 htr) (h4 hf hw (htr.same hsame) hq)⟩
      | false =>
        obtain ⟨e, T', s', h2, h3, h4⟩ := ihb _ n T1 s K h1
        exact ⟨e, T', s', h2, h3, fun hf hw htr hq => wpIn_cond_false (hc hf.1 htr) (h4 hf hw (htr.same hsame) hq)⟩
    · exact absurd (show false = true from h) (by decide)
  | block id c ih =>
    intro pth n T s K h
    obtain ⟨e, T1, s1, h1, h2, h3⟩ := ih _ n T s _ h
    rcases exR_cases h1 with ⟨rfl, h1⟩ | ⟨i, rfl, h1⟩ | ⟨rfl, h1⟩
    · exact ⟨.normal, T1, s1, h1, h2, fun {w0 φ w a ro Q} hf hw ht hq => wpIn_block (h3 hf hw ht fun φ1 a1 w1 g1 g2 g4 => hq φ1 a1 w1 g1 g2 g4)⟩
    · rename_i hdup
      have hB : bR (Nat.beq i id) (K .normal T1 s1) (K (.exit i) T1 s1) = true := h1
      cases hi : Nat.beq i id with
      | true =>
        rw [hi] at hB
        have h1 : K .normal T1 s1 = true := hB
        have hid := Nat.eq_of_beq_eq_true hi
        refine ⟨.normal, T1, s1, h1, h2, fun {w0 φ w a ro Q} hf hw ht hq => wpIn_block (h3 hf hw ht fun φ1 a1 w1 g1 g2 g4 => ?_)⟩
        show (if i = id then Q .normal a1 w1 else Q (.exit i) a1 w1)
        rw [if_pos hid]; exact hq φ1 a1 w1 g1 g2 g4
      | false =>
        rw [hi] at hB
        have h1 : K (.exit i) T1 s1 = true := hB
        have hid : i ≠ id := fun e => by subst e; simp at hi
        refine ⟨.exit i, T1, s1, h1, h2, fun {w0 φ w a ro Q} hf hw ht hq => wpIn_block (h3 hf hw ht fun φ1 a1 w1 g1 g2 g4 => ?_)⟩
        show (if i = id then Q .normal a1 w1 else Q (.exit i) a1 w1)
        rw [if_neg hid]; exact hq φ1 a1 w1 g1 g2 g4
    · exact ⟨.ret, T1, s1, h1, h2, fun {w0 φ w a ro Q} hf hw ht hq => wpIn_block (h3 hf hw ht fun φ1 a1 w1 g1 g2 g4 => hq φ1 a1 w1 g1 g2 g4)⟩
  | loop c ih =>
    intro pth n T s K h
    have h : Option.rec (motive := fun _ => Ans) (kLoop (cCode P A nt (2 * pth) c) C n T s K) (fun sp => kLoopA nt sp (cCode P A nt (2 * pth) c) C n T s K) (A pth s.c) = true := h
    cases hsp : A pth s.c with
    | some sp => rw [hsp] at h; exact loopA_sound (fun n T s K h => ih _ n T s K h) h
    | none =>
      rw [hsp] at h
      obtain ⟨e, T', s', h1, h2, h3⟩ := iter_sound (P := P) (nt := nt) (c := c) (f := (cCode P A nt (2 * pth) c).run C n) (fun T s K h => ih _ n T s K h) n T s K h
      exact ⟨e, T', s', h1, h2, fun {w0 φ w a ro Q} hf hw ht hq => wpIn_loop_rounds n (h3 hf hw ht hq)⟩
  | exit id => intro pth n T s K h; exact ⟨.exit id, T, s, h, Nat.le_refl _, fun _ hw ht hq => wpIn_exit (hq _ _ _ (Step.refl _ _) ht hw)⟩
  | ret => intro pth n T s K h; exact ⟨.ret, T, s, h, Nat.le_refl _, fun _ hw ht hq => wpIn_ret (hq _ _ _ (Step.refl _ _) ht hw)⟩
  | label l => intro pth n T s K h; exact ⟨.normal, T, s, h, Nat.le_refl _, fun _ hw ht hq => wpIn_label (hq _ _ _ (Step.refl _ _) ht hw)⟩
  | scope c ih =>
    intro pth n T s K h
    obtain ⟨e, T', s', h1, h2, h3⟩ := ih _ n T s K h
    refine ⟨e, T', s', h1, h2, fun {w0 φ w a ro Q} hf hw ht hq => wpIn_scope_straight (h3 hf hw ht fun φ' a' w' k1 k2 k4 => ?_)⟩
    have := hq φ' a' w' k1 k2 k4
    cases e <;> exact this
  | rangeFunc x ps as body iha ihb =>
    intro pth n T s K h
    simp only [cCode] at h
    split at h
    · rename_i p hp
      exact range_sound hN hC hp T s K h
    · exact absurd (show false = true from h) (by decide)
  | _ => intro pth n T s K h; exact absurd (show false = true from h) (by decide)

/-! ### results and functions -/
def resOne (tmps : Array Value) : ResultVar → Sem Value
  | .tmp t => pure (tmps.getD t undef)
  | .cell a t => do loadVar t (← Go.asAddr (tmps.getD a undef))
theorem results_eq (fn : Func) (tmps : Array Value) : results fn tmps = (do let vs ← fn.results.mapM (resOne tmps); pure (if h : vs.size = 1 then vs[0] else .tuple vs)) := by
  unfold results
  congr 1
theorem res_sound {T : Tr EV} {s : St} : ∀ {rs : List ResultVar} {ps : List PRes} {K : List EV → Ans}, cRes P rs = some ps → evRes T s ps K = true → ∃ l, K l = true ∧
    ∀ {w0 : World} {φ : Phi} {w : World} {tmps : Array Value}, WR w0 φ s w → TR φ nt T tmps → ∃ l' : List Value, VRs φ l l' ∧
      (rs.mapM (resOne tmps)).run P w = .ok l' w
  | [], ps, K, hp, h => by
    cases hp
    exact ⟨[], h, fun _ _ => ⟨[], .nil, rfl⟩⟩
  | .tmp t :: rs, ps, K, hp, h => by
    simp only [cRes] at hp
    cases hr : cRes P rs with
    | none => rw [hr] at hp; cases hp
    | some qs =>
      rw [hr] at hp; cases hp
      obtain ⟨l, h1, h2⟩ := res_sound hr (show evRes T s qs (fun l => K (getT (key t) T :: l)) = true from h)
      refine ⟨_, h1, fun {w0 φ w tmps} hw ht => ?_⟩
      obtain ⟨l', h3, h4⟩ := h2 hw ht
      refine ⟨_, .cons (ht.2 t) h3, ?_⟩
      simp only [List.mapM_cons, Sem.run_bind, resOne, Sem.run_pure, Result.andThen_ok, h4]
  | .cell a t :: rs, ps, K, hp, h => by
    simp only [cRes] at hp
    cases hr : cRes P rs with
    | none => rw [hr] at hp; split at hp <;> cases hp
    | some qs =>
      rw [hr] at hp
      split at hp
      · rename_i n h1 h2
        cases hp
        obtain ⟨b, o, hx, h3⟩ := asPtr_ok (show asPtr (getT (key a) T) (fun b o => loadB s b o n fun c => evRes T s qs fun l => K (.agg c :: l)) = true from h)
        obtain ⟨cs, h4, h5, h6⟩ := loadB_ok h3
        obtain ⟨l, h7, h8⟩ := res_sound hr h4
        refine ⟨_, h7, fun {w0 φ w tmps} hw ht => ?_⟩
        obtain ⟨l', g1, g2⟩ := h8 hw ht
        have hv := ht.2 a
        rw [hx] at hv
        generalize hva : tmps.getD a undef = va at hv
        cases hv with
        | ptr hφ =>
          obtain ⟨cs', e1, e2⟩ := h6 hw hφ
          refine ⟨.agg cs'.toArray :: l', .cons (.agg e1) g1, ?_⟩
          have hone : (resOne tmps (.cell a t)).run P w = .ok (.agg cs'.toArray) w := by
            simp only [resOne, Sem.run_bind, hva, Go.asAddr, Sem.run_pure, Result.andThen_ok, loadVar, run_isAgg' h1, if_true, run_sizeOf h2, run_loadCells' e2 (by rw [← e1.length, h5])]
          simp only [List.mapM_cons, Sem.run_bind, hone, Sem.run_pure, Result.andThen_ok, g2]
      · have h1 : isAggT P t = some false := by assumption
        cases hp
        obtain ⟨b, o, hx, h3⟩ := asPtr_ok (show asPtr (getT (key a) T) (fun b o => loadB s b o 1 fun c => oneV c fun v => evRes T s qs fun l => K (v :: l)) = true from h)
        obtain ⟨cs, h4, h5, h6⟩ := loadB_ok h3
        obtain ⟨v, rfl⟩ : ∃ v, cs = [v] := by
          cases cs with
          | nil => simp at h5
          | cons v l => cases l with | nil => exact ⟨v, rfl⟩ | cons _ _ => simp at h5
        obtain ⟨l, h7, h8⟩ := res_sound hr (show evRes T s qs (fun l => K (v :: l)) = true from h4)
        refine ⟨_, h7, fun {w0 φ w tmps} hw ht => ?_⟩
        obtain ⟨l', g1, g2⟩ := h8 hw ht
        have hv := ht.2 a
        rw [hx] at hv
        generalize hva : tmps.getD a undef = va at hv
        cases hv with
        | ptr hφ =>
          obtain ⟨cs', e1, e2⟩ := h6 hw hφ
          cases e1 with
          | cons k1 k2 =>
            cases k2
            have k3 := e2 0 _ rfl
            simp only [Nat.add_zero] at k3
            have hone : ∃ u, (resOne tmps (.cell a t)).run P w = .ok u w ∧ VR φ v u := ⟨_, by
              simp only [resOne, Sem.run_bind, hva, Go.asAddr, Sem.run_pure, Result.andThen_ok, loadVar, run_isAgg' h1, Bool.false_eq_true, if_false, run_load, k3], k1⟩
            obtain ⟨u, hu, hvu⟩ := hone
            refine ⟨_, .cons hvu g1, ?_⟩
            simp only [List.mapM_cons, Sem.run_bind, hu, Sem.run_pure, Result.andThen_ok, g2]
      · cases hp
theorem tup_ok {φ : Phi} {l : List EV} {l' : List Value} (h : VRs φ l l') : VR φ (tup l) (if h : l'.toArray.size = 1 then l'.toArray[0] else .tuple l'.toArray) := by
  cases h with
  | nil => exact VR.tuple (cs' := []) .nil
  | cons h1 h2 =>
    cases h2 with
    | nil => simpa [tup] using h1
    | cons h3 h4 => 
      rw [dif_neg (by simp)]
      exact VR.tuple (.cons h1 (.cons h3 h4))
theorem args0_ok {φ : Phi} {l : List EV} : ∀ {l' : List Value} {i : Nat} {T : Tr EV} (tmps : Nat → Value), VRs φ l l' → (∀ t, t < i → VR φ (getT (key t) T) (tmps t)) → (∀ t, i ≤ t → t < i + l'.length → some (tmps t) = l'[t - i]?) →
    (∀ t, i ≤ t → getT (key t) T = .any) → (∀ t, i + l'.length ≤ t → tmps t = undef) → ∀ t, VR φ (getT (key t) (args0 l i T)) (tmps t) := by
  induction l with
  | nil =>
    intro l' i T tmps h h1 h2 h3 h4 t
    cases h
    show VR φ (getT (key t) T) _
    by_cases ht : t < i
    · exact h1 t ht
    · rw [h3 t (by omega)]; exact .any _
  | cons v l ih =>
    intro l' i T tmps h h1 h2 h3 h4 t
    cases h with
    | cons g1 g2 =>
      rename_i v' r'
      show VR φ (getT (key t) (args0 l (Nat.succ i) (Tr.set (some v) (key i) T))) _
      refine ih tmps g2 (fun t ht => ?_) (fun t h5 h6 => ?_) (fun t ht => ?_) (fun t ht => h4 t (by simp; omega)) t
      · rw [getT_set]
        by_cases hti : i = t
        · subst hti
          rw [if_pos rfl]
          have := h2 i (Nat.le_refl _) (by simp)
          simp at this
          rw [this]; exact g1
        · rw [if_neg hti]; exact h1 t (by omega)
      · have := h2 t (by omega) (by simp; omega)
        rw [this]
        obtain ⟨j, rfl⟩ : ∃ j, t = i + 1 + j := ⟨t - (i + 1), by omega⟩
        have e1 : i + 1 + j - i = j + 1 := by omega
        have e2 : i + 1 + j - Nat.succ i = j := by omega
        rw [e1, e2]; rfl
      · rw [getT_set, if_neg (by omega)]; exact h3 t (by omega)
/-- a contract holds of a function -/
def CtOk (P : Program) (f : Nat) (c : CT) : Prop := ∀ (args : List EV) (s : St) (K : EV → St → Ans), c args s K = true → ∃ v s', K v s' = true ∧ val s.c ≤ val s'.c ∧
  ∀ {w0 : World} {φ : Phi} {w : World} {args' : List Value}, Fresh φ s.c s'.c → WR w0 φ s w → VRs φ args args' → NextRun P ((callFunc f args'.toArray).run P w) (Snd s s' φ w0 v)
def CtsOk (P : Program) (ext : List (Nat × Ext)) : Prop := ∀ (f : Nat) (c : CT), ext.lookup f = some (.ctr c) → CtOk P f c
def ExtOk (P : Program) (ext : List (Nat × Ext)) : Prop := ∀ (f : Nat) (e : Ext) (fn : Func), ext.lookup f = some e → P.funcs[f]? = some fn → fn.body = none → ∀ (args : List EV) (K : EV → Ans), evExt e args K = true → ∃ v, K v = true ∧
  ∀ {φ : Phi} {args' : List Value} (w : World), VRs φ args args' → ∃ u, VR φ v u ∧ (callFunc f args'.toArray).run P w = .ok (.value u) w
/-! ### a round -/
theorem ltAll_ok {n : Nat} : ∀ {l : List Nat}, ltAll n l = true → ∀ x ∈ l, x < n
  | y :: l, h, x, hx => by
    have h : bR (Nat.blt y n) (ltAll n l) false = true := h
    cases hb : Nat.blt y n with
    | false => rw [hb] at h; cases h
    | true =>
      rw [hb] at h
      rcases List.mem_cons.1 hx with rfl | hx
      · exact Nat.le_of_ble_eq_true hb
      · exact ltAll_ok h x hx
theorem putPs_ok : ∀ {ps : List Nat} {l : List EV} {T : Tr EV} {K : Tr EV → Ans}, putPs (ps.map key) l T K = true → ∃ T1, K T1 = true ∧ l.length = ps.length ∧ (∀ q, (∀ n, key n ≠ q) → T1.get q = T.get q) ∧
    ∀ {φ : Phi} {nt : Nat} {l' : List Value} {tmps : Array Value}, (∀ x ∈ ps, x < nt) → VRs φ l l' → TR φ nt T tmps → TR φ nt T1 ((ps.zip l').foldl (fun tmps (x : Nat × Value) => tmps.setIfInBounds x.1 x.2) tmps)
  | [], l, T, K, h => by
    obtain ⟨rfl, h⟩ := nilL_ok (show nilL l (K T) = true from h)
    exact ⟨T, h, rfl, fun _ _ => rfl, fun _ hv ht => by cases hv; exact ht⟩
  | t :: ps, [], T, K, h => absurd (show false = true from h) (by decide)
  | t :: ps, v :: l, T, K, h => by
    obtain ⟨T1, h1, h2, h3, h4⟩ := putPs_ok (show putPs (ps.map key) l (Tr.set (some v) (key t) T) K = true from h)
    refine ⟨T1, h1, by simp [h2], fun q hq => by rw [h3 q hq, Tr.get_set, if_neg (hq t)], fun {φ nt l' tmps} hlt hv ht => ?_⟩
    cases hv with
    | cons g1 g2 =>
      rename_i v' r'
      have := (ht.put (a := ⟨tmps, []⟩) (hlt t List.mem_cons_self) g1)
      exact h4 (fun x hx => hlt x (List.mem_cons_of_mem _ hx)) g2 this
theorem onB_eq (e : Ex) : onB e = (codeOfEx e).isNone := by cases e <;> rfl
theorem stOf_met (e : Ex) (r : Loop) : stMet (stOf e) { r with state := if (codeOfEx e).isNone then .ready else .done, pending := codeOfEx e } := by
  cases e <;> exact ⟨rfl, rfl⟩
theorem round_sound {B : LT} (hm : P.follows .mixedOrders = true) (hN : NamesOk P) (hC : CallSound P C) (n : Nat) {k : List Bool} {T : Tr EV} {ps : Array Tmp} {as body : Code} (args : List EV) (s : St) (K : EV → St → Ans)
    (hin : JE.loop k .ready T nt ps as body ∈ s.J) (h : PR.rec (motive := fun _ => Ans) false (fun ps a b => roundK C n k ps a b T args s K) (cRnd P B nt ps as body) = true) :
    ∃ v s', K v s' = true ∧ val s.c ≤ val s'.c ∧ ∀ {w0 : World} {φ : Phi} {w : World} {args' : List Value} {l : Nat} {q : Nat × Nat}, φ k = some (l, q) → Fresh φ s.c s'.c → WR w0 φ s w → VRs φ args args' →
      NextRun P ((Instr.yield l args'.toArray).run P w) (Snd s s' φ w0 v) := by
  unfold cRnd at h
  cases hlt : ltAll nt ps.toList with
  | false => rw [hlt] at h; exact absurd (show false = true from h) (by decide)
  | true =>
  rw [hlt] at h
  obtain ⟨T1, h1, hlen, hq1, htr⟩ := putPs_ok (show putPs (ps.toList.map key) args (Tr.set (some (.map (true :: k))) rk (Tr.set none dk T)) _ = true from h)
  obtain ⟨e1, T2, s2, h2, hv2, hA⟩ := code_sound (nt := nt) hm hN hC B as 1 n T1 s _ h1
  rcases exR_cases h2 with ⟨rfl, h2⟩ | ⟨_, _, h2⟩ | ⟨_, h2⟩
  rotate_left
  · exact absurd h2 (by decide)
  · exact absurd h2 (by decide)
  rcases findJ_ok h2 with ⟨st2, Tj, ntj, psj, aj, bj, hin2, h2⟩ | ⟨_, h2⟩
  rotate_left
  · exact absurd h2 (by decide)
  obtain ⟨rfl, h2⟩ := isReady_ok h2
  obtain ⟨e3, T3, s4, h3, hv4, hB⟩ := code_sound (nt := nt) hm hN hC B body 1 n T2 ⟨s2.c, s2.L, s2.R, setE k (.loop k .busy Tj ntj psj aj bj) s2.J⟩ _ h2
  rcases findJ_ok h3 with ⟨st4, Tk, ntk, psk, ak, bk, hin4, h3⟩ | ⟨_, h3⟩
  rotate_left
  · exact absurd h3 (by decide)
  have hv4 : val s2.c ≤ val s4.c := hv4
  refine ⟨_, _, h3, by show val s.c ≤ val s4.c; omega, fun {w0 φ w args' l q} hk hf hw ha => ?_⟩
  obtain ⟨l', q', r, j1, j2, j3, j4, j5, j6, j7, j8, _⟩ := hw.loops.all _ hin
  rw [hk] at j1; cases j1
  have hal : args'.toArray.size = r.params.size := by rw [j4]; have := ha.length; simp at *; omega
  rw [run_yield j3 hal]
  have hrk1 : T1.get rk = some (.map (true :: k)) := by rw [hq1 rk key_ne_rk, Tr.get_set_self]
  have hdk1 : T1.get dk = none := by rw [hq1 dk key_ne_dk, Tr.get_set, if_neg (by decide), Tr.get_set_self]
  have htmp : TR φ nt (Tr.set (some (.map (true :: k))) rk (Tr.set none dk T)) r.tmps := ⟨j7.1, fun t => by
    unfold getT
    rw [Tr.get_set, if_neg (fun e => key_ne_rk t e.symm), Tr.get_set, if_neg (fun e => key_ne_dk t e.symm)]
    exact j7.2 t⟩
  have hfold : ((r.params.zip args'.toArray).foldl (fun tmps (t, a) => tmps.setIfInBounds t a) r.tmps) = (ps.toList.zip args').foldl (fun tmps (x : Nat × Value) => tmps.setIfInBounds x.1 x.2) r.tmps := by
    rw [j4, ← Array.foldl_toList, Array.toList_zip]
  have har : AR φ nt (some l) T1 { tmps := (r.params.zip args'.toArray).foldl (fun tmps (t, a) => tmps.setIfInBounds t a) r.tmps, defers := [] } := by
    refine ⟨?_, ?_, .inr ⟨k, l, q, hrk1, hk, rfl⟩⟩
    · show TR φ nt T1 _
      rw [hfold]
      exact htr (ltAll_ok hlt) ha htmp
    · have : defersOf T1 = [] := by unfold defersOf; rw [hdk1]
      rw [this]; exact .nil
  show RoundIn (Wd none) 0 P l r.fn _ r.assign r.body w _
  refine roundIn_of_wpIn trivial ?_
  rw [j5, j6]
  show as.wpIn (Wd (some l)) 0 P _ _ w
  refine hA (hf.left (by show val s2.c ≤ val s4.c; omega)) hw har fun φ2 a2 w2 g1 g2 g3 => ?_
  obtain ⟨l2, q2, r2, i1, i2, i3, i4, i5, i6, i7, i8, i9⟩ := g3.loops.all _ hin2
  have hk2 := g1.ext _ _ hk
  rw [hk2] at i1; cases i1
  refine ⟨_, run_beginRound i3 i8.1, ?_⟩
  have hw3 := g3.setE (e' := .loop k .busy Tj ntj psj aj bj) (o' := .loop { r2 with state := .busy }) i2 hk2 i3 (by intro _ _ _ e; cases e) rfl ⟨l, q, _, hk2, i2, World.putObj_heap_same (Array.getElem?_eq_some_iff.1 i3).1, i4, i5, i6, i7, rfl, i9⟩ ⟨_, hin2, rfl⟩
  show body.wpIn (Wd (some l)) 0 P _ a2 _
  refine hB (hf.right g1 hv2) hw3 g2 fun φ4 a4 w4 f1 f2 f3 => ?_
  obtain ⟨l4, q4, r4, m1, m2, m3, m4, m5, m6, m7, m8, m9⟩ := f3.loops.all _ hin4
  have hk4 := f1.ext _ _ hk2
  rw [hk4] at m1; cases m1
  have hw5 := f3.setE (e' := .loop k (stOf e3) Tk ntk psk ak bk) (o' := .loop { r4 with state := if (codeOfEx e3).isNone then .ready else .done, pending := codeOfEx e3 }) m2 hk4 m3 (by intro _ _ _ e; cases e) rfl
    ⟨l, q, _, hk4, m2, World.putObj_heap_same (Array.getElem?_eq_some_iff.1 m3).1, m4, m5, m6, m7, stOf_met e3 r4, m9⟩ ⟨_, hin4, rfl⟩
  have fin : ∃ v w', (Instr.endRound l (codeOfEx e3)).run P w4 = .ok v w' ∧ ∃ u, Ending.returned v = .returned u ∧ Snd s ⟨s4.c, s4.L, s4.R, setE k (.loop k (stOf e3) Tk ntk psk ak bk) s4.J⟩ φ w0 (.bool (onB e3)) u w' := by
    refine ⟨_, _, run_endRound _ m3, _, rfl, φ4, g1.trans f1 hv2 hv4, ?_, hw5⟩
    rw [onB_eq]; exact .bool _
  cases e3 <;> exact fin

/-! ### deferred calls -/
theorem defers_sound (hC : CallSound P C) : ∀ (l : List EV) (s : St) (K : St → Ans), runDefers C l s K = true → ∃ s', K s' = true ∧ val s.c ≤ val s'.c ∧
    ∀ {w0 : World} {φ : Phi} {w : World} {ds : List Deferred} {fn : Func} {tmps : Array Value} {R : Ending → World → Prop}, Fresh φ s.c s'.c → WR w0 φ s w → DRs φ l ds →
      (∀ φ' w', Step φ φ' s.c s'.c → WR w0 φ' s' w' → LeavesInM (Wd none) 0 P fn tmps R [] .returning w') → LeavesInM (Wd none) 0 P fn tmps R ds .returning w := by
  intro l
  induction l with
  | nil => intro s K h; exact ⟨s, h, Nat.le_refl _, fun _ hw hd hq => by cases hd; exact hq _ _ (Step.refl _ _) hw⟩
  | cons v l ih =>
    intro s K h
    cases v with
    | map m =>
      cases m with
      | nil => exact absurd (show false = true from h) (by decide)
      | cons b k =>
        cases b with
        | false => exact absurd (show false = true from h) (by decide)
        | true =>
          rcases findJ_ok (show findJ k s.J (fun _ _ _ _ _ _ => false) (runDefers C l ⟨s.c, s.L, s.R, delJ k s.J⟩ K) = true from h) with ⟨_, _, _, _, _, _, _, h⟩ | ⟨hin, h⟩
          · exact absurd h (by decide)
          obtain ⟨s', h1, h2, h3⟩ := ih _ K h
          refine ⟨s', h1, h2, fun {w0 φ w ds fn tmps R} hf hw hd hq => ?_⟩
          cases hd with
          | mark hk hs =>
            obtain ⟨l', q', i1, i2, i3⟩ := hw.loops.all _ hin
            rw [hk] at i1; cases i1
            have hw' := hw.delJ (o' := .deferred none) i2 hk i3 (by intro _ _ _ e; cases e) ⟨_, hin, rfl⟩
            exact ⟨by simp, .inl ⟨_, _, rfl, run_takeDeferred i3, h3 hf hw' hs hq⟩⟩
    | tuple vs =>
      cases vs with
      | nil => exact absurd (show false = true from h) (by decide)
      | cons f r =>
        cases r with
        | nil => exact absurd (show false = true from h) (by decide)
        | cons as r =>
        cases r with
        | cons _ _ => exact absurd (show false = true from h) (by decide)
        | nil =>
          obtain ⟨as, rfl, h⟩ := asAgg_ok (show asAgg as _ = true from h)
          obtain ⟨fn, fa, cp, rfl, h⟩ := asFunc_ok h
          cases fn with
          | func g =>
            have h : C (.dfn g) (appN as cp) s (fun _ s => runDefers C l s K) = true := h
            obtain ⟨v, s1, h1, h2, h3, h4⟩ := hC.dfn _ _ _ _ h
            rw [appN_eq] at h4
            obtain ⟨s', h5, h6, h7⟩ := ih _ K h1
            refine ⟨s', h5, by omega, fun {w0 φ w ds fn tmps R} hf hw hd hq => ?_⟩
            cases hd with
            | @call _ _ _ as' cp' _ r' q1 q2 hs =>
              refine ⟨by simp, .inr ⟨(fun h => by cases h), .func g, cp'.toArray, g, (as' ++ cp').toArray, rfl, ?_, fun _ _ => trivial, ?_⟩⟩
              · show (callFunc g (as'.toArray ++ cp'.toArray)).run P w = _
                rw [h3]; simp
              · refine (h4 .returning (hf.left h6) hw (q1.append q2)).mono fun e u' w' ⟨hu, v', he, φ1, g1, _, g3⟩ => ?_
                subst hu; subst he
                exact h7 (hf.right g1 h2) g3 (hs.mono g1.ext) fun φ' w' k1 k2 => hq φ' w' (g1.trans k1 h2 h6) k2
          | _ => exact absurd (show false = true from h) (by decide)
    | _ => exact absurd (show false = true from h) (by decide)
theorem args_ok {φ : Phi} {nt : Nat} {args : List EV} {args' : List Value} (ha : VRs φ args args') : AR φ nt none (args0 args 0 .nil) { tmps := args'.toArray ++ Array.replicate (nt - args'.toArray.size) undef, defers := [] } := by
  have hspec : ∀ (l : List EV) (i : Nat) (T : Tr EV) (q : List Bool), (∀ n, key n ≠ q) → (args0 l i T).get q = T.get q := by
    intro l
    induction l with
    | nil => intro i T q _; rfl
    | cons v l ih =>
      intro i T q hq
      show (args0 l (Nat.succ i) (Tr.set (some v) (key i) T)).get q = _
      rw [ih _ _ q hq, Tr.get_set, if_neg (hq i)]
  refine ⟨⟨by simp; omega, ?_⟩, ?_, .inl ⟨?_, rfl⟩⟩
  · refine args0_ok (fun t => (args'.toArray ++ Array.replicate (nt - args'.toArray.size) undef).getD t undef) ha (fun t ht => by omega) (fun t _ h7 => ?_) (fun t _ => by unfold getT; rw [Tr.get_nil]) (fun t ht => ?_)
    · have h7 : t < args'.length := by simpa using h7
      rw [Array.getD_eq_getD_getElem?, Array.getElem?_append_left (by simpa using h7)]
      simp [List.getElem?_eq_getElem h7]
    · have ht : args'.length ≤ t := by simpa using ht
      rw [Array.getD_eq_getD_getElem?, Array.getElem?_append_right (by simpa using ht), Array.getElem?_replicate]
      split <;> rfl
  · have : defersOf (args0 args 0 .nil) = [] := by unfold defersOf; rw [hspec _ _ _ dk key_ne_dk]; rfl
    rw [this]; exact .nil
  · rw [hspec _ _ _ rk key_ne_rk]; rfl
theorem res_run {fn : Func} {rs : List PRes} {T : Tr EV} {s : St} {K : List EV → Ans} (hr : cRes P fn.results.toList = some rs) (h : evRes T s rs K = true) : ∃ l, K l = true ∧
    ∀ {w0 : World} {φ : Phi} {w : World} {tmps : Array Value}, WR w0 φ s w → TR φ nt T tmps → ∃ u, VR φ (tup l) u ∧ (results fn tmps).run P w = .ok u w := by
  obtain ⟨l, h1, h2⟩ := res_sound (P := P) (nt := nt) hr h
  refine ⟨l, h1, fun {w0 φ w tmps} hw ht => ?_⟩
  obtain ⟨l', g1, g2⟩ := h2 hw ht
  exact ⟨_, tup_ok g1, by simp only [results_eq, Array.mapM_eq_mapM_toList, Sem.run_bind, Sem.run_map, g2, Result.andThen_ok, Sem.run_pure]⟩
theorem call_sound {ext : List (Nat × Ext)} {A : Nat → LT} (hm : P.follows .mixedOrders = true) (hE : ExtOk P ext) (hT : CtsOk P ext) (hN : NamesOk P) : ∀ n, CallSound P (evCall (cFun P ext A) (cRnd P (A 1000000)) n) := by
  intro n
  induction n with
  | zero => exact ⟨fun f args s K h => absurd (show false = true from h) (by decide), fun f args s K h => absurd (show false = true from h) (by decide), fun f args s K h => absurd (show false = true from h) (by decide)⟩
  | succ n ih =>
    refine ⟨fun f args s K h => ?_, fun k args s K h => ?_, fun f args s K h => ?_⟩
    · have h : PF.rec (motive := fun _ => Ans) false (fun e => evExt e args fun v => K v s) (fun c => c args s K) (fun c rs => c.run (evCall (cFun P ext A) (cRnd P (A 1000000)) n) n (args0 args 0 .nil) s (exitK (evCall (cFun P ext A) (cRnd P (A 1000000)) n) rs K)) (cFun P ext A f) = true := h
      by_cases hctr : ∃ c, ext.lookup f = some (.ctr c)
      · obtain ⟨c, hc⟩ := hctr
        have e : cFun P ext A f = .ctr c := by unfold cFun; rw [hc]
        rw [e] at h
        exact hT f c hc args s K h
      have e0 : cFun P ext A f = cFun0 P ext A f := by
        unfold cFun
        split
        · rename_i c hc; exact absurd ⟨c, hc⟩ hctr
        · rfl
      rw [e0] at h
      unfold cFun0 at h
      cases hf : P.funcs[f]? with
      | none => rw [hf] at h; exact absurd (show false = true from h) (by decide)
      | some fn =>
        rw [hf] at h
        cases hb : fn.body with
        | none =>
          simp only [hb] at h
          cases he : ext.lookup f with
          | none => rw [he] at h; exact absurd (show false = true from h) (by decide)
          | some e =>
            rw [he] at h
            obtain ⟨v, h1, h2⟩ := hE f e fn he hf hb args (fun v => K v s) h
            refine ⟨v, s, h1, Nat.le_refl _, fun {w0 φ w args'} _ hw ha => ?_⟩
            obtain ⟨u, h3, h4⟩ := h2 w ha
            rw [h4]
            exact ⟨φ, Step.refl _ _, h3, hw⟩
        | some c =>
          simp only [hb] at h
          cases hr : cRes P fn.results.toList with
          | none => rw [hr] at h; exact absurd (show false = true from h) (by decide)
          | some rs =>
            rw [hr] at h
            obtain ⟨e, T', s', h1, h2, h3⟩ := code_sound (nt := fn.ntmps) hm hN ih (A f) c 1 n (args0 args 0 .nil) s (exitK (evCall (cFun P ext A) (cRnd P (A 1000000)) n) rs K) h
            have h1' : (e = .normal ∨ e = .ret) ∧ leaveK (evCall (cFun P ext A) (cRnd P (A 1000000)) n) rs K T' s' = true := by
              cases e with
              | normal => exact ⟨.inl rfl, h1⟩
              | exit i => exact absurd (show false = true from h1) (by decide)
              | ret => exact ⟨.inr rfl, h1⟩
            obtain ⟨s2, h4, h5, h6⟩ := defers_sound ih (defersOf T') s' (fun s => evRes T' s rs fun l => K (tup l) s) h1'.2
            obtain ⟨l, h7, h8⟩ := res_run (nt := fn.ntmps) hr h4
            refine ⟨_, s2, h7, by omega, fun {w0 φ w args'} hfr hw ha => ?_⟩
            have hcf := callFunc_enter (P := P) hN (f := f) (by simp [hasBody, hf, hb]) args'.toArray w
            rw [hcf]
            show CallsIn (Wd none) 0 P f args'.toArray w _
            refine callsIn_of_wp_marks hf hb trivial (h3 (hfr.left h5) hw (args_ok ha) fun φ' a' w' k1 k2 k4 => ?_)
            have fin : LeavesInM (Wd none) 0 P fn a'.tmps (fun e w'' => ∃ v, e = .returned v ∧ Snd s s2 φ w0 (tup l) v w'') a'.defers .returning w' := by
              refine h6 (hfr.right k1 h2) k4 k2.dr fun φ2 w2 g1 g2 => ?_
              obtain ⟨u, e1, e2⟩ := h8 g2 (k2.tr.mono g1.ext)
              exact ⟨u, e2, u, rfl, φ2, k1.trans g1 h2 h5, e1, g2⟩
            rcases h1'.1 with rfl | rfl
            · exact fin
            · exact fin
    · rcases findJ_ok (show findJ k s.J (fun st T nt ps a b => isReady st (PR.rec (motive := fun _ => Ans) false (fun ps a b => roundK (evCall (cFun P ext A) (cRnd P (A 1000000)) n) n k ps a b T args s K) (cRnd P (A 1000000) nt ps a b))) false = true from h) with ⟨st, T, nt, ps, a, b, hin, h⟩ | ⟨_, h⟩
      · obtain ⟨rfl, h⟩ := isReady_ok h
        exact round_sound hm hN ih n args s K hin h
      · exact absurd h (by decide)
    · have h : PF.rec (motive := fun _ => Ans) false (fun _ => false) (fun _ => false) (fun c rs => c.run (evCall (cFun P ext A) (cRnd P (A 1000000)) n) n (args0 args 0 .nil) s (exitD rs K)) (cFun P ext A f) = true := h
      by_cases hctr : ∃ c, ext.lookup f = some (.ctr c)
      · obtain ⟨c, hc⟩ := hctr
        have e : cFun P ext A f = .ctr c := by unfold cFun; rw [hc]
        rw [e] at h
        exact absurd (show false = true from h) (by decide)
      have e0 : cFun P ext A f = cFun0 P ext A f := by
        unfold cFun
        split
        · rename_i c hc; exact absurd ⟨c, hc⟩ hctr
        · rfl
      rw [e0] at h
      unfold cFun0 at h
      cases hf : P.funcs[f]? with
      | none => rw [hf] at h; exact absurd (show false = true from h) (by decide)
      | some fn =>
        rw [hf] at h
        cases hb : fn.body with
        | none =>
          simp only [hb] at h
          cases he : ext.lookup f with
          | none => rw [he] at h; exact absurd (show false = true from h) (by decide)
          | some e => rw [he] at h; exact absurd (show false = true from h) (by decide)
        | some c =>
          simp only [hb] at h
          cases hr : cRes P fn.results.toList with
          | none => rw [hr] at h; exact absurd (show false = true from h) (by decide)
          | some rs =>
            rw [hr] at h
            obtain ⟨e, T', s', h1, h2, h3⟩ := code_sound (nt := fn.ntmps) hm hN ih (A f) c 1 n (args0 args 0 .nil) s (exitD rs K) h
            have h1' : (e = .normal ∨ e = .ret) ∧ leaveD rs K T' s' = true := by
              cases e with
              | normal => exact ⟨.inl rfl, h1⟩
              | exit i => exact absurd (show false = true from h1) (by decide)
              | ret => exact ⟨.inr rfl, h1⟩
            obtain ⟨hd0, h4⟩ := nilL_ok h1'.2
            obtain ⟨l, h7, h8⟩ := res_run (nt := fn.ntmps) hr h4
            refine ⟨_, s', h7, h2, fun w as => callFunc_enter hN (by simp [hasBody, hf, hb]) as w, fun {w0 φ w args'} u hfr hw ha => ?_⟩
            refine callsDIn_of_wp hf hb trivial (h3 hfr hw (args_ok ha) fun φ' a' w' k1 k2 k4 => ?_)
            have hdn : a'.defers = [] := by have := k2.dr; rw [hd0] at this; generalize a'.defers = ds at this; cases this; rfl
            obtain ⟨v, e1, e2⟩ := h8 k4 k2.tr
            rcases h1'.1 with rfl | rfl
            · exact ⟨hdn, v, e2, v, rfl, φ', k1, e1, k4⟩
            · exact ⟨hdn, v, e2, v, rfl, φ', k1, e1, k4⟩
end
end Go.Ev
