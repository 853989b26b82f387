/- What is no cells: loops over functions, blocks for deferred calls. -/
import Derived.Test.YtjcnbldpefjcfaaEvSE
import Derived.RangeFuncLeaves
import Derived.RangeFuncNested
import Derived.Scope
namespace Go.Ev
open Go.RowKit (Below)
theorem beqL_ok : ∀ {a b : List Bool}, beqL a b = true → a = b
  | [], [], _ => rfl
  | [], _ :: _, h => absurd (show false = true from h) (by decide)
  | _ :: _, [], h => absurd (show false = true from h) (by decide)
  | x :: a, y :: b, h => by
    have h : bR (beqB x y) (beqL a b) false = true := h
    cases x <;> cases y <;> first | exact absurd (show false = true from h) (by decide) | exact congrArg _ (beqL_ok (show beqL a b = true from h))
theorem findJ_ok {k : List Bool} {KL : JS → Tr EV → Nat → Array Tmp → Code → Code → Ans} {KD : Ans} : ∀ {J : List JE}, findJ k J KL KD = true →
    (∃ st T nt ps a b, JE.loop k st T nt ps a b ∈ J ∧ KL st T nt ps a b = true) ∨ (JE.dfr k ∈ J ∧ KD = true)
  | [], h => absurd (show false = true from h) (by decide)
  | .loop k' st T nt ps a b :: J, h => by
    have h : bR (beqL k k') (KL st T nt ps a b) (findJ k J KL KD) = true := h
    cases hb : beqL k k' with
    | true =>
      rw [hb] at h
      have hKL : KL st T nt ps a b = true := h
      have := beqL_ok hb; subst this
      exact .inl ⟨_, _, _, _, _, _, List.mem_cons_self, hKL⟩
    | false =>
      rw [hb] at h
      rcases findJ_ok (show findJ k J KL KD = true from h) with ⟨st, T, nt, ps, a, b, h1, h2⟩ | ⟨h1, h2⟩
      · exact .inl ⟨st, T, nt, ps, a, b, List.mem_cons_of_mem _ h1, h2⟩
      · exact .inr ⟨List.mem_cons_of_mem _ h1, h2⟩
  | .dfr k' :: J, h => by
    have h : bR (beqL k k') KD (findJ k J KL KD) = true := h
    cases hb : beqL k k' with
    | true =>
      rw [hb] at h
      have hKD : KD = true := h
      have := beqL_ok hb; subst this
      exact .inr ⟨List.mem_cons_self, hKD⟩
    | false =>
      rw [hb] at h
      rcases findJ_ok (show findJ k J KL KD = true from h) with ⟨st, T, nt, ps, a, b, h1, h2⟩ | ⟨h1, h2⟩
      · exact .inl ⟨st, T, nt, ps, a, b, List.mem_cons_of_mem _ h1, h2⟩
      · exact .inr ⟨List.mem_cons_of_mem _ h1, h2⟩
theorem beqL_refl : ∀ a : List Bool, beqL a a = true
  | [] => rfl
  | true :: a => beqL_refl a
  | false :: a => beqL_refl a
theorem EOk.put {φ : Phi} {w0 w : World} {l : Nat} {o : Obj} : ∀ {e : JE}, EOk φ w0 w e → (∀ p, φ e.key = some p → p.1 ≠ l) → EOk φ w0 (w.putObj l o) e
  | .loop k st T nt ps a b, ⟨l', q, r, h1, h2, h3, h4⟩, hne => ⟨l', q, r, h1, h2, (World.putObj_heap_other (hne _ h1)).trans h3, h4⟩
  | .dfr k, ⟨l', q, h1, h2, h3⟩, hne => ⟨l', q, h1, h2, (World.putObj_heap_other (hne _ h1)).trans h3⟩
theorem setJ_keys {k : List Bool} {st : JS} : ∀ J : List JE, (setJ k st J).map JE.key = J.map JE.key
  | [] => rfl
  | .loop k' st' T nt ps a b :: J => by
    show List.map JE.key (bR (beqL k k') (.loop k' st T nt ps a b :: J) (.loop k' st' T nt ps a b :: setJ k st J)) = _
    cases beqL k k' with
    | true => rfl
    | false => exact congrArg (k' :: ·) (setJ_keys J)
  | .dfr k' :: J => congrArg (k' :: ·) (setJ_keys J)
theorem setJ_all {φ : Phi} {w0 w : World} {k : List Bool} {st : JS} {l : Nat} {q : Nat × Nat} {r : Loop} {s' : LoopState} {pd : Option Code} (hk : φ k = some (l, q)) (hr : w.heap[l]? = some (.loop r)) (hst : stMet st { r with state := s', pending := pd }) :
    ∀ {J : List JE}, (∃ st T nt ps a b, JE.loop k st T nt ps a b ∈ J) → (∀ e ∈ J, EOk φ w0 w e) → J.Pairwise (Apart2 φ) → ∀ e ∈ setJ k st J, EOk φ w0 (w.putObj l (.loop { r with state := s', pending := pd })) e
  | [], ⟨_, _, _, _, _, _, h⟩, _, _ => by cases h
  | .loop k' st' T nt ps a b :: J, hex, hall, .cons hp1 hp2 => by
    intro e he
    have he : e ∈ bR (beqL k k') (JE.loop k' st T nt ps a b :: J) (.loop k' st' T nt ps a b :: setJ k st J) := he
    cases hb : beqL k k' with
    | true =>
      rw [hb] at he
      have := beqL_ok hb; subst this
      have hlt : l < w.heap.size := (Array.getElem?_eq_some_iff.1 hr).1
      rcases List.mem_cons.1 he with rfl | he
      · obtain ⟨l', q', r', h1, h2, h3, h4, h5, h6, h7, _⟩ := hall _ List.mem_cons_self
        rw [hk] at h1; cases h1
        rw [hr] at h3; cases h3
        exact ⟨l, q, _, hk, h2, World.putObj_heap_same hlt, h4, h5, h6, h7, hst⟩
      · exact (hall e (List.mem_cons_of_mem _ he)).put fun p hp e0 => hp1 e he _ _ hk hp e0.symm
    | false =>
      rw [hb] at he
      have hex' : ∃ st T nt ps a b, JE.loop k st T nt ps a b ∈ J := by
        obtain ⟨a1, a2, a3, a4, a5, a6, hm⟩ := hex
        rcases List.mem_cons.1 hm with hm | hm
        · injection hm with hm; subst hm; rw [beqL_refl] at hb; cases hb
        · exact ⟨a1, a2, a3, a4, a5, a6, hm⟩
      rcases List.mem_cons.1 he with rfl | he
      · obtain ⟨a1, a2, a3, a4, a5, a6, hm⟩ := hex'
        exact (hall _ List.mem_cons_self).put fun p hp e0 => hp1 _ hm _ _ hp hk e0
      · exact setJ_all hk hr hst hex' (fun e he => hall e (List.mem_cons_of_mem _ he)) hp2 e he
  | .dfr k' :: J, hex, hall, .cons hp1 hp2 => by
    intro e he
    have hex' : ∃ st T nt ps a b, JE.loop k st T nt ps a b ∈ J := by
      obtain ⟨a1, a2, a3, a4, a5, a6, hm⟩ := hex
      rcases List.mem_cons.1 hm with hm | hm
      · cases hm
      · exact ⟨a1, a2, a3, a4, a5, a6, hm⟩
    rcases List.mem_cons.1 he with rfl | he
    · obtain ⟨a1, a2, a3, a4, a5, a6, hm⟩ := hex'
      exact (hall _ List.mem_cons_self).put fun p hp e0 => hp1 _ hm _ _ hp hk e0
    · exact setJ_all hk hr hst hex' (fun e he => hall e (List.mem_cons_of_mem _ he)) hp2 e he
theorem delJ_ok {φ : Phi} {k : List Bool} {l : Nat} {q : Nat × Nat} (hk : φ k = some (l, q)) :
    ∀ {J : List JE}, (∃ e ∈ J, e.key = k) → J.Pairwise (Apart2 φ) → (delJ k J).Sublist J ∧ ∀ e ∈ delJ k J, ∀ p, φ e.key = some p → p.1 ≠ l := by
  have main : ∀ (e0 : JE) (J : List JE), delJ k (e0 :: J) = bR (beqL k e0.key) J (e0 :: delJ k J) := by
    intro e0 J; cases e0 <;> rfl
  intro J
  induction J with
  | nil => rintro ⟨_, h, _⟩; cases h
  | cons e0 J ih =>
    rintro hex (_ | ⟨hp1, hp2⟩)
    rw [main]
    cases hb : beqL k e0.key with
    | true =>
      have := beqL_ok hb
      exact ⟨List.sublist_cons_self _ _, fun e he p hp e1 => hp1 e he _ _ (this ▸ hk) hp e1.symm⟩
    | false =>
      have hex' : ∃ e ∈ J, e.key = k := by
        obtain ⟨e, he, hk'⟩ := hex
        rcases List.mem_cons.1 he with rfl | he
        · rw [hk', beqL_refl] at hb; cases hb
        · exact ⟨e, he, hk'⟩
      obtain ⟨h1, h2⟩ := ih hex' hp2
      refine ⟨h1.cons_cons _, fun e he p hp e1 => ?_⟩
      rcases List.mem_cons.1 he with rfl | he
      · obtain ⟨e', he', hk'⟩ := hex'
        exact hp1 e' he' _ _ hp (hk' ▸ hk) e1
      · exact h2 e he p hp e1
/-- the world in which what is no cells has turned -/
theorem below_put {w0 w : World} {l : Nat} {o : Obj} (hw : Below w0.heap.size w0 w) (hl : w0.heap.size ≤ l) : Below w0.heap.size w0 (w.putObj l o) :=
  ⟨hw.os, hw.tape, hw.output, by simpa using hw.size, fun k hk => (World.putObj_heap_other (by omega)).trans (hw.block k hk)⟩
theorem WR.putJ {w0 : World} {φ : Phi} {s : St} {w : World} {J' : List JE} {l : Nat} {o o' : Obj} (hw : WR w0 φ s w) (hl : w0.heap.size ≤ l) (hr : w.heap[l]? = some o) (ho : ∀ c t f, o ≠ .cells c t f) (hJ : JOk φ w0 (w.putObj l o') J') :
    WR w0 φ ⟨s.c, s.L, s.R, J'⟩ (w.putObj l o') :=
  ⟨below_put hw.below hl, hw.ro, fun b k hb => by
    obtain ⟨p, h1, h2⟩ := hw.loc b k hb
    refine ⟨p, h1.world (World.putObj_heap_other fun e => ?_), h2⟩
    obtain ⟨_, cs, ty, h3, _⟩ := h1
    rw [e, hr] at h3; exact ho _ _ _ (Option.some.inj h3), hw.apart, hJ⟩
theorem WR.setJ {w0 : World} {φ : Phi} {s : St} {w : World} {k : List Bool} {st : JS} {l : Nat} {q : Nat × Nat} {r : Loop} {s' : LoopState} {pd : Option Code} (hw : WR w0 φ s w) (hl : w0.heap.size ≤ l)
    (hk : φ k = some (l, q)) (hr : w.heap[l]? = some (.loop r)) (hst : stMet st { r with state := s', pending := pd }) (hex : ∃ st T nt ps a b, JE.loop k st T nt ps a b ∈ s.J) :
    WR w0 φ ⟨s.c, s.L, s.R, Ev.setJ k st s.J⟩ (w.putObj l (.loop { r with state := s', pending := pd })) := by
  refine hw.putJ hl hr (by intro _ _ _ e; cases e) ⟨setJ_all hk hr hst hex hw.loops.all hw.loops.apart, ?_⟩
  have h1 : (s.J.map JE.key).Pairwise (fun a b => ∀ p p', φ a = some p → φ b = some p' → p.1 ≠ p'.1) := List.pairwise_map.2 hw.loops.apart
  rw [← setJ_keys (k := k) (st := st)] at h1
  exact (List.pairwise_map (f := JE.key) (R := fun a b => ∀ p p', φ a = some p → φ b = some p' → p.1 ≠ p'.1)).1 h1
theorem WR.delJ {w0 : World} {φ : Phi} {s : St} {w : World} {k : List Bool} {l : Nat} {q : Nat × Nat} {o o' : Obj} (hw : WR w0 φ s w) (hl : w0.heap.size ≤ l)
    (hk : φ k = some (l, q)) (hr : w.heap[l]? = some o) (ho : ∀ c t f, o ≠ .cells c t f) (hex : ∃ e ∈ s.J, e.key = k) :
    WR w0 φ ⟨s.c, s.L, s.R, Ev.delJ k s.J⟩ (w.putObj l o') := by
  obtain ⟨h1, h2⟩ := delJ_ok hk hex hw.loops.apart
  exact hw.putJ hl hr ho ⟨fun e he => (hw.loops.all e (h1.subset he)).put fun p hp => h2 e he p hp, hw.loops.apart.sublist h1⟩
theorem WR.push {w0 : World} {φ : Phi} {s : St} {w : World} {o : Obj} {e : JE} (hw : WR w0 φ s w) (hf : φ s.c = none) (he : e.key = s.c)
    (h : EOk (φ.put s.c (w.heap.size, 0, 0)) w0 (w.alloc o) e) : WR w0 (φ.put s.c (w.heap.size, 0, 0)) ⟨inc s.c, s.L, s.R, e :: s.J⟩ (w.alloc o) := by
  have hst := Step.put (φ := φ) (w.heap.size, 0, 0) hf
  have hbl : Below w.heap.size w (w.alloc o) := (Below.refl _ _).alloc (Nat.le_refl _) _
  have hne : ∀ b k, s.L.get b = some k → b ≠ s.c := fun b k hb e => by
    obtain ⟨p, h1, _⟩ := hw.loc b k hb
    have h3 := h1.1
    rw [e, hf] at h3; cases h3
  have hφ : ∀ b, b ≠ s.c → (φ.put s.c (w.heap.size, 0, 0)) b = φ b := fun b hb => by simp [Phi.put, hb]
  refine ⟨hw.below.trans (hbl.mono hw.below.size), fun hp h1 b k h2 => ?_, fun b k hb => ?_, fun b b' k k' p p' h1 h2 h3 h4 h5 h6 => ?_, ⟨fun e' he' => ?_, .cons (fun e' he' p p' hp hp' => ?_) ?_⟩⟩
  · obtain ⟨p, fz, h3⟩ := hw.ro hp h1 b k h2
    exact ⟨p, fz, h3.mono hst.ext⟩
  · obtain ⟨p, h1, h2⟩ := hw.loc b k hb
    exact ⟨p, (h1.mono hst.ext).world (hbl.block p.1 h1.lt), h2⟩
  · rw [hφ b (hne b k h1)] at h5; rw [hφ b' (hne b' k' h2)] at h6
    exact hw.apart b b' k k' p p' h1 h2 h3 h4 h5 h6
  · rcases List.mem_cons.1 he' with rfl | he'
    · exact h
    · exact (hw.loops.all e' he').step hst.ext (Others.of_lt fun i hi => hbl.block i hi)
  · obtain ⟨p0, g1, g2, _⟩ := (hw.loops.all e' he').at
    have g3 := hst.ext _ _ g1
    rw [hp'] at g3; cases g3
    rw [he] at hp
    have : p = (w.heap.size, 0, 0) := by simp [Phi.put] at hp; exact hp.symm
    subst this
    show w.heap.size ≠ p'.1
    omega
  · exact pairwise_mono hst.ext hw.loops.all hw.loops.apart

section
variable {F : Fence} {n : Nat} {P : Program} {Q : Exit → Act → World → Prop} {a : Act} {w : World} {b : Frame} {k : List Item} {cs : List Frame}
theorem stepR_scope {c : Code} : step P (lone (b.atR a (.code (.scope c) :: k)) cs w) = .next (lone (b.atR a (.code c :: .inScope c :: k)) cs w) :=
  step_lone_go (by simp [stepG, stepG.exec, Frame.atR])
theorem stepR_inScope {c : Code} : step P (lone (b.atR a (.inScope c :: k)) cs w) = .next (lone (b.atR a k) cs w) :=
  step_lone_go (by simp [stepG, stepG.exec, Frame.atR])
theorem wpIn_scope_straight {c : Code} (h : c.wpIn F n P (Exit.noGoto Q) a w) : (Code.scope c).wpIn F n P Q a w := by
  intro b k cs hro hb hr
  have h0 : (lone (b.atR a (.code (.scope c) :: k)) cs w).fenced P F := fenced_calm hb hr rfl
  obtain ⟨e, a₁, w₁, hq, harr⟩ := h b (.inScope c :: k) cs hro hb hr
  cases e with
  | normal => exact ⟨.normal, a₁, w₁, hq, .head h0 stepR_scope (StepsIn.trans harr (.one (fenced_calm hb hr rfl) stepR_inScope))⟩
  | exit id =>
    have hx : exitTo id (.inScope c :: k) = exitTo id k := by simp [exitTo]
    exact ⟨.exit id, a₁, w₁, hq, fun k' hk => .head h0 stepR_scope (harr.1 k' (by rw [hx]; exact hk)), fun hr' hk => let ⟨k₁, h1, h2⟩ := harr.2 hr' (by rw [hx]; exact hk); ⟨k₁, h1, .head h0 stepR_scope h2⟩⟩
  | goto l => exact hq.elim
  | ret => exact ⟨_, a₁, w₁, hq, .of_steps (.one h0 stepR_scope) harr⟩
  | panic ch => exact ⟨_, a₁, w₁, hq, .of_steps (.one h0 stepR_scope) harr⟩
  | outgrown => exact ⟨_, a₁, w₁, hq, .of_steps (.one h0 stepR_scope) harr⟩
end
end Go.Ev
