/- What is no cells: loops over functions, blocks for deferred calls, maps. -/
import Derived.Test.YtiadfbpbeaeflaaDoorEvS3
import Derived.RangeFuncRecord
namespace Go.Ev
open Go.RowKit (Below)
theorem beqL_ok : ∀ {a b : List Bool}, beqL a b = true → a = b
  | [], [], _ => rfl
  | [], _ :: _, h => absurd (show false = true from h) (by decide)
  | _ :: _, [], h => absurd (show false = true from h) (by decide)
  | x :: a, y :: b, h => by
    have h : bR (beqB x y) (beqL a b) false = true := h
    cases x <;> cases y <;> first | exact absurd (show false = true from h) (by decide) | exact congrArg _ (beqL_ok (show beqL a b = true from h))
theorem findE_ok {k : List Bool} {K : JE → Ans} : ∀ {J : List JE}, findE k J K = true → ∃ e ∈ J, e.key = k ∧ K e = true
  | [], h => absurd (show false = true from h) (by decide)
  | e :: J, h => by
    have h : bR (beqL k (jkey e)) (K e) (findE k J K) = true := h
    cases hb : beqL k (jkey e) with
    | true =>
      rw [hb] at h
      exact ⟨e, List.mem_cons_self, (beqL_ok hb).symm, h⟩
    | false =>
      rw [hb] at h
      obtain ⟨e', h1, h2⟩ := findE_ok (show findE k J K = true from h)
      exact ⟨e', List.mem_cons_of_mem _ h1, h2⟩
theorem findJ_ok {k : List Bool} {KL : JS → Tr EV → Nat → Array Tmp → Code → Code → Ans} {KD : Ans} {J : List JE} (h : findJ k J KL KD = true) :
    (∃ st T nt ps a b, JE.loop k st T nt ps a b ∈ J ∧ KL st T nt ps a b = true) ∨ (JE.dfr k ∈ J ∧ KD = true) := by
  obtain ⟨e, h1, h2, h3⟩ := findE_ok h
  cases e with
  | loop k' st T nt ps a b => cases h2; exact .inl ⟨_, _, _, _, _, _, h1, h3⟩
  | dfr k' => cases h2; exact .inr ⟨h1, h3⟩
  | mp k' l => exact absurd (show false = true from h3) (by decide)
theorem findM_ok {k : List Bool} {KM : List (EV × EV) → Ans} {J : List JE} (h : findM k J KM = true) : ∃ l, JE.mp k l ∈ J ∧ KM l = true := by
  obtain ⟨e, h1, h2, h3⟩ := findE_ok h
  cases e with
  | loop k' st T nt ps a b => exact absurd (show false = true from h3) (by decide)
  | dfr k' => exact absurd (show false = true from h3) (by decide)
  | mp k' l => cases h2; exact ⟨l, h1, h3⟩
theorem beqL_refl : ∀ a : List Bool, beqL a a = true
  | [] => rfl
  | true :: a => beqL_refl a
  | false :: a => beqL_refl a
theorem EOk.put {φ : Phi} {w0 w : World} {l : Nat} {o : Obj} : ∀ {e : JE}, EOk φ w0 w e → (∀ p, φ e.key = some p → p.1 ≠ l) → EOk φ w0 (w.putObj l o) e
  | .loop k st T nt ps a b, ⟨l', q, r, h1, h2, h3, h4⟩, hne => ⟨l', q, r, h1, h2, (World.putObj_heap_other (hne _ h1)).trans h3, h4⟩
  | .dfr k, ⟨l', q, h1, h2, h3⟩, hne => ⟨l', q, h1, h2, (World.putObj_heap_other (hne _ h1)).trans h3⟩
  | .mp k m, ⟨l', q, es, cl, h1, h2, h3, h4⟩, hne => ⟨l', q, es, cl, h1, h2, (World.putObj_heap_other (hne _ h1)).trans h3, h4⟩
theorem setE_keys {k : List Bool} {e' : JE} (hk : e'.key = k) : ∀ J : List JE, (setE k e' J).map JE.key = J.map JE.key
  | [] => rfl
  | e :: J => by
    show List.map JE.key (bR (beqL k (jkey e)) (e' :: J) (e :: setE k e' J)) = _
    cases hb : beqL k (jkey e) with
    | true => exact congrArg (· :: J.map JE.key) (hk.trans (beqL_ok hb))
    | false => exact congrArg (e.key :: ·) (setE_keys hk J)
theorem setE_all {φ : Phi} {w0 w : World} {k : List Bool} {e' : JE} {l : Nat} {q : Nat × Nat} {o : Obj} (hk : φ k = some (l, q)) (he : EOk φ w0 (w.putObj l o) e') :
    ∀ {J : List JE}, (∃ e ∈ J, e.key = k) → (∀ e ∈ J, EOk φ w0 w e) → J.Pairwise (Apart2 φ) → ∀ e ∈ setE k e' J, EOk φ w0 (w.putObj l o) e
  | [], ⟨_, h, _⟩, _, _ => by cases h
  | e0 :: J, hex, hall, .cons hp1 hp2 => by
    intro e hin
    have hin : e ∈ bR (beqL k (jkey e0)) (e' :: J) (e0 :: setE k e' J) := hin
    cases hb : beqL k (jkey e0) with
    | true =>
      rw [hb] at hin
      have hk0 : e0.key = k := (beqL_ok hb).symm
      rcases List.mem_cons.1 hin with rfl | hin
      · exact he
      · exact (hall e (List.mem_cons_of_mem _ hin)).put fun p hp e1 => hp1 e hin _ _ (hk0 ▸ hk) hp e1.symm
    | false =>
      rw [hb] at hin
      have hex' : ∃ e ∈ J, e.key = k := by
        obtain ⟨e2, hm, hk2⟩ := hex
        rcases List.mem_cons.1 hm with rfl | hm
        · rw [show jkey e2 = k from hk2, beqL_refl] at hb; cases hb
        · exact ⟨e2, hm, hk2⟩
      rcases List.mem_cons.1 hin with rfl | hin
      · obtain ⟨e2, hm, hk2⟩ := hex'
        exact (hall _ List.mem_cons_self).put fun p hp e1 => hp1 _ hm _ _ hp (hk2 ▸ hk) e1
      · exact setE_all hk he hex' (fun e he => hall e (List.mem_cons_of_mem _ he)) hp2 e hin
theorem delJ_ok {φ : Phi} {k : List Bool} {l : Nat} {q : Nat × Nat} (hk : φ k = some (l, q)) :
    ∀ {J : List JE}, (∃ e ∈ J, e.key = k) → J.Pairwise (Apart2 φ) → (delJ k J).Sublist J ∧ ∀ e ∈ delJ k J, ∀ p, φ e.key = some p → p.1 ≠ l := by
  have main : ∀ (e0 : JE) (J : List JE), delJ k (e0 :: J) = bR (beqL k (jkey e0)) J (e0 :: delJ k J) := by
    intro e0 J; rfl
  intro J
  induction J with
  | nil => rintro ⟨_, h, _⟩; cases h
  | cons e0 J ih =>
    rintro hex (_ | ⟨hp1, hp2⟩)
    rw [main]
    cases hb : beqL k (jkey e0) with
    | true =>
      have hk0 : e0.key = k := (beqL_ok hb).symm
      exact ⟨List.sublist_cons_self _ _, fun e he p hp e1 => hp1 e he _ _ (hk0 ▸ hk) hp e1.symm⟩
    | false =>
      have hex' : ∃ e ∈ J, e.key = k := by
        obtain ⟨e, he, hk'⟩ := hex
        rcases List.mem_cons.1 he with rfl | he
        · rw [show jkey e = k from hk', beqL_refl] at hb; cases hb
        · exact ⟨e, he, hk'⟩
      obtain ⟨h1, h2⟩ := ih hex' hp2
      refine ⟨h1.cons_cons _, fun e he p hp e1 => ?_⟩
      rcases List.mem_cons.1 he with rfl | he
      · obtain ⟨e', he', hk'⟩ := hex'
        exact hp1 e' he' _ _ hp (hk' ▸ hk) e1
      · exact h2 e he p hp e1
/-- the world in which what is no cells has turned -/
theorem below_put {w0 w : World} {l : Nat} {o : Obj} (hw : Below w0.heap.size w0 w) (hl : w0.heap.size ≤ l) : Below w0.heap.size w0 (w.putObj l o) :=
  ⟨hw.os, hw.tape, hw.output, by simpa using hw.size, fun k hk => (World.putObj_heap_other (by omega)).trans (hw.block k hk)⟩
theorem WR.putJ {w0 : World} {φ : Phi} {s : St} {w : World} {J' : List JE} {l : Nat} {o o' : Obj} (hw : WR w0 φ s w) (hl : w0.heap.size ≤ l) (hr : w.heap[l]? = some o) (ho : ∀ c t f, o ≠ .cells c t f) (hJ : JOk φ w0 (w.putObj l o') J') :
    WR w0 φ ⟨s.c, s.L, s.R, J'⟩ (w.putObj l o') :=
  ⟨below_put hw.below hl, hw.ro, fun b k hb => by
    rcases hw.loc b k hb with h1 | ⟨p, fz, h1, h2⟩
    · exact .inl h1
    · refine .inr ⟨p, fz, h1.world (World.putObj_heap_other fun e => ?_), h2⟩
      obtain ⟨_, cs, ty, h3, _⟩ := h1
      rw [e, hr] at h3; exact ho _ _ _ (Option.some.inj h3), hw.apart, hJ⟩
theorem WR.setE {w0 : World} {φ : Phi} {s : St} {w : World} {k : List Bool} {e' : JE} {l : Nat} {q : Nat × Nat} {o o' : Obj} (hw : WR w0 φ s w) (hl : w0.heap.size ≤ l)
    (hk : φ k = some (l, q)) (hr : w.heap[l]? = some o) (ho : ∀ c t f, o ≠ .cells c t f) (hke : e'.key = k) (he : EOk φ w0 (w.putObj l o') e') (hex : ∃ e ∈ s.J, e.key = k) :
    WR w0 φ ⟨s.c, s.L, s.R, Ev.setE k e' s.J⟩ (w.putObj l o') := by
  refine hw.putJ hl hr ho ⟨setE_all hk he hex hw.loops.all hw.loops.apart, ?_⟩
  have h1 : (s.J.map JE.key).Pairwise (fun a b => ∀ p p', φ a = some p → φ b = some p' → p.1 ≠ p'.1) := List.pairwise_map.2 hw.loops.apart
  rw [← setE_keys hke] at h1
  exact (List.pairwise_map (f := JE.key) (R := fun a b => ∀ p p', φ a = some p → φ b = some p' → p.1 ≠ p'.1)).1 h1
theorem WR.delJ {w0 : World} {φ : Phi} {s : St} {w : World} {k : List Bool} {l : Nat} {q : Nat × Nat} {o o' : Obj} (hw : WR w0 φ s w) (hl : w0.heap.size ≤ l)
    (hk : φ k = some (l, q)) (hr : w.heap[l]? = some o) (ho : ∀ c t f, o ≠ .cells c t f) (hex : ∃ e ∈ s.J, e.key = k) :
    WR w0 φ ⟨s.c, s.L, s.R, Ev.delJ k s.J⟩ (w.putObj l o') := by
  obtain ⟨h1, h2⟩ := delJ_ok hk hex hw.loops.apart
  exact hw.putJ hl hr ho ⟨fun e he => (hw.loops.all e (h1.subset he)).put fun p hp => h2 e he p hp, hw.loops.apart.sublist h1⟩
theorem WR.push {w0 : World} {φ : Phi} {s : St} {w : World} {o : Obj} {e : JE} (hw : WR w0 φ s w) (hf : φ s.c = none) (he : e.key = s.c)
    (h : EOk (φ.put s.c (w.heap.size, 0, 0)) w0 (w.alloc o) e) : WR w0 (φ.put s.c (w.heap.size, 0, 0)) ⟨inc s.c, s.L, s.R, e :: s.J⟩ (w.alloc o) := by
  have hst := Step.put (φ := φ) (w.heap.size, 0, 0) hf
  have hbl : Below w.heap.size w (w.alloc o) := (Below.refl _ _).alloc (Nat.le_refl _) _
  have hne : ∀ b k, s.L.get b = some k → Real φ b k → b ≠ s.c := fun b k hb hr e => by
    obtain ⟨p, _, h1, _⟩ := (hw.loc b k hb).real hr
    have h3 := h1.1
    rw [e, hf] at h3; cases h3
  have hφ : ∀ b, b ≠ s.c → (φ.put s.c (w.heap.size, 0, 0)) b = φ b := fun b hb => by simp [Phi.put, hb]
  refine ⟨hw.below.trans (hbl.mono hw.below.size), fun hp h1 b k h2 => ?_, fun b k hb => ?_, fun b b' k k' p p' h1 h2 h3 h4 hsep h5 h6 => ?_, ⟨fun e' he' => ?_, .cons (fun e' he' p p' hp hp' => ?_) ?_⟩⟩
  · exact (hw.ro hp h1 b k h2).mono hst.ext
  · rcases hw.loc b k hb with h1 | ⟨p, fz, h1, h2⟩
    · exact .inl (h1.mono hst.ext)
    · exact .inr ⟨p, fz, (h1.mono hst.ext).world (hbl.block p.1 h1.lt), h2⟩
  · rw [hφ b (hne b k h1 (hsep.l.back hst.ext))] at h5; rw [hφ b' (hne b' k' h2 (hsep.r.back hst.ext))] at h6
    exact hw.apart b b' k k' p p' h1 h2 h3 h4 (hsep.back hst.ext) h5 h6
  · rcases List.mem_cons.1 he' with rfl | he'
    · exact h
    · exact (hw.loops.all e' he').step hst.ext (Others.of_lt fun i hi => hbl.block i hi)
  · obtain ⟨p0, g1, g2, _⟩ := (hw.loops.all e' he').at
    have g3 := hst.ext _ _ g1
    rw [hp'] at g3; cases g3
    rw [he] at hp
    have : p = (w.heap.size, 0, 0) := by simp [Phi.put] at hp; exact hp.symm
    subst this
    show w.heap.size ≠ p'.1
    omega
  · exact pairwise_mono hst.ext hw.loops.all hw.loops.apart
end Go.Ev
