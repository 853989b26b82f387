/- A region that draws its order: whatever the order, the state at its end is the evaluator's. -/
import Derived.Test.YtiadfbpbeaeflaaDoorEvS9
import Derived.Orders
namespace Go.Ev
open Go.RowKit (Below)
abbrev Pend := List (Nat × PH)
structure Rec where
  o : Oper
  d : DI
  ran : Bool
  T : Tr EV
  c : List Bool
  c' : List Bool
  v : EV
  base : Heap
  H : Heap
  J : List JE
  J' : List JE
  pend : Pend
  sgl : List Heap
  ld : Option LD
def Rec.nbase (r : Rec) : Heap := match r.ran, r.d.kind with | true, .write => r.H | _, _ => r.base
def Rec.jn (r : Rec) : List JE := match r.ran, r.d.kind with | true, .write => r.J' | _, _ => r.J
def Rec.npend (r : Rec) (i : Nat) : Pend := match r.ran, r.d.kind with | true, .heap => (i, ⟨r.H, r.c, r.c'⟩) :: r.pend | true, .write => [] | _, _ => r.pend
noncomputable def Rec.st (R : List Heap) (r : Rec) : St := match r.d.kind with
  | .pure => ⟨r.c, .nil, [], []⟩
  | .heap => ⟨r.c, .nil, viewOf r.d.mask r.pend (r.base :: R), []⟩
  | .write => ⟨r.c, mergeAll r.pend r.base, R, r.J⟩
  | .load _ _ => ⟨r.c, .nil, r.sgl, []⟩
def Rec.le (r : Rec) : LE := match r.ran, r.d.kind with | true, .write => .w r.d.mask r.H | true, .heap => .h r.H | _, _ => .n
def Rec.Fact (P : Program) (R : List Heap) (r : Rec) : Prop :=
  (r.ran = false → r.v = .tuple [] ∧ r.c' = r.c) ∧
  (r.ran = true → ∃ s', s'.c = r.c' ∧ s'.L = r.H ∧ s'.J = r.J' ∧
    ∀ {w0 : World} {φ : Phi} {w : World} {ρ : Operand → Value} (o : Oper), o.op = r.o.op → Fresh φ r.c r.c' → WR w0 φ (r.st R) w →
      (∀ x ∈ r.o.op.operands, ∀ p, cOpd x = some p → VR φ (p.run r.T) (ρ x)) → NextRun P ((execOp ρ o).run P w) (Snd (r.st R) s' φ w0 r.v)) ∧
  (r.ran = true → ∀ x n, r.d.kind = .load x n → r.sgl = R ∨ ∃ d, r.ld = some d ∧ d.mask = r.d.mask ∧ r.sgl = [window d.b d.o d.vs])
def Chain (P : Program) (R : List Heap) : List Rec → Nat → Tr EV → List Bool → Heap → List JE → Pend → Tr EV → List Bool → Heap → List JE → Pend → Prop
  | [], _, T, c, base, J, pend, T', c', base', J', pend' => T' = T ∧ c' = c ∧ base' = base ∧ J' = J ∧ pend' = pend
  | r :: rs, i, T, c, base, J, pend, T', c', base', J', pend' =>
    (r.T = T ∧ r.c = c ∧ r.base = base ∧ r.J = J ∧ r.pend = pend ∧ val r.c ≤ val r.c' ∧ (okG T r.d.guard = true ∧ r.ran = wantG T r.d.guard) ∧ r.Fact P R) ∧
      Chain P R rs (i + 1) (setN r.d.dst r.v T) r.c' r.nbase r.jn (r.npend i) T' c' base' J' pend'
section
variable {P : Program} {C : CallK} {R : List Heap}
theorem settleG_ok {g : Option (List Bool × Bool)} {T : Tr EV} {K : Tr EV → Ans} (h : settleG g T K = true) : K T = true := by
  cases g with
  | none => exact h
  | some p => exact settle_same h
theorem mergeC_eq {n : Nat} {H : Heap} {K : Heap → Ans} : ∀ {c : List Bool} {h : Heap}, mergeC n H c h K = K (mergeR n c H h) := by
  induction n with
  | zero => intro c h; rfl
  | succ n ih =>
    intro c h
    show incC c (fun c' => Option.rec (motive := fun _ => Ans) (mergeC n H c' h K) (fun k => Tr.setC (some k) c h fun h => mergeC n H c' h K) (H.get c)) = K (Option.rec (motive := fun _ => Heap) (mergeR n (inc c) H h) (fun k => mergeR n (inc c) H (Tr.set (some k) c h)) (H.get c))
    rw [incC_eq]
    cases H.get c with
    | none => exact ih
    | some k =>
      show Tr.setC (some k) c h (fun h => mergeC n H (inc c) h K) = _
      rw [Tr.setC_eq, ih]
theorem mergeAllC_eq : ∀ {pend : List (Nat × PH)} {base : Heap} {K : Heap → Ans}, mergeAllC pend base K = K (mergeAll pend base)
  | [], _, _ => rfl
  | p :: pend, base, K => by
    show mergeAllC pend base (fun h => mergeC (Nat.sub (valL p.2.c1) (valL p.2.c0)) p.2.H p.2.c0 h K) = _
    rw [mergeAllC_eq, mergeC_eq]; rfl
theorem setNC_eq {d : Option Nat} {v : EV} {T : Tr EV} {K : Tr EV → Ans} : setNC d v T K = K (setN d v T) := by
  cases d with
  | none => rfl
  | some d => exact Tr.setC_eq _ _ _ _
theorem kdR_cases {k : Kd} {p h w : Ans} {l : Opd → Nat → Ans} (hh : kdR k p h w l = true) : (k = .pure ∧ p = true) ∨ (k = .heap ∧ h = true) ∨ (k = .write ∧ w = true) ∨ (∃ x n, k = .load x n ∧ l x n = true) := by
  cases k with
  | pure => exact .inl ⟨rfl, hh⟩
  | heap => exact .inr (.inl ⟨rfl, hh⟩)
  | write => exact .inr (.inr (.inl ⟨rfl, hh⟩))
  | load x n => exact .inr (.inr (.inr ⟨x, n, rfl, hh⟩))
theorem openW_ok {b : List Bool} {o n : Nat} {yes : List EV → Ans} {no : Ans} : ∀ {hs : List Heap}, openW b o n yes no hs = true → no = true ∨ ∃ vs, yes vs = true
  | [], h => .inl h
  | g :: hs, h => by
    cases hg : g.get b with
    | none =>
      refine openW_ok (b := b) (o := o) (n := n) (hs := hs) ?_
      have : Option.rec (motive := fun _ => Ans) (openW b o n yes no hs) (fun k => fN o fun o => readN k.cells n o yes) (g.get b) = true := h
      rw [hg] at this; exact this
    | some k =>
      have : Option.rec (motive := fun _ => Ans) (openW b o n yes no hs) (fun k => fN o fun o => readN k.cells n o yes) (g.get b) = true := h
      rw [hg] at this
      have this : fN o (fun o => readN k.cells n o yes) = true := this
      rw [fN_eq] at this
      obtain ⟨l, h1, _⟩ := readN_ok this
      exact .inr ⟨l, h1⟩
/-- the loads that were read of themselves are put down -/
def Put (i : Nat) (recs : List Rec) (lds : List LD) : Prop := ∀ (j : Nat) (r : Rec) (d : LD), recs[j]? = some r → r.ld = some d → d ∈ lds ∧ d.j = i + j
theorem Put.cons {i : Nat} {r : Rec} {recs : List Rec} {lds : List LD} (h : Put (i + 1) recs lds) (hr : ∀ d, r.ld = some d → d ∈ lds ∧ d.j = i) : Put i (r :: recs) lds := fun j x d hx hd => by
  cases j with
  | zero => simp at hx; subst hx; simpa using hr d hd
  | succ j => obtain ⟨h1, h2⟩ := h j x d (by simpa using hx) hd; exact ⟨h1, by omega⟩
theorem chain_of_run {B0 : Heap} (hC : CallSound P C) : ∀ (l : List (Oper × DI)), (∀ x ∈ l, x.2.op = cOp P x.1.op) → ∀ (i : Nat) (T : Tr EV) (c : List Bool) (base : Heap) (J : List JE) (pend : Pend) (log : List LE) (lds : List LD) (K : Tr EV → St → Ans),
    drawRun C B0 R (l.map (·.2)) i T c base J pend log lds K = true → ∃ recs T' c' base' J' pend', recs.map (fun r => (r.o, r.d)) = l ∧ Chain P R recs i T c base J pend T' c' base' J' pend' ∧
      (∃ lds', allStable B0 ((recs.map Rec.le).reverse ++ log) lds' = true ∧ (∀ d ∈ lds, d ∈ lds') ∧ Put i recs lds') ∧ K T' ⟨c', mergeAll pend' base', R, J'⟩ = true
  | [], _, i, T, c, base, J, pend, log, lds, K, h => by
    obtain ⟨h1, h2⟩ := guard_ok (show guardB (allStable B0 log lds) (mergeAllC pend base fun L => K T ⟨c, L, R, J⟩) = true from h)
    rw [mergeAllC_eq] at h2
    exact ⟨[], T, c, base, J, pend, rfl, ⟨rfl, rfl, rfl, rfl, rfl⟩, ⟨lds, h1, fun _ h => h, fun j r d hr => by simp at hr⟩, h2⟩
  | (o, d) :: l, hl, i, T, c, base, J, pend, log, lds, K, h => by
    have hop : d.op = cOp P o.op := hl (o, d) List.mem_cons_self
    have hl' : ∀ x ∈ l, x.2.op = cOp P x.1.op := fun x hx => hl x (List.mem_cons_of_mem _ hx)
    obtain ⟨hok, h⟩ := guard_ok (show guardB (okG T d.guard) (settleG d.guard T _) = true from h)
    have h := settleG_ok h
    have h : bR (wantG T d.guard)
        (kdR d.kind
          (d.op.run C T ⟨c, .nil, [], []⟩ fun v s => setNC d.dst v T fun T => drawRun C B0 R (l.map (·.2)) (Nat.succ i) T s.c base J pend (.n :: log) lds K)
          (d.op.run C T ⟨c, .nil, viewOf d.mask pend (base :: R), []⟩ fun v s => setNC d.dst v T fun T => drawRun C B0 R (l.map (·.2)) (Nat.succ i) T s.c base J ((i, ⟨s.L, c, s.c⟩) :: pend) (.h s.L :: log) lds K)
          (mergeAllC pend base fun L => d.op.run C T ⟨c, L, R, J⟩ fun v s => setNC d.dst v T fun T => drawRun C B0 R (l.map (·.2)) (Nat.succ i) T s.c s.L s.J [] (.w d.mask s.L :: log) lds K)
          (fun x n => asPtr (x.run T) fun b o => openW b o n
            (fun vs => d.op.run C T ⟨c, .nil, [window b o vs], []⟩ fun v s => setNC d.dst v T fun T => drawRun C B0 R (l.map (·.2)) (Nat.succ i) T s.c base J pend (.n :: log) (⟨i, b, o, vs, d.mask⟩ :: lds) K)
            (d.op.run C T ⟨c, .nil, R, []⟩ fun v s => setNC d.dst v T fun T => drawRun C B0 R (l.map (·.2)) (Nat.succ i) T s.c base J pend (.n :: log) lds K)
            (viewOf d.mask pend [base])))
        (setNC d.dst (.tuple []) T fun T => drawRun C B0 R (l.map (·.2)) (Nat.succ i) T c base J pend (.n :: log) lds K) = true := h
    rw [hop] at h
    cases hw : wantG T d.guard with
    | false =>
      rw [hw] at h
      have h : setNC d.dst (.tuple []) T (fun T => drawRun C B0 R (l.map (·.2)) (Nat.succ i) T c base J pend (.n :: log) lds K) = true := h
      rw [setNC_eq] at h
      obtain ⟨recs, T', c', base', J', pend', h1, h2, ⟨lds', k1, k2, k3⟩, h3⟩ := chain_of_run hC l hl' _ _ _ _ _ _ _ _ _ h
      refine ⟨⟨o, d, false, T, c, c, .tuple [], base, .nil, J, [], pend, [], none⟩ :: recs, T', c', base', J', pend', by simp [h1], ⟨⟨rfl, rfl, rfl, rfl, rfl, Nat.le_refl _, ⟨hok, hw.symm⟩, fun _ => ⟨rfl, rfl⟩, (fun h => by cases h), fun h => by cases h⟩, ?_⟩, ⟨lds', by simpa [Rec.le] using k1, k2, k3.cons fun d hd => by cases hd⟩, h3⟩
      exact h2
    | true =>
      rw [hw] at h
      rcases kdR_cases h with ⟨hk, h⟩ | ⟨hk, h⟩ | ⟨hk, h⟩ | ⟨x, n, hk, h⟩
      · obtain ⟨v, s1, h1, h2, h3⟩ := cOp_sound hC o.op _ _ _ h
        rw [setNC_eq] at h1
        obtain ⟨recs, T', c', base', J', pend', h4, h5, ⟨lds', k1, k2, k3⟩, h6⟩ := chain_of_run hC l hl' _ _ _ _ _ _ _ _ _ h1
        refine ⟨⟨o, d, true, T, c, s1.c, v, base, s1.L, J, s1.J, pend, [], none⟩ :: recs, T', c', base', J', pend', by simp [h4],
          ⟨⟨rfl, rfl, rfl, rfl, rfl, h2, ⟨hok, hw.symm⟩, (fun h => by cases h), (fun _ => ⟨s1, rfl, rfl, rfl, ?_⟩), fun _ x n h => by rw [hk] at h; cases h⟩, ?_⟩, ⟨lds', by simpa [Rec.le, hk] using k1, k2, k3.cons fun d hd => by cases hd⟩, h6⟩
        · simp only [Rec.st, hk]; exact h3
        · simp only [Rec.nbase, Rec.npend, Rec.jn, hk]; exact h5
      · obtain ⟨v, s1, h1, h2, h3⟩ := cOp_sound hC o.op _ _ _ h
        rw [setNC_eq] at h1
        obtain ⟨recs, T', c', base', J', pend', h4, h5, ⟨lds', k1, k2, k3⟩, h6⟩ := chain_of_run hC l hl' _ _ _ _ _ _ _ _ _ h1
        refine ⟨⟨o, d, true, T, c, s1.c, v, base, s1.L, J, s1.J, pend, [], none⟩ :: recs, T', c', base', J', pend', by simp [h4],
          ⟨⟨rfl, rfl, rfl, rfl, rfl, h2, ⟨hok, hw.symm⟩, (fun h => by cases h), (fun _ => ⟨s1, rfl, rfl, rfl, ?_⟩), fun _ x n h => by rw [hk] at h; cases h⟩, ?_⟩, ⟨lds', by simpa [Rec.le, hk] using k1, k2, k3.cons fun d hd => by cases hd⟩, h6⟩
        · simp only [Rec.st, hk]; exact h3
        · simp only [Rec.nbase, Rec.npend, Rec.jn, hk]; exact h5
      · rw [mergeAllC_eq] at h
        obtain ⟨v, s1, h1, h2, h3⟩ := cOp_sound hC o.op _ _ _ h
        rw [setNC_eq] at h1
        obtain ⟨recs, T', c', base', J', pend', h4, h5, ⟨lds', k1, k2, k3⟩, h6⟩ := chain_of_run hC l hl' _ _ _ _ _ _ _ _ _ h1
        refine ⟨⟨o, d, true, T, c, s1.c, v, base, s1.L, J, s1.J, pend, [], none⟩ :: recs, T', c', base', J', pend', by simp [h4],
          ⟨⟨rfl, rfl, rfl, rfl, rfl, h2, ⟨hok, hw.symm⟩, (fun h => by cases h), (fun _ => ⟨s1, rfl, rfl, rfl, ?_⟩), fun _ x n h => by rw [hk] at h; cases h⟩, ?_⟩, ⟨lds', by simpa [Rec.le, hk] using k1, k2, k3.cons fun d hd => by cases hd⟩, h6⟩
        · simp only [Rec.st, hk]; exact h3
        · simp only [Rec.nbase, Rec.npend, Rec.jn, hk]; exact h5
      · obtain ⟨b, of, _, h⟩ := asPtr_ok h
        rcases openW_ok h with h | ⟨vs, h⟩
        · obtain ⟨v, s1, h1, h2, h3⟩ := cOp_sound hC o.op _ _ _ h
          rw [setNC_eq] at h1
          obtain ⟨recs, T', c', base', J', pend', h4, h5, ⟨lds', k1, k2, k3⟩, h6⟩ := chain_of_run hC l hl' _ _ _ _ _ _ _ _ _ h1
          refine ⟨⟨o, d, true, T, c, s1.c, v, base, s1.L, J, s1.J, pend, R, none⟩ :: recs, T', c', base', J', pend', by simp [h4],
            ⟨⟨rfl, rfl, rfl, rfl, rfl, h2, ⟨hok, hw.symm⟩, (fun h => by cases h), (fun _ => ⟨s1, rfl, rfl, rfl, ?_⟩), fun _ _ _ _ => .inl rfl⟩, ?_⟩, ⟨lds', by simpa [Rec.le, hk] using k1, k2, k3.cons fun d hd => by cases hd⟩, h6⟩
          · simp only [Rec.st, hk]; exact h3
          · simp only [Rec.nbase, Rec.npend, Rec.jn, hk]; exact h5
        · obtain ⟨v, s1, h1, h2, h3⟩ := cOp_sound hC o.op _ _ _ h
          rw [setNC_eq] at h1
          obtain ⟨recs, T', c', base', J', pend', h4, h5, ⟨lds', k1, k2, k3⟩, h6⟩ := chain_of_run hC l hl' _ _ _ _ _ _ _ _ _ h1
          refine ⟨⟨o, d, true, T, c, s1.c, v, base, s1.L, J, s1.J, pend, [window b of vs], some ⟨i, b, of, vs, d.mask⟩⟩ :: recs, T', c', base', J', pend', by simp [h4],
            ⟨⟨rfl, rfl, rfl, rfl, rfl, h2, ⟨hok, hw.symm⟩, (fun h => by cases h), (fun _ => ⟨s1, rfl, rfl, rfl, ?_⟩), fun _ _ _ _ => .inr ⟨_, rfl, rfl, rfl⟩⟩, ?_⟩,
            ⟨lds', by simpa [Rec.le, hk] using k1, (fun d hd => k2 d (List.mem_cons_of_mem _ hd)), k3.cons fun d hd => by cases hd; exact ⟨k2 _ List.mem_cons_self, rfl⟩⟩, h6⟩
          · simp only [Rec.st, hk]; exact h3
          · simp only [Rec.nbase, Rec.npend, Rec.jn, hk]; exact h5

/-! ### what is known of memory when some of the operations have been carried out -/
abbrev Mem := List Bool → Blk → Prop
def Rec.mem (r : Rec) (M : Mem) : Mem := match r.ran, r.d.kind with
  | true, .heap => fun b k => M b k ∨ r.H.get b = some k
  | true, .write => fun b k => r.H.get b = some k
  | _, _ => M
def MS (S : Nat → Bool) : List Rec → Nat → Mem → Mem
  | [], _, M => M
  | r :: rs, i, M => MS S rs (i + 1) (if S i then r.mem M else M)
def TS (S : Nat → Bool) : List Rec → Nat → (Nat → EV) → Nat → EV
  | [], _, f => f
  | r :: rs, i, f => TS S rs (i + 1) (if S i then (fun t => if r.d.dst = some t then r.v else f t) else f)
theorem MS_append (S : Nat → Bool) : ∀ (a b : List Rec) (i : Nat) (M : Mem), MS S (a ++ b) i M = MS S b (i + a.length) (MS S a i M)
  | [], b, i, M => rfl
  | r :: a, b, i, M => by
    show MS S (a ++ b) (i + 1) _ = MS S b (i + (a.length + 1)) (MS S a (i + 1) _)
    rw [MS_append S a b, show i + 1 + a.length = i + (a.length + 1) from by omega]
theorem TS_append (S : Nat → Bool) : ∀ (a b : List Rec) (i : Nat) (f : Nat → EV), TS S (a ++ b) i f = TS S b (i + a.length) (TS S a i f)
  | [], b, i, f => rfl
  | r :: a, b, i, f => by
    show TS S (a ++ b) (i + 1) _ = TS S b (i + (a.length + 1)) (TS S a (i + 1) _)
    rw [TS_append S a b, show i + 1 + a.length = i + (a.length + 1) from by omega]
theorem MS_congr {S S' : Nat → Bool} : ∀ (a : List Rec) (i : Nat) (M : Mem), (∀ j, i ≤ j → j < i + a.length → S j = S' j) → MS S a i M = MS S' a i M
  | [], _, _, _ => rfl
  | r :: a, i, M, h => by
    show MS S a (i + 1) _ = MS S' a (i + 1) _
    rw [h i (Nat.le_refl _) (by simp), MS_congr a (i + 1) _ fun j h1 h2 => h j (by omega) (by simp; omega)]
theorem TS_congr {S S' : Nat → Bool} : ∀ (a : List Rec) (i : Nat) (f : Nat → EV), (∀ j, i ≤ j → j < i + a.length → S j = S' j) → TS S a i f = TS S' a i f
  | [], _, _, _ => rfl
  | r :: a, i, f, h => by
    show TS S a (i + 1) _ = TS S' a (i + 1) _
    rw [h i (Nat.le_refl _) (by simp), TS_congr a (i + 1) _ fun j h1 h2 => h j (by omega) (by simp; omega)]
/-- behind: nothing that touches the heap has been carried out -/
theorem MS_quiet {S : Nat → Bool} : ∀ (a : List Rec) (i : Nat) (M : Mem), (∀ j r, a[j]? = some r → isFree r.d.kind = false → S (i + j) = false) → MS S a i M = M
  | [], _, _, _ => rfl
  | r :: a, i, M, h => by
    have e : (if S i then r.mem M else M) = M := by
      cases hk : r.d.kind with
      | pure => unfold Rec.mem; rw [hk]; split <;> (try split) <;> simp_all
      | heap => rw [show S i = false from h 0 r rfl (by rw [hk]; rfl)]; rfl
      | write => rw [show S i = false from h 0 r rfl (by rw [hk]; rfl)]; rfl
      | load x n => unfold Rec.mem; rw [hk]; split <;> (try split) <;> simp_all
    show MS S a (i + 1) _ = M
    rw [e]
    exact MS_quiet a (i + 1) M fun j r' hj hk => by have := h (j + 1) r' (by simpa using hj) hk; rw [← this]; congr 1; omega
/-- behind: no writer has been carried out: what was known stays known, and what is new comes from there alone -/
theorem MS_grow {S : Nat → Bool} : ∀ (a : List Rec) (i : Nat) (M M' X : Mem), (∀ j r, a[j]? = some r → r.d.kind = .write → S (i + j) = false) → (∀ b k, M' b k → M b k ∨ X b k) →
    (∀ b k, M b k → MS S a i M b k) ∧ ∀ b k, MS S a i M' b k → MS S a i M b k ∨ X b k
  | [], _, M, M', X, _, hX => ⟨fun _ _ h => h, hX⟩
  | r :: a, i, M, M', X, h, hX => by
    have step : ∃ E : Mem, (∀ N : Mem, (if S i then r.mem N else N) = fun b k => N b k ∨ E b k) := by
      cases hS : S i with
      | false => exact ⟨fun _ _ => False, fun N => by funext b k; simp⟩
      | true =>
        cases hr : r.ran with
        | false => exact ⟨fun _ _ => False, fun N => by funext b k; simp [Rec.mem, hr]⟩
        | true =>
          cases hk : r.d.kind with
          | pure => exact ⟨fun _ _ => False, fun N => by funext b k; simp [Rec.mem, hr, hk]⟩
          | load x n => exact ⟨fun _ _ => False, fun N => by funext b k; simp [Rec.mem, hr, hk]⟩
          | heap => exact ⟨fun b k => r.H.get b = some k, fun N => by funext b k; simp [Rec.mem, hr, hk]⟩
          | write => have := h 0 r rfl hk; simp at this; rw [this] at hS; cases hS
    obtain ⟨E, hE⟩ := step
    have h' : ∀ j r', a[j]? = some r' → r'.d.kind = .write → S (i + 1 + j) = false := fun j r' hj hk => by
      have := h (j + 1) r' (by simpa using hj) hk; rw [← this]; congr 1; omega
    obtain ⟨g1, g2⟩ := MS_grow a (i + 1) (fun b k => M b k ∨ E b k) (fun b k => M' b k ∨ E b k) X h' fun b k hh => by
      rcases hh with hh | hh
      · rcases hX b k hh with h | h
        · exact .inl (.inl h)
        · exact .inr h
      · exact .inl (.inr hh)
    refine ⟨fun b k hb => ?_, fun b k hb => ?_⟩
    · show MS S a (i + 1) _ b k
      rw [hE]; exact g1 b k (.inl hb)
    · have hb : MS S a (i + 1) (if S i then r.mem M' else M') b k := hb
      rw [hE] at hb
      show MS S a (i + 1) (if S i then r.mem M else M) b k ∨ _
      rw [hE]; exact g2 b k hb
/-- a temporary that nothing behind has written -/
theorem TS_quiet {S : Nat → Bool} {t : Nat} : ∀ (a : List Rec) (i : Nat) (f : Nat → EV), (∀ j r, a[j]? = some r → r.d.dst = some t → S (i + j) = false) → TS S a i f t = f t
  | [], _, _, _ => rfl
  | r :: a, i, f, h => by
    show TS S a (i + 1) _ t = f t
    rw [TS_quiet a (i + 1) _ fun j r' hj hd => by have := h (j + 1) r' (by simpa using hj) hd; rw [← this]; congr 1; omega]
    cases hS : S i with
    | false => rfl
    | true =>
      simp only [if_true]
      rw [if_neg fun e => by have := h 0 r rfl e; simp at this; rw [this] at hS; cases hS]
theorem TS_ext {S : Nat → Bool} {t : Nat} : ∀ (a : List Rec) (i : Nat) (f g : Nat → EV), f t = g t → TS S a i f t = TS S a i g t
  | [], _, _, _, h => h
  | r :: a, i, f, g, h => by
    refine TS_ext a (i + 1) _ _ ?_
    cases S i with
    | false => exact h
    | true =>
      show (if r.d.dst = some t then r.v else f t) = (if r.d.dst = some t then r.v else g t)
      rw [h]

theorem chain_append : ∀ (a b : List Rec) (i : Nat) (T : Tr EV) (c : List Bool) (base : Heap) (J : List JE) (pend : Pend) (T' : Tr EV) (c' : List Bool) (base' : Heap) (J' : List JE) (pend' : Pend), Chain P R (a ++ b) i T c base J pend T' c' base' J' pend' →
    ∃ T1 c1 base1 J1 pend1, Chain P R a i T c base J pend T1 c1 base1 J1 pend1 ∧ Chain P R b (i + a.length) T1 c1 base1 J1 pend1 T' c' base' J' pend'
  | [], b, i, T, c, base, J, pend, T', c', base', J', pend', h => ⟨T, c, base, J, pend, ⟨rfl, rfl, rfl, rfl, rfl⟩, h⟩
  | r :: a, b, i, T, c, base, J, pend, T', c', base', J', pend', h => by
    obtain ⟨h1, h2⟩ := h
    obtain ⟨T1, c1, base1, J1, pend1, h3, h4⟩ := chain_append a b (i + 1) _ _ _ _ _ _ _ _ _ _ h2
    refine ⟨T1, c1, base1, J1, pend1, ⟨h1, h3⟩, ?_⟩
    rw [show i + (r :: a).length = i + 1 + a.length from by simp; omega]
    exact h4
theorem getT_setN {d : Option Nat} {v : EV} {T : Tr EV} {t : Nat} : getT (key t) (setN d v T) = if d = some t then v else getT (key t) T := by
  cases d with
  | none => rw [if_neg (by simp)]; rfl
  | some d =>
    show getT (key t) (Tr.set (some v) (key d) T) = _
    rw [getT_set]
    by_cases h : d = t
    · rw [if_pos h, if_pos (by rw [h])]
    · rw [if_neg h, if_neg (by simpa using h)]
theorem chain_T : ∀ (a : List Rec) {i : Nat} {T : Tr EV} {c : List Bool} {base : Heap} {J : List JE} {pend : Pend} {T' : Tr EV} {c' : List Bool} {base' : Heap} {J' : List JE} {pend' : Pend}, Chain P R a i T c base J pend T' c' base' J' pend' →
    ∀ t, getT (key t) T' = TS (fun _ => true) a i (fun t => getT (key t) T) t
  | [], i, T, c, base, J, pend, T', c', base', J', pend', h, t => by rw [h.1]; rfl
  | r :: a, i, T, c, base, J, pend, T', c', base', J', pend', h, t => by
    rw [chain_T a h.2 t]
    refine TS_ext a (i + 1) _ _ ?_
    simp only [if_true]
    rw [getT_setN]
theorem chain_c : ∀ (a : List Rec) {i : Nat} {T : Tr EV} {c : List Bool} {base : Heap} {J : List JE} {pend : Pend} {T' : Tr EV} {c' : List Bool} {base' : Heap} {J' : List JE} {pend' : Pend}, Chain P R a i T c base J pend T' c' base' J' pend' →
    val c ≤ val c' ∧ ∀ r ∈ a, val c ≤ val r.c ∧ val r.c ≤ val r.c' ∧ val r.c' ≤ val c'
  | [], i, T, c, base, J, pend, T', c', base', J', pend', h => by rw [h.2.1]; exact ⟨Nat.le_refl _, fun r hr => by cases hr⟩
  | r :: a, i, T, c, base, J, pend, T', c', base', J', pend', h => by
    obtain ⟨⟨_, h2, _, _, _, h5, _⟩, h7⟩ := h
    obtain ⟨g1, g2⟩ := chain_c a h7
    rw [← h2]
    refine ⟨by omega, fun x hx => ?_⟩
    rcases List.mem_cons.1 hx with rfl | hx
    · exact ⟨Nat.le_refl _, h5, g1⟩
    · have := g2 x hx; omega
def PM (base : Heap) (pend : Pend) : Mem := fun b k => base.get b = some k ∨ ∃ p ∈ pend, p.2.get b = some k
theorem PM_next (r : Rec) (i : Nat) : PM r.nbase (r.npend i) = r.mem (PM r.base r.pend) := by
  funext b k
  unfold Rec.nbase Rec.npend Rec.mem
  cases r.ran with
  | false => simp
  | true =>
    cases r.d.kind with
    | pure => simp
    | load x n => simp
    | heap =>
      simp only [PM, List.mem_cons, eq_iff_iff]
      constructor
      · rintro (h | ⟨p, rfl | hp, h⟩)
        · exact .inl (.inl h)
        · exact .inr h
        · exact .inl (.inr ⟨p, hp, h⟩)
      · rintro ((h | ⟨p, hp, h⟩) | h)
        · exact .inl h
        · exact .inr ⟨p, .inr hp, h⟩
        · exact .inr ⟨_, .inl rfl, h⟩
    | write => simp [PM]
theorem chain_M : ∀ (a : List Rec) {i : Nat} {T : Tr EV} {c : List Bool} {base : Heap} {J : List JE} {pend : Pend} {T' : Tr EV} {c' : List Bool} {base' : Heap} {J' : List JE} {pend' : Pend}, Chain P R a i T c base J pend T' c' base' J' pend' →
    PM base' pend' = MS (fun _ => true) a i (PM base pend)
  | [], i, T, c, base, J, pend, T', c', base', J', pend', h => by rw [h.2.2.1, h.2.2.2.2]; rfl
  | r :: a, i, T, c, base, J, pend, T', c', base', J', pend', h => by
    obtain ⟨⟨_, _, h3, _, h4, _⟩, h7⟩ := h
    rw [chain_M a h7, PM_next, h3, h4]; rfl
/-! what is no cells: writers alone turn it -/
def JSt (S : Nat → Bool) : List Rec → Nat → List JE → List JE
  | [], _, J => J
  | r :: rs, i, J => JSt S rs (i + 1) (if S i && r.ran && isWrite r.d.kind then r.J' else J)
theorem JSt_append (S : Nat → Bool) : ∀ (a b : List Rec) (i : Nat) (J : List JE), JSt S (a ++ b) i J = JSt S b (i + a.length) (JSt S a i J)
  | [], b, i, J => rfl
  | r :: a, b, i, J => by
    show JSt S (a ++ b) (i + 1) _ = JSt S b (i + (a.length + 1)) (JSt S a (i + 1) _)
    rw [JSt_append S a b, show i + 1 + a.length = i + (a.length + 1) from by omega]
theorem JSt_congr {S S' : Nat → Bool} : ∀ (a : List Rec) (i : Nat) (J : List JE), (∀ j, i ≤ j → j < i + a.length → S j = S' j) → JSt S a i J = JSt S' a i J
  | [], _, _, _ => rfl
  | r :: a, i, J, h => by
    show JSt S a (i + 1) _ = JSt S' a (i + 1) _
    rw [h i (Nat.le_refl _) (by simp), JSt_congr a (i + 1) _ fun j h1 h2 => h j (by omega) (by simp; omega)]
theorem JSt_quiet {S : Nat → Bool} : ∀ (a : List Rec) (i : Nat) (J : List JE), (∀ j r, a[j]? = some r → r.d.kind = .write → S (i + j) = false) → JSt S a i J = J
  | [], _, _, _ => rfl
  | r :: a, i, J, h => by
    have e : (if S i && r.ran && isWrite r.d.kind then r.J' else J) = J := by
      cases hk : r.d.kind with
      | write => have := h 0 r rfl hk; simp at this; rw [this]; simp
      | _ => simp [isWrite]
    show JSt S a (i + 1) _ = J
    rw [e]
    exact JSt_quiet a (i + 1) J fun j r' hj hk => by have := h (j + 1) r' (by simpa using hj) hk; rw [← this]; congr 1; omega
theorem JSt_full {S : Nat → Bool} : ∀ (a : List Rec) (i : Nat) (J : List JE), (∀ j r, a[j]? = some r → r.d.kind = .write → S (i + j) = true) → JSt S a i J = JSt (fun _ => true) a i J
  | [], _, _, _ => rfl
  | r :: a, i, J, h => by
    have e : (if S i && r.ran && isWrite r.d.kind then r.J' else J) = (if true && r.ran && isWrite r.d.kind then r.J' else J) := by
      cases hk : r.d.kind with
      | write => have := h 0 r rfl hk; simp at this; rw [this]
      | _ => simp [isWrite]
    show JSt S a (i + 1) _ = JSt _ a (i + 1) _
    rw [e]
    exact JSt_full a (i + 1) _ fun j r' hj hk => by have := h (j + 1) r' (by simpa using hj) hk; rw [← this]; congr 1; omega
theorem chain_J : ∀ (a : List Rec) {i : Nat} {T : Tr EV} {c : List Bool} {base : Heap} {J : List JE} {pend : Pend} {T' : Tr EV} {c' : List Bool} {base' : Heap} {J' : List JE} {pend' : Pend}, Chain P R a i T c base J pend T' c' base' J' pend' →
    J' = JSt (fun _ => true) a i J
  | [], i, T, c, base, J, pend, T', c', base', J', pend', h => h.2.2.2.1
  | r :: a, i, T, c, base, J, pend, T', c', base', J', pend', h => by
    obtain ⟨⟨_, _, _, h3, _⟩, h7⟩ := h
    rw [chain_J a h7]
    show JSt _ a (i + 1) r.jn = JSt _ a (i + 1) _
    congr 1
    unfold Rec.jn
    cases r.ran <;> cases r.d.kind <;> simp [isWrite, h3]
/-- what no number's key is stays -/
theorem chain_D : ∀ (a : List Rec) {i : Nat} {T : Tr EV} {c : List Bool} {base : Heap} {J : List JE} {pend : Pend} {T' : Tr EV} {c' : List Bool} {base' : Heap} {J' : List JE} {pend' : Pend}, Chain P R a i T c base J pend T' c' base' J' pend' →
    ∀ q : List Bool, (∀ n, key n ≠ q) → T'.get q = T.get q
  | [], i, T, c, base, J, pend, T', c', base', J', pend', h, q, _ => by rw [h.1]
  | r :: a, i, T, c, base, J, pend, T', c', base', J', pend', h, q, hq => by
    rw [chain_D a h.2 q hq]
    cases hd : r.d.dst with
    | none => rfl
    | some d =>
      show (Tr.set (some r.v) (key d) T).get q = _
      rw [Tr.get_set, if_neg (hq d)]
theorem MS_full {S : Nat → Bool} : ∀ (a : List Rec) (i : Nat) (M : Mem), (∀ j r, a[j]? = some r → isFree r.d.kind = false → S (i + j) = true) → MS S a i M = MS (fun _ => true) a i M
  | [], _, _, _ => rfl
  | r :: a, i, M, h => by
    have e : (if S i then r.mem M else M) = r.mem M := by
      cases hk : r.d.kind with
      | pure => unfold Rec.mem; rw [hk]; split <;> (try split) <;> simp_all
      | heap => rw [show S i = true from h 0 r rfl (by rw [hk]; rfl)]; rfl
      | write => rw [show S i = true from h 0 r rfl (by rw [hk]; rfl)]; rfl
      | load x n => unfold Rec.mem; rw [hk]; split <;> (try split) <;> simp_all
    show MS S a (i + 1) _ = MS _ a (i + 1) (r.mem M)
    rw [e]
    exact MS_full a (i + 1) _ fun j r' hj hk => by have := h (j + 1) r' (by simpa using hj) hk; rw [← this]; congr 1; omega
theorem chain_view {S : Nat → Bool} : ∀ (a : List Rec) {i : Nat} {T : Tr EV} {c : List Bool} {base : Heap} {J : List JE} {pend : Pend} {T' : Tr EV} {c' : List Bool} {base' : Heap} {J' : List JE} {pend' : Pend} (M : Mem), Chain P R a i T c base J pend T' c' base' J' pend' →
    (∀ j r, a[j]? = some r → r.d.kind = .write → S (i + j) = true) → (∀ b k, base.get b = some k → M b k) → (∀ p ∈ pend, S p.1 = true → ∀ b k, p.2.get b = some k → M b k) →
    (∀ b k, base'.get b = some k → MS S a i M b k) ∧ (∀ p ∈ pend', S p.1 = true → ∀ b k, p.2.get b = some k → MS S a i M b k)
  | [], i, T, c, base, J, pend, T', c', base', J', pend', M, h, _, h1, h2 => by rw [h.2.2.1, h.2.2.2.2]; exact ⟨h1, h2⟩
  | r :: a, i, T, c, base, J, pend, T', c', base', J', pend', M, h, hw, h1, h2 => by
    obtain ⟨⟨_, _, h3, _, h4, _⟩, h7⟩ := h
    refine chain_view a _ h7 (fun j r' hj hk => by have := hw (j + 1) r' (by simpa using hj) hk; rw [← this]; congr 1; omega) ?_ ?_
    · intro b k hb
      unfold Rec.nbase at hb
      cases hr : r.ran with
      | false => rw [hr] at hb; simp only at hb; rw [h3] at hb; simp only [Rec.mem, hr]; split <;> exact h1 b k hb
      | true =>
        cases hk : r.d.kind with
        | pure => rw [hr, hk] at hb; simp only at hb; rw [h3] at hb; simp only [Rec.mem, hr, hk]; split <;> exact h1 b k hb
        | load x n => rw [hr, hk] at hb; simp only at hb; rw [h3] at hb; simp only [Rec.mem, hr, hk]; split <;> exact h1 b k hb
        | heap => rw [hr, hk] at hb; simp only at hb; rw [h3] at hb; simp only [Rec.mem, hr, hk]; split
                  · exact .inl (h1 b k hb)
                  · exact h1 b k hb
        | write =>
          rw [hr, hk] at hb
          have hS : S i = true := hw 0 r rfl hk
          rw [hS]; simp only [if_true, Rec.mem, hr, hk]; exact hb
    · intro p hp hS b k hb
      unfold Rec.npend at hp
      cases hr : r.ran with
      | false => rw [hr] at hp; simp only at hp; rw [h4] at hp; simp only [Rec.mem, hr]; split <;> exact h2 p hp hS b k hb
      | true =>
        cases hk : r.d.kind with
        | pure => rw [hr, hk] at hp; simp only at hp; rw [h4] at hp; simp only [Rec.mem, hr, hk]; split <;> exact h2 p hp hS b k hb
        | load x n => rw [hr, hk] at hp; simp only at hp; rw [h4] at hp; simp only [Rec.mem, hr, hk]; split <;> exact h2 p hp hS b k hb
        | heap =>
          rw [hr, hk] at hp; simp only at hp; rw [h4] at hp
          rcases List.mem_cons.1 hp with rfl | hp
          · have hS : S i = true := hS
            rw [hS]; simp only [if_true, Rec.mem, hr, hk]; exact .inr hb
          · simp only [Rec.mem, hr, hk]; split
            · exact .inl (h2 p hp hS b k hb)
            · exact h2 p hp hS b k hb
        | write => rw [hr, hk] at hp; simp at hp
theorem get_mergeR {n : Nat} : ∀ {c : List Bool} {H h : Heap} {b : List Bool} {k : Blk}, (mergeR n c H h).get b = some k → H.get b = some k ∨ h.get b = some k := by
  induction n with
  | zero => intro c H h b k hb; exact .inr hb
  | succ n ih =>
    intro c H h b k hb
    have hb : (Option.rec (motive := fun _ => Heap) (mergeR n (inc c) H h) (fun k => mergeR n (inc c) H (Tr.set (some k) c h)) (H.get c)).get b = some k := hb
    cases hg : H.get c with
    | none => rw [hg] at hb; exact ih hb
    | some x =>
      rw [hg] at hb
      rcases ih (show (mergeR n (inc c) H (Tr.set (some x) c h)).get b = some k from hb) with h1 | h1
      · exact .inl h1
      · rw [Tr.get_set] at h1
        split at h1
        · rename_i e; subst e; left; rw [hg]; exact h1
        · exact .inr h1
theorem get_merge {p : PH} {h : Heap} {b : List Bool} {k : Blk} (hb : (p.merge h).get b = some k) : p.get b = some k ∨ h.get b = some k := get_mergeR hb
theorem get_mergeAll {base : Heap} : ∀ {pend : Pend} {b : List Bool} {k : Blk}, (mergeAll pend base).get b = some k → PM base pend b k
  | [], b, k, h => .inl h
  | p :: pend, b, k, h => by
    rcases get_merge (show (p.2.merge (mergeAll pend base)).get b = some k from h) with h | h
    · exact .inr ⟨p, List.mem_cons_self, h⟩
    · rcases get_mergeAll h with h | ⟨q, hq, h⟩
      · exact .inl h
      · exact .inr ⟨q, List.mem_cons_of_mem _ hq, h⟩
theorem mem_viewOf {m : Nat} {tl : List Heap} : ∀ {pend : Pend} {h : Heap}, h ∈ viewOf m pend tl → h ∈ tl ∨ ∃ i p, (i, p) ∈ pend ∧ h = p.H ∧ m.testBit i = true
  | [], h, hh => .inl hh
  | p :: pend, h, hh => by
    have hh : h ∈ bR (Nat.testBit m p.1) (p.2.H :: viewOf m pend tl) (viewOf m pend tl) := hh
    cases hb : Nat.testBit m p.1 with
    | false =>
      rw [hb] at hh
      rcases mem_viewOf hh with h1 | ⟨i, q, h1, h2⟩
      · exact .inl h1
      · exact .inr ⟨i, q, List.mem_cons_of_mem _ h1, h2⟩
    | true =>
      rw [hb] at hh
      rcases List.mem_cons.1 hh with rfl | hh
      · exact .inr ⟨p.1, p.2, List.mem_cons_self, rfl, hb⟩
      · rcases mem_viewOf hh with h1 | ⟨i, q, h1, h2⟩
        · exact .inl h1
        · exact .inr ⟨i, q, List.mem_cons_of_mem _ h1, h2⟩

structure WRm (w0 : World) (φ : Phi) (M : Mem) (J : List JE) (R : List Heap) (w : World) : Prop where
  below : Below w0.heap.size w0 w
  ro : ∀ h ∈ R, ∀ b k, h.get b = some k → RoOk φ w0 b k
  loc : ∀ b k, M b k → LocOk w0 φ w b k
  apart : ∀ b b' k k' p p', M b k → M b' k' → b ≠ b' → k.mate ≠ some b' → Sep φ b k b' k' → φ b = some p → φ b' = some p' → p.1 ≠ p'.1
  loops : JOk φ w0 w J
theorem WRm.sub {w0 : World} {φ : Phi} {M : Mem} {J : List JE} {w : World} (h : WRm w0 φ M J R w) {L : Heap} (c : List Bool) (hs : ∀ b k, L.get b = some k → M b k) : WR w0 φ ⟨c, L, R, J⟩ w :=
  ⟨h.below, h.ro, fun b k hb => h.loc b k (hs b k hb), fun b b' k k' p p' h1 h2 => h.apart b b' k k' p p' (hs _ _ h1) (hs _ _ h2), h.loops⟩
theorem WRm.of {w0 : World} {φ : Phi} {s : St} {w : World} (h : WR w0 φ s w) : WRm w0 φ (fun b k => s.L.get b = some k) s.J s.R w := ⟨h.below, h.ro, h.loc, h.apart, h.loops⟩
theorem WRm.add {w0 : World} {φ φ' : Phi} {M : Mem} {J : List JE} {w w' : World} {s' : St} (h : WRm w0 φ M J R w) (hx : Ext2 φ φ') (h' : WR w φ' s' w') : WRm w0 φ' (fun b k => M b k ∨ s'.L.get b = some k) J R w' := by
  have hlt : ∀ b k p, M b k → Real φ' b k → φ' b = some p → φ b = some p ∧ p.1 < w.heap.size := by
    intro b k p hm hr hp
    obtain ⟨q, _, h1, _⟩ := (h.loc b k hm).real (hr.back hx)
    have := hx _ _ h1.1
    rw [hp] at this; cases this
    exact ⟨h1.1, h1.lt⟩
  have hge : ∀ b k p, s'.L.get b = some k → Real φ' b k → φ' b = some p → w.heap.size ≤ p.1 := by
    intro b k p hm hr hp
    obtain ⟨q, _, h1, _, h2⟩ := (h'.loc b k hm).real hr
    have := h1.1
    rw [hp] at this; cases this
    exact h2
  refine ⟨h.below.trans (h'.below.mono h.below.size), fun hp h1 b k h2 => ?_, fun b k hb => ?_, fun b b' k k' p p' h1 h2 h3 h4 hsep h5 h6 => ?_, h.loops.step hx (Others.of_lt fun i hi => h'.below.block i hi)⟩
  · exact (h.ro hp h1 b k h2).mono hx
  · rcases hb with hb | hb
    · rcases h.loc b k hb with h1 | ⟨p, fz, h1, h2⟩
      · exact .inl (h1.mono hx)
      · exact .inr ⟨p, fz, (h1.mono hx).world (h'.below.block p.1 h1.lt), h2⟩
    · rcases h'.loc b k hb with h1 | ⟨p, fz, h1, h2, h3⟩
      · exact .inl h1
      · exact .inr ⟨p, fz, h1, h2, Nat.le_trans h.below.size h3⟩
  · rcases h1 with h1 | h1 <;> rcases h2 with h2 | h2
    · exact h.apart b b' k k' p p' h1 h2 h3 h4 (hsep.back hx) (hlt b k p h1 hsep.l h5).1 (hlt b' k' p' h2 hsep.r h6).1
    · have := (hlt b k p h1 hsep.l h5).2; have := hge b' k' p' h2 hsep.r h6; omega
    · have := hge b k p h1 hsep.l h5; have := (hlt b' k' p' h2 hsep.r h6).2; omega
    · exact h'.apart b b' k k' p p' h1 h2 h3 h4 hsep h5 h6
theorem WRm.put {w0 : World} {φ φ' : Phi} {M : Mem} {J : List JE} {w w' : World} {s' : St} (h : WRm w0 φ M J R w) (hx : Ext2 φ φ') (h' : WR w0 φ' s' w') : WRm w0 φ' (fun b k => s'.L.get b = some k) s'.J R w' :=
  ⟨h'.below, fun hp h1 b k h2 => (h.ro hp h1 b k h2).mono hx, h'.loc, h'.apart, h'.loops⟩
theorem WRm.le {w0 : World} {φ : Phi} {M M' : Mem} {J : List JE} {w : World} (h : WRm w0 φ M J R w) (hs : ∀ b k, M' b k → M b k) : WRm w0 φ M' J R w :=
  ⟨h.below, h.ro, fun b k hb => h.loc b k (hs b k hb), fun b b' k k' p p' h1 h2 => h.apart b b' k k' p p' (hs _ _ h1) (hs _ _ h2), h.loops⟩
end
end Go.Ev
