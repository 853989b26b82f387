/- The evaluator's heap, held against the model's. -/
import Derived.Test.YtiadfbpbeaeflaaDoorEvS1
import Derived.Laws.CopyOwn
namespace Go.Ev
open Go.RowKit (Below)

/-- a column's cells: sz cells a row, the column j -/
def CR (cs : Array Value) (δ n sz j : Nat) : Col → Prop
  | .i k lo hi l => l.length * sz = n ∧ ∀ (i : Nat) (x : Int), l[i]? = some x → cs[δ + (i * sz + j)]? = some (.int k x) ∧ lo ≤ x ∧ x ≤ hi
  | .b l => l.length * sz = n ∧ ∀ (i : Nat) (x : Bool), l[i]? = some x → cs[δ + (i * sz + j)]? = some (.bool x)
structure BR (φ : Phi) (k : Blk) (cs : Array Value) (δ : Nat) : Prop where
  fits : δ + k.n ≤ cs.size
  cells : ∀ (i : Nat) (v : EV), i < k.n → k.cells.get (key i) = some v → ∃ v', cs[δ + i]? = some v' ∧ VR φ v v'
  cols : ∀ (j : Nat) (c : Col), k.cols[j]? = some c → CR cs δ k.n k.cols.length j c
def At (φ : Phi) (b : List Bool) (k : Blk) (w : World) (p : Nat × Nat × Nat) (fz : Nat × Nat) : Prop :=
  φ b = some p ∧ ∃ cs ty, w.heap[p.1]? = some (.cells cs ty fz) ∧ cs.size = p.2.2 ∧ BR φ k cs p.2.1
theorem BR.mono {φ φ' : Phi} (hx : Ext2 φ φ') {k : Blk} {cs : Array Value} {δ : Nat} (h : BR φ k cs δ) : BR φ' k cs δ :=
  ⟨h.1, fun i v hi hv => let ⟨v', h1, h2⟩ := h.2 i v hi hv; ⟨v', h1, h2.mono hx⟩, h.3⟩
theorem At.mono {φ φ' : Phi} (hx : Ext2 φ φ') {b : List Bool} {k : Blk} {w : World} {p : Nat × Nat × Nat} {fz : Nat × Nat} (h : At φ b k w p fz) : At φ' b k w p fz :=
  let ⟨h1, cs, ty, h2, h3, h4⟩ := h; ⟨hx _ _ h1, cs, ty, h2, h3, h4.mono hx⟩
theorem At.world {φ : Phi} {b : List Bool} {k : Blk} {w w' : World} {p : Nat × Nat × Nat} {fz : Nat × Nat} (h : At φ b k w p fz) (e : w'.heap[p.1]? = w.heap[p.1]?) : At φ b k w' p fz :=
  let ⟨h1, cs, ty, h2, h3, h4⟩ := h; ⟨h1, cs, ty, e.trans h2, h3, h4⟩
theorem At.lt {φ : Phi} {b : List Bool} {k : Blk} {w : World} {p : Nat × Nat × Nat} {fz : Nat × Nat} (h : At φ b k w p fz) : p.1 < w.heap.size := by
  obtain ⟨_, cs, ty, h2, _⟩ := h
  exact (Array.getElem?_eq_some_iff.1 h2).1

/-! ### what is no cells -/
def TR (φ : Phi) (nt : Nat) (T : Tr EV) (tmps : Array Value) : Prop := nt ≤ tmps.size ∧ ∀ t : Nat, VR φ (getT (key t) T) (tmps.getD t undef)
theorem TR.mono {φ φ' : Phi} (hx : Ext2 φ φ') {nt : Nat} {T : Tr EV} {tmps : Array Value} (h : TR φ nt T tmps) : TR φ' nt T tmps := ⟨h.1, fun t => (h.2 t).mono hx⟩
def Others (w w' : World) : Prop := ∀ (i : Nat) (o : Obj), w.heap[i]? = some o → (∀ c t f, o ≠ .cells c t f) → w'.heap[i]? = some o
theorem Others.refl (w : World) : Others w w := fun _ _ h _ => h
theorem Others.trans {a b c : World} (h : Others a b) (k : Others b c) : Others a c := fun i o h1 h2 => k i o (h i o h1 h2) h2
theorem Others.of_except {w w' : World} {rb : Nat} {cs : Array Value} {ty : TypeId} {fz : Nat × Nat} (hc : w.heap[rb]? = some (.cells cs ty fz)) (h : ∀ i, i ≠ rb → i < w.heap.size → w'.heap[i]? = w.heap[i]?) : Others w w' := fun i o h1 h2 => by
  rw [h i (fun e => by subst e; rw [hc] at h1; exact h2 _ _ _ (Option.some.inj h1).symm) (Array.getElem?_eq_some_iff.1 h1).1]; exact h1
theorem Others.of_lt {w w' : World} (h : ∀ i, i < w.heap.size → w'.heap[i]? = w.heap[i]?) : Others w w' := fun i o h1 _ => by
  rw [h i (Array.getElem?_eq_some_iff.1 h1).1]; exact h1
def codeOfEx : Ex → Option Code
  | .normal => none
  | .exit id => some (.exit id)
  | .ret => some .ret
def stMet : JS → Loop → Prop
  | .ready, r => r.state = .ready ∧ r.pending = none
  | .busy, r => r.state = .busy
  | .done e, r => r.state = .done ∧ r.pending = codeOfEx e
noncomputable def JE.key (e : JE) : List Bool := jkey e
def MRs (φ : Phi) : List (EV × EV) → List MapEntry → Prop
  | [], [] => True
  | p :: l, e :: es => VR φ p.1 e.key ∧ VR φ p.2 e.val ∧ MRs φ l es
  | _, _ => False
theorem MRs.mono {φ φ' : Phi} (hx : Ext2 φ φ') : ∀ {l : List (EV × EV)} {es : List MapEntry}, MRs φ l es → MRs φ' l es
  | [], [], _ => trivial
  | _ :: _, _ :: _, ⟨h1, h2, h3⟩ => ⟨h1.mono hx, h2.mono hx, h3.mono hx⟩
  | [], _ :: _, h => h.elim
  | _ :: _, [], h => h.elim
def EOk (φ : Phi) (w0 w : World) : JE → Prop
  | .loop k st T nt ps a b => ∃ l q r, φ k = some (l, q) ∧ w0.heap.size ≤ l ∧ w.heap[l]? = some (.loop r) ∧ r.params = ps ∧ r.assign = a ∧ r.body = b ∧ TR φ nt T r.tmps ∧ stMet st r ∧ ∀ t, nt ≤ t → T.get (key t) = none
  | .dfr k => ∃ l q, φ k = some (l, q) ∧ w0.heap.size ≤ l ∧ w.heap[l]? = some (.deferred (some []))
  | .mp k l => ∃ rb q es clock, φ k = some (rb, q) ∧ w0.heap.size ≤ rb ∧ w.heap[rb]? = some (.map es clock) ∧ MRs φ l es.toList
theorem EOk.step {φ φ' : Phi} {w0 w w' : World} (hx : Ext2 φ φ') (hw : Others w w') : ∀ {e : JE}, EOk φ w0 w e → EOk φ' w0 w' e
  | .loop k st T nt ps a b, ⟨l, q, r, h1, h2, h3, h4, h5, h6, h7, h8⟩ => ⟨l, q, r, hx _ _ h1, h2, hw _ _ h3 (by intro _ _ _ e; cases e), h4, h5, h6, h7.mono hx, h8⟩
  | .dfr k, ⟨l, q, h1, h2, h3⟩ => ⟨l, q, hx _ _ h1, h2, hw _ _ h3 (by intro _ _ _ e; cases e)⟩
  | .mp k l, ⟨rb, q, es, cl, h1, h2, h3, h4⟩ => ⟨rb, q, es, cl, hx _ _ h1, h2, hw _ _ h3 (by intro _ _ _ e; cases e), h4.mono hx⟩
theorem EOk.at {φ : Phi} {w0 w : World} : ∀ {e : JE}, EOk φ w0 w e → ∃ p, φ e.key = some p ∧ p.1 < w.heap.size ∧ w0.heap.size ≤ p.1
  | .loop .., ⟨l, q, _, h1, h2, h3, _⟩ => ⟨(l, q), h1, (Array.getElem?_eq_some_iff.1 h3).1, h2⟩
  | .dfr _, ⟨l, q, h1, h2, h3⟩ => ⟨(l, q), h1, (Array.getElem?_eq_some_iff.1 h3).1, h2⟩
  | .mp _ _, ⟨l, q, _, _, h1, h2, h3, _⟩ => ⟨(l, q), h1, (Array.getElem?_eq_some_iff.1 h3).1, h2⟩
abbrev Apart2 (φ : Phi) (e e' : JE) : Prop := ∀ p p', φ e.key = some p → φ e'.key = some p' → p.1 ≠ p'.1
structure JOk (φ : Phi) (w0 w : World) (J : List JE) : Prop where
  all : ∀ e ∈ J, EOk φ w0 w e
  apart : J.Pairwise (Apart2 φ)
theorem pairwise_mono {φ φ' : Phi} {w0 w : World} (hx : Ext2 φ φ') : ∀ {J : List JE}, (∀ e ∈ J, EOk φ w0 w e) → J.Pairwise (Apart2 φ) → J.Pairwise (Apart2 φ')
  | [], _, _ => .nil
  | e :: J, h, .cons h1 h2 => .cons (fun e' he p p' hp hp' => by
      obtain ⟨q, g1, _⟩ := (h e List.mem_cons_self).at
      obtain ⟨q', g2, _⟩ := (h e' (List.mem_cons_of_mem _ he)).at
      have g3 := hx _ _ g1; have g4 := hx _ _ g2
      rw [hp] at g3; cases g3; rw [hp'] at g4; cases g4
      exact h1 e' he _ _ g1 g2) (pairwise_mono hx (fun e he => h e (List.mem_cons_of_mem _ he)) h2)
theorem JOk.step {φ φ' : Phi} {w0 w w' : World} {J : List JE} (h : JOk φ w0 w J) (hx : Ext2 φ φ') (hw : Others w w') : JOk φ' w0 w' J :=
  ⟨fun e he => (h.all e he).step hx hw, pairwise_mono hx h.all h.apart⟩
theorem JOk.nil {φ : Phi} {w0 w : World} : JOk φ w0 w [] := ⟨(fun e he => by cases he), List.Pairwise.nil⟩
def Col.len : Col → Nat
  | .i _ _ _ l => l.length
  | .b l => l.length
/-- a list without elements, which may lie nowhere -/
def Blk.void (k : Blk) : Prop := k.cols ≠ [] ∧ k.n = 0 ∧ ∀ c ∈ k.cols, c.len = 0
/-- a list without elements that lies nowhere -/
def Gone (φ : Phi) (b : List Bool) (k : Blk) : Prop := k.void ∧ ∃ p, φ b = some p ∧ p.2.2 = 0
def Real (φ : Phi) (b : List Bool) (k : Blk) : Prop := ¬ Gone φ b k
theorem real_flat {φ : Phi} {b : List Bool} {k : Blk} (h : k.cols = []) : Real φ b k := fun g => g.1.1 h
theorem Gone.mono {φ φ' : Phi} (hx : Ext2 φ φ') {b : List Bool} {k : Blk} (h : Gone φ b k) : Gone φ' b k := let ⟨v, p, e, z⟩ := h; ⟨v, p, hx _ _ e, z⟩
theorem Real.back {φ φ' : Phi} (hx : Ext2 φ φ') {b : List Bool} {k : Blk} (h : Real φ' b k) : Real φ b k := fun g => h (g.mono hx)
theorem gone_of {φ : Phi} {b : List Bool} {k : Blk} (h : ¬ Real φ b k) : Gone φ b k := Classical.not_not.1 h
/-- two blocks that lie apart: both somewhere, not both frozen -/
structure Sep (φ : Phi) (b : List Bool) (k : Blk) (b' : List Bool) (k' : Blk) : Prop where
  l : Real φ b k
  r : Real φ b' k'
  fz : k.fz = true → k'.fz = false
theorem Sep.back {φ φ' : Phi} (hx : Ext2 φ φ') {b : List Bool} {k : Blk} {b' : List Bool} {k' : Blk} (h : Sep φ' b k b' k') : Sep φ b k b' k' := ⟨h.l.back hx, h.r.back hx, h.fz⟩
theorem CR.len {cs : Array Value} {δ n sz j : Nat} {c : Col} (h : CR cs δ n sz j c) : c.len * sz = n := by
  cases c with
  | i k lo hi l => exact h.1
  | b l => exact h.1
/-- where an own block lies; one without cells that is a list may lie nowhere -/
def LocOk (w0 : World) (φ : Phi) (w : World) (b : List Bool) (k : Blk) : Prop :=
  Gone φ b k ∨ ∃ p fz, At φ b k w p fz ∧ (k.fz = false → fz = (0, 0)) ∧ w0.heap.size ≤ p.1
theorem LocOk.real {w0 : World} {φ : Phi} {w : World} {b : List Bool} {k : Blk} (h : LocOk w0 φ w b k) (hr : Real φ b k) : ∃ p fz, At φ b k w p fz ∧ (k.fz = false → fz = (0, 0)) ∧ w0.heap.size ≤ p.1 := h.resolve_left hr
theorem LocOk.con {w0 : World} {φ : Phi} {w : World} {b : List Bool} {k : Blk} (h : LocOk w0 φ w b k) (hc : k.cols = []) (hf : k.fz = false) : ∃ p, At φ b k w p (0, 0) ∧ w0.heap.size ≤ p.1 := by
  rcases h with h | ⟨p, fz, h1, h2⟩
  · exact absurd hc h.1.1
  · obtain ⟨h2, h3⟩ := h2; obtain rfl := h2 hf; exact ⟨p, h1, h3⟩
theorem LocOk.mono {w0 : World} {φ φ' : Phi} {w : World} {b : List Bool} {k : Blk} (h : LocOk w0 φ w b k) (hx : Ext2 φ φ') : LocOk w0 φ' w b k :=
  h.imp (fun g => g.mono hx) fun ⟨p, fz, h1, h2⟩ => ⟨p, fz, h1.mono hx, h2⟩
theorem LocOk.world {w0 : World} {φ : Phi} {w w' : World} {b : List Bool} {k : Blk} (h : LocOk w0 φ w b k) (e : ∀ p, φ b = some p → p.1 < w.heap.size → w'.heap[p.1]? = w.heap[p.1]?) : LocOk w0 φ w' b k :=
  h.imp id fun ⟨p, fz, h1, h2⟩ => ⟨p, fz, h1.world (e p h1.1 h1.lt), h2⟩
/-- where a block lies that is only read -/
def RoOk (φ : Phi) (w : World) (b : List Bool) (k : Blk) : Prop := Gone φ b k ∨ ∃ p fz, At φ b k w p fz
theorem RoOk.real {φ : Phi} {w : World} {b : List Bool} {k : Blk} (h : RoOk φ w b k) (hr : Real φ b k) : ∃ p fz, At φ b k w p fz := h.resolve_left hr
theorem RoOk.mono {φ φ' : Phi} {w : World} {b : List Bool} {k : Blk} (h : RoOk φ w b k) (hx : Ext2 φ φ') : RoOk φ' w b k := h.imp (fun g => g.mono hx) fun ⟨p, fz, h1⟩ => ⟨p, fz, h1.mono hx⟩
theorem RoOk.world {φ : Phi} {w w' : World} {b : List Bool} {k : Blk} (h : RoOk φ w b k) (e : ∀ i, i < w.heap.size → w'.heap[i]? = w.heap[i]?) : RoOk φ w' b k := h.imp id fun ⟨p, fz, h1⟩ => ⟨p, fz, h1.world (e p.1 h1.lt)⟩
theorem LocOk.ro {w0 : World} {φ : Phi} {w : World} {b : List Bool} {k : Blk} (h : LocOk w0 φ w b k) : RoOk φ w b k := h.imp id fun ⟨p, fz, h1, _⟩ => ⟨p, fz, h1⟩
structure WR (w0 : World) (φ : Phi) (s : St) (w : World) : Prop where
  below : Below w0.heap.size w0 w
  ro : ∀ h ∈ s.R, ∀ b k, h.get b = some k → RoOk φ w0 b k
  loc : ∀ b k, s.L.get b = some k → LocOk w0 φ w b k
  apart : ∀ b b' k k' p p', s.L.get b = some k → s.L.get b' = some k' → b ≠ b' → k.mate ≠ some b' → Sep φ b k b' k' → φ b = some p → φ b' = some p' → p.1 ≠ p'.1
  loops : JOk φ w0 w s.J

/-- every package variable has its place -/
def GR (φ : Phi) : Prop := ∀ g, ∃ S, φ (gkey g) = some (g, 0, S)
theorem GR.mono {φ φ' : Phi} (hx : Ext2 φ φ') (h : GR φ) : GR φ' := fun g => let ⟨S, h⟩ := h g; ⟨S, hx _ _ h⟩
def Fresh (φ : Phi) (c c' : List Bool) : Prop := GR φ ∧ ∀ b, val c ≤ val b → val b < val c' → φ b = none
structure Step (φ φ' : Phi) (c c' : List Bool) : Prop where
  ext : Ext2 φ φ'
  out : ∀ b, (val b < val c ∨ val c' ≤ val b) → φ' b = φ b
theorem Step.refl (φ : Phi) (c : List Bool) : Step φ φ c c := ⟨Ext2.refl φ, fun _ _ => rfl⟩
theorem Step.trans {φ φ1 φ2 : Phi} {c c1 c2 : List Bool} (h : Step φ φ1 c c1) (k : Step φ1 φ2 c1 c2) (h1 : val c ≤ val c1) (h2 : val c1 ≤ val c2) : Step φ φ2 c c2 :=
  ⟨h.ext.trans k.ext, fun b hb => (k.out b (by omega)).trans (h.out b (by omega))⟩
theorem Fresh.left {φ : Phi} {c c1 c2 : List Bool} (h : Fresh φ c c2) (h2 : val c1 ≤ val c2) : Fresh φ c c1 := ⟨h.1, fun b h3 h4 => h.2 b h3 (by omega)⟩
theorem Fresh.right {φ φ1 : Phi} {c c1 c2 : List Bool} (h : Fresh φ c c2) (k : Step φ φ1 c c1) (h1 : val c ≤ val c1) : Fresh φ1 c1 c2 :=
  ⟨h.1.mono k.ext, fun b h3 h4 => (k.out b (by omega)).trans (h.2 b (by omega) h4)⟩

/-! ### looking up -/
theorem lookR_ok {b : List Bool} {l : List Heap} {K : Blk → Ans} (h : lookR b l K = true) : ∃ k, K k = true ∧ ∃ hp ∈ l, hp.get b = some k := by
  induction l with
  | nil => exact absurd (show false = true from h) (by decide)
  | cons hp l ih =>
    have h' : Option.rec (motive := fun _ => Ans) (lookR b l K) K (hp.get b) = true := h
    cases hg : hp.get b with
    | none =>
      rw [hg] at h'
      obtain ⟨k, h1, hp', h2, h3⟩ := ih h'
      exact ⟨k, h1, hp', List.mem_cons_of_mem _ h2, h3⟩
    | some k =>
      rw [hg] at h'
      exact ⟨k, h', hp, List.mem_cons_self, hg⟩
theorem look_ok {s : St} {b : List Bool} {K : Blk → Ans} (h : look s b K = true) : ∃ k, K k = true ∧ (s.L.get b = some k ∨ ∃ hp ∈ s.R, hp.get b = some k) := by
  obtain ⟨k, h1, hp, h2, h3⟩ := lookR_ok h
  rcases List.mem_cons.1 h2 with rfl | h2
  · exact ⟨k, h1, .inl h3⟩
  · exact ⟨k, h1, .inr ⟨hp, h2, h3⟩⟩
theorem WR.at {w0 : World} {φ : Phi} {s : St} {w : World} (h : WR w0 φ s w) {b : List Bool} {k : Blk} (hc : k.cols = []) (hk : s.L.get b = some k ∨ ∃ hp ∈ s.R, hp.get b = some k) : ∃ p fz, At φ b k w p fz := by
  rcases hk with hk | ⟨hp, h1, h2⟩
  · rcases h.loc b k hk with h1 | ⟨p, fz, h1, _⟩
    · exact absurd hc h1.1.1
    · exact ⟨p, _, h1⟩
  · obtain ⟨p, fz, h3⟩ := (h.ro hp h1 b k h2).real (real_flat hc)
    exact ⟨p, fz, h3.world (h.below.block p.1 h3.lt)⟩

theorem readN_ok {t : Tr EV} {n : Nat} : ∀ {o : Nat} {K : List EV → Ans}, readN t n o K = true → ∃ l, K l = true ∧ l.length = n ∧ ∀ j, j < n → ∃ v, l[j]? = some v ∧ t.get (key (o + j)) = some v := by
  induction n with
  | zero => intro o K h; exact ⟨[], h, rfl, fun j hj => absurd hj (by omega)⟩
  | succ n ih =>
    intro o K h
    obtain ⟨v, hv, h2⟩ := oR_ok (show oR (t.get (key o)) (fun v => readN t n (Nat.succ o) fun l => K (v :: l)) = true from h)
    obtain ⟨l, h3, h4, h5⟩ := ih h2
    refine ⟨v :: l, h3, by simp [h4], fun j hj => ?_⟩
    cases j with
    | zero => exact ⟨v, rfl, by simpa using hv⟩
    | succ j => obtain ⟨u, h6, h7⟩ := h5 j (by omega); exact ⟨u, by simpa using h6, by rw [← h7]; congr 2; omega⟩

theorem loadB_ok {s : St} {b : List Bool} {o n : Nat} {K : List EV → Ans} (h : loadB s b o n K = true) : ∃ l, K l = true ∧ l.length = n ∧
    ∀ {w0 : World} {φ : Phi} {w : World}, WR w0 φ s w → ∀ {rb δ S : Nat}, φ b = some (rb, δ, S) →
      ∃ l' : List Value, VRs φ l l' ∧ ∀ (j : Nat) (v : Value), l'[j]? = some v → w.cell? ⟨rb, δ + o + j, none⟩ = some v := by
  obtain ⟨k, h1, hk⟩ := look_ok (show look s b (fun k => guardB (flatB k) (fN o fun o => guardB (Nat.ble (Nat.add o n) k.n) (readN k.cells n o K))) = true from h)
  obtain ⟨hflat, h1⟩ := guard_ok h1
  rw [fN_eq] at h1
  obtain ⟨hn, h2⟩ := guard_ok h1
  have hn' : o + n ≤ k.n := Nat.le_of_ble_eq_true hn
  obtain ⟨l, h3, h4, h5⟩ := readN_ok h2
  refine ⟨l, h3, h4, fun {w0 φ w} hw {rb δ S} hφ => ?_⟩
  obtain ⟨p, fz, hp, cs, ty, hc, hs, hb⟩ := hw.at (flatB_ok hflat) hk
  rw [hφ] at hp
  cases hp
  have hj : ∀ j, j < n → ∃ v v', l[j]? = some v ∧ cs[δ + (o + j)]? = some v' ∧ VR φ v v' := by
    intro j hj
    obtain ⟨v, h6, h7⟩ := h5 j hj
    obtain ⟨v', h8, h9⟩ := hb.2 (o + j) v (by omega) h7
    exact ⟨v, v', h6, h8, h9⟩
  have hsz : ∀ j, j < n → δ + o + j < cs.size := fun j hj => by have := hb.1; simp at this; omega
  refine ⟨(cs.toList.drop (δ + o)).take n, VRs.of_get (by simp [h4]; have := hb.1; simp at this; omega) fun i v v' h6 h7 => ?_, fun j v h6 => ?_⟩
  · have hi : i < n := by rw [← h4]; exact (List.getElem?_eq_some_iff.1 h6).1
    obtain ⟨u, u', e1, e2, e3⟩ := hj i hi
    rw [h6] at e1; cases e1
    rw [List.getElem?_take, if_pos hi, List.getElem?_drop] at h7
    have : cs[δ + (o + i)]? = some v' := by rw [← h7]; simp [Nat.add_assoc]
    rw [this] at e2; cases e2
    exact e3
  · have hi : j < n := by
      have := (List.getElem?_eq_some_iff.1 h6).1
      simp at this; omega
    rw [List.getElem?_take, if_pos hi, List.getElem?_drop] at h6
    simp [World.cell?, hc]
    simpa using h6

/-! ### writing -/
theorem writeC_eq {K : Tr EV → Ans} : ∀ {vs : List EV} {o : Nat} {t : Tr EV}, writeC vs o t K = K (writeN vs o t)
  | [], _, _ => rfl
  | v :: vs, o, t => by
    show Tr.setC (some v) (key o) t (fun t => fN (Nat.succ o) fun o => writeC vs o t K) = _
    rw [Tr.setC_eq, fN_eq, writeC_eq]; rfl
theorem newB_eq {s : St} {cs : List EV} {K : List Bool → St → Ans} : newB s cs K = K s.c ⟨inc s.c, Tr.set (some ⟨writeN cs 0 .nil, lenN cs, none, [], false⟩) s.c s.L, s.R, s.J⟩ := by
  unfold newB
  rw [writeC_eq, Tr.setC_eq, incC_eq]
theorem get_writeN {vs : List EV} : ∀ {o : Nat} {t : Tr EV} {i : Nat},
    (writeN vs o t).get (key i) = if o ≤ i ∧ i < o + vs.length then vs[i - o]? else t.get (key i) := by
  induction vs with
  | nil =>
    intro o t i
    show t.get (key i) = _
    rw [if_neg (by simp only [List.length_nil]; omega)]
  | cons v vs ih =>
    intro o t i
    show (writeN vs (Nat.succ o) (Tr.set (some v) (key o) t)).get (key i) = _
    rw [ih, Tr.get_set]
    by_cases h1 : Nat.succ o ≤ i ∧ i < Nat.succ o + vs.length
    · rw [if_pos h1, if_pos (by simp; omega)]
      obtain ⟨j, rfl⟩ : ∃ j, i = o + 1 + j := ⟨i - (o + 1), by omega⟩
      have e1 : o + 1 + j - Nat.succ o = j := by omega
      have e2 : o + 1 + j - o = j + 1 := by omega
      rw [e1, e2]; rfl
    · rw [if_neg h1]
      by_cases h2 : key o = key i
      · have := key_inj h2
        subst this
        rw [if_pos rfl, if_pos (by simp)]
        simp
      · rw [if_neg h2]
        have : o ≠ i := fun e => h2 (by rw [e])
        rw [if_neg (by simp; simp at h1; omega)]

theorem get_kill {m : Option (List Bool)} {L : Heap} {b : List Bool} : (kill m L).get b = if m = some b then none else L.get b := by
  cases m with
  | none => rw [if_neg (by simp)]; rfl
  | some a =>
    show (Tr.set none a L).get b = _
    rw [Tr.get_set]
    by_cases h : a = b
    · rw [if_pos h, if_pos (by rw [h])]
    · rw [if_neg h, if_neg (by simpa using h)]

theorem getElem?_splice (a vs : List Value) (q : Nat) (h : q + vs.length ≤ a.length) (i : Nat) :
    (a.take q ++ vs ++ a.drop (q + vs.length))[i]? = if q ≤ i ∧ i < q + vs.length then vs[i - q]? else a[i]? := by
  by_cases h1 : i < q
  · rw [if_neg (by omega), List.append_assoc, List.getElem?_append_left (by simp; omega), List.getElem?_take, if_pos h1]
  · by_cases h2 : i < q + vs.length
    · rw [if_pos (by omega), List.append_assoc, List.getElem?_append_right (by simp; omega), List.getElem?_append_left (by simp; omega)]
      congr 1; simp; omega
    · rw [if_neg (by omega), List.getElem?_append_right (by simp; omega), List.getElem?_drop]
      congr 1; simp; omega

theorem storeB_ok {P : Program} {s : St} {b : List Bool} {o : Nat} {vs : List EV} {K : St → Ans} (h : storeB s b o vs K = true) :
    ∃ s', K s' = true ∧ s'.c = s.c ∧ ∀ {w0 : World} {φ : Phi} {w : World}, WR w0 φ s w → ∀ {rb δ S : Nat} {vs' : List Value}, φ b = some (rb, δ, S) → VRs φ vs vs' →
      ∃ w', (storeCells ⟨rb, δ + o, none⟩ vs').run P w = .ok () w' ∧ WR w0 φ s' w' := by
  obtain ⟨k, hk, h1⟩ := oR_ok h
  obtain ⟨hcon, h1⟩ := guard_ok h1
  obtain ⟨hcol, hfz⟩ := conB_ok hcon
  rw [fN_eq] at h1
  obtain ⟨hn, h2⟩ := guard_ok h1
  obtain ⟨hc, h3⟩ := guard_ok h2
  rw [writeC_eq, Tr.setC_eq] at h3
  rw [lenN_eq] at hn
  have hn' : o + vs.length ≤ k.n := Nat.le_of_ble_eq_true hn
  refine ⟨_, h3, rfl, fun {w0 φ w} hw {rb δ S vs'} hφ hvs => ?_⟩
  obtain ⟨p, ⟨hp, cs, ty, hcs, hsz, hb⟩, hlo⟩ := (hw.loc b k hk).con hcol hfz
  rw [hφ] at hp; cases hp
  have hb1 := hb.1
  simp only at hcs hsz hb hb1 hlo
  have hl := hvs.length
  have hrun := run_storeCells_at (P := P) rb (δ + o) ty vs' 0 cs w hcs (by omega) (hvs.ones hc)
  refine ⟨_, hrun, ?_⟩
  have hcs' := setRow_heap w rb cs (cs.toList.take (δ + o + 0) ++ vs' ++ cs.toList.drop (δ + o + 0 + vs'.length)).toArray ty (0, 0) hcs
  have hap : ∀ b' k' p', b ≠ b' → (kill k.mate s.L).get b' = some k' → Real φ b' k' → φ b' = some p' → rb ≠ p'.1 := by
    intro b' k' p' hne hk' hr' hp'
    rw [get_kill] at hk'
    split at hk'
    · cases hk'
    · rename_i hm; exact hw.apart b b' k k' _ p' hk hk' hne hm ⟨real_flat hcol, hr', by rw [hfz]; exact fun h => by cases h⟩ hφ hp'
  refine ⟨hw.below.trans (below_setRow (Below.refl _ _) hlo _), hw.ro, fun b' k' hk' => ?_, fun b1 b2 k1 k2 p1 p2 h4 h5 h6 h7 hfr h8 h9 => ?_,
    hw.loops.step (Ext2.refl _) (Others.of_except hcs fun i hi _ => setRow_other w rb i _ hi)⟩
  · rw [Tr.get_set] at hk'
    by_cases hbb : b = b'
    · subst hbb
      rw [if_pos rfl] at hk'; cases hk'
      refine .inr ⟨_, _, ⟨hφ, _, ty, hcs', ?_, ?_, fun i v hi hv => ?_, fun j c hj => by cases hj⟩, fun _ => rfl, hlo⟩
      · simp; omega
      · simp; omega
      · rw [get_writeN] at hv
        simp only [List.getElem?_toArray, Nat.add_zero]
        rw [getElem?_splice _ _ _ (by simp; omega)]
        by_cases hin : o ≤ i ∧ i < o + vs.length
        · rw [if_pos hin] at hv
          rw [if_pos (by omega)]
          obtain ⟨v', e1, e2⟩ := hvs.get hv
          exact ⟨v', by rw [← e1]; congr 1; omega, e2⟩
        · rw [if_neg hin] at hv
          rw [if_neg (by omega)]
          obtain ⟨v', e1, e2⟩ := hb.2 i v hi hv
          exact ⟨v', by simpa using e1, e2⟩
    · rw [if_neg hbb] at hk'
      have hk0 : s.L.get b' = some k' := by rw [get_kill] at hk'; split at hk' <;> simp_all
      rcases hw.loc b' k' hk0 with h1 | ⟨p', fz', h10, h11⟩
      · exact .inl h1
      · by_cases hr' : Real φ b' k'
        · exact .inr ⟨p', fz', h10.world (setRow_other w rb p'.1 _ (hap b' k' p' hbb hk' hr' h10.1).symm), h11⟩
        · exact .inl (gone_of hr')
  · rw [Tr.get_set] at h4 h5
    by_cases hb1 : b = b1
    · subst hb1
      rw [if_neg h6] at h5
      rw [hφ] at h8; cases h8
      exact hap b2 k2 p2 h6 h5 hfr.r h9
    · rw [if_neg hb1] at h4
      by_cases hb2 : b = b2
      · subst hb2
        rw [hφ] at h9; cases h9
        exact (hap b1 k1 p1 hb1 h4 hfr.l h8).symm
      · rw [if_neg hb2] at h5
        have h4' : s.L.get b1 = some k1 := by rw [get_kill] at h4; split at h4 <;> simp_all
        have h5' : s.L.get b2 = some k2 := by rw [get_kill] at h5; split at h5 <;> simp_all
        exact hw.apart b1 b2 k1 k2 p1 p2 h4' h5' h6 h7 hfr h8 h9

def Phi.put (φ : Phi) (c : List Bool) (p : Nat × Nat × Nat) : Phi := fun b => if b = c then some p else φ b
theorem Step.put {φ : Phi} {c : List Bool} (p : Nat × Nat × Nat) (h : φ c = none) : Step φ (φ.put c p) c (inc c) :=
  ⟨fun b q hq => by unfold Phi.put; split
                    · rename_i e; subst e; rw [h] at hq; cases hq
                    · exact hq,
   fun b hb => by unfold Phi.put; rw [if_neg]; rintro rfl; rw [val_inc] at hb; omega⟩

theorem newB_ok {s : St} {cs : List EV} {K : List Bool → St → Ans} (h : newB s cs K = true) :
    ∃ s', K s.c s' = true ∧ s'.c = inc s.c ∧ ∀ {w0 : World} {φ : Phi} {w : World} {cs' : List Value} (ty : TypeId) (ex : List Value), WR w0 φ s w → φ s.c = none → VRs φ cs cs' →
      (φ.put s.c (w.heap.size, 0, (cs' ++ ex).length)) s.c = some (w.heap.size, 0, (cs' ++ ex).length) ∧
      Step φ (φ.put s.c (w.heap.size, 0, (cs' ++ ex).length)) s.c s'.c ∧ WR w0 (φ.put s.c (w.heap.size, 0, (cs' ++ ex).length)) s' (w.alloc (.cells (cs' ++ ex).toArray ty)) := by
  rw [newB_eq] at h
  refine ⟨_, h, rfl, fun {w0 φ w cs'} ty ex hw hf hcs => ?_⟩
  have hst := Step.put (φ := φ) (w.heap.size, 0, (cs' ++ ex).length) hf
  have hself : (φ.put s.c (w.heap.size, 0, (cs' ++ ex).length)) s.c = some (w.heap.size, 0, (cs' ++ ex).length) := by simp [Phi.put]
  refine ⟨hself, hst, ?_⟩
  have hbl : Below w.heap.size w (w.alloc (.cells (cs' ++ ex).toArray ty)) := (Below.refl _ _).alloc (Nat.le_refl _) _
  have hnew : (w.alloc (.cells (cs' ++ ex).toArray ty)).heap[w.heap.size]? = some (.cells (cs' ++ ex).toArray ty) := by show (w.heap.push _)[w.heap.size]? = _; simp
  have hold : ∀ b k, (Tr.set (some ⟨writeN cs 0 .nil, lenN cs, none, [], false⟩) s.c s.L).get b = some k → b ≠ s.c → s.L.get b = some k := by
    intro b k hk hne
    rw [Tr.get_set, if_neg (fun e => hne e.symm)] at hk; exact hk
  refine ⟨hw.below.trans (hbl.mono hw.below.size), fun hp h1 b k h2 => ?_, fun b k hk => ?_, fun b1 b2 k1 k2 p1 p2 h1 h2 h3 h4 hsep h5 h6 => ?_,
    hw.loops.step hst.ext (Others.of_lt fun i hi => hbl.block i hi)⟩
  · exact (hw.ro hp h1 b k h2).mono hst.ext
  · by_cases hb : b = s.c
    · subst hb
      rw [Tr.get_set, if_pos rfl] at hk; cases hk
      refine .inr ⟨_, _, ⟨hself, _, ty, hnew, by simp, ?_, fun i v hi hv => ?_, fun j c hj => by cases hj⟩, fun _ => rfl, hw.below.size⟩
      · simp [lenN_eq, hcs.length]
      · rw [get_writeN] at hv
        rw [lenN_eq] at hi
        have hi' : i < cs.length := hi
        rw [if_pos (by omega)] at hv
        obtain ⟨v', e1, e2⟩ := hcs.get hv
        exact ⟨v', by simp only [List.getElem?_toArray, Nat.zero_add]; rw [List.getElem?_append_left (by rw [← hcs.length]; exact hi')]; simpa using e1, e2.mono hst.ext⟩
    · rcases hw.loc b k (hold b k hk hb) with h1 | ⟨p, fz, h1, h2⟩
      · exact .inl (h1.mono hst.ext)
      · exact .inr ⟨p, fz, (h1.mono hst.ext).world (hbl.block p.1 h1.lt), h2⟩
  · have lt : ∀ b k p, (Tr.set (some ⟨writeN cs 0 .nil, lenN cs, none, [], false⟩) s.c s.L).get b = some k → b ≠ s.c → Real (φ.put s.c (w.heap.size, 0, (cs' ++ ex).length)) b k → (φ.put s.c (w.heap.size, 0, (cs' ++ ex).length)) b = some p → φ b = some p ∧ p.1 < w.heap.size := by
      intro b k p hk hne hr hp
      obtain ⟨q, _, h7, _⟩ := (hw.loc b k (hold b k hk hne)).real (hr.back hst.ext)
      have : φ b = some p := by simpa [Phi.put, hne] using hp
      have h8 := h7.1
      rw [this] at h8; cases h8
      exact ⟨this, h7.lt⟩
    by_cases e1 : b1 = s.c
    · subst e1
      rw [hself] at h5; cases h5
      have := (lt b2 k2 p2 h2 (fun e => h3 e.symm) hsep.r h6).2
      simp; omega
    · by_cases e2 : b2 = s.c
      · subst e2
        rw [hself] at h6; cases h6
        have := (lt b1 k1 p1 h1 e1 hsep.l h5).2
        simp; omega
      · exact hw.apart b1 b2 k1 k2 p1 p2 (hold _ _ h1 e1) (hold _ _ h2 e2) h3 h4 (hsep.back hst.ext) (lt b1 k1 p1 h1 e1 hsep.l h5).1 (lt b2 k2 p2 h2 e2 hsep.r h6).1
end Go.Ev
