/- A region that draws its order: the proof. -/
import Derived.Test.YtiadfbpbeaeflaaDoorEvSC
namespace Go.Ev
open Go.RowKit (Below)
theorem TS_full {S : Nat → Bool} {t : Nat} : ∀ (a : List Rec) (i : Nat) (f : Nat → EV), (∀ j r, a[j]? = some r → r.d.dst = some t → S (i + j) = true) → TS S a i f t = TS (fun _ => true) a i f t
  | [], _, _, _ => rfl
  | r :: a, i, f, h => by
    show TS S a (i + 1) _ t = TS (fun _ => true) a (i + 1) _ t
    rw [TS_full a (i + 1) _ fun j r' hj hd => by have := h (j + 1) r' (by simpa using hj) hd; rw [← this]; congr 1; omega]
    refine TS_ext a (i + 1) _ _ ?_
    cases hS : S i with
    | true => rfl
    | false =>
      simp only [if_true, Bool.false_eq_true, if_false]
      rw [if_neg fun e => by have := h 0 r rfl e; simp at this; rw [this] at hS; cases hS]
structure Lay (ops : Array Oper) (nt : Nat) (recs : List Rec) : Prop where
  len : recs.length = ops.size
  op : ∀ (j : Nat) (r : Rec), recs[j]? = some r → ops[j]? = some r.o
  dst : ∀ (j : Nat) (r : Rec), recs[j]? = some r → r.d.dst = r.o.dst
  look : ∀ (j : Nat) (r : Rec), recs[j]? = some r → r.d.looks = looks ops r.o
  lt : ∀ (j : Nat) (r : Rec), recs[j]? = some r → ∀ t, r.d.dst = some t → t < nt
  pair : ∀ (i j : Nat) (x y : Rec), i < j → recs[i]? = some x → recs[j]? = some y → pairOk i x.d y.d = true
  mask : ∀ (j : Nat) (r : Rec), recs[j]? = some r → ∀ i, r.d.mask.testBit i = true → ∃ e ∈ r.o.after, Region.binds .any e = true ∧ (e.on = i ∨ ∃ r', recs[e.on]? = some r' ∧ r'.d.mask.testBit i = true)
  edge : ∀ (j : Nat) (r : Rec), recs[j]? = some r → ∀ e ∈ r.o.after, Region.binds .any e = true → e.on < j
  guard0 : ∀ (j : Nat) (r : Rec), recs[j]? = some r → r.o.guard = none → r.d.guard = none
  guard1 : ∀ (j : Nat) (r : Rec), recs[j]? = some r → ∀ i w, r.o.guard = some (i, w) → ∃ g, (ops[i]?).bind (·.dst) = some g ∧ r.d.guard = some (key g, w)
def Closed (recs : List Rec) (S : Nat → Bool) : Prop := ∀ (j : Nat) (r : Rec), recs[j]? = some r → S j = true → ∀ e ∈ r.o.after, Region.binds .any e = true → S e.on = true
section
variable {P : Program} {ops : Array Oper} {nt : Nat} {recs : List Rec} {S : Nat → Bool}
theorem clos (L : Lay ops nt recs) (hS : Closed recs S) : ∀ (j : Nat) (r : Rec), recs[j]? = some r → (∀ e ∈ r.o.after, Region.binds .any e = true → S e.on = true) → ∀ i, r.d.mask.testBit i = true → S i = true := by
  intro j
  induction j using Nat.strongRecOn with
  | ind j ih =>
    intro r hr he i hi
    obtain ⟨e, h1, h2, h3⟩ := L.mask j r hr i hi
    rcases h3 with rfl | ⟨r', h3, h4⟩
    · exact he e h1 h2
    · exact ih e.on (L.edge j r hr e h1 h2) r' h3 (hS e.on r' h3 (he e h1 h2)) i h4
theorem put_VR {φ : Phi} {a : Act} {d : Option Nat} {v : EV} {v' : Value} {f : Nat → EV} (hsz : nt ≤ a.tmps.size) (hd : ∀ t, d = some t → t < nt) (h : ∀ t, VR φ (f t) (a.tmps.getD t undef)) (hv : VR φ v v') :
    nt ≤ (a.put d v').tmps.size ∧ ∀ t, VR φ (if d = some t then v else f t) ((a.put d v').tmps.getD t undef) := by
  cases d with
  | none => exact ⟨hsz, fun t => by rw [if_neg (by simp)]; exact h t⟩
  | some d =>
    refine ⟨by simp [Act.put]; exact hsz, fun t => ?_⟩
    have hds : d < a.tmps.size := Nat.lt_of_lt_of_le (hd d rfl) hsz
    simp only [Act.put, Array.getD_eq_getD_getElem?, Array.getElem?_setIfInBounds]
    by_cases h1 : d = t
    · subst h1
      rw [if_pos rfl, if_pos rfl, if_pos hds]; exact hv
    · rw [if_neg (by simpa using h1), if_neg h1]
      have := h t
      rwa [Array.getD_eq_getD_getElem?] at this
theorem opd_at {φ : Phi} {T : Tr EV} {a : Act} {x : Operand} (hg : GR φ) (h : ∀ t, x = .tmp t → VR φ (getT (key t) T) (a.tmps.getD t undef)) (p : Opd) (hp : cOpd x = some p) : VR φ (p.run T) (a.eval x) := by
  unfold cOpd at hp
  split at hp
  · cases hp; exact h _ rfl
  · split at hp
    · cases hp; exact ofValue_ok ‹_›
    · cases hp
  · cases hp; exact VR.func (a' := []) (c' := []) .nil .nil
  · rename_i g
    cases hp
    obtain ⟨S, hS⟩ := hg g
    exact VR.ptr (o := 0) hS
theorem countP_lt {p q : Nat → Bool} : ∀ {l : List Nat}, (∀ x, p x = true → q x = true) → ∀ y ∈ l, q y = true → p y = false → l.countP p < l.countP q
  | x :: l, h, y, hy, h1, h2 => by
    have hle : l.countP p ≤ l.countP q := List.countP_mono_left fun x _ hx => h x hx
    rw [List.countP_cons, List.countP_cons]
    rcases List.mem_cons.1 hy with rfl | hy
    · rw [h1, h2]; simp; omega
    · have := countP_lt h y hy h1 h2
      by_cases hp : p x = true
      · rw [hp, h x hp]; simp; omega
      · have hp : p x = false := by simpa using hp
        rw [hp]; simp; omega
structure Inv (ops : Array Oper) (nt : Nat) (recs : List Rec) (w0 : World) (φ0 : Phi) (T : Tr EV) (M0 : Mem) (J0 : List JE) (R : List Heap) (a0 : Act) (S : Nat → Bool) (φ : Phi) (a : Act) (w : World) : Prop where
  ext : Ext2 φ0 φ
  out : ∀ b, (∀ (j : Nat) (r : Rec), recs[j]? = some r → S j = true → ¬ (val r.c ≤ val b ∧ val b < val r.c')) → φ b = φ0 b
  mem : WRm w0 φ (MS S recs 0 M0) (JSt S recs 0 J0) R w
  size : nt ≤ a.tmps.size
  tmps : ∀ t, VR φ (TS S recs 0 (fun t => getT (key t) T) t) (a.tmps.getD t undef)
  defers : a.defers = a0.defers
  closed : Closed recs S
theorem defer_no {ρ : Operand → Value} {o : Oper} {w : World} {Q : Value → World → Prop} (h : NextRun P ((execOp ρ o).run P w) Q) : ∀ c, o.op ≠ .defer c := by
  intro c hc
  have e : (execOp ρ o).run P w = ((resolve ρ c o.type).run P w).andThen fun d w' => .ok (.defer d) w' := by
    obtain ⟨dst, op, ty, pos, after, guard⟩ := o
    simp only at hc
    subst hc
    simp only [execOp, Sem.run_bind, Sem.run_pure]
  rw [e] at h
  cases hr : (resolve ρ c o.type).run P w with
  | ok d w' => rw [hr] at h; exact h
  | halt x w' => rw [hr] at h; exact h
/-- of each load that was read of itself: it is stable -/
def LdOk (base0 : Heap) (recs : List Rec) : Prop := ∀ (j : Nat) (r : Rec) (d : LD), recs[j]? = some r → r.ld = some d → d.j = j ∧ stable d (recs.map Rec.le) 0 (hasW d.b d.o d.vs base0) = true
theorem step_sound {R : List Heap} {T T' : Tr EV} {c0 c' : List Bool} {base0 base' : Heap} {J0 J' : List JE} {pend' : Pend} {ro : Option Nat} {w0 : World} {φ0 : Phi} {a0 : Act} (L : Lay ops nt recs) (hch : Chain P R recs 0 T c0 base0 J0 [] T' c' base' J' pend') (hld : LdOk base0 recs) (hf : Fresh φ0 c0 c')
    {S S' : Nat → Bool} {φ : Phi} {a : Act} {w : World} (inv : Inv ops nt recs w0 φ0 T (PM base0 []) J0 R a0 S φ a w) {j : Nat} {o : Oper} (ho : ops[j]? = some o) (hSj : S j = false)
    (hrdy : ∀ e ∈ o.after, Region.binds .any e = true → S e.on = true) (hS' : ∀ k, S' k = if k = j then true else S k)
    {Q : Exit → Act → World → Prop} {K : Act → World → Prop} (hK : ∀ φ' a' w', Inv ops nt recs w0 φ0 T (PM base0 []) J0 R a0 S' φ' a' w' → K a' w') : wpOpIn (Wd ro) 0 P ops Q j K a w := by
  have hj : j < recs.length := by rw [L.len]; exact (Array.getElem?_eq_some_iff.1 ho).1
  obtain ⟨r, hr⟩ : ∃ r, recs[j]? = some r := ⟨_, List.getElem?_eq_getElem hj⟩
  have hro : r.o = o := by have := L.op j r hr; rw [ho] at this; exact (Option.some.inj this).symm
  subst hro
  obtain ⟨pre, post, rfl, hpre⟩ : ∃ pre post, recs = pre ++ r :: post ∧ pre.length = j := by
    refine ⟨recs.take j, recs.drop (j + 1), ?_, by simp; omega⟩
    have h1 := List.getElem?_eq_some_iff.1 hr
    obtain ⟨h2, h3⟩ := h1
    rw [← h3]; simp
  have hpost : ∀ (k : Nat) (y : Rec), post[k]? = some y → (pre ++ r :: post)[j + 1 + k]? = some y := fun k y hk => by
    rw [List.getElem?_append_right (by omega), hpre, show j + 1 + k - j = k + 1 from by omega]; simpa using hk
  have hprei : ∀ (i : Nat) (x : Rec), pre[i]? = some x → (pre ++ r :: post)[i]? = some x ∧ i < j := fun i x hi => by
    have hlt := (List.getElem?_eq_some_iff.1 hi).1
    exact ⟨by rw [List.getElem?_append_left hlt]; exact hi, by omega⟩
  have cl := clos L inv.closed
  have clr : ∀ i, r.d.mask.testBit i = true → S i = true := cl j r hr hrdy
  -- nothing behind that must come after it has been carried out
  have late : ∀ (k : Nat) (y : Rec), post[k]? = some y → y.d.mask.testBit j = true → S (j + 1 + k) = false := fun k y hk hm => by
    cases hS : S (j + 1 + k) with
    | false => rfl
    | true =>
      have := cl _ y (hpost k y hk) (inv.closed _ y (hpost k y hk) hS) j hm
      rw [hSj] at this; cases this
  have pairp : ∀ (k : Nat) (y : Rec), post[k]? = some y → pairOk j r.d y.d = true := fun k y hk => L.pair j (j + 1 + k) r y (by omega) hr (hpost k y hk)
  have pairl : ∀ (i : Nat) (x : Rec), pre[i]? = some x → pairOk i x.d r.d = true := fun i x hi => L.pair i j x r (hprei i x hi).2 (hprei i x hi).1 hr
  obtain ⟨T1, c1, base1, J1, pend1, ch1, ⟨e1, e2, e3, e5, e4, hcc, hran, hfact⟩, ch2⟩ := by
    have h := chain_append pre (r :: post) 0 _ _ _ _ _ _ _ _ _ _ hch
    exact h
  subst e1; subst e2; subst e3; subst e4; subst e5
  have hMS : MS S (pre ++ r :: post) 0 (PM base0 []) = MS S post (j + 1) (MS S pre 0 (PM base0 [])) := by
    rw [MS_append, Nat.zero_add, hpre]
    show MS S post (j + 1) _ = _
    rw [hSj]; rfl
  have hMS' : MS S' (pre ++ r :: post) 0 (PM base0 []) = MS S post (j + 1) (r.mem (MS S pre 0 (PM base0 []))) := by
    rw [MS_append, Nat.zero_add, hpre]
    show MS S' post (j + 1) _ = _
    rw [hS' j, if_pos rfl, if_pos rfl]
    rw [MS_congr (S := S') (S' := S) pre 0 _ fun k _ hk => by rw [hS' k, if_neg (by omega)]]
    exact MS_congr (S := S') (S' := S) post (j + 1) _ fun k hk _ => by rw [hS' k, if_neg (by omega)]
  have hJS : JSt S (pre ++ r :: post) 0 J0 = JSt S post (j + 1) (JSt S pre 0 J0) := by
    rw [JSt_append, Nat.zero_add, hpre]
    show JSt S post (j + 1) _ = _
    rw [hSj]; rfl
  have hJS' : JSt S' (pre ++ r :: post) 0 J0 = JSt S post (j + 1) (if r.ran && isWrite r.d.kind then r.J' else JSt S pre 0 J0) := by
    rw [JSt_append, Nat.zero_add, hpre]
    show JSt S' post (j + 1) _ = _
    rw [hS' j, if_pos rfl, Bool.true_and]
    rw [JSt_congr (S := S') (S' := S) pre 0 _ fun k _ hk => by rw [hS' k, if_neg (by omega)]]
    exact JSt_congr (S := S') (S' := S) post (j + 1) _ fun k hk _ => by rw [hS' k, if_neg (by omega)]
  have hJsame : (r.ran && isWrite r.d.kind) = false → JSt S' (pre ++ r :: post) 0 J0 = JSt S (pre ++ r :: post) 0 J0 := fun h => by rw [hJS', hJS, h]; rfl
  have hTS : ∀ t, TS S (pre ++ r :: post) 0 (fun t => getT (key t) T) t = TS S post (j + 1) (TS S pre 0 (fun t => getT (key t) T)) t := fun t => by
    rw [TS_append, Nat.zero_add, hpre]
    show TS S post (j + 1) _ t = _
    rw [hSj]; rfl
  have hTS' : ∀ t, TS S' (pre ++ r :: post) 0 (fun t => getT (key t) T) t = if r.d.dst = some t then r.v else TS S (pre ++ r :: post) 0 (fun t => getT (key t) T) t := fun t => by
    rw [hTS, TS_append, Nat.zero_add, hpre]
    show TS S' post (j + 1) _ t = _
    rw [hS' j, if_pos rfl, if_pos rfl]
    rw [TS_congr (S := S') (S' := S) pre 0 _ fun k _ hk => by rw [hS' k, if_neg (by omega)]]
    rw [TS_congr (S := S') (S' := S) post (j + 1) _ fun k hk _ => by rw [hS' k, if_neg (by omega)]]
    by_cases hd : r.d.dst = some t
    · rw [if_pos hd, TS_quiet post (j + 1) _ fun k y hk hy => late k y hk (pairOk_tmp (pairp k y hk) (.inl ⟨hd, .inr hy⟩))]
      rw [if_pos hd]
    · rw [if_neg hd]
      refine TS_ext post (j + 1) _ _ ?_
      rw [if_neg hd]
  have look : ∀ t, t ∈ r.d.looks → VR φ (getT (key t) r.T) (a.tmps.getD t undef) := fun t ht => by
    have := inv.tmps t
    rw [hTS, TS_quiet post (j + 1) _ fun k y hk hy => late k y hk (pairOk_tmp (pairp k y hk) (.inr ⟨hy, ht⟩))] at this
    rw [chain_T pre ch1 t, ← TS_full (S := S) pre 0 _ fun i x hi hx => by rw [Nat.zero_add]; exact clr i (pairOk_tmp (pairl i x hi) (.inl ⟨hx, .inl ht⟩))]
    exact this
  have hlooks := L.look j r hr
  have hdst := L.dst j r hr
  have hcl' : Closed (pre ++ r :: post) S' := by
    intro k y hk hy e he hb
    rw [hS' e.on]
    by_cases hkj : k = j
    · subst hkj
      rw [hr] at hk; cases hk
      split
      · rfl
      · exact hrdy e he hb
    · rw [hS' k, if_neg hkj] at hy
      split
      · rfl
      · exact inv.closed k y hk hy e he hb
  have hS1 : ∀ k, S k = true → S' k = true := fun k hk => by rw [hS' k]; split <;> simp_all
  have hwant : Region.wanted r.o (yielded ops a.tmps) = r.ran := by
    rw [hran.2]
    cases hg : r.o.guard with
    | none => rw [L.guard0 j r hr hg]; simp [Region.wanted, hg]; rfl
    | some p =>
      obtain ⟨i, wv⟩ := p
      obtain ⟨g, hg1, hg2⟩ := L.guard1 j r hr i wv hg
      rw [hg2]
      have hin : g ∈ r.d.looks := by rw [hlooks]; unfold looks; rw [hg]; simp [hg1]
      show _ = isB r.T (key g) wv
      rw [isB_at (look g hin) (by have := hran.1; rw [hg2] at this; exact this)]
      simp only [Region.wanted, hg, yielded, hg1]
      rfl
  unfold wpOpIn
  rw [ho]
  show if Region.wanted r.o (yielded ops a.tmps) = true then _ else _
  rw [hwant]
  cases hrr : r.ran with
  | false =>
    rw [if_neg (by simp)]
    refine ⟨fun _ _ => trivial, ?_⟩
    obtain ⟨hv, hc⟩ := hfact.1 hrr
    refine hK φ _ w ⟨inv.ext, fun b hb => inv.out b fun k y hk hy => hb k y hk (hS1 k hy), ?_, ?_, ?_, (put_defers _ _ _).trans inv.defers, hcl'⟩
    · have : r.mem (MS S pre 0 (PM base0 [])) = MS S pre 0 (PM base0 []) := by unfold Rec.mem; rw [hrr]
      rw [hMS', this, ← hMS, hJsame (by rw [hrr]; rfl)]; exact inv.mem
    · rw [← hdst]; exact (put_VR inv.size (L.lt j r hr) inv.tmps (v := .tuple []) undef_ok).1
    · intro t
      rw [hTS', ← hdst, hv]
      exact (put_VR inv.size (L.lt j r hr) inv.tmps undef_ok).2 t
  | true =>
    rw [if_pos rfl]
    obtain ⟨s', hs1, hs2, hsJ, hs4⟩ := hfact.2.1 hrr
    have hall := chain_c _ hch
    have hcr := hall.2 r (by simp)
    have hap : ∀ (k : Nat) (y : Rec), (pre ++ r :: post)[k]? = some y → k ≠ j → val y.c' ≤ val r.c ∨ val r.c' ≤ val y.c := by
      intro k y hk hne
      rcases Nat.lt_or_ge k j with hlt | hge
      · left
        rw [List.getElem?_append_left (by omega)] at hk
        exact ((chain_c _ ch1).2 y (List.mem_of_getElem? hk)).2.2
      · right
        obtain ⟨m, rfl⟩ : ∃ m, k = j + 1 + m := ⟨k - (j + 1), by omega⟩
        have hk : post[m]? = some y := by
          rw [List.getElem?_append_right (by omega), hpre, show j + 1 + m - j = m + 1 from by omega] at hk; simpa using hk
        exact ((chain_c _ ch2).2 y (List.mem_of_getElem? hk)).1
    have hfr : Fresh φ r.c r.c' := by
      refine ⟨hf.1.mono inv.ext, fun b h1 h2 => ?_⟩
      rw [inv.out b]
      · exact hf.2 b (by omega) (by omega)
      · intro k y hk hy hh
        have hne : k ≠ j := fun e => by subst e; rw [hSj] at hy; cases hy
        have := hap k y hk hne
        omega
    have hops : ∀ x ∈ r.o.op.operands, ∀ p, cOpd x = some p → VR φ (p.run r.T) (a.eval x) := fun x hx p hp => by
      refine opd_at hfr.1 (fun t ht => look t ?_) p hp
      rw [hlooks]; unfold looks
      refine List.mem_append_left _ (List.mem_filterMap.2 ⟨x, by simpa using hx, ?_⟩)
      rw [ht]
    have fin : ∀ {φ' : Phi} {v' : Value} {w' : World}, Step φ φ' r.c r.c' → VR φ' r.v v' → WRm w0 φ' (MS S' (pre ++ r :: post) 0 (PM base0 [])) (JSt S' (pre ++ r :: post) 0 J0) R w' → K (a.put r.o.dst v') w' := by
      intro φ' v' w' h1 h2 h3
      have h4 := put_VR (a := a) (nt := nt) inv.size (L.lt j r hr) (fun t => (inv.tmps t).mono h1.ext) h2
      refine hK φ' _ w' ⟨inv.ext.trans h1.ext, fun b hb => ?_, h3, ?_, fun t => ?_, (put_defers _ _ _).trans inv.defers, hcl'⟩
      · have : ¬ (val r.c ≤ val b ∧ val b < val r.c') := hb j r hr (by rw [hS' j, if_pos rfl])
        rw [h1.out b (by omega)]
        exact inv.out b fun k y hk hy => hb k y hk (hS1 k hy)
      · rw [← hdst]; exact h4.1
      · rw [hTS', ← hdst]; exact h4.2 t
    cases hk : r.d.kind with
    | pure =>
      have hst : r.st R = ⟨r.c, .nil, [], []⟩ := by unfold Rec.st; rw [hk]
      rw [hst] at hs4
      have hnx := hs4 (w0 := w) (φ := φ) (w := w) (ρ := a.eval) r.o rfl hfr ⟨Below.refl _ _, fun h hh => by simp at hh, fun b k hb => by simp [Tr.get_nil] at hb, (fun b b' k k' p p' hb => by simp [Tr.get_nil] at hb), JOk.nil⟩ hops
      refine ⟨fun _ _ => trivial, ?_⟩
      rw [semAt_wd (defer_no hnx)]
      refine upon_of_next hnx fun v' w' ⟨φ', g1, g2, g3⟩ => ?_
      rw [hs1] at g1
      refine fin g1 g2 ?_
      rw [hJsame (by rw [hk]; simp [isWrite])]
      refine (inv.mem.add g1.ext g3).le fun b k hb => ?_
      have : r.mem (MS S pre 0 (PM base0 [])) = MS S pre 0 (PM base0 []) := by unfold Rec.mem; rw [hrr, hk]
      rw [hMS', this, ← hMS] at hb
      exact .inl hb
    | load x n =>
      have hst : r.st R = ⟨r.c, .nil, r.sgl, []⟩ := by unfold Rec.st; rw [hk]
      rw [hst] at hs4
      have hro : ∀ h ∈ R, ∀ b k, h.get b = some k → RoOk φ w b k := fun h hh b k hb =>
        (inv.mem.ro h hh b k hb).world inv.mem.below.block
      have hview : ∀ h ∈ r.sgl, ∀ b k, h.get b = some k → RoOk φ w b k := by
        rcases hfact.2.2 hrr x n hk with hR | ⟨d, e1, e2, e3⟩
        · rw [hR]; exact hro
        · obtain ⟨hdj, hst⟩ := hld j r d hr e1
          have hH : Has (MS S (pre ++ r :: post) 0 (PM base0 [])) d := by
            refine stab_ok (fun i hi => clr i (by rw [← e2]; exact hi)) _ 0 _ _ (fun k y hy hb => ?_) (fun h => (hasW_ok h).le fun b k hb => .inl hb) hst
            rw [Nat.zero_add]
            cases hS : S k with
            | false => rfl
            | true =>
              have := cl k y hy (inv.closed k y hy hS) d.j hb
              rw [hdj, hSj] at this; cases this
          obtain ⟨k, h1, hc1, h2, h3⟩ := hH
          obtain ⟨p, _, h4, _⟩ := (inv.mem.loc _ _ h1).real (real_flat hc1)
          rw [e3]
          intro h hh b k' hb
          rw [List.mem_singleton] at hh
          subst hh
          exact .inr (window_at h4 h2 h3 b k' hb)
      have hnx := hs4 (w0 := w) (φ := φ) (w := w) (ρ := a.eval) r.o rfl hfr ⟨Below.refl _ _, hview, fun b k hb => by simp [Tr.get_nil] at hb, (fun b b' k k' p p' hb => by simp [Tr.get_nil] at hb), JOk.nil⟩ hops
      refine ⟨fun _ _ => trivial, ?_⟩
      rw [semAt_wd (defer_no hnx)]
      refine upon_of_next hnx fun v' w' ⟨φ', g1, g2, g3⟩ => ?_
      rw [hs1] at g1
      refine fin g1 g2 ?_
      rw [hJsame (by rw [hk]; simp [isWrite])]
      refine (inv.mem.add g1.ext g3).le fun b k hb => ?_
      have : r.mem (MS S pre 0 (PM base0 [])) = MS S pre 0 (PM base0 []) := by unfold Rec.mem; rw [hrr, hk]
      rw [hMS', this, ← hMS] at hb
      exact .inl hb
    | heap =>
      have hst : r.st R = ⟨r.c, .nil, viewOf r.d.mask r.pend (r.base :: R), []⟩ := by unfold Rec.st; rw [hk]
      rw [hst] at hs4
      have nowr : ∀ (k : Nat) (y : Rec), post[k]? = some y → y.d.kind = .write → S (j + 1 + k) = false := fun k y hy hw => late k y hy (pairOk_heap (pairp k y hy) (.inr ⟨hw, by rw [hk]; rfl⟩))
      have gro := MS_grow (S := S) post (j + 1) (MS S pre 0 (PM base0 [])) (r.mem (MS S pre 0 (PM base0 []))) (fun b k => r.H.get b = some k) nowr (fun b k hb => by
        unfold Rec.mem at hb; rw [hrr, hk] at hb; exact hb)
      have vw := chain_view (S := S) pre (PM base0 []) ch1 (fun i x hi hw => by rw [Nat.zero_add]; exact clr i (pairOk_heap (pairl i x hi) (.inl ⟨hw, by rw [hk]; rfl⟩))) (fun b k hb => .inl hb) (fun p hp => by simp at hp)
      have hat : ∀ b k, MS S pre 0 (PM base0 []) b k → RoOk φ w b k := fun b k hb => by
        have := gro.1 b k hb
        rw [← hMS] at this
        exact (inv.mem.loc b k this).ro
      have hnx := hs4 (w0 := w) (φ := φ) (w := w) (ρ := a.eval) r.o rfl hfr ⟨Below.refl _ _, fun h hh b k hb => ?_, fun b k hb => by simp [Tr.get_nil] at hb, (fun b b' k k' p p' hb => by simp [Tr.get_nil] at hb), JOk.nil⟩ hops
      rotate_left
      · rcases mem_viewOf hh with h1 | ⟨i, q, h1, rfl, h2⟩
        · rcases List.mem_cons.1 h1 with rfl | h1
          · exact hat b k (vw.1 b k hb)
          · exact (inv.mem.ro h h1 b k hb).world inv.mem.below.block
        · exact hat b k (vw.2 _ h1 (clr i h2) b k hb)
      · refine ⟨fun _ _ => trivial, ?_⟩
        rw [semAt_wd (defer_no hnx)]
        refine upon_of_next hnx fun v' w' ⟨φ', g1, g2, g3⟩ => ?_
        rw [hs1] at g1
        refine fin g1 g2 ?_
        rw [hJsame (by rw [hk]; simp [isWrite])]
        refine (inv.mem.add g1.ext g3).le fun b k hb => ?_
        rw [hMS'] at hb
        rcases gro.2 b k hb with h | h
        · left; rw [hMS]; exact h
        · right; rw [hs2]; exact h
    | write =>
      have hst : r.st R = ⟨r.c, mergeAll r.pend r.base, R, r.J⟩ := by unfold Rec.st; rw [hk]
      rw [hst] at hs4
      have quiet : ∀ (k : Nat) (y : Rec), post[k]? = some y → isFree y.d.kind = false → S (j + 1 + k) = false := fun k y hy hw => late k y hy (pairOk_heap (pairp k y hy) (.inl ⟨hk, hw⟩))
      have full : MS S pre 0 (PM base0 []) = PM r.base r.pend := by
        rw [MS_full pre 0 _ fun i x hi hx => by rw [Nat.zero_add]; exact clr i (pairOk_heap (pairl i x hi) (.inr ⟨hk, hx⟩)), chain_M pre ch1]
      have hsub : ∀ b k, (mergeAll r.pend r.base).get b = some k → MS S (pre ++ r :: post) 0 (PM base0 []) b k := fun b k hb => by
        rw [hMS, MS_quiet post (j + 1) _ quiet, full]
        exact get_mergeAll hb
      have quietJ : ∀ (k : Nat) (y : Rec), post[k]? = some y → y.d.kind = .write → S (j + 1 + k) = false := fun k y hy hw => quiet k y hy (by rw [hw]; rfl)
      have hJ1 : JSt S (pre ++ r :: post) 0 J0 = r.J := by
        rw [hJS, JSt_quiet post (j + 1) _ quietJ, JSt_full pre 0 _ fun i x hi hx => by rw [Nat.zero_add]; exact clr i (pairOk_heap (pairl i x hi) (.inr ⟨hk, by rw [hx]; rfl⟩))]
        exact (chain_J pre ch1).symm
      have hJ2 : JSt S' (pre ++ r :: post) 0 J0 = r.J' := by
        rw [hJS', JSt_quiet post (j + 1) _ quietJ, hrr, hk]; rfl
      have hmem := inv.mem
      rw [hJ1] at hmem
      have hnx := hs4 (w0 := w0) (φ := φ) (w := w) (ρ := a.eval) r.o rfl hfr (hmem.sub r.c hsub) hops
      refine ⟨fun _ _ => trivial, ?_⟩
      rw [semAt_wd (defer_no hnx)]
      refine upon_of_next hnx fun v' w' ⟨φ', g1, g2, g3⟩ => ?_
      rw [hs1] at g1
      refine fin g1 g2 ?_
      rw [hJ2, ← hsJ]
      refine (hmem.put g1.ext g3).le fun b k hb => ?_
      rw [hMS', MS_quiet post (j + 1) _ quiet] at hb
      unfold Rec.mem at hb
      rw [hrr, hk] at hb
      rw [hs2]; exact hb
end
end Go.Ev
