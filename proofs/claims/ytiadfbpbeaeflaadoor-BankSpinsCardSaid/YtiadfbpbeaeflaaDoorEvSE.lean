/- A region that draws its order: put together. -/
import Derived.Test.YtiadfbpbeaeflaaDoorEvSD
namespace Go.Ev
open Go.RowKit (Below)
section
variable {P : Program} {ops : Array Oper} {nt : Nat} {recs : List Rec}
theorem ready_iff {listed : Array Bool} {i : Nat} (hsz : listed.size = ops.size) : i ∈ Region.ready .any ops listed ↔ ∃ o, ops[i]? = some o ∧ listed.getD i false = false ∧ ∀ e ∈ o.after, Region.binds .any e = true → listed.getD e.on false = true := by
  unfold Region.ready
  rw [List.mem_filter, List.mem_range]
  constructor
  · rintro ⟨hi, h⟩
    rw [Bool.and_eq_true] at h
    obtain ⟨h1, h2⟩ := h
    refine ⟨ops[i], Array.getElem?_eq_getElem hi, ?_, ?_⟩
    · have : i < listed.size := by omega
      simp [this] at h1 ⊢; exact h1
    · rw [Array.getElem?_eq_getElem hi] at h2
      simp only [Option.map_some, Option.getD_some] at h2
      intro e he hb
      have := (Array.all_eq_true_iff_forall_mem.1 h2) e he
      rw [hb] at this
      simpa using this
  · rintro ⟨o, ho, h1, h2⟩
    have hi := (Array.getElem?_eq_some_iff.1 ho).1
    refine ⟨hi, ?_⟩
    rw [Bool.and_eq_true]
    constructor
    · have : i < listed.size := by omega
      simp [this] at h1 ⊢; exact h1
    · rw [ho]
      simp only [Option.map_some, Option.getD_some]
      refine Array.all_eq_true_iff_forall_mem.2 fun e he => ?_
      cases hb : Region.binds .any e with
      | false => rfl
      | true => simpa using h2 e he hb
theorem any_sound {R : List Heap} {T T' : Tr EV} {c0 c' : List Bool} {base0 base' : Heap} {J0 J' : List JE} {pend' : Pend} {ro : Option Nat} {w0 : World} {φ0 : Phi} {a0 : Act} (L : Lay ops nt recs) (hch : Chain P R recs 0 T c0 base0 J0 [] T' c' base' J' pend') (hld : LdOk base0 recs) (hf : Fresh φ0 c0 c')
    {Q : Exit → Act → World → Prop} (h0 : AR φ0 nt ro T a0) (hq : ∀ φ' a' w', Step φ0 φ' c0 c' → AR φ' nt ro T' a' → WR w0 φ' ⟨c', mergeAll pend' base', R, J'⟩ w' → Q .normal a' w') :
    ∀ (fuel : Nat) (listed : Array Bool) (φ : Phi) (a : Act) (w : World), listed.size = ops.size → (List.range ops.size).countP (fun j => !listed.getD j false) ≤ fuel → Inv ops nt recs w0 φ0 T (PM base0 []) J0 R a0 (fun j => listed.getD j false) φ a w →
      wpAnyIn (Wd ro) 0 P .any ops Q fuel listed a w := by
  have fin : ∀ (listed : Array Bool) (φ : Phi) (a : Act) (w : World), listed.size = ops.size → Region.ready .any ops listed = [] → Inv ops nt recs w0 φ0 T (PM base0 []) J0 R a0 (fun j => listed.getD j false) φ a w → Q .normal a w := by
    intro listed φ a w hsz hr inv
    have all : ∀ j, j < recs.length → listed.getD j false = true := by
      intro j
      induction j using Nat.strongRecOn with
      | ind j ih =>
        intro hj
        cases hl : listed.getD j false with
        | true => rfl
        | false =>
          exfalso
          have hrj := List.getElem?_eq_getElem hj
          have hin : j ∈ Region.ready .any ops listed := (ready_iff hsz).2 ⟨_, L.op j _ hrj, hl, fun e he hb => by
            have hlt := L.edge j _ hrj e he hb
            exact ih e.on hlt (by omega)⟩
          rw [hr] at hin; cases hin
    have hc := chain_c _ hch
    have hJ : J' = JSt (fun j => listed.getD j false) recs 0 J0 := by
      rw [JSt_congr (S' := fun _ => true) recs 0 _ fun j _ hj => all j (by omega)]; exact chain_J recs hch
    rw [hJ] at hq
    have hdk := chain_D recs hch dk key_ne_dk
    have hrk := chain_D recs hch rk key_ne_rk
    refine hq φ a w ⟨inv.ext, fun b hb => inv.out b fun j r hj _ hh => ?_⟩ ⟨⟨inv.size, fun t => ?_⟩, ?_, ?_⟩ (inv.mem.sub c' fun b k hb => ?_)
    · have := hc.2 r (List.mem_of_getElem? hj); omega
    · have := inv.tmps t
      rw [TS_congr (S' := fun _ => true) recs 0 _ fun j _ hj => all j (by omega)] at this
      rw [chain_T recs hch t]; exact this
    · have : defersOf T' = defersOf T := by unfold defersOf; rw [hdk]
      rw [this, inv.defers]; exact h0.dr.mono inv.ext
    · have := h0.ro.mono inv.ext
      unfold RO at this ⊢; rw [hrk]; exact this
    · rw [MS_congr (S' := fun _ => true) recs 0 _ fun j _ hj => all j (by omega), ← chain_M recs hch]
      exact get_mergeAll hb
  intro fuel
  induction fuel with
  | zero =>
    intro listed φ a w hsz hn inv
    have hr : Region.ready .any ops listed = [] := by
      rw [List.eq_nil_iff_forall_not_mem]
      intro i hi
      obtain ⟨o, ho, h1, _⟩ := (ready_iff hsz).1 hi
      have := List.countP_eq_zero.1 (Nat.le_zero.1 hn) i (List.mem_range.2 (Array.getElem?_eq_some_iff.1 ho).1)
      rw [h1] at this; simp at this
    exact ⟨hr, fin listed φ a w hsz hr inv⟩
  | succ fuel ih =>
    intro listed φ a w hsz hn inv
    refine ⟨fun hr => fin listed φ a w hsz hr inv, fun i hi => ?_⟩
    obtain ⟨o, ho, h1, h2⟩ := (ready_iff hsz).1 hi
    have hi' : i < ops.size := (Array.getElem?_eq_some_iff.1 ho).1
    have hS' : ∀ k, (listed.setIfInBounds i true).getD k false = if k = i then true else listed.getD k false := by
      intro k
      simp only [Array.getD_eq_getD_getElem?, Array.getElem?_setIfInBounds]
      by_cases hk : i = k
      · subst hk; rw [if_pos rfl, if_pos (by omega), if_pos rfl]; rfl
      · rw [if_neg hk, if_neg (fun e => hk e.symm)]
    refine step_sound (S := fun j => listed.getD j false) (S' := fun j => (listed.setIfInBounds i true).getD j false) (ro := ro) L hch hld hf inv ho h1 h2 hS' fun φ' a' w' inv' => ih _ φ' a' w' (by simpa using hsz) ?_ inv'
    have : (List.range ops.size).countP (fun j => !(listed.setIfInBounds i true).getD j false) < (List.range ops.size).countP (fun j => !listed.getD j false) := by
      refine countP_lt (fun x hx => ?_) i (List.mem_range.2 hi') ?_ ?_
      · rw [hS' x] at hx; split at hx
        · simp at hx
        · exact hx
      · rw [h1]; rfl
      · rw [hS' i, if_pos rfl]; rfl
    omega

theorem mkDI_ok {H W : Nat} : ∀ (l : List Oper) (ms : List Nat) (i : Nat), (mkDI P ops H W i l ms).length = l.length → ∀ (j : Nat) (o : Oper), l[j]? = some o → ∃ d, (mkDI P ops H W i l ms)[j]? = some d ∧
    d.op = cOp P o.op ∧ d.dst = o.dst ∧ d.looks = looks ops o ∧ (some d.mask = ms[j]?) ∧ d.guard = (match o.guard with
        | none => none
        | some (j, w) => match (ops[j]?).bind (·.dst) with
          | some g => some (key g, w)
          | none => some (key 1000000, w))
  | o :: l, m :: ms, i, h, j, z, hz => by
    cases j with
    | zero => simp at hz; subst hz; exact ⟨_, rfl, rfl, rfl, rfl, rfl, rfl⟩
    | succ j =>
      have h : (mkDI P ops H W (i + 1) l ms).length + 1 = l.length + 1 := h
      exact mkDI_ok l ms (i + 1) (by omega) j z (by simpa using hz)
  | o :: l, [], i, h, j, z, hz => by simp [mkDI] at h
  | [], ms, i, h, j, z, hz => by simp at hz
theorem guardsOk_ok : ∀ {l : List Oper}, guardsOk ops l = true → ∀ (j : Nat) (o : Oper), l[j]? = some o → ∀ i w, o.guard = some (i, w) → ∃ g, (ops[i]?).bind (·.dst) = some g
  | o :: l, h, j, z, hz, i, w, hg => by
    have h : bR (match o.guard with | none => true | some (j, _) => match (ops[j]?).bind (·.dst) with | some _ => true | none => false) (guardsOk ops l) false = true := h
    cases hb : (match o.guard with | none => true | some (j, _) => match (ops[j]?).bind (·.dst) with | some _ => true | none => false) with
    | false => rw [hb] at h; cases h
    | true =>
      rw [hb] at h
      cases j with
      | zero =>
        simp at hz; subst hz
        rw [hg] at hb
        simp only at hb
        split at hb
        · exact ⟨_, ‹_›⟩
        · cases hb
      | succ j => exact guardsOk_ok (l := l) h j z (by simpa using hz) i w hg
  | [], _, j, z, hz, _, _, _ => by simp at hz
theorem dstOk_ok : ∀ {l : List DI}, dstOk nt l = true → ∀ (j : Nat) (d : DI), l[j]? = some d → ∀ t, d.dst = some t → t < nt
  | d :: l, h, j, z, hz, t, ht => by
    have h : bR (match d.dst with | some t => Nat.blt t nt | none => true) (dstOk nt l) false = true := h
    cases hb : (match d.dst with | some t => Nat.blt t nt | none => true) with
    | false => rw [hb] at h; cases h
    | true =>
      rw [hb] at h
      cases j with
      | zero =>
        simp at hz; subst hz
        rw [ht] at hb
        exact Nat.le_of_ble_eq_true hb
      | succ j => exact dstOk_ok (l := l) h j z (by simpa using hz) t ht
  | [], _, j, z, hz, _, _ => by simp at hz
theorem draw_sound {C : CallK} (hm : P.follows .mixedOrders = true) (hC : CallSound P C) (T : Tr EV) (s : St) (K : Tr EV → St → Ans) (h : (cDraw P nt ops).run C T s K = true) :
    ∃ T' s', K T' s' = true ∧ val s.c ≤ val s'.c ∧ ∀ (id : Nat) {w0 : World} {φ : Phi} {w : World} {a : Act} {ro : Option Nat} {Q : Exit → Act → World → Prop}, Fresh φ s.c s'.c → WR w0 φ s w → AR φ nt ro T a →
      (∀ φ' a' w', Step φ φ' s.c s'.c → AR φ' nt ro T' a' → WR w0 φ' s' w' → Q .normal a' w') → (Code.region id ops true).wpIn (Wd ro) 0 P Q a w := by
  unfold cDraw at h
  simp only at h
  generalize hl : mkDI P ops (touchMask ops.toList 0) (writeMask ops.toList 0) 0 ops.toList (masksOf ops.toList []) = l at h
  cases h1 : Nat.beq (lenN l) (lenN ops.toList) with
  | false => rw [h1] at h; exact absurd (show false = true from h) (by decide)
  | true =>
  rw [h1] at h
  cases h2 : guardsOk ops ops.toList with
  | false => rw [h2] at h; exact absurd (show false = true from h) (by decide)
  | true =>
  rw [h2] at h
  cases h3 : dstOk nt l with
  | false => rw [h3] at h; exact absurd (show false = true from h) (by decide)
  | true =>
  rw [h3] at h
  cases h4 : allOk [] l with
  | false => rw [h4] at h; exact absurd (show false = true from h) (by decide)
  | true =>
  rw [h4] at h
  cases h5 : edgesOk 0 ops.toList with
  | false => rw [h5] at h; exact absurd (show false = true from h) (by decide)
  | true =>
  rw [h5] at h
  have h : drawRun C s.L s.R l 0 T s.c s.L s.J [] [] [] K = true := h
  have hlen : l.length = ops.toList.length := by have := Nat.eq_of_beq_eq_true h1; rwa [lenN_eq, lenN_eq] at this
  have hdi : ∀ (j : Nat) (o : Oper), ops.toList[j]? = some o → ∃ d, l[j]? = some d ∧ d.op = cOp P o.op ∧ d.dst = o.dst ∧ d.looks = looks ops o ∧ (some d.mask = (masksOf ops.toList [])[j]?) ∧ d.guard = (match o.guard with
        | none => none
        | some (j, w) => match (ops[j]?).bind (·.dst) with
          | some g => some (key g, w)
          | none => some (key 1000000, w)) := by
    have := mkDI_ok (P := P) (ops := ops) (H := touchMask ops.toList 0) (W := writeMask ops.toList 0) ops.toList (masksOf ops.toList []) 0 (by rw [hl]; exact hlen)
    rw [hl] at this; exact this
  have hzip : (ops.toList.zip l).map (·.2) = l := by rw [← List.unzip_snd, List.unzip_zip_right (by omega)]
  rw [← hzip] at h
  have hzl : ∀ (j : Nat) (o : Oper) (d : DI), (ops.toList.zip l)[j]? = some (o, d) → ops.toList[j]? = some o ∧ l[j]? = some d := fun j o d hj => by
    rw [List.getElem?_zip_eq_some] at hj; exact hj
  obtain ⟨recs, T', c', base', J', pend', g1, g2, ⟨lds, gs, _, gp⟩, g3⟩ := chain_of_run hC (R := s.R) (B0 := s.L) (ops.toList.zip l) (fun x hx => by
    obtain ⟨j, hj⟩ := List.getElem?_of_mem hx
    obtain ⟨k1, k2⟩ := hzl j x.1 x.2 hj
    obtain ⟨d, k3, k4, _⟩ := hdi j x.1 k1
    rw [k2] at k3; cases k3
    exact k4) 0 T s.c s.L s.J [] [] [] K h
  have hrec : ∀ (j : Nat) (r : Rec), recs[j]? = some r → ops.toList[j]? = some r.o ∧ l[j]? = some r.d := fun j r hr => by
    refine hzl j r.o r.d ?_
    rw [← g1, List.getElem?_map, hr]; rfl
  have hfull : ∀ (j : Nat) (r : Rec), recs[j]? = some r → r.d.op = cOp P r.o.op ∧ r.d.dst = r.o.dst ∧ r.d.looks = looks ops r.o ∧ (some r.d.mask = (masksOf ops.toList [])[j]?) ∧ r.d.guard = (match r.o.guard with
        | none => none
        | some (j, w) => match (ops[j]?).bind (·.dst) with
          | some g => some (key g, w)
          | none => some (key 1000000, w)) := fun j r hr => by
    obtain ⟨k1, k2⟩ := hrec j r hr
    obtain ⟨d, k3, k4⟩ := hdi j r.o k1
    rw [k2] at k3; cases k3
    exact k4
  have hld : LdOk s.L recs := fun j r d hr hd => by
    obtain ⟨k1, k2⟩ := gp j r d hr hd
    have := allStable_ok gs d k1
    rw [List.append_nil, List.reverse_reverse] at this
    exact ⟨by omega, this⟩
  have hrl : recs.length = ops.size := by
    have := congrArg List.length g1
    simp [hlen] at this; omega
  have hedge : ∀ (j : Nat) (r : Rec), recs[j]? = some r → ∀ e ∈ r.o.after, Region.binds .any e = true → e.on < j := fun j r hr e he hb => by
    have := edgesOk_ok h5 j r.o (hrec j r hr).1 e he hb; omega
  have L : Lay ops nt recs := {
    len := hrl
    op := fun j r hr => by have := (hrec j r hr).1; simpa using this
    dst := fun j r hr => (hfull j r hr).2.1
    look := fun j r hr => (hfull j r hr).2.2.1
    lt := fun j r hr t ht => dstOk_ok h3 j r.d (hrec j r hr).2 t ht
    pair := fun i j x y hij hx hy => allOk_ok h4 j y.d (hrec j y hy).2 i x.d (by simpa using hij) (by simpa using (hrec i x hx).2)
    mask := fun j r hr i hi => by
      obtain ⟨m, k1, k2⟩ := (masksOf_ok ops.toList []).2.2 j r.o (hrec j r hr).1
      have k3 := (hfull j r hr).2.2.2.1
      simp only [List.length_nil, Nat.zero_add] at k1 k2
      rw [k1] at k3
      cases k3
      obtain ⟨e, e1, e2, e3⟩ := k2 i hi
      refine ⟨e, e1, e2, ?_⟩
      rcases e3 with e3 | ⟨e3, e4⟩
      · exact .inl e3
      · right
        have hlt : e.on < recs.length := by have := (List.getElem?_eq_some_iff.1 hr).1; omega
        refine ⟨_, List.getElem?_eq_getElem hlt, ?_⟩
        have k4 := (hfull e.on _ (List.getElem?_eq_getElem hlt)).2.2.2.1
        rw [List.getD_eq_getElem?_getD, ← k4] at e3
        exact e3
    edge := hedge
    guard0 := fun j r hr hg => by rw [(hfull j r hr).2.2.2.2, hg]
    guard1 := fun j r hr i w hg => by
      obtain ⟨g, hg'⟩ := guardsOk_ok h2 j r.o (hrec j r hr).1 i w hg
      refine ⟨g, hg', ?_⟩
      rw [(hfull j r hr).2.2.2.2, hg]
      simp only [hg'] }
  refine ⟨T', ⟨c', mergeAll pend' base', s.R, J'⟩, g3, (chain_c _ g2).1, fun id {w0 φ w a ro Q} hf hw ht hq => wpIn_region_any hm ?_⟩
  have hS : ∀ j, (Array.replicate ops.size false).getD j false = false := fun j => by
    rw [Array.getD_eq_getD_getElem?, Array.getElem?_replicate]; split <;> rfl
  refine any_sound (a0 := a) (w0 := w0) L g2 hld hf ht hq ops.size _ φ a _ (by simp) (by
    refine Nat.le_trans List.countP_le_length ?_
    simp) ⟨Ext2.refl _, fun _ _ => rfl, ?_, ht.tr.1, fun t => ?_, rfl, fun j r hr hs => by rw [hS j] at hs; cases hs⟩
  · have hw' : WR w0 φ s { w with drawn := w.drawn + 1 } := ⟨⟨hw.below.os, hw.below.tape, hw.below.output, hw.below.size, hw.below.block⟩, hw.ro, hw.loc, hw.apart, hw.loops.step (Ext2.refl _) fun _ _ h _ => h⟩
    rw [MS_quiet recs 0 _ fun j r _ _ => hS _, JSt_quiet recs 0 _ fun j r _ _ => hS _]
    refine (WRm.of hw').le fun b k hb => ?_
    rcases hb with hb | ⟨p, hp, _⟩
    · exact hb
    · cases hp
  · rw [TS_quiet recs 0 _ fun j r _ _ => hS _]
    exact ht.tr.2 t
end
end Go.Ev
