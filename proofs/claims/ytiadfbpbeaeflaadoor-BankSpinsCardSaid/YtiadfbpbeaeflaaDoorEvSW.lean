/- A function by itself: what its run says of all its calls. -/
import Derived.Test.YtiadfbpbeaeflaaDoorEvSV
namespace Go.Ev
open Go.RowKit (Below)
theorem canC_ok {c : CX} {k : List Bool} {h : Heap} {K : EV → List DV → Heap → List Bool → Ans} (hh : canC c h k K = true) {d : List DV} (hs : ShapeC c d) (hw : c ≠ .w) : ∃ v h' k', K v d h' k' = true ∧ val k ≤ val k' ∧
    ∀ {φ : Phi} {w : World} {v' : Value}, (∀ b, val k ≤ val b → val b < val k' → φ b = none) → ArgV w c d v' → (∀ b blk, h.get b = some blk → RoOk φ w b blk) → ∃ φ', Step φ φ' k k' ∧ VR φ' v v' ∧ ∀ b blk, h'.get b = some blk → RoOk φ' w b blk := by
  cases c with
  | w => exact absurd rfl hw
  | i kd lo hi =>
    obtain ⟨x, rfl, h1, h2⟩ := hs
    have hh : bR (eqI lo hi) (K (.int kd lo) [.n lo] h k) (allB fun x : Int => impB (lo ≤ x) (impB (x ≤ hi) (K (.sym kd x lo hi) [.n x] h k))) = true := hh
    cases e : eqI lo hi with
    | true =>
      rw [e] at hh
      have hh : K (.int kd lo) [.n lo] h k = true := hh
      have e := eqI_same e
      obtain rfl : x = lo := by omega
      refine ⟨_, h, k, hh, Nat.le_refl _, fun {φ w v'} _ ha hr => ⟨φ, Step.refl _ _, ?_, hr⟩⟩
      obtain ⟨y, e1, rfl, _⟩ := ha
      cases e1
      exact .int kd x
    | false =>
    rw [e] at hh
    have g := impB_ok (impB_ok (allB_ok (show allB (fun x : Int => impB (lo ≤ x) (impB (x ≤ hi) (K (.sym kd x lo hi) [.n x] h k))) = true from hh) x) h1) h2
    refine ⟨_, h, k, g, Nat.le_refl _, fun {φ w v'} _ ha hr => ⟨φ, Step.refl _ _, ?_, hr⟩⟩
    obtain ⟨y, e1, rfl, _⟩ := ha
    cases e1
    exact .sym kd x lo hi h1 h2
  | b =>
    obtain ⟨x, rfl⟩ := hs
    have g := allB_ok (show allB (fun b : Bool => K (.bool b) [.b b] h k) = true from hh) x
    refine ⟨_, h, k, g, Nat.le_refl _, fun {φ w v'} _ ha hr => ⟨φ, Step.refl _ _, ?_, hr⟩⟩
    obtain ⟨y, e1, rfl⟩ := ha
    cases e1
    exact .bool x
  | l cs mx =>
    obtain ⟨cols, len, ht, hne, hlen, hcols⟩ := hs
    have hz : 1 ≤ cs.length := List.length_pos_iff.2 hne
    have hcl := ht.length
    have hcne : cols ≠ [] := fun e => by rw [e] at hcl; simp at hcl; omega
    have g := allRows_ok ht hcols hlen hne (show allRows cs mx (fun len cols d => Tr.setC (some ⟨.nil, Nat.mul len (lenN cs), none, cols, true⟩) k h fun h => incC k fun k' => K (.aslice k 0 len (lenN cs) mx) d h k') = true from hh)
    rw [Tr.setC_eq, incC_eq, lenN_eq] at g
    refine ⟨_, _, _, g, by rw [val_inc]; omega, fun {φ w v'} hf ha hr => ?_⟩
    have hfree := hf k (Nat.le_refl _) (by rw [val_inc]; omega)
    obtain ⟨cols', len', ht', _, _, hcols', hS⟩ := ha
    have e1 := ht.fun ht'
    subst e1
    have elen : len' = len := by
      obtain ⟨c0, hc0⟩ := List.exists_mem_of_ne_nil _ hcne
      rw [← (hcols' c0 hc0).1]; exact (hcols c0 hc0).1
    subst elen
    have fin : ∀ q : Nat × Nat × Nat, RoOk (φ.put k q) w k ⟨.nil, Nat.mul len' cs.length, none, cols', true⟩ → VR (φ.put k q) (.aslice k 0 len' cs.length mx) v' →
        ∃ φ', Step φ φ' k (inc k) ∧ VR φ' (.aslice k 0 len' cs.length mx) v' ∧ ∀ b blk, (Tr.set (some ⟨.nil, Nat.mul len' cs.length, none, cols', true⟩) k h).get b = some blk → RoOk φ' w b blk := fun q h1 h2 => by
      have hst := Step.put (φ := φ) q hfree
      refine ⟨_, hst, h2, fun b blk hb => ?_⟩
      rw [Tr.get_set] at hb
      split at hb
      · rename_i e; cases hb; subst e; exact h1
      · exact (hr b blk hb).mono hst.ext
    rcases hS with ⟨e0, a, rfl⟩ | ⟨rb, q, cap, arr, ty, fz, rfl, hcap, harr, hfit, hcr⟩
    · subst e0
      refine fin (0, 0, 0) (.inl ⟨⟨hcne, by show 0 * cs.length = 0; omega, fun c hc => (hcols c hc).1⟩, (0, 0, 0), by simp [Phi.put], rfl⟩) (.aslice0 a (p := (0, 0, 0)) (by simp [Phi.put]))
    · refine fin (rb, q, arr.size) (.inr ⟨(rb, q, arr.size), fz, by simp [Phi.put], arr, ty, harr, rfl, ?_, fun i v hi hv => ?_, fun j c hj => ?_⟩) ?_
      · show q + len' * cs.length ≤ arr.size
        have := Nat.mul_le_mul_right cs.length hcap
        omega
      · rw [show Tr.get (.nil : Tr EV) (key i) = none from Tr.get_nil _] at hv; cases hv
      · have hj : cols'[j]? = some c := hj
        show CR arr q (len' * cs.length) cols'.length j c
        rw [hcl]; exact hcr j c hj
      · have := VR.aslice (φ := φ.put k (rb, q, arr.size)) (b := k) (o := 0) (len := len') (sz := cs.length) (mx := mx) (rb := rb) (δ := q) (S := arr.size) (cap := cap) (by simp [Phi.put]) hcap (by omega) hlen
        rw [Nat.zero_mul] at this
        exact this
theorem canCs_ok : ∀ {cs : List CX} {k : List Bool} {h : Heap} {K : List EV → List DV → Heap → List Bool → Ans} (_ : canCs cs h k K = true) {ds : List (List DV)} (_ : ShapeCs cs ds), ∃ vs h' k', K vs (flatD ds) h' k' = true ∧ val k ≤ val k' ∧
    ∀ {φ : Phi} {w : World} {vs' : List Value}, (∀ b, val k ≤ val b → val b < val k' → φ b = none) → ArgCs w cs ds vs' → (∀ b blk, h.get b = some blk → RoOk φ w b blk) → ∃ φ', Step φ φ' k k' ∧ VRs φ' vs vs' ∧ ∀ b blk, h'.get b = some blk → RoOk φ' w b blk
  | [], k, h, K, hh, ds, hs => by
    cases hs
    exact ⟨[], h, k, hh, Nat.le_refl _, fun {φ w vs'} _ ha hr => by cases ha; exact ⟨φ, Step.refl _ _, .nil, hr⟩⟩
  | c :: cs, k, h, K, hh, ds, hs => by
    cases hs with
    | cons h1 h2 h3 =>
      obtain ⟨v, h', k', g1, g2, g3⟩ := canC_ok (show canC c h k (fun v d h k => canCs cs h k fun vs ds h k => K (v :: vs) (appN d ds) h k) = true from hh) h1 h2
      obtain ⟨vs, h'', k'', r1, r2, r3⟩ := canCs_ok g1 h3
      refine ⟨v :: vs, h'', k'', r1, by omega, fun {φ w vs'} hf ha hr => ?_⟩
      cases ha with
      | cons a1 a2 =>
        obtain ⟨φ1, s1, s2, s3⟩ := g3 (fun b b1 b2 => hf b b1 (by omega)) a1 hr
        obtain ⟨φ2, t1, t2, t3⟩ := r3 (fun b b1 b2 => by rw [s1.out b (.inr b1)]; exact hf b (by omega) b2) a2 s3
        exact ⟨φ2, s1.trans t1 g2 r2, .cons (s2.mono t1.ext) t2, t3⟩
theorem canVK_ok {q : VK} {k : List Bool} {h : Heap} {K : EV → List DV → Heap → List Bool → Ans} (hh : canVK q h k K = true) {d : List DV} (hs : ShapeVK q d) : ∃ v h' k', K v d h' k' = true ∧ val k ≤ val k' ∧
    ∀ {φ : Phi} {w : World} {v' : Value}, (∀ b, val k ≤ val b → val b < val k' → φ b = none) → ArgVK w q d v' → (∀ b blk, h.get b = some blk → RoOk φ w b blk) → ∃ φ', Step φ φ' k k' ∧ VR φ' v v' ∧ ∀ b blk, h'.get b = some blk → RoOk φ' w b blk := by
  cases q with
  | one c => exact canC_ok hh hs.1 hs.2
  | agg cs =>
    obtain ⟨ds, rfl, hs⟩ := hs
    obtain ⟨vs, h', k', g1, g2, g3⟩ := canCs_ok (show canCs cs h k (fun vs ds h k => K (.agg vs) ds h k) = true from hh) hs
    refine ⟨_, h', k', g1, g2, fun {φ w v'} hf ha hr => ?_⟩
    obtain ⟨ds', vs', e, rfl, ha⟩ := ha
    have : ds' = ds := by
      have key : ∀ {cs : List CX} {ds ds' : List (List DV)} {vs' : List Value}, ShapeCs cs ds → ArgCs w cs ds' vs' → flatD ds = flatD ds' → ds' = ds := by
        intro cs ds ds' vs' h1
        induction h1 generalizing ds' vs' with
        | nil => intro h2 _; cases h2; rfl
        | cons h hw hs ih =>
          rename_i c cs d ds
          intro h2 e
          cases h2 with
          | cons h2 h3 =>
            rename_i d' ds' v' vs'
            have e : appN d (flatD ds) = appN d' (flatD ds') := e
            rw [appN_eq, appN_eq] at e
            have hl : d.length = d'.length := by
              have tl : ∀ {cs : List CK} {cols : List Col} {d : List DV}, Tmpl cs cols d → d.length = cs.length := by
                intro cs cols d h
                induction h with
                | nil => rfl
                | i _ ih => simp [ih]
                | b _ ih => simp [ih]
              cases c with
              | i k lo hi => obtain ⟨x, rfl, _⟩ := h; obtain ⟨y, rfl, _⟩ := h2; rfl
              | b => obtain ⟨x, rfl⟩ := h; obtain ⟨y, rfl, _⟩ := h2; rfl
              | l cs mx => obtain ⟨_, _, t, _⟩ := h; obtain ⟨_, _, t', _⟩ := h2; rw [tl t, tl t']
              | w => exact absurd rfl hw
            obtain ⟨e1, e2⟩ := List.append_inj e hl
            rw [e1, ih h3 e2]
      exact key hs ha e
    subst this
    obtain ⟨φ', s1, s2, s3⟩ := g3 hf ha hr
    exact ⟨φ', s1, .agg s2, s3⟩
theorem canVKs_ok : ∀ {qs : List VK} {k : List Bool} {h : Heap} {K : List EV → List DV → Heap → List Bool → Ans} (_ : canVKs qs h k K = true) {ds : List (List DV)} (_ : ShapeVKs qs ds), ∃ vs h' k', K vs (flatD ds) h' k' = true ∧ val k ≤ val k' ∧
    ∀ {φ : Phi} {w : World} {vs' : List Value}, (∀ b, val k ≤ val b → val b < val k' → φ b = none) → ArgVKs w qs ds vs' → (∀ b blk, h.get b = some blk → RoOk φ w b blk) → ∃ φ', Step φ φ' k k' ∧ VRs φ' vs vs' ∧ ∀ b blk, h'.get b = some blk → RoOk φ' w b blk
  | [], k, h, K, hh, ds, hs => by
    cases hs
    exact ⟨[], h, k, hh, Nat.le_refl _, fun {φ w vs'} _ ha hr => by cases ha; exact ⟨φ, Step.refl _ _, .nil, hr⟩⟩
  | c :: cs, k, h, K, hh, ds, hs => by
    cases hs with
    | cons h1 h3 =>
      obtain ⟨v, h', k', g1, g2, g3⟩ := canVK_ok (show canVK c h k (fun v d h k => canVKs cs h k fun vs ds h k => K (v :: vs) (appN d ds) h k) = true from hh) h1
      obtain ⟨vs, h'', k'', r1, r2, r3⟩ := canVKs_ok g1 h3
      refine ⟨v :: vs, h'', k'', r1, by omega, fun {φ w vs'} hf ha hr => ?_⟩
      cases ha with
      | cons a1 a2 =>
        obtain ⟨φ1, s1, s2, s3⟩ := g3 (fun b b1 b2 => hf b b1 (by omega)) a1 hr
        obtain ⟨φ2, t1, t2, t3⟩ := r3 (fun b b1 b2 => by rw [s1.out b (.inr b1)]; exact hf b (by omega) b2) a2 s3
        exact ⟨φ2, s1.trans t1 g2 r2, .cons (s2.mono t1.ext) t2, t3⟩
/-! results -/
theorem cells_ok : ∀ {ks : List VK} {us : List EV} {K : List CX → List EV → Ans}, cellsVK ks us K = true → ∃ cs es, K cs es = true ∧ (∃ us es, GroupV ks cs us es) ∧ us.length = ks.length ∧ ∀ {φ : Phi} {us' : List Value}, VRs φ us us' → ∃ es', GroupV ks cs us' es' ∧ VRs φ es es'
  | [], us, K, h => by
    obtain ⟨rfl, h⟩ := nilL_ok (show nilL us (K [] []) = true from h)
    exact ⟨[], [], h, ⟨_, _, .nil⟩, rfl, fun {φ us'} hv => by cases hv; exact ⟨[], .nil, .nil⟩⟩
  | k :: ks, [], K, h => absurd (show false = true from h) (by decide)
  | .one c :: ks, v :: us, K, h => by
    obtain ⟨cs, es, h1, ⟨u0, e0, h2⟩, h20, h3⟩ := cells_ok (show cellsVK ks us (fun cs es => K (c :: cs) (v :: es)) = true from h)
    refine ⟨_, _, h1, ⟨undef :: u0, undef :: e0, .one h2⟩, by simp [h20], fun {φ us'} hv => ?_⟩
    cases hv with
    | cons g1 g2 => obtain ⟨es', r1, r2⟩ := h3 g2; exact ⟨_ :: es', .one r1, .cons g1 r2⟩
  | .agg cs0 :: ks, v :: us, K, h => by
    obtain ⟨l, rfl, h⟩ := asAgg_ok (show asAgg v (fun l => guardB (Nat.beq (lenN cs0) (lenN l)) (cellsVK ks us fun cs es => K (appN cs0 cs) (appN l es))) = true from h)
    obtain ⟨hl, h⟩ := guard_ok h
    have hl := Nat.eq_of_beq_eq_true hl
    rw [lenN_eq, lenN_eq] at hl
    obtain ⟨cs, es, h1, ⟨u0, e0, h2⟩, h20, h3⟩ := cells_ok h
    rw [appN_eq, appN_eq] at h1
    refine ⟨_, _, h1, ⟨.agg (List.replicate cs0.length undef).toArray :: u0, List.replicate cs0.length undef ++ e0, .agg (by simp) h2⟩, by simp [h20], fun {φ us'} hv => ?_⟩
    cases hv with
    | cons g1 g2 =>
      cases g1 with
      | agg g1 =>
        obtain ⟨es', r1, r2⟩ := h3 g2
        exact ⟨_ ++ es', .agg (by rw [hl]; exact g1.length) r1, g1.append r2⟩
theorem cxR_f {c : CX} (h : cxR c true true false = true) : c ≠ .w := by
  rintro rfl; cases h
theorem keyC_eq {c : CX} {v : EV} {l : List (List Bool)} : keyC c v l = (match cKey v c with | some b => b :: l | none => l) := by
  cases c with
  | l cs mx =>
    show Option.rec (motive := fun _ => List (List Bool)) l (fun b => b :: l) (keyOf v) = match keyOf v with | some b => b :: l | none => l
    cases keyOf v <;> rfl
  | _ => rfl
theorem exOs_ok {s : St} : ∀ {cs : List CX} {es : List EV} {K : List DV → List (List Bool) → Ans}, exOs cs es s K = true → ∃ rss κs, K (flatD rss) (κs.filterMap id) = true ∧ ShapeCs cs rss ∧ ∀ {w0 : World} {φ : Phi} {w : World},
    (∀ b ∈ κs.filterMap id, ∃ k, s.L.get b = some k ∧ k.fz = false) → WR w0 φ s w → ∀ es', VRs φ es es' → ∃ locs, ResCs w0 w cs rss es' locs ∧ Froms φ s κs locs
  | [], es, K, h => by
    obtain ⟨rfl, h⟩ := nilL_ok (show nilL es (K [] []) = true from h)
    exact ⟨[], [], h, .nil, fun {w0 φ w} _ _ es' hv => by cases hv; exact ⟨[], .nil, .nil⟩⟩
  | c :: cs, [], K, h => absurd (show false = true from h) (by decide)
  | c :: cs, v :: es, K, h => by
    obtain ⟨hw, h⟩ := guard_ok (show guardB (cxR c true true false) (exC c v s fun d => exOs cs es s fun ds ks => K (appN d ds) (keyC c v ks)) = true from h)
    have hcw := cxR_f hw
    obtain ⟨d, h1, h2, h3⟩ := exC_ok h
    obtain ⟨rss, κs, h4, h5, h6⟩ := exOs_ok h1
    rw [keyC_eq] at h4
    have ek : (cKey v c :: κs).filterMap id = (match cKey v c with | some b => b :: κs.filterMap id | none => κs.filterMap id) := by
      cases cKey v c <;> simp
    rw [← ek] at h4
    refine ⟨d :: rss, cKey v c :: κs, h4, .cons h2 hcw h5, fun {w0 φ w} hown hW es' hv => ?_⟩
    rw [ek] at hown
    cases hv with
    | cons g1 g2 =>
      obtain ⟨loc, r1, r2⟩ := h3 (fun b hb => by rw [hb] at hown; exact hown b List.mem_cons_self) hW _ g1
      obtain ⟨locs, r3, r4⟩ := h6 (fun b hb => hown b (by cases cKey v c <;> first | exact hb | exact List.mem_cons_of_mem _ hb)) hW _ g2
      refine ⟨loc :: locs, .cons ?_ r3, .cons r2 r4⟩
      cases c with
      | w => exact absurd rfl hcw
      | _ => exact r1
theorem untup_ok {n : Nat} {v : EV} {K : List EV → Ans} (h : untup n v K = true) : ∃ us, K us = true ∧ (us.length = n → ∀ {φ : Phi} {u : Value}, VR φ v u → ∃ us', ValOf us' u ∧ VRs φ us us') := by
  unfold untup at h
  cases hb : Nat.beq n 1 with
  | true =>
    rw [hb] at h
    exact ⟨[v], h, fun _ {φ u} hv => ⟨[u], by simp [ValOf], .cons hv .nil⟩⟩
  | false =>
    rw [hb] at h
    obtain ⟨us, rfl, h⟩ := asTuple_ok h
    refine ⟨us, h, fun hl {φ u} hv => ?_⟩
    cases hv with
    | tuple hv =>
      rename_i cs'
      refine ⟨_, ?_, hv⟩
      have := hv.length
      unfold ValOf
      rw [dif_neg]
      intro e
      have e : cs'.length = 1 := by simpa using e
      rw [← this, hl] at e
      subst e
      exact absurd hb (by decide)
theorem fn_sound {P : Program} {ext : List (Nat × Ext)} {A : Nat → LT} {gl : List (Nat × List EV)} {n f : Nat} {g : Sig} (hm : P.follows .mixedOrders = true) (hE : ∀ p ∈ ext, ExtRow P p.1 p.2) (hT : CtsOk P ext) (hN : namesB P = true)
    (h : vcFn P ext A gl n f g = true) : FnOk P f g gl := by
  intro dss hs hpre
  obtain ⟨vs, hA, c, h1, hv1, h2⟩ := canVKs_ok (show canVKs g.args .nil [true] _ = true from h) hs
  have h1 := impB_ok h1 hpre
  obtain ⟨v, s', h3, h4, h5⟩ := (call_sound hm (extOk_of hE) hT (namesOk_of hN) n).fn f vs _ _ h1
  obtain ⟨us, h6, hu⟩ := untup_ok h3
  obtain ⟨cs, es, h7, hgrp, hlen, h8⟩ := cells_ok h6
  obtain ⟨rss, κs, h9, hsh, h10⟩ := exOs_ok h7
  obtain ⟨hdist, h9⟩ := guard_ok h9
  obtain ⟨hown, h9⟩ := guard_ok h9
  obtain ⟨hpost, _⟩ := reqB_ok h9
  rw [lenN_eq] at hu
  refine ⟨cs, rss, hgrp, hsh, hpost, fun w args' hl ha => ?_⟩
  let sz : Nat → Nat := fun g => match w.heap[g]? with | some (.cells cs _ _) => cs.size | _ => 0
  have hg0 : ∀ b, val [true] ≤ val b → phiG sz b = none := fun b h4 => by
    unfold phiG
    refine dif_neg fun ⟨g, hg⟩ => ?_
    subst hg
    rw [val_gkey] at h4
    exact absurd h4 (by decide)
  obtain ⟨φ1, st, hvs, hro⟩ := h2 (φ := phiG sz) (w := w) (fun b h4 _ => hg0 b h4) ha (fun b blk hb => by simp [Tr.get_nil] at hb)
  have hw : WR w φ1 ⟨c, .nil, [hA, heapOf gl], []⟩ w := by
    refine ⟨Below.refl _ _, fun hp hh b k hb => ?_, fun b k hb => by simp [Tr.get_nil] at hb, (fun b b' k k' p p' hb => by simp [Tr.get_nil] at hb), JOk.nil⟩
    have hh : hp = hA ∨ hp = heapOf gl := by simpa using hh
    rcases hh with rfl | rfl
    · exact hro b k hb
    obtain ⟨p, hp, rfl, rfl⟩ := heapOf_get hb
    obtain ⟨cs, ty, fz, k1, hlen, k2⟩ := hl p hp
    have e : sz p.1 = cs.size := by show (match w.heap[p.1]? with | some (.cells cs _ _) => cs.size | _ => 0) = _; rw [k1]
    refine .inr ⟨(p.1, 0, sz p.1), fz, st.ext _ _ (phiG_at sz p.1), cs, ty, k1, e.symm, ?_, fun i v hi hv => ?_, fun j c hj => by cases hj⟩
    · show 0 + lenN p.2 ≤ cs.size
      rw [lenN_eq]; omega
    · rw [get_writeN] at hv
      have hi : i < lenN p.2 := hi
      rw [lenN_eq] at hi
      rw [if_pos (by omega)] at hv
      obtain ⟨v', e1, e2⟩ := k2 φ1 _ _ hv
      exact ⟨v', by simpa using e1, e2⟩
  have hfr : Fresh φ1 c s'.c := ⟨fun g => ⟨_, st.ext _ _ (phiG_at sz g)⟩, fun b h4 _ => by rw [st.out b (.inr h4)]; exact hg0 b (by omega)⟩
  have := h5 (w0 := w) (w := w) (args' := args') hfr hw hvs
  refine this.mono fun u w' ⟨φ', _, hvr, hw'⟩ => ?_
  obtain ⟨us', huv, hus⟩ := hu hlen hvr
  obtain ⟨es', hG, hes⟩ := h8 hus
  have hown := ownedR_ok hown
  obtain ⟨locs, hR, hF⟩ := h10 (fun b hb => let ⟨k, e1, e2, _⟩ := hown b hb; ⟨k, e1, e2⟩) hw' es' hes
  exact ⟨us', es', locs, huv, hG, hR, hF.apartM hw' (distinctK_ok hdist) (fun b hb => hb) hown, hw'.below⟩
end Go.Ev
