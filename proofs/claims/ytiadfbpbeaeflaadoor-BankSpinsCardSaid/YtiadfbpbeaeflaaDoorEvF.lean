/- A call without arguments, carried out by the evaluator: it returns true, and what lay before lies as it did. -/
import Derived.Test.YtiadfbpbeaeflaaDoorEvSA
import Derived.ChangeSame
namespace Go.Ev
open Go.RowKit (Below)
open Go.ChangeShapes Go.WideShapes
def sub64Run : Array Value → Sem Value := fun args => do
  let (x, y, b) ← Extern.MathBitsCarry.three "Sub64" args
  pure (Extern.MathBitsCarry.pair ((x + Extern.MathBitsCarry.m64 - y - b) % Extern.MathBitsCarry.m64) (if x < y + b then 1 else 0))
def entryOf : Ext → Array Value → Sem Value
  | .add64 => add64Entry
  | .sub64 => sub64Run
  | .ctr _ => fun _ => pure default
def ExtRow (P : Program) (f : Nat) (e : Ext) : Prop := match e with
  | .ctr _ => True
  | e => ∃ fn, P.funcs[f]? = some fn ∧ (fn.name == "runtime.NumGoroutine") = false ∧ fn.body.isNone = true ∧ Extern.findNext fn = none ∧ Extern.find fn = some (entryOf e)
theorem small {c : Int} (h : c.toNat ≤ 1) : c.toNat = 0 ∨ c.toNat = 1 := by omega
theorem run_three {P : Program} {s : String} {k1 k2 k3 : IntKind} {x y c : Int} {w : World} (h : c.toNat ≤ 1) :
    (Extern.MathBitsCarry.three s #[.int k1 x, .int k2 y, .int k3 c]).run P w = .ok (x.toNat, y.toNat, c.toNat) w := by
  have hc : c = 0 ∨ c = 1 ∨ ∃ n, c = Int.negSucc n := by
    cases c with
    | ofNat n => have : n ≤ 1 := h
                 have : n = 0 ∨ n = 1 := by omega
                 rcases this with rfl | rfl
                 · exact .inl rfl
                 · exact .inr (.inl rfl)
    | negSucc n => exact .inr (.inr ⟨n, rfl⟩)
  rcases hc with rfl | rfl | ⟨n, rfl⟩ <;> rfl
theorem ext_ok {P : Program} {e : Ext} {args : List EV} {K : EV → Ans} (h : evExt e args K = true) : ∃ v, K v = true ∧ ∀ {φ : Phi} {args' : List Value} (w : World), VRs φ args args' → ∃ u, VR φ v u ∧ (entryOf e args'.toArray).run P w = .ok u w := by
  unfold evExt at h
  split at h
  · rename_i k1 x k2 y k3 c
    obtain ⟨h1, h2⟩ := guard_ok h
    rw [fN_eq, fN_eq] at h2
    have hc : c.toNat ≤ 1 := Nat.le_of_ble_eq_true h1
    refine ⟨_, h2, fun {φ args'} w hv => ?_⟩
    cases hv with | cons g1 hv => cases hv with | cons g2 hv => cases hv with | cons g3 hv =>
    cases hv; cases g1; cases g2; cases g3
    refine ⟨_, VR.tuple (cs' := [_, _]) (.cons (.int _ _) (.cons (.int _ _) .nil)), ?_⟩
    show (add64Entry #[_, _, _]).run P w = _
    simp only [add64Entry, Sem.run_bind, run_three hc, Result.andThen_ok, Sem.run_pure, Extern.MathBitsCarry.pair, Extern.MathBitsCarry.m64]
    rfl
  · rename_i k1 x k2 y k3 c
    obtain ⟨h1, h2⟩ := guard_ok h
    rw [fN_eq] at h2
    have hc : c.toNat ≤ 1 := Nat.le_of_ble_eq_true h1
    refine ⟨_, h2, fun {φ args'} w hv => ?_⟩
    cases hv with | cons g1 hv => cases hv with | cons g2 hv => cases hv with | cons g3 hv =>
    cases hv; cases g1; cases g2; cases g3
    refine ⟨_, VR.tuple (cs' := [_, _]) (.cons (.int _ _) (.cons (.int _ _) .nil)), ?_⟩
    show (sub64Run #[_, _, _]).run P w = _
    have e : (bR (Nat.ble (Nat.succ x.toNat) (Nat.add y.toNat c.toNat)) 1 0 : Int) = Int.ofNat (if x.toNat < y.toNat + c.toNat then 1 else 0) := by
      by_cases hlt : x.toNat < y.toNat + c.toNat
      · rw [if_pos hlt, show Nat.ble (Nat.succ x.toNat) (Nat.add y.toNat c.toNat) = true from Nat.ble_eq_true_of_le hlt]; rfl
      · rw [if_neg hlt]
        cases hb : Nat.ble (Nat.succ x.toNat) (Nat.add y.toNat c.toNat) with
        | true => exact absurd (Nat.le_of_ble_eq_true hb) hlt
        | false => rfl
    rw [e]
    simp only [sub64Run, Sem.run_bind, run_three hc, Result.andThen_ok, Sem.run_pure, Extern.MathBitsCarry.pair, Extern.MathBitsCarry.m64]
    rfl
  · cases h
theorem extOk_of {P : Program} {ext : List (Nat × Ext)} (h : ∀ p ∈ ext, ExtRow P p.1 p.2) : ExtOk P ext := by
  intro f e fn he hf hb args K hk
  obtain ⟨v, h1, h2⟩ := ext_ok (P := P) hk
  refine ⟨v, h1, fun {φ args'} w hv => ?_⟩
  obtain ⟨u, h3, h4⟩ := h2 w hv
  have hm : (f, e) ∈ ext := by
    clear h h1 h2 h3 h4 hk
    induction ext with
    | nil => simp at he
    | cons p l ih =>
      obtain ⟨g, d⟩ := p
      rw [List.lookup_cons] at he
      by_cases hfg : f = g
      · subst hfg; simp at he; subst he; exact List.mem_cons_self
      · have : (f == g) = false := by simpa using hfg
        rw [this] at he
        exact List.mem_cons_of_mem _ (ih he)
  cases e with
  | ctr c => exact absurd (show false = true by unfold evExt at hk; split at hk <;> first | (cases hk; done) | (rename_i e; cases e)) (by decide)
  | _ =>
  obtain ⟨fn', k1, k2, k3, k4, k5⟩ := h _ hm
  rw [hf] at k1; cases k1
  exact ⟨u, h3, by rw [run_callFunc_extern hf k2 k3 k4 k5, h4]; rfl⟩
def namesB (P : Program) : Bool := P.funcs.toList.all fun fn => fn.body.isNone || !(fn.name == "runtime.NumGoroutine")
theorem namesOk_of {P : Program} (h : namesB P = true) : NamesOk P := by
  intro f fn hf hb
  have hm : fn ∈ P.funcs.toList := by
    have := Array.mem_of_getElem? hf
    simpa using this
  have := List.all_eq_true.1 h fn hm
  cases hbn : fn.body with
  | none => exact absurd hbn hb
  | some c => rw [hbn] at this; simpa using this
theorem gkey_inj : ∀ {g g' : Nat}, gkey g = gkey g' → g = g'
  | 0, 0, _ => rfl
  | 0, g' + 1, h => by
    have h : [false] = false :: gkey g' := h
    cases g' <;> simp [gkey] at h
  | g + 1, 0, h => by
    have h : false :: gkey g = [false] := h
    cases g <;> simp [gkey] at h
  | g + 1, g' + 1, h => by
    have h : false :: gkey g = false :: gkey g' := h
    rw [gkey_inj (List.cons.inj h).2]
theorem val_gkey : ∀ g, val (gkey g) = 0
  | 0 => rfl
  | g + 1 => by show (if false = true then 1 else 0) + 2 * val (gkey g) = 0; rw [val_gkey g]; rfl
open Classical in
/-- where the package variables lie; sz: how many cells each has -/
noncomputable def phiG (sz : Nat → Nat) : Phi := fun b => if h : ∃ g, b = gkey g then some (h.choose, 0, sz h.choose) else none
theorem phiG_at (sz : Nat → Nat) (g : Nat) : phiG sz (gkey g) = some (g, 0, sz g) := by
  have h : ∃ k, gkey g = gkey k := ⟨g, rfl⟩
  have e : h.choose = g := (gkey_inj h.choose_spec).symm
  unfold phiG
  rw [dif_pos h, e]
/-- what is asked of the world: the laid variables hold what is said -/
def Laid (gl : List (Nat × List EV)) (w : World) : Prop := ∀ p ∈ gl, ∃ (cs : Array Value) (ty : TypeId) (fz : Nat × Nat), w.heap[p.1]? = some (.cells cs ty fz) ∧ p.2.length ≤ cs.size ∧ ∀ (φ : Phi) (i : Nat) (v : EV), p.2[i]? = some v → ∃ v', cs[i]? = some v' ∧ VR φ v v'
theorem laid_of {gl : List (Nat × List EV)} {w : World} (h : ∀ p ∈ gl, ∃ cs ty, w.heap[p.1]? = some (.cells cs ty (0, 0)) ∧ ∀ φ, VRs φ p.2 cs.toList) : Laid gl w := fun p hp => by
  obtain ⟨cs, ty, h1, h2⟩ := h p hp
  refine ⟨cs, ty, _, h1, ?_, fun φ i v hv => ?_⟩
  · have := (h2 fun _ => none).length
    rw [this]; simp
  · obtain ⟨v', e1, e2⟩ := (h2 φ).get hv
    exact ⟨v', by simpa using e1, e2⟩
theorem heapOf_get : ∀ {gl : List (Nat × List EV)} {b : List Bool} {k : Blk}, (heapOf gl).get b = some k → ∃ p ∈ gl, b = gkey p.1 ∧ k = ⟨writeN p.2 0 .nil, lenN p.2, none, [], false⟩
  | [], b, k, h => by simp [heapOf, Tr.get_nil] at h
  | p :: gl, b, k, h => by
    have h : (Tr.set (some ⟨writeN p.2 0 .nil, lenN p.2, none, [], false⟩) (gkey p.1) (heapOf gl)).get b = some k := h
    rw [Tr.get_set] at h
    by_cases e : gkey p.1 = b
    · rw [if_pos e] at h; cases h
      exact ⟨p, List.mem_cons_self, e.symm, rfl⟩
    · rw [if_neg e] at h
      obtain ⟨q, h1, h2⟩ := heapOf_get h
      exact ⟨q, List.mem_cons_of_mem _ h1, h2⟩
theorem run1_sound {P : Program} {ext : List (Nat × Ext)} {A : Nat → LT} {gl : List (Nat × List EV)} {n f : Nat} (hm : P.follows .mixedOrders = true) (hE : ∀ p ∈ ext, ExtRow P p.1 p.2) (hT : CtsOk P ext) (hN : namesB P = true) {fn : Func} (hf : P.funcs[f]? = some fn) (hb : fn.body.isSome = true)
    (h : run1 P ext A gl n f = true) (w : World) (hl : Laid gl w) : Calls P f #[] w fun e w' => e = .returned (.bool true) ∧ Below w.heap.size w w' := by
  obtain ⟨v, s', h1, h2, h3⟩ := (call_sound hm (extOk_of hE) hT (namesOk_of hN) n).fn f [] ⟨[true], .nil, [heapOf gl], []⟩ (fun v _ => isTrue v) h
  let sz : Nat → Nat := fun g => match w.heap[g]? with | some (.cells cs _ _) => cs.size | _ => 0
  have hw : WR w (phiG sz) ⟨[true], .nil, [heapOf gl], []⟩ w := by
    refine ⟨Below.refl _ _, fun h hh b k hb => ?_, fun b k hb => by simp [Tr.get_nil] at hb, (fun b b' k k' p p' hb => by simp [Tr.get_nil] at hb), JOk.nil⟩
    have e : h = heapOf gl := by simpa using hh
    subst e
    obtain ⟨p, hp, rfl, rfl⟩ := heapOf_get hb
    obtain ⟨cs, ty, fz, k1, hlen, k2⟩ := hl p hp
    have e : sz p.1 = cs.size := by show (match w.heap[p.1]? with | some (.cells cs _ _) => cs.size | _ => 0) = _; rw [k1]
    refine .inr ⟨(p.1, 0, sz p.1), fz, phiG_at sz p.1, cs, ty, k1, e.symm, ?_, fun i v hi hv => ?_, fun j c hj => by cases hj⟩
    · show 0 + lenN p.2 ≤ cs.size
      rw [lenN_eq]; omega
    · rw [get_writeN] at hv
      have hi : i < lenN p.2 := hi
      rw [lenN_eq] at hi
      rw [if_pos (by omega)] at hv
      obtain ⟨v', e1, e2⟩ := k2 (phiG sz) _ _ hv
      exact ⟨v', by simpa using e1, e2⟩
  have hfr : Fresh (phiG sz) [true] s'.c := ⟨fun g => ⟨_, phiG_at sz g⟩, fun b h4 _ => by
    unfold phiG
    refine dif_neg fun ⟨g, hg⟩ => ?_
    subst hg
    rw [val_gkey] at h4
    exact absurd h4 (by decide)⟩
  have := h3 (w0 := w) (w := w) (args' := []) hfr hw .nil
  have hcf := callFunc_enter (P := P) (namesOk_of hN) (f := f) (by simp [hasBody, hf, hb]) #[] w
  rw [hcf] at this
  have this : CallsIn (Wd none) 0 P f #[] w fun e w'' => ∃ u, e = .returned u ∧ Snd ⟨[true], .nil, [heapOf gl], []⟩ s' (phiG sz) w v u w'' := this
  have this : Calls P f #[] w fun e w'' => ∃ u, e = .returned u ∧ Snd ⟨[true], .nil, [heapOf gl], []⟩ s' (phiG sz) w v u w'' := callsIn_wide.1 this
  refine this.mono fun e w' ⟨u, he, φ', _, hv, hw'⟩ => ⟨?_, hw'.below⟩
  obtain ⟨b, rfl, hb⟩ := asBool_ok (show asBool v (fun b => b) = true from h1)
  subst hb
  cases hv
  exact he
theorem run0_sound {P : Program} {ext : List (Nat × Ext)} {A : Nat → LT} {n f : Nat} (hm : P.follows .mixedOrders = true) (hE : ∀ p ∈ ext, ExtRow P p.1 p.2) (hT : CtsOk P ext) (hN : namesB P = true) {fn : Func} (hf : P.funcs[f]? = some fn) (hb : fn.body.isSome = true)
    (h : run1 P ext A [] n f = true) (w : World) : Calls P f #[] w fun e w' => e = .returned (.bool true) ∧ Below w.heap.size w w' :=
  run1_sound hm hE hT hN hf hb h w (fun p hp => by cases hp)

/-- what a law leaves behind when nothing that lay before has turned -/
theorem post_below {P : Program} {H : Type} {enc : TypeId × Value → H} {f : Func} {s : ChangeSpec} {apart fresh handsOn again : Bool} {W W' : World} {args : Array Value} {v : Value} {ds gs : List (DataW H)} {before pa pv : List MemPlace}
    (hW : DataW.Whole enc P f.params.toList s.vars apart W args.toList ds gs before)
    (hres : ∀ (b : Nat) (sp : Nat → Bool) (hd : Bool), DataW.TrodAll enc P W' b sp hd f.resultTypes.toList (v.resultList f.resultTypes.size) (s.fn H (ds ++ gs)).results [])
    (hargs : ∀ sp : Nat → Bool, (∀ p ∈ before, sp p.block = true) → DataW.TrodAll enc P W' 0 sp true f.params.toList args.toList (s.fn H (ds ++ gs)).args pa)
    (hvars : ∀ sp : Nat → Bool, (∀ p ∈ before, sp p.block = true) → DataW.TrodVars enc P W' sp s.vars (s.fn H (ds ++ gs)).vars pv)
    (hps : before = pa ++ pv) (hb : Below W.heap.size W W')
    (hok : ∀ (j : Nat) (t : TypeId) (r : Value), f.resultTypes[j]? = some t → (v.resultList f.resultTypes.size)[j]? = some r → Value.okWide P W' .any 0 t r) :
    s.post enc P f apart fresh handsOn again W args v W' := by
  subst hps
  have lt := hW.lt
  have old : ∀ p ∈ pa ++ pv, decide (p.block < W.heap.size) = true := fun p hp => decide_eq_true (lt p hp)
  obtain ⟨h1, h2, h3, h4, h5, hz, hn⟩ := id hW
  refine ⟨ds, gs, pa ++ pv, [], pa, pv, hW, hres _ _ _, hargs _ old, hvars _ old, World.keptBut_mono (fun p hp => ⟨hp, .inr (List.mem_append.1 hp)⟩) (hb.frame (· ∈ pa ++ pv)), fun _ => ?_⟩
  have t := trodAll_append (hargs (fun _ => true) (fun _ _ => rfl)) (hres 0 (fun _ => true) true)
  refine ⟨hok, _, _, ([] ++ pa) ++ pv, ⟨[] ++ pa, pv, t, hvars (fun _ => true) (fun _ _ => rfl), rfl, fun b off hp => ?_, hn⟩, fun p hp _ => hp⟩
  have h6 : b < W.heap.size := lt (.cell b off) hp
  rw [hb.frozen (p := ⟨b, off, none⟩) h6]
  exact hz b off hp
end Go.Ev
