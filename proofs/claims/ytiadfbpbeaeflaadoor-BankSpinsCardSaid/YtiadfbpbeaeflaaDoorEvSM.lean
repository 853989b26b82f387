/- Maps: what the evaluator computes is what the model does. -/
import Derived.Test.YtiadfbpbeaeflaaDoorEvS7
import Derived.Test.YtiadfbpbeaeflaaDoorEvSK
namespace Go.Ev
open Go.RowKit (Below)
def descOk : MK → TypeDesc → Prop
  | .int, .int _ => True
  | .str, .string => True
  | .bool, .bool => True
  | _, _ => False
theorem mkOf_ok {P : Program} {t : TypeId} {m : MK} (h : mkOf P t = some m) : ∃ d, P.underlying t = some d ∧ descOk m d := by
  unfold mkOf at h
  split at h
  · rename_i hd; cases h; exact ⟨_, hd, trivial⟩
  · rename_i hd; cases h; exact ⟨_, hd, trivial⟩
  · rename_i hd; cases h; exact ⟨_, hd, trivial⟩
  · cases h
theorem mapT_ok {P : Program} {t : TypeId} {m : MK} {z : EV} (h : mapT P t = some (m, z)) : ∃ k e, P.underlying t = some (.map k e) ∧ (∃ d, P.underlying k = some d ∧ descOk m d) ∧ ∃ i zv, P.info? e = some i ∧ i.zero = some zv ∧ ∀ φ, VR φ z zv := by
  unfold mapT at h
  split at h
  · rename_i k e ht
    split at h
    · rename_i m' z' h1 h2
      cases h
      refine ⟨k, e, ht, mkOf_ok h1, ?_⟩
      cases hi : P.info? e with
      | none => rw [hi] at h2; simp at h2
      | some i =>
        rw [hi] at h2
        cases hz : i.zero with
        | none => rw [Option.bind_some, hz] at h2; simp at h2
        | some zv =>
          rw [Option.bind_some, hz, Option.bind_some] at h2
          exact ⟨i, zv, rfl, hz, fun φ => ofValue_ok h2⟩
    · cases h
  · cases h
theorem sameK_ok {m : MK} {x y : EV} {K : Bool → Ans} (h : sameK m x y K = true) : ∃ b, K b = true ∧ ∀ {φ : Phi} {kx ky : Value} {d : TypeDesc}, descOk m d → VR φ x kx → VR φ y ky →
    Instr.sameNow d kx ky = some b ∧ (b = true → Instr.sameBits 10000 ky kx = true) := by
  cases m with
  | int =>
    obtain ⟨k, a, rfl, h⟩ := asInt_ok (show asInt x _ = true from h)
    obtain ⟨k', b, rfl, h⟩ := asInt_ok h
    obtain ⟨hk, hK⟩ := guard_ok h
    have hk : k = k' := by simpa [kindEq] using hk
    subst hk
    refine ⟨_, hK, fun {φ kx ky d} hd h1 h2 => ?_⟩
    cases h1; cases h2
    cases d <;> first | exact hd.elim | skip
    refine ⟨?_, fun hb => ?_⟩
    · simp only [Instr.sameNow, if_true, eqI_eq]; rfl
    · rw [eqI_eq] at hb
      have : a = b := by simpa using hb
      subst this
      simp [Instr.sameBits]
  | str =>
    obtain ⟨a, rfl, h⟩ := asStr_ok (show asStr x _ = true from h)
    obtain ⟨b, rfl, h⟩ := asStr_ok h
    refine ⟨_, h, fun {φ kx ky d} hd h1 h2 => ?_⟩
    cases h1; cases h2
    cases d <;> first | exact hd.elim | skip
    have e1 : (a.toList == b.toList) = (a == b) := (beq_toListBytes _ _).symm
    refine ⟨?_, fun hb => ?_⟩
    · simp only [Instr.sameNow, e1]
    · have e2 : (b.toList == a.toList) = (b == a) := (beq_toListBytes _ _).symm
      have : a.toList = b.toList := by simpa using hb
      show (b == a) = true
      rw [← e2, this]; simp
  | bool =>
    obtain ⟨a, rfl, h⟩ := asBool_ok (show asBool x _ = true from h)
    obtain ⟨b, rfl, h⟩ := asBool_ok h
    refine ⟨_, h, fun {φ kx ky d} hd h1 h2 => ?_⟩
    cases h1; cases h2
    cases d <;> first | exact hd.elim | skip
    cases a <;> cases b <;> exact ⟨rfl, fun hb => by first | rfl | cases hb⟩
theorem findK_ok {m : MK} {x : EV} {kn : Ans} {ks : EV → Ans} : ∀ {l : List (EV × EV)}, findK m x l kn ks = true →
    (kn = true ∧ ∀ {φ : Phi} {kx : Value} {d : TypeDesc} {es : List MapEntry} (i : Nat), descOk m d → VR φ x kx → MRs φ l es → Instr.findNow d kx es i = some none) ∨
    ∃ v, ks v = true ∧ ∀ {φ : Phi} {kx : Value} {d : TypeDesc} {es : List MapEntry} (i : Nat), descOk m d → VR φ x kx → MRs φ l es → ∃ j v', Instr.findNow d kx es i = some (some (j, v')) ∧ VR φ v v'
  | [], h => .inl ⟨h, fun {φ kx d es} i _ _ hm => by cases es with | nil => rfl | cons _ _ => exact hm.elim⟩
  | p :: l, h => by
    obtain ⟨b, h, hs⟩ := sameK_ok (show sameK m x p.1 (fun b => bR b (ks p.2) (findK m x l kn ks)) = true from h)
    cases b with
    | true =>
      refine .inr ⟨p.2, h, fun {φ kx d es} i hd hx hm => ?_⟩
      cases es with
      | nil => exact hm.elim
      | cons e es =>
        obtain ⟨g1, g2, _⟩ := hm
        exact ⟨i, e.val, by simp [Instr.findNow, (hs hd hx g1).1], g2⟩
    | false =>
      rcases findK_ok (show findK m x l kn ks = true from h) with ⟨h1, h2⟩ | ⟨v, h1, h2⟩
      · refine .inl ⟨h1, fun {φ kx d es} i hd hx hm => ?_⟩
        cases es with
        | nil => exact hm.elim
        | cons e es =>
          obtain ⟨g1, _, g3⟩ := hm
          simp [Instr.findNow, (hs hd hx g1).1, h2 (i + 1) hd hx g3]
      · refine .inr ⟨v, h1, fun {φ kx d es} i hd hx hm => ?_⟩
        cases es with
        | nil => exact hm.elim
        | cons e es =>
          obtain ⟨g1, _, g3⟩ := hm
          obtain ⟨j, v', e1, e2⟩ := h2 (i + 1) hd hx g3
          exact ⟨j, v', by simp [Instr.findNow, (hs hd hx g1).1, e1], e2⟩
theorem putK_ok {m : MK} {x v : EV} : ∀ {l : List (EV × EV)} {K : List (EV × EV) → Ans}, putK m x v l K = true → ∃ l', K l' = true ∧
    ∀ {φ : Phi} {kx vx : Value} {d : TypeDesc} {es : List MapEntry} (i : Nat), descOk m d → VR φ x kx → VR φ v vx → MRs φ l es →
      (Instr.findNow d kx es i = some none ∧ ∀ c, MRs φ l' (es ++ [{ key := kx, val := vx, born := c }])) ∨
      (∃ j e, Instr.findNow d kx es i = some (some (i + j, e.val)) ∧ es[j]? = some e ∧ Instr.sameBits 10000 e.key kx = true ∧ MRs φ l' (es.set j { e with key := kx, val := vx }))
  | [], K, h => ⟨[(x, v)], h, fun {φ kx vx d es} i _ hx hv hm => by
      cases es with
      | nil => exact .inl ⟨rfl, fun c => ⟨hx, hv, trivial⟩⟩
      | cons _ _ => exact hm.elim⟩
  | p :: l, K, h => by
    obtain ⟨b, h, hs⟩ := sameK_ok (show sameK m x p.1 (fun b => bR b (K ((x, v) :: l)) (putK m x v l fun r => K (p :: r))) = true from h)
    cases b with
    | true =>
      refine ⟨_, h, fun {φ kx vx d es} i hd hx hv hm => ?_⟩
      cases es with
      | nil => exact hm.elim
      | cons e es =>
        obtain ⟨g1, _, g3⟩ := hm
        obtain ⟨s1, s2⟩ := hs hd hx g1
        exact .inr ⟨0, e, by simp [Instr.findNow, s1], rfl, s2 rfl, hx, hv, g3⟩
    | false =>
      obtain ⟨l', h1, h2⟩ := putK_ok (show putK m x v l (fun r => K (p :: r)) = true from h)
      refine ⟨_, h1, fun {φ kx vx d es} i hd hx hv hm => ?_⟩
      cases es with
      | nil => exact hm.elim
      | cons e es =>
        obtain ⟨g1, g2, g3⟩ := hm
        have s1 := (hs hd hx g1).1
        rcases h2 (i + 1) hd hx hv g3 with ⟨e1, e2⟩ | ⟨j, e0, e1, e2, e3, e4⟩
        · exact .inl ⟨by simp [Instr.findNow, s1, e1], fun c => ⟨g1, g2, e2 c⟩⟩
        · exact .inr ⟨j + 1, e0, by simp [Instr.findNow, s1, e1]; omega, by simpa using e2, e3, ⟨g1, g2, e4⟩⟩
section
variable {P : Program} {C : CallK}
theorem run_getObj_map {w : World} {r : Nat} {es : Array MapEntry} {c : Nat} (h : w.heap[r]? = some (.map es c)) : (getObj r).run P w = .ok (.map es c) w := by simp [getObj, Sem.run, h]
theorem run_setObj_map {w : World} {r : Nat} {es : Array MapEntry} {c : Nat} (h : w.heap[r]? = some (.map es c)) (o : Obj) : (setObj r o).run P w = .ok () (w.putObj r o) := by
  simp [setObj, Sem.run, h, World.putObj]
theorem run_checkKey {w : World} {e : Bool} {t : TypeId} {v : Value} {m : MK} {d : TypeDesc} (ht : P.underlying t = some d) (hd : descOk m d) : (Instr.checkKey e 10000 t v).run P w = .ok () w := by
  show (Instr.checkKey e (9999 + 1) t v).run P w = _
  unfold Instr.checkKey
  simp only [Sem.run_bind, run_underlying' ht, Result.andThen_ok]
  cases m <;> cases d <;> first | exact hd.elim | skip
  all_goals (cases v <;> rfl)
theorem makeMap_sound (t : TypeId) (r : Option Operand) (pr : Option Opd) (hr : optO r = some pr) (ht : isMapT P t = true) : OpSound P C (.makeMap t r) (xMakeMap pr) := fun T s K h => by
  have key : K (.map (false :: s.c)) ⟨inc s.c, s.L, s.R, .mp s.c [] :: s.J⟩ = true ∧ ∀ p, pr = some p → ∃ k n, p.run T = .int k n := by
    cases pr with
    | none => exact ⟨h, fun p hp => by cases hp⟩
    | some p =>
      obtain ⟨k, n, hx, h⟩ := asInt_ok (show asInt (p.run T) _ = true from h)
      exact ⟨h, fun p' hp' => by cases hp'; exact ⟨k, n, hx⟩⟩
  refine ⟨_, _, key.1, by show val s.c ≤ val (inc s.c); rw [val_inc]; omega, fun {w0 φ w ρ} o ho hf hw hρ => ?_⟩
  obtain ⟨dst, op, ty, pos, after, guard⟩ := o; simp only at ho; subst ho
  have hfree : φ s.c = none := hf.2 s.c (Nat.le_refl _) (by show val s.c < val (inc s.c); rw [val_inc]; omega)
  have hw' := hw.push (o := .map #[] 0) (e := .mp s.c []) hfree rfl ⟨_, (0, 0), #[], 0, by simp [Phi.put], hw.below.size, World.alloc_heap_new _ _, trivial⟩
  obtain ⟨kt, et, hu⟩ : ∃ k e, P.underlying t = some (.map k e) := by
    unfold isMapT at ht
    split at ht
    · exact ⟨_, _, ‹_›⟩
    · cases ht
  have hrun : (execOp ρ { dst := dst, op := .makeMap t r, type := ty, pos := pos, after := after, guard := guard }).run P w = .ok (.value (.map (some w.heap.size))) (w.alloc (.map #[] 0)) := by
    cases r with
    | none => simp only [execOp, Instr.makeMap, Option.map_none, Sem.run_bind, run_newObj_alloc, Result.andThen_ok, Sem.run_pure]
    | some x =>
      have hx : ∃ p, cOpd x = some p ∧ pr = some p := by
        unfold optO at hr
        split at hr
        · rename_i e; cases e
        · rename_i e; cases e
          split at hr
          · cases hr; exact ⟨_, ‹_›, rfl⟩
          · cases hr
      obtain ⟨p, hp, rfl⟩ := hx
      obtain ⟨k, n, hv⟩ := key.2 p rfl
      have h5 := hρ x (by simp [Op.operands]) p hp
      rw [hv] at h5
      generalize hvx : ρ x = vx at h5
      cases h5
      simp only [execOp, Instr.makeMap, Option.map_some, hvx, Sem.run_bind, run_underlying' hu, Result.andThen_ok, Go.asInt, Go.asIntOf, Sem.run_pure, run_newObj_alloc]
  rw [hrun]
  exact ⟨_, Step.put _ hfree, .mapv (q := (0, 0)) (by simp [Phi.put]), hw'⟩
theorem okK_ok {φ : Phi} {ok : Bool} {v : EV} {v' : Value} {b : Bool} (h : VR φ v v') : VR φ (okK ok v b) (if ok then .tuple #[v', .bool b] else v') := by
  cases ok with
  | false => exact h
  | true => exact VR.tuple (cs' := [v', .bool b]) (.cons h (.cons (.bool b) .nil))
theorem lookup_sound (t : TypeId) (x i : Operand) (ok : Bool) (m : MK) (z : EV) (p q : Opd) (hp : cOpd x = some p) (hq : cOpd i = some q) (ht : mapT P t = some (m, z)) : OpSound P C (.lookup t x i ok) (xLookup m z ok p q) := fun T s K h => by
  obtain ⟨kt, et, hu, ⟨d, hdk, hd⟩, inf, zv, hi, hz, hzv⟩ := mapT_ok ht
  have run : ∀ {w : World} {ρ : Operand → Value} {es : Array MapEntry} (r : Option (Nat × Value)) (o : Oper), o.op = .lookup t x i ok → (ρ x = .map none ∧ es = #[] ∨ ∃ rb c, ρ x = .map (some rb) ∧ w.heap[rb]? = some (.map es c)) →
      Instr.findNow d (ρ i) es.toList 0 = some r → (execOp ρ o).run P w = .ok (.value (match r with | some (_, v) => if ok then .tuple #[v, .bool true] else v | none => if ok then .tuple #[zv, .bool false] else zv)) w := by
    intro w ρ es r o ho hx hfn
    obtain ⟨dst, op, ty, pos, after, guard⟩ := o; simp only at ho; subst ho
    rcases hx with ⟨hx, rfl⟩ | ⟨rb, c, hx, hh⟩
    · simp only [execOp, Instr.lookup, hx, Sem.run_bind, run_underlying' hu, Result.andThen_ok, Sem.run_pure, run_checkKey hdk hd, Instr.findKey, run_underlying' hdk, hfn]
      cases r with
      | none => simp only [Sem.run_bind, run_zeroValue hi hz, Result.andThen_ok, Sem.run_pure]
      | some r => obtain ⟨j, v⟩ := r; simp only [Sem.run_pure, Sem.run_bind, Result.andThen_ok]
    · simp only [execOp, Instr.lookup, hx, Sem.run_bind, run_underlying' hu, Result.andThen_ok, run_getObj_map hh, Sem.run_pure, run_checkKey hdk hd, Instr.findKey, run_underlying' hdk, hfn]
      cases r with
      | none => simp only [Sem.run_bind, run_zeroValue hi hz, Result.andThen_ok, Sem.run_pure]
      | some r => obtain ⟨j, v⟩ := r; simp only [Sem.run_pure, Sem.run_bind, Result.andThen_ok]
  rcases asM_ok (show asM (p.run T) _ _ = true from h) with ⟨hx, h⟩ | ⟨k, hx, h⟩
  · refine still h fun w0 φ w ρ o ho _ hρ => ?_
    have h5 := hρ x (by simp [Op.operands]) p hp
    rw [hx] at h5
    generalize hvx : ρ x = vx at h5
    cases h5
    exact ⟨_, run (es := #[]) none o ho (.inl ⟨hvx, rfl⟩) rfl, okK_ok (hzv φ)⟩
  · obtain ⟨l, hin, h⟩ := findM_ok h
    have at' : ∀ {w0 : World} {φ : Phi} {w : World} {ρ : Operand → Value}, WR w0 φ s w → (∀ x' ∈ (Op.lookup t x i ok).operands, ∀ p, cOpd x' = some p → VR φ (p.run T) (ρ x')) →
        ∃ rb es c, ρ x = .map (some rb) ∧ w.heap[rb]? = some (.map es c) ∧ MRs φ l es.toList ∧ VR φ (q.run T) (ρ i) := by
      intro w0 φ w ρ hw hρ
      have h5 := hρ x (by simp [Op.operands]) p hp
      rw [hx] at h5
      generalize hvx : ρ x = vx at h5
      cases h5 with
      | mapv hk =>
        obtain ⟨rb, q', es, c, i1, i2, i3, i4⟩ := hw.loops.all _ hin
        rw [hk] at i1; cases i1
        exact ⟨_, es, c, rfl, i3, i4, hρ i (by simp [Op.operands]) q hq⟩
    rcases findK_ok h with ⟨h, hn⟩ | ⟨v, h, hs⟩
    · refine still h fun w0 φ w ρ o ho hw hρ => ?_
      obtain ⟨rb, es, c, e1, e2, e3, e4⟩ := at' hw hρ
      exact ⟨_, run none o ho (.inr ⟨rb, c, e1, e2⟩) (hn 0 hd e4 e3), okK_ok (hzv φ)⟩
    · refine still h fun w0 φ w ρ o ho hw hρ => ?_
      obtain ⟨rb, es, c, e1, e2, e3, e4⟩ := at' hw hρ
      obtain ⟨j, v', e5, e6⟩ := hs 0 hd e4 e3
      exact ⟨_, run (some (j, v')) o ho (.inr ⟨rb, c, e1, e2⟩) e5, okK_ok e6⟩
theorem update_sound (op : Op) (t : TypeId) (x i v : Operand) (hop : op = .mapUpdate t x i v ∨ op = .insert t x i v) (m : MK) (z : EV) (p q r : Opd) (hp : cOpd x = some p) (hq : cOpd i = some q) (hr : cOpd v = some r) (ht : mapT P t = some (m, z)) :
    OpSound P C op (xUpdate m p q r) := fun T s K h => by
  obtain ⟨kt, et, hu, ⟨d, hdk, hd⟩, _⟩ := mapT_ok ht
  rcases asM_ok (show asM (p.run T) _ _ = true from h) with ⟨_, h⟩ | ⟨k, hx, h⟩
  · exact absurd h (by decide)
  obtain ⟨l, hin, h⟩ := findM_ok h
  obtain ⟨l', h, hs⟩ := putK_ok h
  refine ⟨_, _, h, Nat.le_refl _, fun {w0 φ w ρ} o ho hf hw hρ => ?_⟩
  have hmem : x ∈ op.operands ∧ i ∈ op.operands ∧ v ∈ op.operands := by
    rcases hop with rfl | rfl <;> simp [Op.operands]
  have h5 := hρ x hmem.1 p hp
  have h6 := hρ i hmem.2.1 q hq
  have h7 := hρ v hmem.2.2 r hr
  rw [hx] at h5
  generalize hvx : ρ x = vx at h5
  cases h5 with
  | mapv hk =>
    obtain ⟨rb, q', es, c, i1, i2, i3, i4⟩ := hw.loops.all _ hin
    have hrb := hk.symm.trans i1
    injection hrb with hrb
    injection hrb with hrb hq'
    subst hrb
    clear i1 hq'
    rename_i rb qb
    have hex : (execOp ρ o).run P w = ((Instr.mapUpdate t (ρ x) (ρ i) (ρ v)).run P w).andThen fun _ w' => .ok .skip w' := by
      obtain ⟨dst, op', ty, pos, after, guard⟩ := o; simp only at ho; subst ho
      rcases hop with rfl | rfl <;> simp only [execOp, Sem.run_bind, Sem.run_pure]
    rw [hex]
    rcases hs 0 hd h6 h7 i4 with ⟨e1, e2⟩ | ⟨j, e, e1, e2, e3, e4⟩
    · have : (Instr.mapUpdate t (ρ x) (ρ i) (ρ v)).run P w = .ok () (w.putObj rb (.map (es.push { key := ρ i, val := ρ v, born := c }) (c + 1))) := by
        simp only [Instr.mapUpdate, hvx, Sem.run_bind, run_underlying' hu, Result.andThen_ok, run_getObj_map i3, run_checkKey hdk hd, Instr.findKey, run_underlying' hdk, e1, Sem.run_pure, run_setObj_map i3]
      rw [this]
      refine ⟨φ, Step.refl _ _, VR.tuple (cs' := []) .nil, hw.setE i2 hk i3 (by intro _ _ _ e; cases e) rfl ?_ ⟨_, hin, rfl⟩⟩
      exact ⟨rb, _, _, _, hk, i2, World.putObj_heap_same (Array.getElem?_eq_some_iff.1 i3).1, by rw [Array.toList_push]; exact e2 c⟩
    · rw [Nat.zero_add] at e1
      have hj : es[j]? = some e := by rw [← Array.getElem?_toList]; exact e2
      have hjlt := (Array.getElem?_eq_some_iff.1 hj).1
      have hmod : es.modify j (fun e => { e with key := ρ i, val := ρ v }) = es.setIfInBounds j { e with key := ρ i, val := ρ v } := by
        apply Array.ext_getElem?
        intro a
        rw [Array.getElem?_modify, Array.getElem?_setIfInBounds]
        by_cases ha : j = a
        · subst ha
          rw [if_pos rfl, if_pos rfl, if_pos hjlt, hj]; rfl
        · rw [if_neg ha, if_neg ha]
      have : (Instr.mapUpdate t (ρ x) (ρ i) (ρ v)).run P w = .ok () (w.putObj rb (.map (es.setIfInBounds j { e with key := ρ i, val := ρ v }) c)) := by
        simp only [Instr.mapUpdate, hvx, Sem.run_bind, run_underlying' hu, Result.andThen_ok, run_getObj_map i3, run_checkKey hdk hd, Instr.findKey, run_underlying' hdk, e1, Sem.run_pure, hj, Option.map_some, Option.getD_some, Instr.keyThatStays, e3, if_true, hmod, run_setObj_map i3]
      rw [this]
      refine ⟨φ, Step.refl _ _, VR.tuple (cs' := []) .nil, hw.setE i2 hk i3 (by intro _ _ _ e; cases e) rfl ?_ ⟨_, hin, rfl⟩⟩
      exact ⟨rb, _, _, _, hk, i2, World.putObj_heap_same (Array.getElem?_eq_some_iff.1 i3).1, by rw [Array.toList_setIfInBounds]; exact e4⟩
theorem lenM_sound (c : Call) (p : Opd) (t kt et : TypeId) (hc : c.callee = .builtin .len) (ha : cOpds c.args.toList = some [p]) (ht : c.argTypes[0]? = some t) (hu : P.underlying t = some (.map kt et)) : OpSound P C (.call c) (xLenM p) := fun T s K h => by
  have fin : ∀ {w : World} {ρ : Operand → Value} {o : Oper} {a' : Value} {n : Nat}, o.op = .call c → c.args.map ρ = #[a'] → (Builtin.lenOf a').run P w = .ok n w → True := fun _ _ _ => trivial
  rcases asM_ok (show asM (p.run T) _ _ = true from h) with ⟨hx, h⟩ | ⟨k, hx, h⟩
  · refine still h fun w0 φ w ρ o' ho _ hρ => ?_
    obtain ⟨cs, hr⟩ := run_builtin (P := P) hc (ρ := ρ) ho (w := w)
    obtain ⟨a', e, h2⟩ := one_arg (call_args ha hρ)
    have h2 : VR φ (p.run T) a' := h2
    rw [hx] at h2
    cases h2
    refine ⟨_, ?_, .int .i64 _⟩
    rw [hr, e]
    simp [builtin, Builtin.len_, ht, run_underlying' hu, goInt]
  · obtain ⟨l, hin, h⟩ := findM_ok h
    rw [fN_eq] at h
    refine still h fun w0 φ w ρ o' ho hw hρ => ?_
    obtain ⟨cs, hr⟩ := run_builtin (P := P) hc (ρ := ρ) ho (w := w)
    obtain ⟨a', e, h2⟩ := one_arg (call_args ha hρ)
    have h2 : VR φ (p.run T) a' := h2
    rw [hx] at h2
    cases h2 with
    | mapv hk =>
      obtain ⟨rb, q', es, c', i1, i2, i3, i4⟩ := hw.loops.all _ hin
      rw [hk] at i1; cases i1
      have hlen : ∀ {l : List (EV × EV)} {es : List MapEntry}, MRs φ l es → l.length = es.length := by
        intro l
        induction l with
        | nil => intro es h; cases es with | nil => rfl | cons _ _ => exact h.elim
        | cons x l ih => intro es h; cases es with | nil => exact h.elim | cons _ _ => simp [ih h.2.2]
      have := hlen i4
      refine ⟨_, ?_, .int .i64 _⟩
      rw [hr, e]
      simp [builtin, Builtin.len_, ht, run_underlying' hu, run_getObj_map i3, goInt, lenN_eq, this]
end
end Go.Ev
