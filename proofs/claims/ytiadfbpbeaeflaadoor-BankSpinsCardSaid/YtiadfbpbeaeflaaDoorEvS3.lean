/- The operations: what the evaluator computes is what the model does. -/
import Derived.Test.YtiadfbpbeaeflaaDoorEvSL
namespace Go.Ev
open Go.RowKit (Below)

/-- a fence that lets everything in -/
abbrev Wd (r : Option Nat) : Fence := { fn := fun _ => True, depth := none, alive := false, round := r }
def NextRun (P : Program) (r : Result Next) (Q : Value → World → Prop) : Prop :=
  match r with
  | .ok (.value v) w' => Q v w'
  | .ok .skip w' => Q undef w'
  | .ok (.enter f args) w' => CallsIn (Wd none) 0 P f args w' fun e w'' => ∃ v, e = .returned v ∧ Q v w''
  | .ok (.round l f tmps assign body) w' => RoundIn (Wd none) 0 P l f tmps assign body w' fun e w'' => ∃ v, e = .returned v ∧ Q v w''
  | _ => False
theorem callsIn_mono {P : Program} {F : Fence} {n : Nat} {f : FuncId} {args : Array Value} {w : World} {R R' : Ending → World → Prop} (h : CallsIn F n P f args w R) (hr : ∀ e w', R e w' → R' e w') : CallsIn F n P f args w R' :=
  ⟨h.1, fun cs hroom => let ⟨e, w', fr, r, s⟩ := h.2 cs hroom; ⟨e, w', fr, hr _ _ r, s⟩⟩
theorem NextRun.mono {P : Program} {r : Result Next} {Q Q' : Value → World → Prop} (h : NextRun P r Q) (hq : ∀ v w, Q v w → Q' v w) : NextRun P r Q' := by
  unfold NextRun at *
  split
  · exact hq _ _ h
  · exact hq _ _ h
  · exact callsIn_mono h fun e w ⟨v, h1, h2⟩ => ⟨v, h1, hq _ _ h2⟩
  · exact RoundIn.mono h fun e w ⟨v, h1, h2⟩ => ⟨v, h1, hq _ _ h2⟩
  · simp at h

def Snd (s s' : St) (φ : Phi) (w0 : World) (v : EV) (v' : Value) (w' : World) : Prop := ∃ φ', Step φ φ' s.c s'.c ∧ VR φ' v v' ∧ WR w0 φ' s' w'
def OpSound (P : Program) (C : CallK) (op : Op) (run : OpK) : Prop :=
  ∀ (T : Tr EV) (s : St) (K : EV → St → Ans), run C T s K = true → ∃ v s', K v s' = true ∧ val s.c ≤ val s'.c ∧
    ∀ {w0 : World} {φ : Phi} {w : World} {ρ : Operand → Value} (o : Oper), o.op = op → Fresh φ s.c s'.c → WR w0 φ s w →
      (∀ x ∈ op.operands, ∀ p, cOpd x = some p → VR φ (p.run T) (ρ x)) → NextRun P ((execOp ρ o).run P w) (Snd s s' φ w0 v)

theorem bad_sound {P : Program} {C : CallK} {op : Op} : OpSound P C op xBad := fun _ _ _ h => absurd (show false = true from h) (by decide)
/-- an operation that only reads -/
theorem still {P : Program} {s : St} {K : EV → St → Ans} {v : EV} {op : Op} {T : Tr EV} (hK : K v s = true)
    (h : ∀ (w0 : World) (φ : Phi) (w : World) (ρ : Operand → Value) (o : Oper), o.op = op → WR w0 φ s w →
      (∀ x ∈ op.operands, ∀ p, cOpd x = some p → VR φ (p.run T) (ρ x)) → ∃ v', (execOp ρ o).run P w = .ok (.value v') w ∧ VR φ v v') :
    ∃ v s', K v s' = true ∧ val s.c ≤ val s'.c ∧
    ∀ {w0 : World} {φ : Phi} {w : World} {ρ : Operand → Value} (o : Oper), o.op = op → Fresh φ s.c s'.c → WR w0 φ s w →
      (∀ x ∈ op.operands, ∀ p, cOpd x = some p → VR φ (p.run T) (ρ x)) → NextRun P ((execOp ρ o).run P w) (Snd s s' φ w0 v) :=
  ⟨v, s, hK, Nat.le_refl _, fun o ho _ hw hρ => by
    obtain ⟨v', h1, h2⟩ := h _ _ _ _ o ho hw hρ
    rw [h1]; exact ⟨_, Step.refl _ _, h2, hw⟩⟩
/-- an operation that makes a block -/
theorem made {P : Program} {s : St} {cs : List EV} {K : EV → St → Ans} {f : List Bool → EV} {op : Op} {T : Tr EV} (hK : newB s cs (fun b s => K (f b) s) = true)
    (h : ∀ (w0 : World) (φ : Phi) (w : World) (ρ : Operand → Value) (o : Oper), o.op = op → WR w0 φ s w →
      (∀ x ∈ op.operands, ∀ p, cOpd x = some p → VR φ (p.run T) (ρ x)) → ∃ v' cs' ex ty, (execOp ρ o).run P w = .ok (.value v') (w.alloc (.cells (cs' ++ ex).toArray ty)) ∧ VRs φ cs cs' ∧
        ∀ φ' : Phi, φ' s.c = some (w.heap.size, 0, (cs' ++ ex).length) → VR φ' (f s.c) v') :
    ∃ v s', K v s' = true ∧ val s.c ≤ val s'.c ∧
    ∀ {w0 : World} {φ : Phi} {w : World} {ρ : Operand → Value} (o : Oper), o.op = op → Fresh φ s.c s'.c → WR w0 φ s w →
      (∀ x ∈ op.operands, ∀ p, cOpd x = some p → VR φ (p.run T) (ρ x)) → NextRun P ((execOp ρ o).run P w) (Snd s s' φ w0 v) := by
  obtain ⟨s', h1, h2, h3⟩ := newB_ok hK
  refine ⟨_, s', h1, by rw [h2, val_inc]; omega, fun {w0 φ w ρ} o ho hf hw hρ => ?_⟩
  obtain ⟨v', cs', ex, ty, e1, e2, e3⟩ := h w0 φ w ρ o ho hw hρ
  have hfree : φ s.c = none := hf.2 s.c (Nat.le_refl _) (by rw [h2, val_inc]; omega)
  obtain ⟨g1, g2, g3⟩ := h3 ty ex hw hfree e2
  rw [e1]
  exact ⟨_, g2, e3 _ g1, g3⟩

theorem run_sizeOf {P : Program} {t : TypeId} {n : Nat} {w : World} (h : sizeP P t = some n) : (sizeOf t).run P w = .ok n w := by
  unfold sizeP at h
  split at h
  · rename_i i hi; cases h; simp [sizeOf, typeInfo, hi]
  · cases h
theorem run_underlying' {P : Program} {t : TypeId} {d : TypeDesc} {w : World} (h : P.underlying t = some d) : (underlying t).run P w = .ok d w := by
  simp [underlying, h]
theorem run_isAgg' {P : Program} {t : TypeId} {b : Bool} {w : World} (h : isAggT P t = some b) : (isAgg t).run P w = .ok b w := by
  unfold isAggT at h
  unfold isAgg underlying
  split at h <;> rename_i hd <;> simp at h <;> subst h <;> simp [hd]
theorem ofCell_notAny {v : Value} {e : EV} (h : ofCell v = some e) : notAny e = true := by
  unfold ofCell at h
  split at h <;> simp at h <;> subst h <;> rfl
theorem ofValue_notAny {v : Value} {e : EV} (h : ofValue v = some e) : notAny e = true := by
  unfold ofValue at h
  split at h
  · split at h
    · simp at h; subst h; rfl
    · simp at h
  · split at h
    · simp at h; subst h; rfl
    · simp at h
  · exact ofCell_notAny h
theorem zeroT_ok {P : Program} {t : TypeId} {z : List EV} (h : zeroT P t = some z) : ∃ i zv, P.info? t = some i ∧ i.zero = some zv ∧ ∀ φ, VRs φ z zv.cells.toList := by
  unfold zeroT at h
  split at h
  · rename_i v hv
    split at h
    · rename_i e he
      cases h
      cases hi : P.info? t with
      | none => rw [hi] at hv; simp at hv
      | some i =>
        rw [hi] at hv
        exact ⟨i, v, rfl, by simpa using hv, fun φ => (ofValue_ok (φ := φ) he).cells (ofValue_notAny he)⟩
    · cases h
  · cases h
theorem run_zeroValue {P : Program} {t : TypeId} {i : TypeInfo} {zv : Value} {w : World} (h1 : P.info? t = some i) (h2 : i.zero = some zv) : (zeroValue t).run P w = .ok zv w := by
  simp [zeroValue, typeInfo, h1, h2]

section
variable {P : Program} {C : CallK}
theorem op1_sound {op : Op} {x : Operand} {f : Opd → OpK} (h : ∀ p, cOpd x = some p → OpSound P C op (f p)) : OpSound P C op (op1 x f).run := by
  unfold op1
  split
  · rename_i p hp; exact h p hp
  · exact bad_sound
theorem op2_sound {op : Op} {x y : Operand} {f : Opd → Opd → OpK} (h : ∀ p q, cOpd x = some p → cOpd y = some q → OpSound P C op (f p q)) : OpSound P C op (op2 x y f).run := by
  unfold op2
  split
  · rename_i p q hp hq; exact h p q hp hq
  · exact bad_sound

theorem move_sound (x : Operand) (p : Opd) (hp : cOpd x = some p) : OpSound P C (.move x) (xMove p) := fun T s K h =>
  still (v := p.run T) h fun w0 φ w ρ o ho _ hρ => by
    obtain ⟨dst, op, ty, pos, after, guard⟩ := o; simp only at ho; subst ho
    exact ⟨_, rfl, hρ x (by simp [Op.operands]) p hp⟩
theorem assign_sound (x : Operand) (p : Opd) (hp : cOpd x = some p) : OpSound P C (.assign x) (xMove p) := fun T s K h =>
  still (v := p.run T) h fun w0 φ w ρ o ho _ hρ => by
    obtain ⟨dst, op, ty, pos, after, guard⟩ := o; simp only at ho; subst ho
    exact ⟨_, rfl, hρ x (by simp [Op.operands]) p hp⟩
theorem pick_sound (c a b : Operand) (pc pa pb : Opd) (hc : cOpd c = some pc) (ha : cOpd a = some pa) (hb : cOpd b = some pb) : OpSound P C (.pick c a b) (xPick pc pa pb) := fun T s K h => by
  obtain ⟨t, ht, hk⟩ := asBool_ok (show asBool (pc.run T) (fun t => bR t (K (pa.run T) s) (K (pb.run T) s)) = true from h)
  have hk : K (bR t (pa.run T) (pb.run T)) s = true := by cases t <;> exact hk
  refine still (v := bR t (pa.run T) (pb.run T)) hk fun w0 φ w ρ o ho _ hρ => ?_
  obtain ⟨dst, op, ty, pos, after, guard⟩ := o; simp only at ho; subst ho
  have h1 := hρ c (by simp [Op.operands]) pc hc
  have h2 := hρ a (by simp [Op.operands]) pa ha
  have h3 := hρ b (by simp [Op.operands]) pb hb
  rw [ht] at h1
  generalize hvc : ρ c = vc at h1
  cases h1
  cases t
  · exact ⟨ρ b, by simp [execOp, Go.asBool, hvc], h3⟩
  · exact ⟨ρ a, by simp [execOp, Go.asBool, hvc], h2⟩
theorem run_newVar {t : TypeId} {v : Value} {w : World} : (newVar t v).run P w = .ok ⟨w.heap.size, 0, none⟩ (w.alloc (.cells v.cells.toList.toArray t)) := by
  simp [newVar, newRow]
theorem alloc_sound (t : TypeId) (z : List EV) (hz : zeroT P t = some z) : OpSound P C (.alloc t) (xNew z) := fun T s K h => by
  refine made (f := fun b => .ptr b 0) h fun w0 φ w ρ o ho _ hρ => ?_
  obtain ⟨dst, op, ty, pos, after, guard⟩ := o; simp only at ho; subst ho
  obtain ⟨i, zv, h1, h2, h3⟩ := zeroT_ok hz
  refine ⟨_, zv.cells.toList, [], t, ?_, h3 φ, fun φ' hφ => .ptr hφ⟩
  simp only [List.append_nil, execOp, Instr.alloc, Sem.run_bind, run_zeroValue h1 h2, Result.andThen_ok, run_newVar, Sem.run_pure]
theorem box_sound (t : TypeId) (x : Operand) (p : Opd) (hp : cOpd x = some p) : OpSound P C (.box t x) (xBox p) := fun T s K h => by
  obtain ⟨hna, h⟩ := guard_ok h
  refine made (f := fun b => .ptr b 0) h fun w0 φ w ρ o ho _ hρ => ?_
  obtain ⟨dst, op, ty, pos, after, guard⟩ := o; simp only at ho; subst ho
  refine ⟨_, (ρ x).cells.toList, [], t, ?_, (hρ x (by simp [Op.operands]) p hp).cells hna, fun φ' hφ => .ptr hφ⟩
  simp only [List.append_nil, execOp, Instr.box, Sem.run_bind, Result.andThen_ok, run_newVar, Sem.run_pure]
theorem sureAddr_ptr {w : World} {a : Addr} : (Instr.sureAddr (.pointer (some a))).run P w = .ok a w := rfl
theorem load1_sound (t : TypeId) (x : Operand) (p : Opd) (hp : cOpd x = some p) (ht : isAggT P t = some false) : OpSound P C (.load t x) (xLoad1 p) := fun T s K h => by
  have fin : ∀ {l : List EV} {q : Nat}, oneV l (fun v => K v s) = true → l.length = 1 → (∀ {w0 : World} {φ : Phi} {w : World}, WR w0 φ s w → ∀ {v' : Value}, VR φ (p.run T) v' → ∃ (rb qq : Nat) (l' : List Value), v' = .pointer (some ⟨rb, qq, none⟩) ∧ VRs φ l l' ∧ ∀ (j : Nat) (v : Value), l'[j]? = some v → w.cell? ⟨rb, qq + j, none⟩ = some v) →
      ∃ v s', K v s' = true ∧ val s.c ≤ val s'.c ∧ ∀ {w0 : World} {φ : Phi} {w : World} {ρ : Operand → Value} (o : Oper), o.op = .load t x → Fresh φ s.c s'.c → WR w0 φ s w →
        (∀ y ∈ (Op.load t x).operands, ∀ p, cOpd y = some p → VR φ (p.run T) (ρ y)) → NextRun P ((execOp ρ o).run P w) (Snd s s' φ w0 v) := by
    intro l _ h2 h3 h4
    obtain ⟨v, rfl⟩ : ∃ v, l = [v] := by
      cases l with
      | nil => simp at h3
      | cons v l => cases l with | nil => exact ⟨v, rfl⟩ | cons _ _ => simp at h3
    refine still (v := v) h2 fun w0 φ w ρ o' ho hw hρ => ?_
    obtain ⟨dst, op, ty, pos, after, guard⟩ := o'; simp only at ho; subst ho
    obtain ⟨rb, qq, l', hvx, e1, e2⟩ := h4 hw (hρ x (by simp [Op.operands]) p hp)
    cases e1 with
    | cons g1 g2 =>
      cases g2
      have := e2 0 _ rfl
      refine ⟨_, ?_, g1⟩
      simp only [execOp, Instr.loadAt, hvx, Sem.run_bind, sureAddr_ptr, Result.andThen_ok, loadVar, run_isAgg' ht, Bool.false_eq_true, if_false, run_load, Nat.add_zero] at this ⊢
      rw [this]; rfl
  rcases asPtr2_ok h with ⟨b, o, hx, h1⟩ | ⟨b, r, z, c, hx, h1⟩
  · obtain ⟨l, h2, h3, h4⟩ := loadB_ok h1
    refine fin (q := 0) h2 h3 fun {w0 φ w} hw {v'} hv => ?_
    rw [hx] at hv
    cases hv with
    | ptr hφ => obtain ⟨l', e1, e2⟩ := h4 hw hφ; exact ⟨_, _, l', rfl, e1, e2⟩
  · obtain ⟨l, h2, h3, _, h4⟩ := loadA_ok h1
    refine fin (q := 0) h2 h3 fun {w0 φ w} hw {v'} hv => ?_
    rw [hx] at hv
    cases hv with
    | aptr hφ => obtain ⟨l', e1, e2⟩ := h4 hw hφ; exact ⟨_, _, l', rfl, e1, e2⟩
theorem run_loadCells' {w : World} {rb q n : Nat} {l' : List Value} (h : ∀ (j : Nat) (v : Value), l'[j]? = some v → w.cell? ⟨rb, q + j, none⟩ = some v) (hl : l'.length = n) :
    (loadCells ⟨rb, q, none⟩ n).run P w = .ok l'.toArray w := by
  subst hl
  refine run_loadCells_list w _ l' fun j v hj => ?_
  rw [← h j v hj]
  unfold Addr.add
  split <;> simp_all
theorem loadN_sound (t : TypeId) (n : Nat) (x : Operand) (p : Opd) (hp : cOpd x = some p) (ht : isAggT P t = some true) (hn : sizeP P t = some n) : OpSound P C (.load t x) (xLoadN n p) := fun T s K h => by
  rcases asPtr2_ok h with ⟨b, o, hx, h1⟩ | ⟨b, r, z, c, hx, h1⟩
  · obtain ⟨l, h2, h3, h4⟩ := loadB_ok h1
    refine still (v := .agg l) h2 fun w0 φ w ρ o' ho hw hρ => ?_
    obtain ⟨dst, op, ty, pos, after, guard⟩ := o'; simp only at ho; subst ho
    have h5 := hρ x (by simp [Op.operands]) p hp
    rw [hx] at h5
    generalize hvx : ρ x = vx at h5
    cases h5 with
    | ptr hφ =>
      obtain ⟨l', e1, e2⟩ := h4 hw hφ
      refine ⟨.agg l'.toArray, ?_, .agg e1⟩
      simp only [execOp, Instr.loadAt, hvx, Sem.run_bind, sureAddr_ptr, Result.andThen_ok, loadVar, run_isAgg' ht, if_true, run_sizeOf hn, run_loadCells' e2 (by rw [← e1.length, h3]), Sem.run_pure]
  · obtain ⟨hn1, h1⟩ := guard_ok h1
    obtain ⟨m, rfl⟩ : ∃ m, n = m + 1 := ⟨n - 1, by have : 1 ≤ n := Nat.le_of_ble_eq_true hn1; omega⟩
    obtain ⟨l, h2, h3, _, h4⟩ := loadA_ok h1
    refine still (v := .agg l) h2 fun w0 φ w ρ o' ho hw hρ => ?_
    obtain ⟨dst, op, ty, pos, after, guard⟩ := o'; simp only at ho; subst ho
    have h5 := hρ x (by simp [Op.operands]) p hp
    rw [hx] at h5
    generalize hvx : ρ x = vx at h5
    cases h5 with
    | aptr hφ =>
      obtain ⟨l', e1, e2⟩ := h4 hw hφ
      refine ⟨.agg l'.toArray, ?_, .agg e1⟩
      simp only [execOp, Instr.loadAt, hvx, Sem.run_bind, sureAddr_ptr, Result.andThen_ok, loadVar, run_isAgg' ht, if_true, run_sizeOf hn, run_loadCells' e2 (by rw [← e1.length, h3]), Sem.run_pure]
theorem store_sound (t : TypeId) (n : Nat) (x y : Operand) (p q : Opd) (hp : cOpd x = some p) (hq : cOpd y = some q) (hn : sizeP P t = some n) : OpSound P C (.store t x y) (xStore n p q) := fun T s K h => by
  obtain ⟨hna, h⟩ := guard_ok h
  rcases asPtr2_ok h with ⟨b, o, hx, h1⟩ | ⟨b, r, z, c, hx, h1⟩
  · obtain ⟨h2, h3⟩ := guard_ok h1
    obtain ⟨s', h4, h5, h6⟩ := storeB_ok (P := P) h3
    refine ⟨_, s', h4, by rw [h5]; exact Nat.le_refl _, fun {w0 φ w ρ} o' ho hf hw hρ => ?_⟩
    obtain ⟨dst, op, ty, pos, after, guard⟩ := o'; simp only at ho; subst ho
    have h7 := hρ x (by simp [Op.operands]) p hp
    have h8 := (hρ y (by simp [Op.operands]) q hq).cells hna
    rw [hx] at h7
    generalize hvx : ρ x = vx at h7
    cases h7 with
    | ptr hφ =>
      obtain ⟨w', e1, e2⟩ := h6 hw hφ h8
      have hsz : (ρ y).cells.size = n := by
        have := h8.length
        rw [lenN_eq] at h2
        have := Nat.eq_of_beq_eq_true h2
        simp at *; omega
      have hrun : (execOp ρ { dst := dst, op := .store t x y, type := ty, pos := pos, after := after, guard := guard }).run P w = .ok .skip w' := by
        simp only [execOp, Instr.storeAt, hvx, Sem.run_bind, sureAddr_ptr, Result.andThen_ok, storeVar, run_sizeOf hn, hsz, ne_eq, not_true_eq_false, if_false, e1, Sem.run_pure]
      rw [hrun]
      exact ⟨φ, by rw [h5]; exact Step.refl _ _, VR.tuple (cs' := []) .nil, e2⟩
  · obtain ⟨h2, h3⟩ := guard_ok h1
    obtain ⟨s', h4, h5, h6⟩ := storeA_ok (P := P) h3
    refine ⟨_, s', h4, by rw [h5]; exact Nat.le_refl _, fun {w0 φ w ρ} o' ho hf hw hρ => ?_⟩
    obtain ⟨dst, op, ty, pos, after, guard⟩ := o'; simp only at ho; subst ho
    have h7 := hρ x (by simp [Op.operands]) p hp
    have h8 := (hρ y (by simp [Op.operands]) q hq).cells hna
    rw [hx] at h7
    generalize hvx : ρ x = vx at h7
    cases h7 with
    | aptr hφ =>
      obtain ⟨w', e1, e2⟩ := h6 hw hφ h8
      have hsz : (ρ y).cells.size = n := by
        have := h8.length
        rw [lenN_eq] at h2
        have := Nat.eq_of_beq_eq_true h2
        simp at *; omega
      have hrun : (execOp ρ { dst := dst, op := .store t x y, type := ty, pos := pos, after := after, guard := guard }).run P w = .ok .skip w' := by
        simp only [execOp, Instr.storeAt, hvx, Sem.run_bind, sureAddr_ptr, Result.andThen_ok, storeVar, run_sizeOf hn, hsz, ne_eq, not_true_eq_false, if_false, e1, Sem.run_pure]
      rw [hrun]
      exact ⟨φ, by rw [h5]; exact Step.refl _ _, VR.tuple (cs' := []) .nil, e2⟩

theorem nilCheck_sound (x : Operand) (p : Opd) (hp : cOpd x = some p) : OpSound P C (.nilCheck x) (xNilCheck p) := fun T s K h => by
  have key : K (p.run T) s = true ∧ ∀ φ v', VR φ (p.run T) v' → ∀ (ρ : Operand → Value) (w : World) (o : Oper), o.op = .nilCheck x → ρ x = v' → (execOp ρ o).run P w = .ok (.value v') w := by
    unfold xNilCheck evNilCheck at h
    generalize p.run T = v at h
    cases v with
    | ptr b o =>
      refine ⟨h, fun φ v' hv ρ w o ho hx => ?_⟩
      obtain ⟨dst, op, ty, pos, after, guard⟩ := o; simp only at ho; subst ho
      cases hv; simp [execOp, hx]
    | nils =>
      refine ⟨h, fun φ v' hv ρ w o ho hx => ?_⟩
      obtain ⟨dst, op, ty, pos, after, guard⟩ := o; simp only at ho; subst ho
      cases hv; simp [execOp, hx]
    | slice b o l z =>
      refine ⟨h, fun φ v' hv ρ w o ho hx => ?_⟩
      obtain ⟨dst, op, ty, pos, after, guard⟩ := o; simp only at ho; subst ho
      cases hv <;> simp [execOp, hx]
    | iface t v =>
      refine ⟨h, fun φ v' hv ρ w o ho hx => ?_⟩
      obtain ⟨dst, op, ty, pos, after, guard⟩ := o; simp only at ho; subst ho
      cases hv; simp [execOp, hx]
    | func f a c =>
      cases f with
      | func f =>
        refine ⟨h, fun φ v' hv ρ w o ho hx => ?_⟩
        obtain ⟨dst, op, ty, pos, after, guard⟩ := o; simp only at ho; subst ho
        cases hv; simp [execOp, hx]
      | _ => exact absurd (show false = true from h) (by decide)
    | map m =>
      refine ⟨h, fun φ v' hv ρ w o ho hx => ?_⟩
      obtain ⟨dst, op, ty, pos, after, guard⟩ := o; simp only at ho; subst ho
      cases hv <;> simp [execOp, hx]
    | aptr b r z c =>
      refine ⟨h, fun φ v' hv ρ w o ho hx => ?_⟩
      obtain ⟨dst, op, ty, pos, after, guard⟩ := o; simp only at ho; subst ho
      cases hv <;> simp [execOp, hx]
    | aslice b o l z m =>
      refine ⟨h, fun φ v' hv ρ w o ho hx => ?_⟩
      obtain ⟨dst, op, ty, pos, after, guard⟩ := o; simp only at ho; subst ho
      cases hv <;> simp [execOp, hx]
    | _ => exact absurd (show false = true from h) (by decide)
  exact still key.1 fun w0 φ w ρ o ho _ hρ => by
    have := hρ x (by simp [Op.operands]) p hp
    exact ⟨_, key.2 φ _ this ρ w o ho rfl, this⟩

theorem addr_sound (t : TypeId) (fs : Array Field) (f : Nat) (fd : Field) (n : Nat) (x : Operand) (p : Opd) (hp : cOpd x = some p) (ht : P.underlying t = some (.struct fs)) (hf : fs[f]? = some fd)
    (hn : sizeP P fd.type = some (n + 1)) : OpSound P C (.fieldAddr t x f) (xAddr fd.offset p) := fun T s K h => by
  rcases asPtr2_ok h with ⟨b, o, hx, h1⟩ | ⟨b, r, z, c, hx, h1⟩
  · refine still h1 fun w0 φ w ρ o' ho _ hρ => ?_
    obtain ⟨dst, op, ty, pos, after, guard⟩ := o'; simp only at ho; subst ho
    have h5 := hρ x (by simp [Op.operands]) p hp
    rw [hx] at h5
    generalize hvx : ρ x = vx at h5
    cases h5 with
    | ptr hφ =>
      refine ⟨_, ?_, .ptr (o := o + fd.offset) hφ⟩
      simp only [execOp, Instr.fieldAt, hvx, Sem.run_bind, run_underlying' ht, hf, sureAddr_ptr, Result.andThen_ok, fieldPlace, run_sizeOf hn, Sem.run_pure, Nat.succ_ne_zero, if_false, Addr.add]
      by_cases h0 : fd.offset = 0 <;> simp [h0, Nat.add_assoc]
  · refine still h1 fun w0 φ w ρ o' ho _ hρ => ?_
    obtain ⟨dst, op, ty, pos, after, guard⟩ := o'; simp only at ho; subst ho
    have h5 := hρ x (by simp [Op.operands]) p hp
    rw [hx] at h5
    generalize hvx : ρ x = vx at h5
    cases h5 with
    | aptr hφ =>
      refine ⟨_, ?_, .aptr (c := c + fd.offset) hφ⟩
      simp only [execOp, Instr.fieldAt, hvx, Sem.run_bind, run_underlying' ht, hf, sureAddr_ptr, Result.andThen_ok, fieldPlace, run_sizeOf hn, Sem.run_pure, Nat.succ_ne_zero, if_false, Addr.add]
      by_cases h0 : fd.offset = 0 <;> simp [h0, Nat.add_assoc]

theorem nth_part {φ : Phi} {cs : List EV} {cs' : List Value} {o : Nat} {v : EV} {t : TypeId} {w : World} (ht : isAggT P t = some false) (h : VRs φ cs cs') (hv : nthN o cs = some v) :
    ∃ v', (part t cs'.toArray o).run P w = .ok v' w ∧ VR φ v v' := by
  rw [nthN_eq] at hv
  obtain ⟨v', h1, h2⟩ := h.get hv
  exact ⟨v', by simp [part, run_isAgg' ht, h1], h2⟩
theorem takeN_ok {n : Nat} : ∀ {l : List EV} {K : List EV → Ans}, takeN n l K = true → n ≤ l.length ∧ K (l.take n) = true := by
  induction n with
  | zero => intro l K h; exact ⟨Nat.zero_le _, h⟩
  | succ n ih =>
    intro l K h
    cases l with
    | nil => exact absurd (show false = true from h) (by decide)
    | cons x l =>
      obtain ⟨h1, h2⟩ := ih (show takeN n l (fun r => K (x :: r)) = true from h)
      exact ⟨by simp; omega, h2⟩
theorem VRs.take {φ : Phi} {l : List EV} {l' : List Value} (h : VRs φ l l') : ∀ n, VRs φ (l.take n) (l'.take n) := by
  induction l generalizing l' with
  | nil => cases h; intro n; simp; exact .nil
  | cons x l ih =>
    cases h with
    | cons h hs =>
      intro n
      cases n with
      | zero => exact .nil
      | succ n => exact .cons h (ih hs n)
theorem VRs.drop {φ : Phi} {l : List EV} {l' : List Value} (h : VRs φ l l') : ∀ n, VRs φ (l.drop n) (l'.drop n) := by
  induction l generalizing l' with
  | nil => cases h; intro n; simp; exact .nil
  | cons x l ih =>
    cases h with
    | cons h hs =>
      intro n
      cases n with
      | zero => exact .cons h hs
      | succ n => exact ih hs n
theorem agg_part {φ : Phi} {cs : List EV} {cs' : List Value} {o n : Nat} {t : TypeId} {w : World} (ht : isAggT P t = some true) (hn : sizeP P t = some n) (h : VRs φ cs cs') :
    ∃ v', (part t cs'.toArray o).run P w = .ok v' w ∧ VR φ (.agg ((cs.drop o).take n)) v' := by
  refine ⟨.agg ((cs'.drop o).take n).toArray, ?_, .agg ((h.drop o).take n)⟩
  simp only [part, Sem.run_bind, run_isAgg' ht, Result.andThen_ok, if_true, run_sizeOf hn, Sem.run_pure]
  congr 2
  apply Array.ext'
  simp [List.take_drop]

theorem field1_sound (t : TypeId) (fs : Array Field) (f : Nat) (fd : Field) (x : Operand) (p : Opd) (hp : cOpd x = some p) (ht : P.underlying t = some (.struct fs)) (hf : fs[f]? = some fd)
    (ha : isAggT P fd.type = some false) : OpSound P C (.field t x f) (xField1 fd.offset p) := fun T s K h => by
  obtain ⟨cs, hx, h1⟩ := asAgg_ok h
  obtain ⟨v, hv, h2⟩ := oR_ok h1
  refine still h2 fun w0 φ w ρ o' ho _ hρ => ?_
  obtain ⟨dst, op, ty, pos, after, guard⟩ := o'; simp only at ho; subst ho
  have h5 := hρ x (by simp [Op.operands]) p hp
  rw [hx] at h5
  generalize hvx : ρ x = vx at h5
  cases h5 with
  | agg hcs =>
    obtain ⟨v', e1, e2⟩ := nth_part (w := w) ha hcs hv
    refine ⟨v', ?_, e2⟩
    simp only [execOp, Instr.field, hvx, Sem.run_bind, run_underlying' ht, hf, Result.andThen_ok, Go.asAgg, Sem.run_pure, e1]
theorem fieldN_sound (t : TypeId) (fs : Array Field) (f : Nat) (fd : Field) (n : Nat) (x : Operand) (p : Opd) (hp : cOpd x = some p) (ht : P.underlying t = some (.struct fs)) (hf : fs[f]? = some fd)
    (ha : isAggT P fd.type = some true) (hn : sizeP P fd.type = some n) : OpSound P C (.field t x f) (xFieldN fd.offset n p) := fun T s K h => by
  obtain ⟨cs, hx, h1⟩ := asAgg_ok h
  obtain ⟨_, h2⟩ := takeN_ok h1
  rw [dropN_eq] at h2
  refine still h2 fun w0 φ w ρ o' ho _ hρ => ?_
  obtain ⟨dst, op, ty, pos, after, guard⟩ := o'; simp only at ho; subst ho
  have h5 := hρ x (by simp [Op.operands]) p hp
  rw [hx] at h5
  generalize hvx : ρ x = vx at h5
  cases h5 with
  | agg hcs =>
    obtain ⟨v', e1, e2⟩ := agg_part (w := w) (o := fd.offset) ha hn hcs
    refine ⟨v', ?_, e2⟩
    simp only [execOp, Instr.field, hvx, Sem.run_bind, run_underlying' ht, hf, Result.andThen_ok, Go.asAgg, Sem.run_pure, e1]

theorem idxK_ok {n : Nat} {i : EV} {K : Nat → Ans} (h : idxK n i K = true) : ∃ k m, i = .int k (m : Nat) ∧ m < n ∧ K m = true := by
  obtain ⟨k, i', hi, h1⟩ := asInt_ok h
  obtain ⟨m, rfl, h2⟩ := iR_nat h1
  obtain ⟨h3, h4⟩ := guard_ok h2
  exact ⟨k, m, hi, Nat.le_of_ble_eq_true h3, h4⟩
theorem addr_add {rb q n : Nat} : (⟨rb, q, none⟩ : Addr).add n = ⟨rb, q + n, none⟩ := by
  unfold Addr.add; split <;> simp_all
theorem idxA_sound (t : TypeId) (n : Nat) (e : TypeId) (sz : Nat) (x i : Operand) (p q : Opd) (hp : cOpd x = some p) (hq : cOpd i = some q) (ht : P.underlying t = some (.array n e)) (hn : sizeP P e = some sz) :
    OpSound P C (.indexAddr t x i) (xIdxA n sz p q) := fun T s K h => by
  obtain ⟨b, o, hx, h1⟩ := asPtr_ok h
  have key : ∃ v m, K v s = true ∧ m < n ∧ (∀ φ v', VR φ (q.run T) v' → ∃ k, v' = .int k (m : Int)) ∧ ∀ {φ : Phi} {rb δ S : Nat}, φ b = some (rb, δ, S) → VR φ v (.pointer (some ⟨rb, δ + o + m * sz, none⟩)) := by
    cases hi : isInt (q.run T) with
    | true =>
      rw [hi, bR_true] at h1
      obtain ⟨k, m, hi, hm, h2⟩ := idxK_ok h1
      exact ⟨_, m, h2, hm, fun φ v' hv => by rw [hi] at hv; cases hv; exact ⟨k, rfl⟩, fun {φ rb δ S} hφ => by rw [Nat.add_assoc]; exact .ptr (o := o + m * sz) hφ⟩
    | false =>
      rw [hi, bR_false, fN_eq] at h1
      obtain ⟨ho, h1⟩ := guard_ok h1
      have ho : o / sz * sz = o := Nat.eq_of_beq_eq_true ho
      obtain ⟨m, hm, h2, h3⟩ := idxQ_ok h1
      refine ⟨_, m, h2, hm, h3, fun {φ rb δ S} hφ => ?_⟩
      have e1 : δ + o + m * sz = δ + ((o / sz + m) * sz + 0) := by rw [Nat.add_mul, ho]; omega
      rw [e1]; exact .aptr hφ
  obtain ⟨v, m, h2, hm, hi, hv⟩ := key
  refine still h2 fun w0 φ w ρ o' ho _ hρ => ?_
  obtain ⟨dst, op, ty, pos, after, guard⟩ := o'; simp only at ho; subst ho
  have h5 := hρ x (by simp [Op.operands]) p hp
  obtain ⟨k, hvi⟩ := hi φ _ (hρ i (by simp [Op.operands]) q hq)
  rw [hx] at h5
  generalize hvx : ρ x = vx at h5
  cases h5 with
  | ptr hφ =>
    refine ⟨_, ?_, hv hφ⟩
    have hm' : (0 : Int) ≤ (m : Int) ∧ (m : Int) < (n : Int) := ⟨by omega, by omega⟩
    simp only [execOp, Instr.indexAt, hvx, hvi, Sem.run_bind, run_underlying' ht, sureAddr_ptr, Result.andThen_ok, Go.asIntOf, Sem.run_pure, if_pos hm', run_sizeOf hn, Int.toNat_natCast, addr_add, Nat.add_assoc]
theorem idxS_sound (t : TypeId) (e : TypeId) (sz : Nat) (x i : Operand) (p q : Opd) (hp : cOpd x = some p) (hq : cOpd i = some q) (ht : P.underlying t = some (.slice e)) (hn : sizeP P e = some sz) :
    OpSound P C (.indexAddr t x i) (xIdxS sz p q) := fun T s K h => by
  have key : ∃ (v : EV) (m : Nat), K v s = true ∧ (∀ φ v', VR φ (q.run T) v' → ∃ k, v' = .int k (m : Int)) ∧
      ∀ φ vx, VR φ (p.run T) vx → ∃ (rb a len cap : Nat), vx = .slice (some ⟨rb, a, none⟩) len cap ∧ m < len ∧ VR φ v (.pointer (some ⟨rb, a + m * sz, none⟩)) := by
    rcases asSl2_ok h with ⟨_, h⟩ | ⟨b, o, len, z, hx, h1⟩ | ⟨b, o, len, z, mx, hx, h1⟩
    · exact absurd h (by decide)
    · obtain ⟨hz, h1⟩ := guard_ok h1
      have hz := Nat.eq_of_beq_eq_true hz
      subst hz
      cases hi : isInt (q.run T) with
      | true =>
        rw [hi, bR_true] at h1
        obtain ⟨k, m, hi, hm, h2⟩ := idxK_ok h1
        refine ⟨_, m, h2, fun φ v' hv => by rw [hi] at hv; cases hv; exact ⟨k, rfl⟩, fun φ vx hv => ?_⟩
        rw [hx] at hv
        cases hv with
        | slice hφ g1 g2 => exact ⟨_, _, _, _, rfl, hm, by rw [Nat.add_assoc]; exact .ptr (o := o + m * z) hφ⟩
        | slice0 a hφ => omega
      | false =>
        rw [hi, bR_false, fN_eq] at h1
        obtain ⟨ho, h1⟩ := guard_ok h1
        have ho : o / z * z = o := Nat.eq_of_beq_eq_true ho
        obtain ⟨m, hm, h2, h3⟩ := idxQ_ok h1
        refine ⟨_, m, h2, h3, fun φ vx hv => ?_⟩
        rw [hx] at hv
        cases hv with
        | slice hφ g1 g2 =>
          rename_i rb δ S cap
          refine ⟨_, _, _, _, rfl, hm, ?_⟩
          have e1 : δ + o + m * z = δ + ((o / z + m) * z + 0) := by rw [Nat.add_mul, ho]; omega
          rw [e1]; exact .aptr hφ
        | slice0 a hφ => omega
    · obtain ⟨hz, h1⟩ := guard_ok h1
      have hz := Nat.eq_of_beq_eq_true hz
      subst hz
      obtain ⟨m, hm, h2, h3⟩ := idxQ_ok h1
      refine ⟨_, m, h2, h3, fun φ vx hv => ?_⟩
      rw [hx] at hv
      cases hv with
      | aslice hφ g1 g2 g3 =>
        rename_i rb δ S cap
        refine ⟨_, _, _, _, rfl, hm, ?_⟩
        have e1 : δ + o * z + m * z = δ + ((o + m) * z + 0) := by rw [Nat.add_mul]; omega
        rw [e1]; exact .aptr hφ
      | aslice0 a hφ => omega
  obtain ⟨v, m, h2, hi, hv⟩ := key
  refine still h2 fun w0 φ w ρ o' ho _ hρ => ?_
  obtain ⟨dst, op, ty, pos, after, guard⟩ := o'; simp only at ho; subst ho
  obtain ⟨k, hvi⟩ := hi φ _ (hρ i (by simp [Op.operands]) q hq)
  obtain ⟨rb, a, len, cap, hvx, hm, hvr⟩ := hv φ _ (hρ x (by simp [Op.operands]) p hp)
  have hm' : (0 : Int) ≤ (m : Int) ∧ (m : Int) < (len : Int) := ⟨by omega, by omega⟩
  refine ⟨_, ?_, hvr⟩
  simp only [execOp, Instr.indexAt, hvx, hvi, Sem.run_bind, run_underlying' ht, Result.andThen_ok, Go.asIntOf, Sem.run_pure, if_pos hm', run_sizeOf hn, Int.toNat_natCast, addr_add, Nat.add_assoc]
theorem at1_sound (t : TypeId) (n : Nat) (e : TypeId) (sz : Nat) (x i : Operand) (p q : Opd) (hp : cOpd x = some p) (hq : cOpd i = some q) (ht : P.underlying t = some (.array n e)) (hn : sizeP P e = some sz)
    (ha : isAggT P e = some false) : OpSound P C (.index t x i) (xAt1 n sz p q) := fun T s K h => by
  obtain ⟨cs, hx, h1⟩ := asAgg_ok h
  have key : ∃ v m, K v s = true ∧ m < n ∧ (∀ φ v', VR φ (q.run T) v' → ∃ k, v' = .int k (m : Int)) ∧ ∀ {φ : Phi} {cs' : List Value} {w : World}, VRs φ cs cs' → ∃ v', (part e cs'.toArray (m * sz)).run P w = .ok v' w ∧ VR φ v v' := by
    cases hi : isInt (q.run T) with
    | true =>
      rw [hi, bR_true] at h1
      obtain ⟨k, m, hi, hm, h2⟩ := idxK_ok h1
      obtain ⟨v, hv, h3⟩ := oR_ok h2
      exact ⟨v, m, h3, hm, fun φ v' hv => by rw [hi] at hv; cases hv; exact ⟨k, rfl⟩, fun {φ cs' w} hcs => nth_part (w := w) ha hcs hv⟩
    | false =>
      rw [hi, bR_false] at h1
      obtain ⟨hz, h10⟩ := guard_ok h1
      have hz := Nat.eq_of_beq_eq_true hz
      subst hz
      obtain ⟨c, h2, h3⟩ := mkCol_ok h10
      obtain ⟨m, hm, h4, h5⟩ := idxQ_ok h2
      obtain ⟨v, h6, _, h7⟩ := Col.at_ok h4
      refine ⟨v, m, h6, hm, h5, fun {φ cs' w} hcs => ?_⟩
      have hcr : CR cs'.toArray 0 (cs.length * 1) 1 0 c := by
        refine CR_of (cells := cs) h3 rfl (fun i hi => by simp) (φ := φ) fun i v hi => ?_
        obtain ⟨v', e1, e2⟩ := hcs.get hi
        exact ⟨v', by simpa using e1, e2⟩
      obtain ⟨v', e1, e2, _⟩ := h7 φ _ _ _ _ _ hcr
      have e1 : cs'[m]? = some v' := by simpa using e1
      refine ⟨v', ?_, e2⟩
      rw [Nat.mul_one]
      simp [part, run_isAgg' ha, e1]
  obtain ⟨v, m, h3, hm, hi, hv⟩ := key
  refine still h3 fun w0 φ w ρ o' ho _ hρ => ?_
  obtain ⟨dst, op, ty, pos, after, guard⟩ := o'; simp only at ho; subst ho
  have h5 := hρ x (by simp [Op.operands]) p hp
  obtain ⟨k, hvi⟩ := hi φ _ (hρ i (by simp [Op.operands]) q hq)
  rw [hx] at h5
  generalize hvx : ρ x = vx at h5
  have hm' : (0 : Int) ≤ (m : Int) ∧ (m : Int) < (n : Int) := ⟨by omega, by omega⟩
  cases h5 with
  | agg hcs =>
    obtain ⟨v', e1, e2⟩ := hv (w := w) hcs
    refine ⟨v', ?_, e2⟩
    simp only [execOp, Instr.index, hvx, hvi, Sem.run_bind, run_underlying' ht, Result.andThen_ok, Go.asIntOf, Sem.run_pure, if_pos hm', run_sizeOf hn, Int.toNat_natCast]
    show ((part e _ (m * sz)).run P w).andThen _ = _
    rw [e1]; rfl
theorem atN_sound (t : TypeId) (n : Nat) (e : TypeId) (sz : Nat) (x i : Operand) (p q : Opd) (hp : cOpd x = some p) (hq : cOpd i = some q) (ht : P.underlying t = some (.array n e)) (hn : sizeP P e = some sz)
    (ha : isAggT P e = some true) : OpSound P C (.index t x i) (xAtN n sz p q) := fun T s K h => by
  obtain ⟨cs, hx, h1⟩ := asAgg_ok h
  obtain ⟨k, m, hi, hm, h2⟩ := idxK_ok h1
  obtain ⟨_, h3⟩ := takeN_ok h2
  rw [dropN_eq] at h3
  refine still h3 fun w0 φ w ρ o' ho _ hρ => ?_
  obtain ⟨dst, op, ty, pos, after, guard⟩ := o'; simp only at ho; subst ho
  have h5 := hρ x (by simp [Op.operands]) p hp
  have h6 := hρ i (by simp [Op.operands]) q hq
  rw [hx] at h5; rw [hi] at h6
  generalize hvx : ρ x = vx at h5
  generalize hvi : ρ i = vi at h6
  cases h6
  have hm' : (0 : Int) ≤ (m : Int) ∧ (m : Int) < (n : Int) := ⟨by omega, by omega⟩
  cases h5 with
  | agg hcs =>
    obtain ⟨v', e1, e2⟩ := agg_part (w := w) (o := Nat.mul m sz) ha hn hcs
    refine ⟨v', ?_, e2⟩
    simp only [execOp, Instr.index, hvx, hvi, Sem.run_bind, run_underlying' ht, Result.andThen_ok, Go.asIntOf, Sem.run_pure, if_pos hm', run_sizeOf hn, Int.toNat_natCast]
    show ((part e _ (m * sz)).run P w).andThen _ = _
    rw [show m * sz = Nat.mul m sz from rfl, e1]; rfl
theorem bytesC_ok : ∀ {l : List UInt8} {K : List EV → Ans}, bytesC l K = true → K (l.map fun c => EV.int .u8 (Int.ofNat c.toNat)) = true
  | [], K, h => h
  | c :: l, K, h => by
    have h := (show fN c.toNat (fun n => bytesC l fun r => K (.int .u8 (.ofNat n) :: r)) = true from h)
    rw [fN_eq] at h
    exact bytesC_ok (l := l) h
theorem atS_sound (t : TypeId) (x i : Operand) (p q : Opd) (hp : cOpd x = some p) (hq : cOpd i = some q) (ht : P.underlying t = some .string) : OpSound P C (.index t x i) (xAtS p q) := fun T s K h => by
  obtain ⟨a, hx, h1⟩ := asStr_ok h
  cases hint : isInt (q.run T) with
  | false =>
    rw [hint, bR_false] at h1
    have h1 := bytesC_ok h1
    obtain ⟨c, h2, h3⟩ := mkCol_ok h1
    obtain ⟨m, hm, h4, h5⟩ := idxQ_ok h2
    obtain ⟨v, h6, _, h7⟩ := Col.at_ok h4
    rw [lenN_eq] at hm
    refine still h6 fun w0 φ w ρ o' ho _ hρ => ?_
    obtain ⟨dst, op, ty, pos, after, guard⟩ := o'; simp only at ho; subst ho
    have g5 := hρ x (by simp [Op.operands]) p hp
    obtain ⟨k, hvi⟩ := h5 φ _ (hρ i (by simp [Op.operands]) q hq)
    rw [hx] at g5
    generalize hvx : ρ x = vx at g5
    cases g5
    have hm' : (0 : Int) ≤ (m : Int) := by omega
    have hlen : m < a.size := by simpa using hm
    have hcr : CR (a.data.toList.map fun c => Value.int .u8 (Int.ofNat c.toNat)).toArray 0 ((a.data.toList.map fun c => EV.int .u8 (Int.ofNat c.toNat)).length * 1) 1 0 c := by
      refine CR_of (cells := a.data.toList.map fun c => EV.int .u8 (Int.ofNat c.toNat)) h3 rfl (fun i hi => by simp) (φ := φ) fun i v hi => ?_
      rw [List.getElem?_map] at hi
      cases hc : a.data.toList[i]? with
      | none => rw [hc] at hi; cases hi
      | some y =>
        rw [hc] at hi
        cases hi
        exact ⟨.int .u8 (Int.ofNat y.toNat), by simp [hc] at *; try simpa using hc, .int .u8 _⟩
    obtain ⟨v', e1, e2, _⟩ := h7 φ _ _ _ _ _ hcr
    have e1 : (a.data.toList.map fun c => Value.int .u8 (Int.ofNat c.toNat))[m]? = some v' := by simpa using e1
    have hg : a[m]? = some a[m] := getElem?_pos a m hlen
    have h8 : a.data.toList[m]? = some a[m] := by
      rw [Array.getElem?_toList, Array.getElem?_eq_getElem (show m < a.data.size from hlen)]
      rfl
    rw [List.getElem?_map, h8] at e1
    cases e1
    refine ⟨_, ?_, e2⟩
    simp only [execOp, Instr.index, hvx, hvi, Sem.run_bind, run_underlying' ht, Result.andThen_ok, Go.asIntOf, Sem.run_pure, if_pos hm', Int.toNat_natCast, hg]
    rfl
  | true =>
  rw [hint, bR_true] at h1
  obtain ⟨k, m, hi, hm, h2⟩ := idxK_ok h1
  obtain ⟨c, hc, h3⟩ := oR_ok h2
  refine still h3 fun w0 φ w ρ o' ho _ hρ => ?_
  obtain ⟨dst, op, ty, pos, after, guard⟩ := o'; simp only at ho; subst ho
  have h5 := hρ x (by simp [Op.operands]) p hp
  have h6 := hρ i (by simp [Op.operands]) q hq
  rw [hx] at h5; rw [hi] at h6
  generalize hvx : ρ x = vx at h5
  generalize hvi : ρ i = vi at h6
  cases h6; cases h5
  refine ⟨_, ?_, .int .u8 _⟩
  have hm' : (0 : Int) ≤ (m : Int) := by omega
  have hg : a[m]? = some c := by
    rw [nthN_eq] at hc
    have h7 : m < a.size := by
      have := (List.getElem?_eq_some_iff.1 hc).1
      simpa using this
    rw [getElem?_pos a m h7]
    have h8 : a.data.toList[m]? = some a[m] := by
      rw [Array.getElem?_toList, Array.getElem?_eq_getElem (show m < a.data.size from h7)]
      rfl
    rw [h8] at hc; exact hc
  simp only [execOp, Instr.index, hvx, hvi, Sem.run_bind, run_underlying' ht, Result.andThen_ok, Go.asIntOf, Sem.run_pure, if_pos hm', Int.toNat_natCast, hg]
  rfl
theorem extract_sound (x : Operand) (i : Nat) (p : Opd) (hp : cOpd x = some p) : OpSound P C (.extract x i) (xExtract p i) := fun T s K h => by
  obtain ⟨vs, hx, h1⟩ := asTuple_ok h
  obtain ⟨v, hv, h2⟩ := oR_ok h1
  refine still h2 fun w0 φ w ρ o' ho _ hρ => ?_
  obtain ⟨dst, op, ty, pos, after, guard⟩ := o'; simp only at ho; subst ho
  have h5 := hρ x (by simp [Op.operands]) p hp
  rw [hx] at h5
  generalize hvx : ρ x = vx at h5
  cases h5 with
  | tuple hcs =>
    rw [nthN_eq] at hv
    obtain ⟨v', e1, e2⟩ := hcs.get hv
    exact ⟨v', by simp [execOp, Instr.extract, hvx, e1], e2⟩
end
end Go.Ev
