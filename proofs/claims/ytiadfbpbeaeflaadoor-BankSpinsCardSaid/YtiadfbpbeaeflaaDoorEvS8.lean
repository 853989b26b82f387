/- make, copy, calls; all operations. -/
import Derived.Test.YtiadfbpbeaeflaaDoorEvSN
import Derived.DefersIn
namespace Go.Ev
open Go.RowKit (Below)
structure CallSound (P : Program) (C : CallK) : Prop where
  fn : ∀ (f : Nat) (args : List EV) (s : St) (K : EV → St → Ans), C (.fn f) args s K = true → ∃ v s', K v s' = true ∧ val s.c ≤ val s'.c ∧
    ∀ {w0 : World} {φ : Phi} {w : World} {args' : List Value}, Fresh φ s.c s'.c → WR w0 φ s w → VRs φ args args' → NextRun P ((callFunc f args'.toArray).run P w) (Snd s s' φ w0 v)
  yld : ∀ (k : List Bool) (args : List EV) (s : St) (K : EV → St → Ans), C (.yld k) args s K = true → ∃ v s', K v s' = true ∧ val s.c ≤ val s'.c ∧
    ∀ {w0 : World} {φ : Phi} {w : World} {args' : List Value} {l : Nat} {q : Nat × Nat}, φ k = some (l, q) → Fresh φ s.c s'.c → WR w0 φ s w → VRs φ args args' → NextRun P ((Instr.yield l args'.toArray).run P w) (Snd s s' φ w0 v)
  dfn : ∀ (f : Nat) (args : List EV) (s : St) (K : EV → St → Ans), C (.dfn f) args s K = true → ∃ v s', K v s' = true ∧ val s.c ≤ val s'.c ∧ (∀ (w : World) (as : Array Value), (callFunc f as).run P w = .ok (.enter f as) w) ∧
    ∀ {w0 : World} {φ : Phi} {w : World} {args' : List Value} (u : FrameMode), Fresh φ s.c s'.c → WR w0 φ s w → VRs φ args args' → CallsDIn (Wd none) 0 P f args'.toArray u w fun e u' w' => u' = u ∧ ∃ v', e = .returned v' ∧ Snd s s' φ w0 v v' w'
section
variable {P : Program} {C : CallK}
theorem make_con (t e : TypeId) (i : TypeInfo) (z : List EV) (l c : Operand) (pl pc : Opd) (hl : cOpd l = some pl) (hc : cOpd c = some pc) (ht : P.underlying t = some (.slice e)) (hi : P.info? e = some i) (hz : zeroT P e = some z)
    (hzl : lenN z = i.size) (hsz : 1 ≤ i.size) (hby : i.bytes < 1000000) : OpSound P C (.makeSlice t l c) (fun _ T s K => evMake z i.size (pl.run T) (pc.run T) s K) := fun T s K h => by
  obtain ⟨i', zv, hi', hzv, hzs⟩ := zeroT_ok hz
  rw [hi] at hi'; cases hi'
  obtain ⟨kl, nl, hx, q1⟩ := asInt_ok (show asInt (pl.run T) _ = true from h)
  obtain ⟨kc, nc, hy, q2⟩ := asInt_ok q1
  obtain ⟨a, ea, q3⟩ := iR_nat q2
  obtain ⟨b, eb, q4⟩ := iR_nat q3
  clear h q1 q2 q3
  subst ea; subst eb
  obtain ⟨h1, q5⟩ := guard_ok q4
  obtain ⟨h2, q6⟩ := guard_ok q5
  obtain ⟨_, h⟩ := guard_ok q6
  have h1 := Nat.le_of_ble_eq_true h1
  have h2 := Nat.le_of_ble_eq_true h2
  refine made (f := fun b => .slice b 0 a i.size) h fun w0 φ w ρ o ho _ hρ => ?_
  obtain ⟨dst, op, ty, pos, after, guard⟩ := o; simp only at ho; subst ho
  have g1 := hρ l (by simp [Op.operands]) pl hl
  have g2 := hρ c (by simp [Op.operands]) pc hc
  rw [hx] at g1; rw [hy] at g2
  generalize hvl : ρ l = vl at g1
  generalize hvc : ρ c = vc at g2
  cases g1; cases g2
  have hb : (i.bytes : Int) * (b : Int) ≤ 281474976710656 := by
    have : i.bytes * b ≤ 1000000 * 1000000 := Nat.mul_le_mul (by omega) h2
    omega
  have hrun := run_make (P := P) w t e i zv ht hi hzv kl kc a b (by omega) (by omega) hb (by omega)
  rw [lenN_eq] at hzl
  refine ⟨.slice (some ⟨w.heap.size, 0, none⟩) a b, (madeCells zv.cells (b * i.size)).toList, [], e, ?_, replN_ok (hzs φ) hzl hsz, fun φ' hφ => ?_⟩
  · simp only [execOp, hvl, hvc, Sem.run_bind, hrun, Result.andThen_ok, Sem.run_pure, Int.toNat_natCast, List.append_nil, Array.toArray_toList]
  · refine VR.slice (rb := w.heap.size) (δ := 0) hφ h1 ?_
    simp [size_madeCells]
theorem zeroCols_ok {l : Nat} : ∀ {z : List EV} {K : List Col → Ans}, zeroCols l z K = true → ∃ cols, K cols = true ∧ cols.length = z.length ∧ ∀ (j : Nat) (c : Col), cols[j]? = some c → ∃ v, z[j]? = some v ∧
    ∀ {φ : Phi} {v' : Value}, VR φ v v' → ∀ {cs : Array Value} {δ sz j' : Nat}, (∀ i, i < l → cs[δ + (i * sz + j')]? = some v') → CR cs δ (l * sz) sz j' c
  | [], K, h => ⟨[], h, rfl, fun j c hj => by simp at hj⟩
  | v :: z, K, h => by
    have h : bR (isNum v) (asInt v fun k n => guardB (eqI n 0) (fI k.min fun mn => fI k.max fun mx => zeroCols l z fun r => K (.i k mn mx (List.replicate l 0) :: r)))
      (asBool v fun b => guardB (notB b) (zeroCols l z fun r => K (.b (List.replicate l false) :: r))) = true := h
    cases hn : isNum v with
    | true =>
      rw [hn, bR_true] at h
      obtain ⟨k, n, rfl, h1⟩ := asInt_ok h
      obtain ⟨h0, h1⟩ := guard_ok h1
      have h0 := eqI_iff h0
      rw [fI_eq, fI_eq] at h1
      obtain ⟨cols, h2, h3, h4⟩ := zeroCols_ok h1
      refine ⟨_ :: cols, h2, by simp [h3], fun j c hj => ?_⟩
      cases j with
      | zero =>
        simp at hj; subst hj
        refine ⟨_, rfl, fun {φ v'} hv {cs δ sz j'} hcs => ⟨by simp, fun i x hx => ?_⟩⟩
        have hi : i < l := by have := lt_len hx; simpa using this
        have e : x = 0 := by rw [List.getElem?_replicate, if_pos hi] at hx; cases hx; rfl
        subst e
        cases hv
        have := hcs i hi
        rw [h0] at this
        have hm := min_le0 k
        have hM : (0 : Int) ≤ k.max := by unfold IntKind.max; cases k <;> simp [IntKind.signed, IntKind.bits]
        exact ⟨this, hm, hM⟩
      | succ j => obtain ⟨u, g1, g2⟩ := h4 j c (by simpa using hj); exact ⟨u, by simpa using g1, g2⟩
    | false =>
      rw [hn, bR_false] at h
      obtain ⟨b, rfl, h1⟩ := asBool_ok h
      obtain ⟨h0, h1⟩ := guard_ok h1
      have h0 := notB_ok h0
      subst h0
      obtain ⟨cols, h2, h3, h4⟩ := zeroCols_ok h1
      refine ⟨_ :: cols, h2, by simp [h3], fun j c hj => ?_⟩
      cases j with
      | zero =>
        simp at hj; subst hj
        refine ⟨_, rfl, fun {φ v'} hv {cs δ sz j'} hcs => ⟨by simp, fun i x hx => ?_⟩⟩
        have hi : i < l := by have := (List.getElem?_eq_some_iff.1 hx).1; simpa using this
        have e : x = false := by rw [List.getElem?_replicate, if_pos hi] at hx; cases hx; rfl
        subst e
        cases hv
        exact hcs i hi
      | succ j => obtain ⟨u, g1, g2⟩ := h4 j c (by simpa using hj); exact ⟨u, by simpa using g1, g2⟩
theorem make_abs (t e : TypeId) (i : TypeInfo) (z : List EV) (l c : Operand) (pl pc : Opd) (hl : cOpd l = some pl) (hc : cOpd c = some pc) (ht : P.underlying t = some (.slice e)) (hi : P.info? e = some i) (hz : zeroT P e = some z)
    (hzl : lenN z = i.size) (hsz : 1 ≤ i.size) (hby : i.bytes < 1000000) : OpSound P C (.makeSlice t l c) (fun _ T s K => evMakeA z i.size (pl.run T) (pc.run T) s K) := fun T s K h => by
  obtain ⟨i', zv, hi', hzv, hzs⟩ := zeroT_ok hz
  rw [hi] at hi'; cases hi'
  obtain ⟨a, h1, hva⟩ := natQ_ok (show natQ (pl.run T) _ = true from h)
  obtain ⟨b, h2, hvb⟩ := natQ_ok h1
  obtain ⟨hab, h3⟩ := reqB_ok h2
  obtain ⟨hb6, h4⟩ := reqB_ok h3
  obtain ⟨_, h5⟩ := guard_ok h4
  obtain ⟨cols, h6, hcl, hz0⟩ := zeroCols_ok h5
  obtain ⟨hne, hK⟩ := newRows_eq h6
  rw [lenN_eq] at hzl
  refine ⟨_, _, hK, by show val s.c ≤ val (inc s.c); rw [val_inc]; omega, fun {w0 φ w ρ} o ho hf hw hρ => ?_⟩
  have hfree : φ s.c = none := hf.2 s.c (Nat.le_refl _) (by show val s.c < val (inc s.c); rw [val_inc]; omega)
  obtain ⟨dst, op, ty, pos, after, guard⟩ := o; simp only at ho; subst ho
  obtain ⟨kl, hvl⟩ := hva φ _ (hρ l (by simp [Op.operands]) pl hl)
  obtain ⟨kc, hvc⟩ := hvb φ _ (hρ c (by simp [Op.operands]) pc hc)
  have hb : (i.bytes : Int) * (b : Int) ≤ 281474976710656 := by
    have : i.bytes * b ≤ 1000000 * 1000000 := Nat.mul_le_mul (by omega) hb6
    omega
  have hrun := run_make (P := P) w t e i zv ht hi hzv kl kc a b (by omega) (by omega) hb (by omega)
  have hex : (execOp ρ { dst := dst, op := .makeSlice t l c, type := ty, pos := pos, after := after, guard := guard }).run P w = .ok (.value (.slice (some ⟨w.heap.size, 0, none⟩) a b)) (w.alloc (.cells (madeCells zv.cells (b * i.size)) e)) := by
    simp only [execOp, hvl, hvc, Sem.run_bind, hrun, Result.andThen_ok, Sem.run_pure, Int.toNat_natCast]
  rw [hex]
  have hzc : zv.cells.size = i.size := by have := (hzs φ).length; simp at this; omega
  have hst := Step.put (φ := φ) (w.heap.size, 0, b * i.size) hfree
  have hbl : Below w.heap.size w (w.alloc (.cells (madeCells zv.cells (b * i.size)) e)) := (Below.refl _ _).alloc (Nat.le_refl _) _
  refine ⟨φ.put s.c (w.heap.size, 0, b * i.size), hst, ?_, addWR hw hfree hbl (.inr ⟨Nat.le_refl _, ?_⟩)⟩
  · have := VR.aslice (φ := φ.put s.c (w.heap.size, 0, b * i.size)) (b := s.c) (o := 0) (len := a) (sz := i.size) (mx := 1000000) (rb := w.heap.size) (δ := 0) (S := b * i.size) (cap := b) (by simp [Phi.put]) hab (by omega) (by omega)
    simpa using this
  · refine ⟨by simp [Phi.put], madeCells zv.cells (b * i.size), e, by show (w.heap.push _)[w.heap.size]? = _; simp, by simp [size_madeCells], ?_, fun i v hi hv => ?_, fun j col hj => ?_⟩
    · show 0 + a * i.size ≤ (madeCells zv.cells (b * i.size)).size
      have := Nat.mul_le_mul_right i.size hab
      simp [size_madeCells]; omega
    · have : (Tr.nil : Tr EV).get (key i) = some v := hv
      rw [Tr.get_nil] at this; cases this
    · show CR _ 0 (a * i.size) cols.length j col
      rw [hcl, hzl]
      obtain ⟨v, g1, g2⟩ := hz0 j col hj
      obtain ⟨v', e1, e2⟩ := (hzs φ).get g1
      have hj : j < i.size := by rw [← hzl]; exact (List.getElem?_eq_some_iff.1 g1).1
      refine g2 e2 fun r hr => ?_
      have h7 : r * i.size + j < b * i.size := by
        have := Nat.mul_le_mul_right i.size (show r + 1 ≤ b by omega)
        rw [Nat.succ_mul] at this; omega
      have hm : (r * i.size + j) % i.size = j := by rw [Nat.add_comm, Nat.add_mul_mod_self_right]; exact Nat.mod_eq_of_lt hj
      rw [Nat.zero_add]
      rw [Array.getElem?_toList] at e1
      have hjz : j < zv.cells.size := by omega
      simp only [madeCells, Array.getElem?_map, Array.getElem?_range, h7, if_true, Option.map_some, hzc, hm]
      rw [Array.getElem?_eq_getElem hjz] at e1
      rw [getElem!_pos zv.cells j hjz]
      exact e1
theorem make_sound (t e : TypeId) (i : TypeInfo) (z : List EV) (l c : Operand) (pl pc : Opd) (hl : cOpd l = some pl) (hc : cOpd c = some pc) (ht : P.underlying t = some (.slice e)) (hi : P.info? e = some i) (hz : zeroT P e = some z)
    (hzl : lenN z = i.size) (hsz : 1 ≤ i.size) (hby : i.bytes < 1000000) : OpSound P C (.makeSlice t l c) (xMake z i.size pl pc) := fun T s K h => by
  have h : bR (andB (isSmall (pl.run T)) (isSmall (pc.run T))) (evMake z i.size (pl.run T) (pc.run T) s K) (evMakeA z i.size (pl.run T) (pc.run T) s K) = true := h
  cases hb : andB (isSmall (pl.run T)) (isSmall (pc.run T)) with
  | true => rw [hb, bR_true] at h; exact make_con (C := C) t e i z l c pl pc hl hc ht hi hz hzl hsz hby T s K h
  | false => rw [hb, bR_false] at h; exact make_abs (C := C) t e i z l c pl pc hl hc ht hi hz hzl hsz hby T s K h
theorem copy_sound (c : Call) (p q : Opd) (t e : TypeId) (n : Nat) (hc : c.callee = .builtin .copy) (ha : cOpds c.args.toList = some [p, q]) (hts : c.argTypes[0]? = some t) (ht : P.underlying t = some (.slice e)) (hn : sizeP P e = some n) : OpSound P C (.call c) (xCopy n p q) := fun T s K h => by
  have hlen : ∀ (a b : Value) (m : Nat) (w : World), (Builtin.lenOf b).run P w = .ok m w → ∀ base d cap, a = .slice base d cap → ∀ ty, (Builtin.copy_ c.argTypes ty #[a, b]).run P w =
      ((Builtin.firstCells n (min m d) b).run P w).andThen fun cells w1 => ((match base with | some x => storeCells x cells.toList | none => pure () : Sem Unit).run P w1).andThen fun _ w2 => .ok (goInt (min m d : Nat)) w2 := by
    intro a b m w hm base d cap ha ty
    subst ha
    cases base <;> simp [Builtin.copy_, hts, run_underlying' ht, hm, run_sizeOf hn] <;> rfl
  unfold xCopy evCopy at h
  have zero_case : ∀ (hk : K (.int .i64 (0 : Nat)) s = true) (hz : (p.run T = .nils ∧ (q.run T = .nils ∨ ∃ b o l z, q.run T = .slice b o l z)) ∨ ((∃ b o l z, p.run T = .slice b o l z) ∧ q.run T = .nils)),
      ∃ v s', K v s' = true ∧ val s.c ≤ val s'.c ∧ ∀ {w0 : World} {φ : Phi} {w : World} {ρ : Operand → Value} (o : Oper), o.op = .call c → Fresh φ s.c s'.c → WR w0 φ s w →
      (∀ x ∈ (Op.call c).operands, ∀ p, cOpd x = some p → VR φ (p.run T) (ρ x)) → NextRun P ((execOp ρ o).run P w) (Snd s s' φ w0 v) := by
    intro hk hz
    refine still hk fun w0 φ w ρ o' ho _ hρ => ?_
    obtain ⟨cs, hr⟩ := run_builtin (P := P) hc (ρ := ρ) ho (w := w)
    obtain ⟨a', b', e', h1, h2⟩ := two_args (call_args ha hρ)
    have h1 : VR φ (p.run T) a' := h1
    have h2 : VR φ (q.run T) b' := h2
    refine ⟨_, ?_, .int .i64 _⟩
    rw [hr, e']
    have hcp : (Builtin.copy_ c.argTypes o'.type #[a', b']).run P w = .ok (goInt (0 : Nat)) w := by
      rcases hz with ⟨hp, hq | ⟨b, o, l, z, hq⟩⟩ | ⟨⟨b, o, l, z, hp⟩, hq⟩
      · rw [hp] at h1; rw [hq] at h2; cases h1; cases h2
        rw [hlen _ _ 0 w rfl none 0 0 rfl]; simp [Builtin.firstCells]
      · rw [hp] at h1; rw [hq] at h2; cases h1
        cases h2 with
        | slice hφ k1 k2 => rw [hlen _ _ l w rfl none 0 0 rfl]; simp [Builtin.firstCells, loadCells, loadCellsFrom]
        | slice0 a hφ => rw [hlen _ _ 0 w rfl none 0 0 rfl]; simp [Builtin.firstCells, loadCells, loadCellsFrom]
      · rw [hp] at h1; rw [hq] at h2; cases h2
        cases h1 with
        | slice hφ k1 k2 => rw [hlen _ _ 0 w rfl _ _ _ rfl]; simp [Builtin.firstCells, storeCells]
        | slice0 a hφ => rw [hlen _ _ 0 w rfl _ _ _ rfl]; simp [Builtin.firstCells, storeCells]
    simp only [builtin, Sem.run_bind, hcp, Result.andThen_ok, Sem.run_pure]
    rfl
  rcases asSlice_ok h with ⟨hx, h⟩ | ⟨b, o, l, z, hx, h⟩
  · rcases asSlice_ok h with ⟨hy, h⟩ | ⟨_, _, _, _, hy, h⟩
    · exact zero_case h (.inl ⟨hx, .inl hy⟩)
    · exact zero_case h (.inl ⟨hx, .inr ⟨_, _, _, _, hy⟩⟩)
  rcases asSlice_ok h with ⟨hy, h⟩ | ⟨b2, o2, l2, z2, hy, h⟩
  · exact zero_case h (.inr ⟨⟨_, _, _, _, hx⟩, hy⟩)
  obtain ⟨hzz, hB⟩ := guard_ok h
  have hzz' : (Nat.beq z n && Nat.beq z2 n) = true := hzz
  simp only [Bool.and_eq_true] at hzz'
  have e1 := Nat.eq_of_beq_eq_true hzz'.1
  have e2 := Nat.eq_of_beq_eq_true hzz'.2
  obtain ⟨xs, hB, hxl, hxr⟩ := loadB_ok hB
  obtain ⟨s', hK, hc', hst⟩ := storeB_ok (P := P) hB
  refine ⟨_, s', hK, by rw [hc']; exact Nat.le_refl _, fun {w0 φ w ρ} o' ho hf hw hρ => ?_⟩
  obtain ⟨cs, hr⟩ := run_builtin (P := P) hc (ρ := ρ) ho (w := w)
  obtain ⟨a', b', e', h1, h2⟩ := two_args (call_args ha hρ)
  have h1 : VR φ (p.run T) a' := h1
  have h2 : VR φ (q.run T) b' := h2
  rw [hx] at h1; rw [hy] at h2
  have hxl : xs.length = min l l2 * n := hxl
  have done : ∀ w', (Builtin.copy_ c.argTypes o'.type #[a', b']).run P w = .ok (goInt (min l l2 : Nat)) w' → WR w0 φ s' w' →
      NextRun P ((execOp ρ o').run P w) (Snd s s' φ w0 (.int .i64 (Int.ofNat (min l l2)))) := by
    intro w' hcp hw'
    have : (execOp ρ o').run P w = .ok (.value (goInt (min l l2 : Nat))) w' := by
      rw [hr, e']
      simp only [builtin, Sem.run_bind, hcp, Result.andThen_ok, Sem.run_pure]
    rw [this]
    exact ⟨φ, by rw [hc']; exact Step.refl _ _, .int .i64 _, hw'⟩
  have first : ∃ ys, (Builtin.firstCells n (min l2 l) b').run P w = .ok ys.toArray w ∧ VRs φ xs ys ∧ (Builtin.lenOf b').run P w = .ok l2 w := by
    cases h2 with
    | slice hφ k1 k2 =>
      obtain ⟨ys, g1, g2⟩ := hxr hw hφ
      refine ⟨ys, ?_, g1, rfl⟩
      rw [Nat.min_comm]
      simp only [Builtin.firstCells]
      exact run_loadCells' g2 (by rw [← g1.length, hxl])
    | slice0 a hφ =>
      have : xs = [] := List.eq_nil_of_length_eq_zero (by rw [hxl]; simp)
      subst this
      exact ⟨[], by simp [Builtin.firstCells, loadCells, loadCellsFrom], .nil, rfl⟩
  obtain ⟨ys, f1, f2, f3⟩ := first
  cases h1 with
  | slice hφ k1 k2 =>
    obtain ⟨w', g1, g2⟩ := hst hw hφ f2
    refine done w' ?_ g2
    rw [hlen _ _ l2 w f3 _ _ _ rfl, f1]
    simp only [Result.andThen_ok, g1, Nat.min_comm]
  | slice0 a hφ =>
    have : xs = [] := List.eq_nil_of_length_eq_zero (by rw [hxl]; simp)
    subst this
    cases f2
    obtain ⟨rb, δ, S⟩ := ‹Nat × Nat × Nat›
    obtain ⟨w', g1, g2⟩ := hst hw hφ .nil
    have hw' : w' = w := by
      simp only [storeCells, Sem.run_pure, Result.ok.injEq, true_and] at g1
      exact g1.symm
    subst hw'
    refine done w' ?_ g2
    rw [hlen _ _ l2 w' f3 _ _ _ rfl, f1]
    simp [storeCells]
theorem xCallF_sound (hC : CallSound P C) (c : Call) (f : FuncId) (as : List Opd) (hc : c.callee = .value (.func f)) (ha : cOpds c.args.toList = some as) : OpSound P C (.call c) (xCallF f as) := fun T s K h => by
  obtain ⟨v, s', h1, h2, h3⟩ := hC.fn _ _ _ _ h
  refine ⟨v, s', h1, h2, fun {w0 φ w ρ} o ho hf hw hρ => ?_⟩
  have hargs := call_args ha hρ
  have hfn := hρ (.func f) (by simp [Op.operands, Call.operands, hc]) _ rfl
  generalize hvf : ρ (.func f) = vf at hfn
  obtain ⟨dst, op, ty, pos, after, guard⟩ := o; simp only at ho; subst ho
  have hfn : VR φ (.func (.func f) [] []) vf := hfn
  cases hfn with
  | func g1 g2 =>
    cases g1; cases g2
    have := h3 hf hw hargs
    have e : (execOp ρ { dst := dst, op := .call c, type := ty, pos := pos, after := after, guard := guard }).run P w = (callFunc f (c.args.map ρ)).run P w := by
      simp only [execOp, resolve, hc, hvf, Deferred.ofValue, Sem.run_bind, Sem.run_pure, Result.andThen_ok, invoke]
      congr 2
      apply Array.ext'; simp
    rw [e]
    rw [Array.toArray_toList] at this
    exact this
theorem xCall_sound (hC : CallSound P C) (c : Call) (x : Operand) (p : Opd) (as : List Opd) (hc : c.callee = .value x) (hp : cOpd x = some p) (ha : cOpds c.args.toList = some as) : OpSound P C (.call c) (xCall p as) := fun T s K h => by
  rcases asCall_ok h with ⟨fn, a, cp, hx, h0⟩ | ⟨k, hx, h0⟩
  · cases fn with
    | func f =>
      have h0 : C (.fn f) (appN a (appN (opds T as) cp)) s K = true := h0
      rw [appN_eq, appN_eq] at h0
      obtain ⟨v, s', h1, h2, h3⟩ := hC.fn _ _ _ _ h0
      refine ⟨v, s', h1, h2, fun {w0 φ w ρ} o ho hf hw hρ => ?_⟩
      have hargs := call_args ha hρ
      have hfn := hρ x (by simp [Op.operands, Call.operands, hc]) p hp
      rw [hx] at hfn
      generalize hvf : ρ x = vf at hfn
      obtain ⟨dst, op, ty, pos, after, guard⟩ := o; simp only at ho; subst ho
      cases hfn with
      | func g1 g2 =>
        rename_i fs ca
        have := h3 hf hw (g1.append (hargs.append g2))
        have e : (execOp ρ { dst := dst, op := .call c, type := ty, pos := pos, after := after, guard := guard }).run P w = (callFunc f (fs ++ ((c.args.map ρ).toList ++ ca)).toArray).run P w := by
          simp only [execOp, resolve, hc, hvf, Deferred.ofValue, Sem.run_bind, Sem.run_pure, Result.andThen_ok, invoke]
          congr 2
          apply Array.ext'; simp
        rw [e]
        exact this
    | _ => exact absurd (show false = true from h0) (by decide)
  · obtain ⟨v, s', h1, h2, h3⟩ := hC.yld _ _ _ _ h0
    refine ⟨v, s', h1, h2, fun {w0 φ w ρ} o ho hf hw hρ => ?_⟩
    have hargs := call_args ha hρ
    have hfn := hρ x (by simp [Op.operands, Call.operands, hc]) p hp
    rw [hx] at hfn
    generalize hvf : ρ x = vf at hfn
    obtain ⟨dst, op, ty, pos, after, guard⟩ := o; simp only at ho; subst ho
    cases hfn with
    | yld hk =>
      rename_i l q
      have := h3 hk hf hw hargs
      have e : (execOp ρ { dst := dst, op := .call c, type := ty, pos := pos, after := after, guard := guard }).run P w = (Instr.yield l (c.args.map ρ)).run P w := by
        simp [execOp, resolve, hc, hvf, Deferred.ofValue, Sem.run_bind, Sem.run_pure, Result.andThen_ok, invoke]
      rw [e]
      rw [Array.toArray_toList] at this
      exact this

theorem methB_ok {name : String} {t : TypeId} {f : Nat} (h : methB P name t = some f) (v : Value) (w : World) : (method (P.types.size + Made.depth) t v name).run P w = .ok (f, v) w := by
  unfold methB at h
  split at h
  · rename_i i hi
    split at h
    · rename_i m hm
      have hfuel : ∃ k, P.types.size + Made.depth = k + 1 := ⟨P.types.size + Made.depth - 1, by have h0 : 0 < Made.depth := (by decide); omega⟩
      obtain ⟨k, hk⟩ := hfuel
      rw [hk]
      unfold method
      simp only [typeInfo, Sem.run_bind, run_program, Result.andThen_ok, hi, Sem.run_pure, hm]
      split at h
      · rename_i hp hf hu
        cases h
        simp only [hp, follow, Sem.run_bind, Sem.run_pure, Result.andThen_ok, hf, receiverAt, run_underlying' hu, Place.get]
      · cases h
      · rename_i d hne hp hf hu
        cases h
        have hnp : ∀ e, d ≠ .pointer e := by
          intro e he
          subst he
          simp_all
        simp only [hp, follow, Sem.run_bind, Sem.run_pure, Result.andThen_ok, hf, receiverAt, run_underlying' hu, Place.get]
      · cases h
    · cases h
  · cases h
theorem xInvoke_sound (hC : CallSound P C) (c : Call) (x : Operand) (name : String) (p : Opd) (as : List Opd) (hc : c.callee = .invoke x name) (hp : cOpd x = some p) (ha : cOpds c.args.toList = some as) : OpSound P C (.call c) (xInvoke (methB P name) p as) := fun T s K h => by
  cases hx : p.run T with
  | iface t v =>
    unfold xInvoke at h
    rw [hx] at h
    obtain ⟨f, hm, h⟩ := oR_ok (show oR (methB P name t) (fun f => C (.fn f) (v :: opds T as) s K) = true from h)
    obtain ⟨v', s', h1, h2, h3⟩ := hC.fn _ _ _ _ h
    refine ⟨v', s', h1, h2, fun {w0 φ w ρ} o ho hf hw hρ => ?_⟩
    have hargs := call_args ha hρ
    have hfn := hρ x (by simp [Op.operands, Call.operands, hc]) p hp
    rw [hx] at hfn
    generalize hvf : ρ x = vf at hfn
    obtain ⟨dst, op, ty, pos, after, guard⟩ := o; simp only at ho; subst ho
    cases hfn with
    | iface hv =>
      rename_i rv
      have := h3 hf hw (.cons hv hargs)
      have e0 : (#[Value.iface t rv] ++ c.args.map ρ)[0]? = some (Value.iface t rv) := by rw [Array.getElem?_append_left (by simp)]; rfl
      have e1 : (#[Value.iface t rv] ++ c.args.map ρ).extract 1 (#[Value.iface t rv] ++ c.args.map ρ).size = c.args.map ρ := by
        rw [Array.extract_append]; simp
      have e : (execOp ρ { dst := dst, op := .call c, type := ty, pos := pos, after := after, guard := guard }).run P w = (callFunc f (rv :: (c.args.map ρ).toList).toArray).run P w := by
        simp only [execOp, resolve, hc, hvf, Sem.run_bind, Sem.run_pure, Result.andThen_ok, invoke, e0, e1, callMethod, run_program, methB_ok hm]
        congr 2
        apply Array.ext'; simp
      rw [e]
      exact this
  | _ => unfold xInvoke at h; rw [hx] at h; exact absurd (show false = true from h) (by decide)

theorem part1_sound {op : Op} {t : TypeId} {n1 : POp} {nN : Nat → POp} (h1 : isAggT P t = some false → OpSound P C op n1.run) (h2 : ∀ n, isAggT P t = some true → sizeP P t = some n → OpSound P C op (nN n).run) : OpSound P C op (cPart1 P t n1 nN).run := by
  unfold cPart1
  split
  · exact h2 _ ‹_› ‹_›
  · exact h1 ‹_›
  · exact bad_sound
theorem withD_sound {op : Op} {t : TypeId} {f : TypeDesc → POp} (h : ∀ d, P.underlying t = some d → OpSound P C op (f d).run) : OpSound P C op (withD P t f).run := by
  unfold withD
  split
  · exact h _ ‹_›
  · exact bad_sound
theorem elemT_ok {t e : TypeId} (h : elemT P t = some e) : P.underlying t = some (.slice e) := by
  unfold elemT at h
  split at h
  · cases h; assumption
  · cases h
theorem cCall_sound (hC : CallSound P C) (c : Call) : OpSound P C (.call c) (cCall P c).run := by
  unfold cCall
  split
  · exact xCallF_sound hC c _ _ ‹_› ‹_›
  · exact op1_sound fun p hp => xInvoke_sound hC c _ _ p _ ‹_› hp ‹_›
  · split
    · exact bad_sound
    · split
      · exact cap_sound c _ _ _ ‹_› ‹_› ‹_› ‹_›
      · exact bad_sound
  · split
    · exact bad_sound
    · split
      · unfold cClear
        split
        · rename_i i z hi hz
          cases h1 : Nat.beq (lenN z) i.size with
          | false => exact bad_sound
          | true => cases h2 : Nat.ble 1 i.size with
            | false => exact bad_sound
            | true => exact clear_sound c _ _ _ i z ‹_› ‹_› ‹_› ‹_› hi hz (Nat.eq_of_beq_eq_true h1) (Nat.le_of_ble_eq_true h2)
        · exact bad_sound
      · exact bad_sound
  · exact op1_sound fun p hp => xCall_sound hC c _ p _ ‹_› hp ‹_›
  · split
    · exact bad_sound
    · split
      · exact lenA_sound c _ _ _ _ ‹_› ‹_› ‹_› ‹_›
      · exact len_sound c _ _ _ ‹_› ‹_› ‹_› ‹_›
      · exact lenS_sound c _ _ ‹_› ‹_› ‹_› ‹_›
      · exact lenM_sound c _ _ _ _ ‹_› ‹_› ‹_› ‹_›
      · exact bad_sound
  · split
    · rename_i t u hts
      split
      · rename_i e ht hb
        split
        · rename_i i z hi hz
          cases h1 : Nat.beq (lenN z) i.size with
          | false => exact bad_sound
          | true => cases h2 : Nat.blt i.bytes 1000000 with
            | false => exact bad_sound
            | true =>
              show OpSound P C _ (match i.size with | 0 => bad | n + 1 => (⟨xAppend (n + 1) _ _⟩ : POp)).run
              split
              · exact bad_sound
              · rename_i n hn
                have htu := Nat.eq_of_beq_eq_true hb
                subst htu
                exact append_sound c _ _ t e i z n ‹_› ‹_› hts ht hi hz (Nat.eq_of_beq_eq_true h1) (Nat.le_of_ble_eq_true h2) hn
        · exact bad_sound
      · rename_i u' e ht hb
        unfold cAppendZ
        split
        · rename_i i z hi hz
          cases h0 : isIntT P _ with
          | false => exact bad_sound
          | true => cases h1 : Nat.beq (lenN z) i.size with
            | false => exact bad_sound
            | true => cases h2 : Nat.blt i.bytes 1000000 with
              | false => exact bad_sound
              | true => cases h3 : Nat.ble 1 i.size with
                | false => exact bad_sound
                | true => exact appendZ_sound c _ _ t _ _ i z ‹_› ‹_› hts ht h0 hi hz (Nat.eq_of_beq_eq_true h1) (Nat.le_of_ble_eq_true h2) (Nat.le_of_ble_eq_true h3)
        · exact bad_sound
      · exact bad_sound
    · exact bad_sound
  · split
    · exact bad_sound
    · split
      · split
        · exact copy_sound c _ _ _ _ _ ‹_› ‹_› ‹_› ‹_› ‹_›
        · exact bad_sound
      · exact bad_sound
  · exact min_sound c _ _ ‹_› ‹_›
  · exact max_sound c _ _ ‹_› ‹_›
  · exact mm_sound false c _ _ ‹_› ‹_›
  · exact mm_sound true c _ _ ‹_› ‹_›
  · exact bad_sound
theorem cOp_sound (hC : CallSound P C) (op : Op) : OpSound P C op (cOp P op).run := by
  unfold cOp
  split
  · exact op1_sound fun p hp => move_sound _ p hp
  · exact op1_sound fun p hp => assign_sound _ p hp
  · split
    · exact pick_sound _ _ _ _ _ _ ‹_› ‹_› ‹_›
    · exact bad_sound
  · split
    · exact alloc_sound _ _ ‹_›
    · exact bad_sound
  · exact op1_sound fun p hp => box_sound _ _ p hp
  · split
    · exact withD_sound fun d hd => build_sound _ d _ _ ‹_› hd
    · exact bad_sound
  · split
    · exact buildSlice_sound _ _ _ _ (elemT_ok ‹_›)
    · exact bad_sound
  · unfold cLoad
    split
    · exact op1_sound fun p hp => loadN_sound _ _ _ p hp ‹_› ‹_›
    · exact op1_sound fun p hp => load1_sound _ _ p hp ‹_›
    · exact bad_sound
  · split
    · exact op2_sound fun p q hp hq => store_sound _ _ _ _ p q hp hq ‹_›
    · exact bad_sound
  · exact op1_sound fun p hp => nilCheck_sound _ p hp
  · exact op2_sound fun p q hp hq => bin_sound _ _ _ _ _ p q hp hq
  · exact op1_sound fun p hp => un_sound _ _ _ p hp
  · split
    · exact op1_sound fun p hp => conv_sound _ _ _ _ _ p hp ‹_› ‹_›
    · exact bad_sound
  · refine withD_sound fun d hd => ?_
    split
    · exact bad_sound
    · rename_i hne
      exact op1_sound fun p hp => iface_sound _ _ _ p hp hd fun ms e => hne ms e
  · split
    · exact func_sound _ _ _ _ _ ‹_› ‹_›
    · exact bad_sound
  · split
    · rename_i e he
      unfold cMake
      split
      · rename_i i z hi hz
        cases h1 : Nat.beq (lenN z) i.size with
        | false => exact bad_sound
        | true => cases h2 : Nat.ble 1 i.size with
          | false => exact bad_sound
          | true => cases h3 : Nat.blt i.bytes 1000000 with
            | false => exact bad_sound
            | true => exact op2_sound fun p q hp hq => make_sound _ e i z _ _ p q hp hq (elemT_ok he) hi hz (Nat.eq_of_beq_eq_true h1) (Nat.le_of_ble_eq_true h2) (Nat.le_of_ble_eq_true h3)
      · exact bad_sound
    · exact bad_sound
  · refine withD_sound fun d hd => ?_
    split
    · unfold cSliceS
      split
      · exact sliceS_sound _ _ _ _ _ _ _ ‹_› ‹_› ‹_› hd
      · exact bad_sound
    unfold cSlice
    split
    · split
      · split
        · exact slice_sound _ _ _ _ _ _ _ _ _ ‹_› ‹_› ‹_› hd ‹_›
        · exact bad_sound
      · split
        · exact sliceA_sound _ _ _ _ _ _ _ _ _ _ ‹_› ‹_› ‹_› hd ‹_›
        · exact bad_sound
      · exact bad_sound
    · exact bad_sound
  · split
    · unfold cSlice3
      split
      · exact slice3_sound _ _ _ _ _ _ _ _ _ _ _ ‹_› ‹_› ‹_› ‹_› (elemT_ok ‹_›) ‹_›
      · exact bad_sound
    · exact bad_sound
  · refine withD_sound fun d hd => ?_
    unfold cFieldAddr
    split
    · split
      · split
        · exact op1_sound fun p hp => addr_sound _ _ _ _ _ _ p hp hd ‹_› ‹_›
        · exact bad_sound
      · exact bad_sound
    · exact bad_sound
  · refine withD_sound fun d hd => ?_
    unfold cField
    split
    · split
      · exact part1_sound (fun h => op1_sound fun p hp => field1_sound _ _ _ _ _ p hp hd ‹_› h) fun n h1 h2 => op1_sound fun p hp => fieldN_sound _ _ _ _ _ _ p hp hd ‹_› h1 h2
      · exact bad_sound
    · exact bad_sound
  · refine withD_sound fun d hd => ?_
    unfold cIndexAddr
    split
    · split
      · exact op2_sound fun p q hp hq => idxA_sound _ _ _ _ _ _ p q hp hq hd ‹_›
      · exact bad_sound
    · split
      · exact op2_sound fun p q hp hq => idxS_sound _ _ _ _ _ p q hp hq hd ‹_›
      · exact bad_sound
    · exact bad_sound
  · refine withD_sound fun d hd => ?_
    unfold cIndex
    split
    · split
      · exact part1_sound (fun h => op2_sound fun p q hp hq => at1_sound _ _ _ _ _ _ p q hp hq hd ‹_› h) fun n h1 h2 => op2_sound fun p q hp hq => atN_sound _ _ _ _ _ _ p q hp hq hd ‹_› h1
      · exact bad_sound
    · exact op2_sound fun p q hp hq => atS_sound _ _ _ p q hp hq hd
    · exact bad_sound
  · exact op1_sound fun p hp => extract_sound _ _ p hp
  · split
    · exact op1_sound fun p hp => sl2arr_sound _ _ _ _ p hp ‹_›
    · exact bad_sound
  · unfold cMakeMap
    cases hm : isMapT P _ with
    | false => exact bad_sound
    | true =>
      show OpSound P C _ (match optO _ with | some r => (⟨xMakeMap r⟩ : POp) | none => bad).run
      split
      · exact makeMap_sound _ _ _ ‹_› hm
      · exact bad_sound
  · unfold cLookup
    split
    · exact op2_sound fun p q hp hq => lookup_sound _ _ _ _ _ _ p q hp hq ‹_›
    · exact bad_sound
  · unfold cUpdate
    split
    · exact update_sound _ _ _ _ _ (.inl rfl) _ _ _ _ _ ‹_› ‹_› ‹_› ‹_›
    · exact bad_sound
  · unfold cUpdate
    split
    · exact update_sound _ _ _ _ _ (.inr rfl) _ _ _ _ _ ‹_› ‹_› ‹_› ‹_›
    · exact bad_sound
  · exact cCall_sound hC _
  · exact bad_sound
end
end Go.Ev
