/- Slices with three indexes, strings, cap, clear, methods of interface values. -/
import Derived.Test.YtiadfbpbeaeflaaDoorEvSM
namespace Go.Ev
open Go.RowKit (Below)
section
variable {P : Program} {C : CallK}
theorem run_bounds3 {len cap l h m : Nat} {lo : Option Value} {k1 k2 : IntKind} {w : World} (hl : (lo = none ∧ l = 0) ∨ ∃ k, lo = some (.int k (l : Nat)))
    (h1 : l ≤ h) (h2 : h ≤ m) (h3 : m ≤ cap) : (Instr.sliceBounds true len cap lo (some (.int k1 (h : Nat))) (some (.int k2 (m : Nat)))).run P w = .ok (l, h, m) w := by
  have hb : ∀ (k : IntKind) (n y : Nat) (c : BoundsCode), n ≤ y → (Instr.sliceBound (.int k (n : Nat)) y c).run P w = .ok n w := by
    intro k n y c hn
    have : (0 : Int) ≤ (n : Int) ∧ (n : Int) ≤ (y : Int) := ⟨by omega, by omega⟩
    simp only [Instr.sliceBound, Sem.run_bind, Go.asIntOf, Sem.run_pure, Result.andThen_ok, if_pos this, Int.toNat_natCast]
  rcases hl with ⟨rfl, rfl⟩ | ⟨k, rfl⟩ <;>
    simp only [Instr.sliceBounds, Sem.run_bind, Sem.run_pure, Result.andThen_ok, hb _ _ _ _ h1, hb _ _ _ _ h2, hb _ _ _ _ h3]
theorem emptyCols_len : ∀ {l : List Col}, ∀ c ∈ emptyCols l, c.len = 0
  | [], c, h => by cases h
  | d :: l, c, h => by
    cases d with
    | i k lo hi x =>
      have h : c ∈ Col.i k lo hi [] :: emptyCols l := h
      rcases List.mem_cons.1 h with rfl | h
      · rfl
      · exact emptyCols_len c h
    | b x =>
      have h : c ∈ Col.b [] :: emptyCols l := h
      rcases List.mem_cons.1 h with rfl | h
      · rfl
      · exact emptyCols_len c h
theorem zero3_ok {T : Tr EV} {l : Option Opd} {h m : Opd} {K : Ans} (g : zero3 T l h m K = true) : ((l = none ∧ 0 = 0) ∨ ∃ p k, l = some p ∧ p.run T = .int k ((0 : Nat) : Nat)) ∧ (∃ k, h.run T = .int k ((0 : Nat) : Nat)) ∧ (∃ k, m.run T = .int k ((0 : Nat) : Nat)) ∧ K = true := by
  obtain ⟨a, g, h1⟩ := bound_ok g
  obtain ⟨b, g, h2⟩ := bound_ok g
  obtain ⟨c, g, h3⟩ := bound_ok g
  obtain ⟨e1, g⟩ := guard_ok g
  obtain ⟨e2, g⟩ := guard_ok g
  obtain ⟨e3, g⟩ := guard_ok g
  have e1 := Nat.eq_of_beq_eq_true e1
  have e2 := Nat.eq_of_beq_eq_true e2
  have e3 := Nat.eq_of_beq_eq_true e3
  subst e1; subst e2; subst e3
  refine ⟨h1, ?_, ?_, g⟩
  · rcases h2 with ⟨h, _⟩ | ⟨p', k, h, hv⟩
    · cases h
    · cases h; exact ⟨k, hv⟩
  · rcases h3 with ⟨h, _⟩ | ⟨p', k, h, hv⟩
    · cases h
    · cases h; exact ⟨k, hv⟩
theorem some3_ok {T : Tr EV} {φ : Phi} {p : Opd} {v : Value} (h : ∃ k, p.run T = .int k ((0 : Nat) : Nat)) (g : VR φ (p.run T) v) : ∃ k, v = .int k ((0 : Nat) : Nat) := by
  obtain ⟨k, h⟩ := h
  rw [h] at g
  cases g; exact ⟨k, rfl⟩
theorem slice3_sound (t e : TypeId) (sz : Nat) (x : Operand) (lo : Option Operand) (hi mx : Operand) (p : Opd) (l : Option Opd) (ph pm : Opd) (hp : cOpd x = some p) (hl : optO lo = some l) (hh : cOpd hi = some ph) (hm : cOpd mx = some pm)
    (ht : P.underlying t = some (.slice e)) (hn : sizeP P e = some sz) : OpSound P C (.slice t x lo (some hi) (some mx)) (xSlice3 sz p l ph pm) := fun T s K hrun => by
  rcases asSl2_ok hrun with ⟨hx, h1⟩ | ⟨b, o, len, z, hx, h1⟩ | ⟨b, o, len, z, mx', hx, h1⟩
  · obtain ⟨ha, hc, hmm, h1⟩ := zero3_ok h1
    refine still h1 fun w0 φ w ρ o' ho _ hρ => ?_
    obtain ⟨dst', op', ty, pos, after, guard⟩ := o'; simp only at ho; subst ho
    have hlo := optO_ok (T := T) (φ := φ) (ρ := ρ) hl (fun z hz => hρ z (by simp [Op.operands, hz])) ha
    obtain ⟨k1, hhi⟩ := some3_ok (φ := φ) hc (hρ hi (by simp [Op.operands]) _ hh)
    obtain ⟨k2, hmx⟩ := some3_ok (φ := φ) hmm (hρ mx (by simp [Op.operands]) _ hm)
    have h5 := hρ x (by simp [Op.operands]) p hp
    rw [hx] at h5
    generalize hvx : ρ x = vx at h5
    cases h5
    have hrb := run_bounds3 (P := P) (k1 := k1) (k2 := k2) (w := w) (len := 0) (cap := 0) hlo (Nat.le_refl 0) (Nat.le_refl 0) (Nat.le_refl 0)
    refine ⟨.slice none 0 0, ?_, .nils⟩
    simp only [execOp, Instr.sliceAt, Instr.slice, hvx, hhi, hmx, Sem.run_bind, run_underlying' ht, Result.andThen_ok, Option.map_some, hrb, run_sizeOf hn, Sem.run_pure, if_true, Nat.sub_self]
  · obtain ⟨hz, h1⟩ := guard_ok h1
    have hz := Nat.eq_of_beq_eq_true hz
    subst hz
    obtain ⟨a, h1, ha⟩ := bound_ok h1
    obtain ⟨c, h1, hc⟩ := bound_ok h1
    obtain ⟨m, h1, hmm⟩ := bound_ok h1
    obtain ⟨h2, h1⟩ := guard_ok h1
    obtain ⟨h3, h1⟩ := guard_ok h1
    have h2 := Nat.le_of_ble_eq_true h2
    have h3 := Nat.le_of_ble_eq_true h3
    obtain ⟨hac, hcl, h1⟩ := sliceK_ok h1
    refine still h1 fun w0 φ w ρ o' ho _ hρ => ?_
    obtain ⟨dst', op', ty, pos, after, guard⟩ := o'; simp only at ho; subst ho
    have hlo := optO_ok (T := T) (φ := φ) (ρ := ρ) hl (fun z hz => hρ z (by simp [Op.operands, hz])) ha
    have hhi : ∃ k, ρ hi = .int k (c : Nat) := by
      rcases hc with ⟨h, _⟩ | ⟨p', k, h, hv⟩
      · cases h
      · cases h
        have := hρ hi (by simp [Op.operands]) _ hh
        rw [hv] at this
        generalize ρ hi = v at this
        cases this; exact ⟨k, rfl⟩
    have hmx : ∃ k, ρ mx = .int k (m : Nat) := by
      rcases hmm with ⟨h, _⟩ | ⟨p', k, h, hv⟩
      · cases h
      · cases h
        have := hρ mx (by simp [Op.operands]) _ hm
        rw [hv] at this
        generalize ρ mx = v at this
        cases this; exact ⟨k, rfl⟩
    obtain ⟨k1, hhi⟩ := hhi
    obtain ⟨k2, hmx⟩ := hmx
    have h5 := hρ x (by simp [Op.operands]) p hp
    rw [hx] at h5
    generalize hvx : ρ x = vx at h5
    cases h5 with
    | slice hφ g1 g2 =>
      rename_i rb δ S cap
      have hrb := run_bounds3 (P := P) (k1 := k1) (k2 := k2) (w := w) (len := len) (cap := cap) hlo hac h3 (by omega)
      by_cases hcap : m = a
      · have e0 : c - a = 0 := by omega
        refine ⟨.slice (some ⟨rb, δ + o, none⟩) 0 0, ?_, ?_⟩
        · simp only [execOp, Instr.sliceAt, Instr.slice, hvx, hhi, hmx, Sem.run_bind, run_underlying' ht, Result.andThen_ok, Option.map_some, hrb, run_sizeOf hn, Sem.run_pure, if_pos hcap]
          simp [e0]; omega
        · rw [e0]; exact .slice0 _ hφ
      · refine ⟨.slice (some ⟨rb, δ + (o + a * z), none⟩) (c - a) (m - a), ?_, ?_⟩
        · simp only [execOp, Instr.sliceAt, Instr.slice, hvx, hhi, hmx, Sem.run_bind, run_underlying' ht, Result.andThen_ok, Option.map_some, hrb, run_sizeOf hn, Sem.run_pure, if_neg hcap, addr_add, Nat.add_assoc]
        · refine .slice hφ (by omega) ?_
          have : a * z + (m - a) * z = m * z := by rw [← Nat.add_mul]; congr 1; omega
          have hmc : m * z ≤ cap * z := Nat.mul_le_mul_right z (by omega)
          omega
    | slice0 a' hφ =>
      have e1 : a = 0 := by omega
      have e2 : c = 0 := by omega
      have e3 : m = 0 := by omega
      subst e1; subst e2; subst e3
      have hrb := run_bounds3 (P := P) (k1 := k1) (k2 := k2) (w := w) (len := 0) (cap := 0) hlo hac h3 (by omega)
      refine ⟨.slice (some a') 0 0, ?_, .slice0 a' hφ⟩
      simp only [execOp, Instr.sliceAt, Instr.slice, hvx, hhi, hmx, Sem.run_bind, run_underlying' ht, Result.andThen_ok, Option.map_some, hrb, run_sizeOf hn, Sem.run_pure, if_true, Nat.sub_self]
  · obtain ⟨hz, h2⟩ := guard_ok h1
    have hz := Nat.eq_of_beq_eq_true hz
    obtain ⟨ha, hc, hmm, h3⟩ := zero3_ok h2
    obtain ⟨k, h4, _⟩ := look_ok h3
    obtain ⟨cols, h6, _⟩ := absB_ok h4
    obtain ⟨hne, h7⟩ := guard_ok (show guardB (notB (nilB (emptyCols cols))) _ = true from h6)
    rw [Tr.setC_eq, incC_eq] at h7
    clear h1 h2 h3 h4 h6
    have h1 := h7
    clear h7
    subst hz
    refine ⟨_, _, h1, by show val s.c ≤ val (inc s.c); rw [val_inc]; omega, fun {w0 φ w ρ} o' ho hf hw hρ => ?_⟩
    have hfree : φ s.c = none := hf.2 s.c (Nat.le_refl _) (by show val s.c < val (inc s.c); rw [val_inc]; omega)
    obtain ⟨dst', op', ty, pos, after, guard⟩ := o'; simp only at ho; subst ho
    have hlo := optO_ok (T := T) (φ := φ) (ρ := ρ) hl (fun z hz => hρ z (by simp [Op.operands, hz])) ha
    obtain ⟨k1, hhi⟩ := some3_ok (φ := φ) hc (hρ hi (by simp [Op.operands]) _ hh)
    obtain ⟨k2, hmx⟩ := some3_ok (φ := φ) hmm (hρ mx (by simp [Op.operands]) _ hm)
    have h5 := hρ x (by simp [Op.operands]) p hp
    rw [hx] at h5
    generalize hvx : ρ x = vx at h5
    have hst := Step.put (φ := φ) (0, 0, 0) hfree
    have fin : ∀ a : Option Addr, (execOp ρ ⟨dst', .slice t x lo (some hi) (some mx), ty, pos, after, guard⟩).run P w = .ok (.value (.slice a 0 0)) w →
        NextRun P ((execOp ρ ⟨dst', .slice t x lo (some hi) (some mx), ty, pos, after, guard⟩).run P w) (Snd s ⟨inc s.c, Tr.set (some ⟨.nil, Nat.mul 0 z, none, emptyCols cols, false⟩) s.c s.L, s.R, s.J⟩ φ w0 (.aslice s.c 0 0 z 1000000)) := fun a hr => by
      rw [hr]
      exact ⟨φ.put s.c (0, 0, 0), hst, .aslice0 (p := (0, 0, 0)) a (by simp [Phi.put]), addWR hw hfree (Below.refl _ _) (.inl ⟨⟨nilB_f (notB_ok hne), Nat.zero_mul z, emptyCols_len⟩, rfl⟩)⟩
    cases h5 with
    | aslice hφ g1 g2 g3 =>
      rename_i rb δ S cap
      have hrb := run_bounds3 (P := P) (k1 := k1) (k2 := k2) (w := w) (len := len) (cap := cap) hlo (Nat.le_refl 0) (Nat.le_refl 0) (Nat.zero_le _)
      refine fin (some ⟨rb, δ + o * z, none⟩) ?_
      simp only [execOp, Instr.sliceAt, Instr.slice, hvx, hhi, hmx, Sem.run_bind, run_underlying' ht, Result.andThen_ok, Option.map_some, hrb, run_sizeOf hn, Sem.run_pure, if_true, Nat.sub_self]
    | aslice0 a hφ =>
      cases a with
      | none =>
        have hrb := run_bounds3 (P := P) (k1 := k1) (k2 := k2) (w := w) (len := 0) (cap := 0) hlo (Nat.le_refl 0) (Nat.le_refl 0) (Nat.le_refl 0)
        refine fin none ?_
        simp only [execOp, Instr.sliceAt, Instr.slice, hvx, hhi, hmx, Sem.run_bind, run_underlying' ht, Result.andThen_ok, Option.map_some, hrb, run_sizeOf hn, Sem.run_pure, if_true, Nat.sub_self]
      | some a =>
        have hrb := run_bounds3 (P := P) (k1 := k1) (k2 := k2) (w := w) (len := 0) (cap := 0) hlo (Nat.le_refl 0) (Nat.le_refl 0) (Nat.le_refl 0)
        refine fin (some a) ?_
        simp only [execOp, Instr.sliceAt, Instr.slice, hvx, hhi, hmx, Sem.run_bind, run_underlying' ht, Result.andThen_ok, Option.map_some, hrb, run_sizeOf hn, Sem.run_pure, if_true, Nat.sub_self]
theorem run_boundsS {len l h : Nat} {lo hi : Option Value} {w : World} (hl : (lo = none ∧ l = 0) ∨ ∃ k, lo = some (.int k (l : Nat))) (hh : (hi = none ∧ h = len) ∨ ∃ k, hi = some (.int k (h : Nat)))
    (h1 : l ≤ h) (h2 : h ≤ len) : (Instr.sliceBounds false len len lo hi none).run P w = .ok (l, h, len) w := run_bounds hl hh h1 h2
theorem sliceS_sound (t : TypeId) (x : Operand) (lo hi : Option Operand) (p : Opd) (l h : Option Opd) (hp : cOpd x = some p) (hl : optO lo = some l) (hh : optO hi = some h) (ht : P.underlying t = some .string) :
    OpSound P C (.slice t x lo hi none) (xSliceS p l h) := fun T s K hrun => by
  obtain ⟨a, hx, h1⟩ := asStr_ok hrun
  obtain ⟨l', h1, ha⟩ := bound_ok h1
  obtain ⟨h', h1, hc⟩ := bound_ok h1
  obtain ⟨e1, h1⟩ := guard_ok h1
  obtain ⟨e2, h1⟩ := guard_ok h1
  have e1 := Nat.le_of_ble_eq_true e1
  have e2 := Nat.le_of_ble_eq_true e2
  refine still h1 fun w0 φ w ρ o' ho _ hρ => ?_
  obtain ⟨dst', op', ty, pos, after, guard⟩ := o'; simp only at ho; subst ho
  have hlo := optO_ok (T := T) (φ := φ) (ρ := ρ) hl (fun z hz => hρ z (by simp [Op.operands, hz])) ha
  have hhi := optO_ok (T := T) (φ := φ) (ρ := ρ) hh (fun z hz => hρ z (by simp [Op.operands, hz])) hc
  have h5 := hρ x (by simp [Op.operands]) p hp
  rw [hx] at h5
  generalize hvx : ρ x = vx at h5
  cases h5
  have hrb := run_boundsS (P := P) (w := w) hlo hhi e1 e2
  refine ⟨.string (a.extract l' h'), ?_, .str _⟩
  simp only [execOp, Instr.sliceAt, Instr.slice, hvx, Sem.run_bind, run_underlying' ht, Result.andThen_ok, Option.map_none, Option.isSome_none, Bool.false_eq_true, if_false, Sem.run_pure, hrb]
theorem cap_sound (c : Call) (p : Opd) (t e : TypeId) (hc : c.callee = .builtin .cap) (ha : cOpds c.args.toList = some [p]) (ht : c.argTypes[0]? = some t) (hu : P.underlying t = some (.slice e)) : OpSound P C (.call c) (xCap p) := fun T s K h => by
  rcases asSlice_ok h with ⟨hx, h1⟩ | ⟨_, _, _, _, _, h1⟩
  · refine still h1 fun w0 φ w ρ o' ho _ hρ => ?_
    obtain ⟨cs, hr⟩ := run_builtin (P := P) hc (ρ := ρ) ho (w := w)
    obtain ⟨a', e, h2⟩ := one_arg (call_args ha hρ)
    have h2 : VR φ (p.run T) a' := h2
    rw [hx] at h2
    cases h2
    refine ⟨_, ?_, .int .i64 _⟩
    rw [hr, e]
    simp [builtin, Builtin.cap_, ht, run_underlying' hu, goInt]
  · exact absurd h1 (by decide)
theorem clear_sound (c : Call) (p : Opd) (t e : TypeId) (i : TypeInfo) (z : List EV) (hc : c.callee = .builtin .clear) (ha : cOpds c.args.toList = some [p]) (ht : c.argTypes[0]? = some t) (hu : P.underlying t = some (.slice e))
    (hi : P.info? e = some i) (hz : zeroT P e = some z) (hzl : lenN z = i.size) (hsz : 1 ≤ i.size) : OpSound P C (.call c) (xClear z i.size p) := fun T s K h => by
  obtain ⟨i', zv, hi', hzv, hzs⟩ := zeroT_ok hz
  rw [hi] at hi'; cases hi'
  rw [lenN_eq] at hzl
  have nothing : ∀ {w : World} {ρ : Operand → Value} {o' : Oper} {a : Option Addr} {d cp : Nat}, o'.op = .call c → c.args.map ρ = #[.slice a d cp] → (a = none ∨ d = 0) → (execOp ρ o').run P w = .ok (.value (.tuple #[])) w := by
    intro w ρ o' a d cp ho e hd
    obtain ⟨cs, hr⟩ := run_builtin (P := P) hc (ρ := ρ) ho (w := w)
    rw [hr, e]
    rcases hd with rfl | rfl
    · simp [builtin, Builtin.clear_, ht, run_underlying' hu]
    · cases a <;> simp [builtin, Builtin.clear_, ht, run_underlying' hu]
  rcases asSlice_ok h with ⟨hx, h1⟩ | ⟨b, o, len, z', hx, h1⟩
  · refine still h1 fun w0 φ w ρ o' ho _ hρ => ?_
    obtain ⟨a', e, h2⟩ := one_arg (call_args ha hρ)
    have h2 : VR φ (p.run T) a' := h2
    rw [hx] at h2
    cases h2
    exact ⟨_, nothing ho e (.inl rfl), VR.tuple (cs' := []) .nil⟩
  · obtain ⟨hz', h2⟩ := guard_ok h1
    have hz' := Nat.eq_of_beq_eq_true hz'
    subst hz'
    have h1 : bR (Nat.beq len 0) (K (.tuple []) s) (storeB s b o (replN z len) fun s => K (.tuple []) s) = true := h2
    cases hl : Nat.beq len 0 with
    | true =>
      rw [hl] at h1
      have hl := Nat.eq_of_beq_eq_true hl
      subst hl
      refine still (show K (.tuple []) s = true from h1) fun w0 φ w ρ o' ho _ hρ => ?_
      obtain ⟨a', e, h2⟩ := one_arg (call_args ha hρ)
      have h2 : VR φ (p.run T) a' := h2
      rw [hx] at h2
      cases h2 with
      | slice hφ g1 g2 => exact ⟨_, nothing ho e (.inr rfl), VR.tuple (cs' := []) .nil⟩
      | slice0 a hφ => exact ⟨_, nothing ho e (.inr rfl), VR.tuple (cs' := []) .nil⟩
    | false =>
      rw [hl] at h1
      have hl0 : len ≠ 0 := fun e => by subst e; simp at hl
      obtain ⟨s', h2, h3, h4⟩ := storeB_ok (P := P) (show storeB s b o (replN z len) (fun s => K (.tuple []) s) = true from h1)
      refine ⟨_, s', h2, by rw [h3]; exact Nat.le_refl _, fun {w0 φ w ρ} o' ho hf hw hρ => ?_⟩
      obtain ⟨a', e, h5⟩ := one_arg (call_args ha hρ)
      have h5 : VR φ (p.run T) a' := h5
      rw [hx] at h5
      cases h5 with
      | slice hφ g1 g2 =>
        rename_i rb δ S cap
        obtain ⟨w', e1, e2⟩ := h4 hw hφ (replN_ok (len := len) (hzs φ) hzl hsz)
        obtain ⟨cs, hr⟩ := run_builtin (P := P) hc (ρ := ρ) ho (w := w)
        have hzc : zv.cells.size = i.size := by have := (hzs φ).length; simp at this; omega
        have hcells : Builtin.zeroCells zv.cells len = madeCells zv.cells (len * i.size) := by unfold Builtin.zeroCells madeCells; rw [hzc]
        have hrun : (execOp ρ o').run P w = .ok (.value (.tuple #[])) w' := by
          rw [hr, e]
          have hne : len ≠ 0 := hl0
          obtain ⟨n, rfl⟩ : ∃ n, len = n + 1 := ⟨len - 1, by omega⟩
          have e0 : (#[Value.slice (some ⟨rb, δ + o, none⟩) (n + 1) cap] : Array Value)[0]? = some (Value.slice (some ⟨rb, δ + o, none⟩) (n + 1) cap) := rfl
          simp only [builtin, Builtin.clear_, ht, e0, Sem.run_bind, run_underlying' hu, Result.andThen_ok, run_zeroValue hi hzv, hcells, e1, Sem.run_pure]
        rw [hrun]
        exact ⟨φ, by rw [h3]; exact Step.refl _ _, VR.tuple (cs' := []) .nil, e2⟩
      | slice0 a hφ => exact absurd rfl hl0
theorem sl2arr_sound (t e : TypeId) (n : Nat) (x : Operand) (p : Opd) (hp : cOpd x = some p) (ht : P.underlying t = some (.array (n + 1) e)) : OpSound P C (.sliceToArrayPointer t x) (xSl2Arr (n + 1) p) := fun T s K h => by
  rcases asSlice_ok h with ⟨_, h⟩ | ⟨b, o, len, z, hx, h1⟩
  · exact absurd h (by decide)
  obtain ⟨hl, h1⟩ := guard_ok h1
  have hl := Nat.le_of_ble_eq_true hl
  refine still h1 fun w0 φ w ρ o' ho _ hρ => ?_
  obtain ⟨dst, op, ty, pos, after, guard⟩ := o'; simp only at ho; subst ho
  have h5 := hρ x (by simp [Op.operands]) p hp
  rw [hx] at h5
  generalize hvx : ρ x = vx at h5
  cases h5 with
  | slice hφ g1 g2 =>
    refine ⟨_, ?_, .ptr (o := o) hφ⟩
    simp only [execOp, Instr.arrayAt, hvx, Sem.run_bind, run_underlying' ht, Result.andThen_ok, Sem.run_pure, if_neg (Nat.not_lt.2 hl)]
  | slice0 a hφ => exact absurd hl (by omega)
theorem run_append_nilZ {w : World} (t u ty e : TypeId) (ku : IntKind) (i : TypeInfo) (z : Value) (ht : P.underlying t = some (.slice e)) (hu : P.underlying u = some (.int ku)) (hi : P.info? e = some i) (hz : i.zero = some z)
    (n : Nat) (h0 : 0 < n) (h6 : n ≤ 1000000) (h48 : i.bytes < 1000000) (h1 : 1 ≤ i.size) :
    (Builtin.append_ #[t, u] ty #[.slice none 0 0, .int .i64 (n : Nat)]).run P w =
      .ok (.slice (some ⟨w.heap.size, 0, none⟩) n (grownCap w n 0 e)) (w.drew.alloc (.cells (Builtin.zeroCells z.cells n ++ Builtin.zeroCells z.cells (grownCap w n 0 e - n)) e)) := by
  have hn : n ≠ 0 := by omega
  have h63' : ¬ (9223372036854775807 < (n : Int)) := by omega
  have hmul : i.bytes * n ≤ 1000000 * 1000000 := Nat.mul_le_mul (by omega) h6
  have hmul' : n * i.bytes ≤ 1000000 * 1000000 := by rw [Nat.mul_comm]; exact hmul
  have h48' : ¬ (281474976710656 < Builtin.nextslicecap n 0 * i.bytes) := by rw [nextslicecap_zero h0]; omega
  have hwrap : IntKind.i64.wrap (n : Int) = n := by rw [IntKind.wrap_i64]; omega
  have hneg : ¬ ((n : Int) < 0) := by omega
  have hbig : ¬ (281474976710656 < (n : Int) * (i.bytes : Int)) := by
    have : (n : Int) * (i.bytes : Int) = ((n * i.bytes : Nat) : Int) := by simp
    rw [this]; omega
  have hne : i.size ≠ 0 := by omega
  simp [Builtin.append_, run_underlying' ht, run_underlying' hu, sizeOf, typeInfo, zeroValue, hi, hz, Go.asInt, Go.asIntOf, hwrap, hneg, hbig, hn, hne, h63', h48', Question.forced, run_firstCells_none, newRow, grownCap]
  intro hnz
  exact absurd hnz (Nat.mul_ne_zero hn hne)
theorem appendZ_sound (c : Call) (p q : Opd) (t u e : TypeId) (i : TypeInfo) (z : List EV) (hc : c.callee = .builtin .append) (ha : cOpds c.args.toList = some [p, q]) (hts : c.argTypes.toList = [t, u])
    (ht : P.underlying t = some (.slice e)) (hu : isIntT P u = true) (hi : P.info? e = some i) (hz : zeroT P e = some z) (hzl : lenN z = i.size) (hby : i.bytes < 1000000) (hsz : 1 ≤ i.size) : OpSound P C (.call c) (xAppendZ z i.size p q) := fun T s K h => by
  obtain ⟨i', zv, hi', hzv, hzs⟩ := zeroT_ok hz
  rw [hi] at hi'; cases hi'
  rw [lenN_eq] at hzl
  obtain ⟨ku, hu⟩ : ∃ k, P.underlying u = some (.int k) := by
    unfold isIntT at hu
    split at hu
    · exact ⟨_, ‹_›⟩
    · cases hu
  have hts' : c.argTypes = #[t, u] := by
    apply Array.ext'; simpa using hts
  rcases asSlice_ok h with ⟨hx, h⟩ | ⟨_, _, _, _, _, h⟩
  rotate_left
  · exact absurd h (by decide)
  obtain ⟨k, n, hy, h⟩ := asInt_ok h
  obtain ⟨hk, h⟩ := guard_ok h
  have hk : k = .i64 := by simpa [kindEq] using hk
  subst hk
  obtain ⟨n, rfl, h⟩ := iR_nat h
  have h : bR (Nat.beq n 0) (K .nils s) (guardB (Nat.ble n 1000000) (newB s (replN z n) fun b s => K (.slice b 0 n i.size) s)) = true := h
  cases hn : Nat.beq n 0 with
  | true =>
    rw [hn] at h
    have hn := Nat.eq_of_beq_eq_true hn
    subst hn
    refine still (show K .nils s = true from h) fun w0 φ w ρ o' ho _ hρ => ?_
    obtain ⟨cs, hr⟩ := run_builtin (P := P) hc (ρ := ρ) ho (w := w)
    obtain ⟨a', b', e', h1, h2⟩ := two_args (call_args ha hρ)
    have h1 : VR φ (p.run T) a' := h1
    have h2 : VR φ (q.run T) b' := h2
    rw [hx] at h1; rw [hy] at h2
    cases h1; cases h2
    refine ⟨.slice none 0 0, ?_, .nils⟩
    rw [hr, e', hts']
    have hwrap : IntKind.i64.wrap (0 : Int) = 0 := by rw [IntKind.wrap_i64]; omega
    simp [builtin, Builtin.append_, run_underlying' ht, run_underlying' hu, sizeOf, typeInfo, hi, Go.asInt, Go.asIntOf, hwrap]
  | false =>
    rw [hn] at h
    have hn0 : n ≠ 0 := fun e => by subst e; simp at hn
    obtain ⟨h6, h⟩ := guard_ok (show guardB (Nat.ble n 1000000) (newB s (replN z n) fun b s => K (.slice b 0 n i.size) s) = true from h)
    have h6 := Nat.le_of_ble_eq_true h6
    obtain ⟨s', g1, g2, g3⟩ := newB_ok h
    refine ⟨_, s', g1, by rw [g2, val_inc]; omega, fun {w0 φ w ρ} o' ho hf hw hρ => ?_⟩
    obtain ⟨cs, hr⟩ := run_builtin (P := P) hc (ρ := ρ) ho (w := w)
    obtain ⟨a', b', e', h1, h2⟩ := two_args (call_args ha hρ)
    have h1 : VR φ (p.run T) a' := h1
    have h2 : VR φ (q.run T) b' := h2
    rw [hx] at h1; rw [hy] at h2
    cases h1; cases h2
    have hrun := run_append_nilZ (P := P) (w := w) t u o'.type e ku i zv ht hu hi hzv n (by omega) h6 hby hsz
    have hex : (execOp ρ o').run P w = .ok (.value (.slice (some ⟨w.heap.size, 0, none⟩) n (grownCap w n 0 e))) (w.drew.alloc (.cells (Builtin.zeroCells zv.cells n ++ Builtin.zeroCells zv.cells (grownCap w n 0 e - n)) e)) := by
      rw [hr, e', hts']
      simp only [builtin, Sem.run_bind, hrun, Result.andThen_ok, Sem.run_pure]
    rw [hex]
    have hfree : φ s.c = none := hf.2 s.c (Nat.le_refl _) (by rw [g2, val_inc]; omega)
    have hzc : zv.cells.size = i.size := by have := (hzs φ).length; simp at this; omega
    have hcells : Builtin.zeroCells zv.cells n = madeCells zv.cells (n * i.size) := by unfold Builtin.zeroCells madeCells; rw [hzc]
    have hge := grownCap_ge w n 0 e
    obtain ⟨k1, k2, k3⟩ := g3 (cs' := (Builtin.zeroCells zv.cells n).toList) e (Builtin.zeroCells zv.cells (grownCap w n 0 e - n)).toList hw.drew hfree (by rw [hcells]; exact replN_ok (hzs φ) hzl hsz)
    have hl : ((Builtin.zeroCells zv.cells n).toList ++ (Builtin.zeroCells zv.cells (grownCap w n 0 e - n)).toList).length = grownCap w n 0 e * i.size := by
      simp only [List.length_append, Array.length_toList, size_zeroCells, hzc, ← Nat.add_mul]
      congr 1; omega
    have hw3 : (((Builtin.zeroCells zv.cells n).toList ++ (Builtin.zeroCells zv.cells (grownCap w n 0 e - n)).toList)).toArray = Builtin.zeroCells zv.cells n ++ Builtin.zeroCells zv.cells (grownCap w n 0 e - n) := by
      apply Array.ext'; simp
    refine ⟨_, k2, ?_, by rw [← hw3]; exact k3⟩
    refine VR.slice (rb := w.heap.size) (δ := 0) (S := _) k1 hge ?_
    rw [hl]; omega
end
end Go.Ev
