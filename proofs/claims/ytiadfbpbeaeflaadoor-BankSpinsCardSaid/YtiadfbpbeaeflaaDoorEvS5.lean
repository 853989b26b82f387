/- The operations, continued: functions, slices, built-in functions. -/
import Derived.Test.YtiadfbpbeaeflaaDoorEvS4
import Derived.Laws.AppendOwn
namespace Go.Ev
open Go.RowKit (Below)
section
variable {P : Program} {C : CallK}

theorem cOpds_ok {T : Tr EV} {φ : Phi} {ρ : Operand → Value} : ∀ {xs : List Operand} {ps : List Opd}, cOpds xs = some ps → (∀ x ∈ xs, ∀ p, cOpd x = some p → VR φ (p.run T) (ρ x)) → VRs φ (opds T ps) (xs.map ρ)
  | [], ps, h, _ => by simp [cOpds] at h; subst h; exact .nil
  | x :: xs, ps, h, hρ => by
    unfold cOpds at h
    split at h
    · rename_i a r h1 h2
      cases h
      exact .cons (hρ x List.mem_cons_self a h1) (cOpds_ok h2 fun y hy => hρ y (List.mem_cons_of_mem _ hy))
    · cases h
theorem func_sound (fn : Fn) (first captured : Array Operand) (a c : List Opd) (ha : cOpds first.toList = some a) (hc : cOpds captured.toList = some c) : OpSound P C (.makeFunc fn first captured) (xFunc fn a c) := fun T s K h => by
  refine still (v := .func fn (opds T a) (opds T c)) h fun w0 φ w ρ o' ho _ hρ => ?_
  obtain ⟨dst', op', ty, pos, after, guard⟩ := o'; simp only at ho; subst ho
  have h1 := cOpds_ok (T := T) (φ := φ) (ρ := ρ) ha fun x hx => hρ x (by simp [Op.operands]; exact .inl (by simpa using hx))
  have h2 := cOpds_ok (T := T) (φ := φ) (ρ := ρ) hc fun x hx => hρ x (by simp [Op.operands]; exact .inr (by simpa using hx))
  refine ⟨_, ?_, .func h1 h2⟩
  simp only [execOp, Instr.makeFunc, Sem.run_bind, Sem.run_pure, Result.andThen_ok]
  congr 3 <;> (apply Array.ext'; simp)
theorem bound_ok {T : Tr EV} {d : Nat} {x : Option Opd} {K : Nat → Ans} (h : bound T d x K = true) : ∃ n, K n = true ∧ ((x = none ∧ n = d) ∨ ∃ p k, x = some p ∧ p.run T = .int k (n : Nat)) := by
  cases x with
  | none => exact ⟨d, h, .inl ⟨rfl, rfl⟩⟩
  | some p =>
    obtain ⟨k, i, hi, h1⟩ := asInt_ok (show asInt (opd T p) (fun _ n => iR n K (fun _ => false)) = true from h)
    obtain ⟨n, rfl, h2⟩ := iR_nat h1
    exact ⟨n, h2, .inr ⟨p, k, rfl, hi⟩⟩
theorem sliceK_ok {b : List Bool} {o len sz l h : Nat} {K : EV → Ans} (hh : sliceK b o len sz l h K = true) : l ≤ h ∧ h ≤ len ∧ K (.slice b (o + l * sz) (h - l) sz) = true := by
  obtain ⟨h1, h2⟩ := guard_ok hh
  obtain ⟨h3, h4⟩ := guard_ok h2
  exact ⟨Nat.le_of_ble_eq_true h1, Nat.le_of_ble_eq_true h3, h4⟩
theorem run_bounds {isSlice : Bool} {len cap l h : Nat} {lo hi : Option Value} {w : World} (hl : (lo = none ∧ l = 0) ∨ ∃ k, lo = some (.int k (l : Nat))) (hh : (hi = none ∧ h = len) ∨ ∃ k, hi = some (.int k (h : Nat)))
    (h1 : l ≤ h) (h2 : h ≤ cap) : (Instr.sliceBounds isSlice len cap lo hi none).run P w = .ok (l, h, cap) w := by
  have hb : ∀ (k : IntKind) (n y : Nat) (c : BoundsCode), n ≤ y → (Instr.sliceBound (.int k (n : Nat)) y c).run P w = .ok n w := by
    intro k n y c hn
    have : (0 : Int) ≤ (n : Int) ∧ (n : Int) ≤ (y : Int) := ⟨by omega, by omega⟩
    simp only [Instr.sliceBound, Sem.run_bind, Go.asIntOf, Sem.run_pure, Result.andThen_ok, if_pos this, Int.toNat_natCast]
  rcases hl with ⟨rfl, rfl⟩ | ⟨k, rfl⟩ <;> rcases hh with ⟨rfl, rfl⟩ | ⟨k', rfl⟩ <;>
    simp only [Instr.sliceBounds, Sem.run_bind, Sem.run_pure, Result.andThen_ok, hb _ _ _ _ h1, hb _ _ _ _ h2]
theorem optO_ok {T : Tr EV} {φ : Phi} {ρ : Operand → Value} {x : Option Operand} {y : Option Opd} (h : optO x = some y) (hρ : ∀ z, x = some z → ∀ p, cOpd z = some p → VR φ (p.run T) (ρ z)) {n d : Nat}
    (hn : (y = none ∧ n = d) ∨ ∃ p k, y = some p ∧ p.run T = .int k (n : Nat)) : (x.map ρ = none ∧ n = d) ∨ ∃ k, x.map ρ = some (.int k (n : Nat)) := by
  cases x with
  | none =>
    cases h
    rcases hn with ⟨_, h2⟩ | ⟨p, k, h1, _⟩
    · exact .inl ⟨rfl, h2⟩
    · cases h1
  | some z =>
    simp only [optO] at h
    cases hz : cOpd z with
    | none => rw [hz] at h; cases h
    | some a =>
      rw [hz] at h
      cases h
      rcases hn with ⟨h1, _⟩ | ⟨p, k, h1, h2⟩
      · cases h1
      · cases h1
        have := hρ _ rfl a hz
        rw [h2] at this
        refine .inr ⟨k, ?_⟩
        simp only [Option.map_some]
        generalize ρ z = v at *
        cases this; rfl
theorem optO_ok' {T : Tr EV} {φ : Phi} {ρ : Operand → Value} {x : Option Operand} {y : Option Opd} (h : optO x = some y) (hρ : ∀ z, x = some z → ∀ p, cOpd z = some p → VR φ (p.run T) (ρ z)) {n d : Nat}
    (hn : (y = none ∧ n = d) ∨ ∃ p, y = some p ∧ ∀ φ v', VR φ (p.run T) v' → ∃ k, v' = .int k (n : Int)) : (x.map ρ = none ∧ n = d) ∨ ∃ k, x.map ρ = some (.int k (n : Nat)) := by
  cases x with
  | none =>
    cases h
    rcases hn with ⟨_, h2⟩ | ⟨p, h1, _⟩
    · exact .inl ⟨rfl, h2⟩
    · cases h1
  | some z =>
    simp only [optO] at h
    cases hz : cOpd z with
    | none => rw [hz] at h; cases h
    | some a =>
      rw [hz] at h
      cases h
      rcases hn with ⟨h1, _⟩ | ⟨p, h1, h2⟩
      · cases h1
      · cases h1
        obtain ⟨k, hk⟩ := h2 φ _ (hρ _ rfl a hz)
        exact .inr ⟨k, by simp [hk]⟩
theorem bound_ok' {T : Tr EV} {d : Nat} {x : Option Opd} {K : Nat → Ans} (h : bound T d x K = true) : ∃ n, K n = true ∧ ((x = none ∧ n = d) ∨ ∃ p, x = some p ∧ ∀ φ v', VR φ (p.run T) v' → ∃ k, v' = .int k (n : Int)) := by
  obtain ⟨n, h1, h2⟩ := bound_ok h
  refine ⟨n, h1, h2.imp id ?_⟩
  rintro ⟨p, k, rfl, h3⟩
  exact ⟨p, rfl, fun φ v' hv => by rw [h3] at hv; cases hv; exact ⟨k, rfl⟩⟩
theorem boundQ_ok {T : Tr EV} {d : Nat} {x : Option Opd} {K : Nat → Ans} (h : boundQ T d x K = true) : ∃ n, K n = true ∧ ((x = none ∧ n = d) ∨ ∃ p, x = some p ∧ ∀ φ v', VR φ (p.run T) v' → ∃ k, v' = .int k (n : Int)) := by
  cases x with
  | none => exact ⟨d, h, .inl ⟨rfl, rfl⟩⟩
  | some p =>
    obtain ⟨m, h1, h2⟩ := natQ_ok (show natQ (opd T p) K = true from h)
    exact ⟨m, h1, .inr ⟨p, rfl, h2⟩⟩
theorem slice_sound (t e : TypeId) (sz : Nat) (x : Operand) (lo hi : Option Operand) (p : Opd) (l h : Option Opd) (hp : cOpd x = some p) (hl : optO lo = some l) (hh : optO hi = some h) (ht : P.underlying t = some (.slice e)) (hn : sizeP P e = some sz) :
    OpSound P C (.slice t x lo hi none) (xSlice sz p l h) := fun T s K hrun => by
  rcases asSl2_ok hrun with ⟨hx, h1⟩ | ⟨b, o, len, z, hx, h1⟩ | ⟨b, o, len, z, mx, hx, h1⟩
  · obtain ⟨a, h1, ha⟩ := bound_ok h1
    obtain ⟨c, h1, hc⟩ := bound_ok h1
    obtain ⟨e1, h1⟩ := guard_ok h1
    obtain ⟨e2, h1⟩ := guard_ok h1
    have e1 := Nat.eq_of_beq_eq_true e1
    have e2 := Nat.eq_of_beq_eq_true e2
    subst e1; subst e2
    refine still h1 fun w0 φ w ρ o' ho _ hρ => ?_
    obtain ⟨dst', op', ty, pos, after, guard⟩ := o'; simp only at ho; subst ho
    have hlo := optO_ok (T := T) (φ := φ) (ρ := ρ) hl (fun z hz => hρ z (by simp [Op.operands, hz])) ha
    have hhi := optO_ok (T := T) (φ := φ) (ρ := ρ) hh (fun z hz => hρ z (by simp [Op.operands, hz])) hc
    have h5 := hρ x (by simp [Op.operands]) p hp
    rw [hx] at h5
    generalize hvx : ρ x = vx at h5
    cases h5
    have hrb := run_bounds (P := P) (isSlice := true) (w := w) (cap := 0) hlo hhi (Nat.le_refl 0) (Nat.le_refl 0)
    refine ⟨.slice none 0 0, ?_, .nils⟩
    simp only [execOp, Instr.sliceAt, Instr.slice, hvx, Sem.run_bind, run_underlying' ht, Result.andThen_ok, Option.map_none, hrb, run_sizeOf hn, Sem.run_pure, if_true, Nat.sub_self]
  · obtain ⟨hz, h1⟩ := guard_ok h1
    have hz := Nat.eq_of_beq_eq_true hz
    subst hz
    -- the bounds, and what the new slice is known as
    have key : ∃ (v : EV) (a c : Nat), K v s = true ∧ a ≤ c ∧ c ≤ len ∧ ((l = none ∧ a = 0) ∨ ∃ p, l = some p ∧ ∀ φ v', VR φ (p.run T) v' → ∃ k, v' = .int k (a : Int)) ∧ ((h = none ∧ c = len) ∨ ∃ p, h = some p ∧ ∀ φ v', VR φ (p.run T) v' → ∃ k, v' = .int k (c : Int)) ∧
        (∀ {φ : Phi} {q : Nat × Nat × Nat} (a' : Addr), φ b = some q → c = a → VR φ v (.slice (some a') 0 0)) ∧
        ∀ {φ : Phi} {rb δ S cap : Nat}, φ b = some (rb, δ, S) → len ≤ cap → δ + o + cap * z ≤ S → VR φ v (.slice (some ⟨rb, δ + (o + a * z), none⟩) (c - a) (cap - a)) := by
      cases hkn : andB (knownO T l) (knownO T h) with
      | true =>
        rw [hkn, bR_true] at h1
        obtain ⟨a, h1, ha⟩ := bound_ok' h1
        obtain ⟨c, h1, hc⟩ := bound_ok' h1
        obtain ⟨hac, hcl, h1⟩ := sliceK_ok h1
        refine ⟨_, a, c, h1, hac, hcl, ha, hc, fun {φ q} a' hφ e0 => by rw [e0, Nat.sub_self]; exact .slice0 _ hφ, fun {φ rb δ S cap} hφ g1 g2 => .slice hφ (by omega) ?_⟩
        by_cases hca : a ≤ cap
        · have : a * z + (cap - a) * z = cap * z := by rw [← Nat.add_mul]; congr 1; omega
          omega
        · omega
      | false =>
        rw [hkn, bR_false, fN_eq] at h1
        obtain ⟨hq, h1⟩ := guard_ok h1
        have hq : o / z * z = o := Nat.eq_of_beq_eq_true hq
        obtain ⟨a, h1, ha⟩ := boundQ_ok h1
        obtain ⟨c, h1, hc⟩ := boundQ_ok h1
        obtain ⟨hac, h1⟩ := reqB_ok h1
        obtain ⟨hcl, h1⟩ := reqB_ok h1
        refine ⟨_, a, c, h1, hac, hcl, ha, hc, fun {φ q} a' hφ e0 => ?_, fun {φ rb δ S cap} hφ g1 g2 => ?_⟩
        · have : Nat.sub c a = 0 := by show c - a = 0; omega
          rw [this]; exact .aslice0 _ hφ
        · have e1 : δ + (o + a * z) = δ + (o / z + a) * z := by rw [Nat.add_mul, hq]
          rw [e1]
          refine .aslice hφ (by show c - a ≤ cap - a; omega) ?_ (by show c - a ≤ len; omega)
          have : (o / z + a) * z + (cap - a) * z = o + cap * z := by
            rw [Nat.add_mul, hq, Nat.add_assoc, ← Nat.add_mul]; congr 2; omega
          show δ + ((o / z + a) * z + (cap - a) * z) ≤ S
          omega
    obtain ⟨v, a, c, h1, hac, hcl, ha, hc, hv0, hv⟩ := key
    refine still h1 fun w0 φ w ρ o' ho _ hρ => ?_
    obtain ⟨dst', op', ty, pos, after, guard⟩ := o'; simp only at ho; subst ho
    have hlo := optO_ok' (T := T) (φ := φ) (ρ := ρ) hl (fun z hz => hρ z (by simp [Op.operands, hz])) ha
    have hhi := optO_ok' (T := T) (φ := φ) (ρ := ρ) hh (fun z hz => hρ z (by simp [Op.operands, hz])) hc
    have h5 := hρ x (by simp [Op.operands]) p hp
    rw [hx] at h5
    generalize hvx : ρ x = vx at h5
    cases h5 with
    | slice hφ g1 g2 =>
      rename_i rb δ S cap
      have hrb := run_bounds (P := P) (isSlice := true) (w := w) (cap := cap) hlo hhi hac (by omega)
      by_cases hcap : cap = a
      · have e0 : c - a = 0 := by omega
        refine ⟨.slice (some ⟨rb, δ + o, none⟩) 0 0, ?_, hv0 _ hφ (by omega)⟩
        simp only [execOp, Instr.sliceAt, Instr.slice, hvx, Sem.run_bind, run_underlying' ht, Result.andThen_ok, Option.map_none, hrb, run_sizeOf hn, Sem.run_pure, if_pos hcap]
        simp [e0]; omega
      · refine ⟨.slice (some ⟨rb, δ + (o + a * z), none⟩) (c - a) (cap - a), ?_, hv hφ g1 g2⟩
        simp only [execOp, Instr.sliceAt, Instr.slice, hvx, Sem.run_bind, run_underlying' ht, Result.andThen_ok, Option.map_none, hrb, run_sizeOf hn, Sem.run_pure, if_neg hcap, Option.map_some, addr_add, Nat.add_assoc]
    | slice0 a' hφ =>
      have e1 : a = 0 := by omega
      have e2 : c = 0 := by omega
      subst e1; subst e2
      have hrb := run_bounds (P := P) (isSlice := true) (w := w) (cap := 0) hlo hhi hac (by omega)
      refine ⟨.slice (some a') 0 0, ?_, hv0 a' hφ rfl⟩
      simp only [execOp, Instr.sliceAt, Instr.slice, hvx, Sem.run_bind, run_underlying' ht, Result.andThen_ok, Option.map_none, hrb, run_sizeOf hn, Sem.run_pure, if_true, Nat.sub_self]
  · obtain ⟨hz, h1⟩ := guard_ok h1
    have hz := Nat.eq_of_beq_eq_true hz
    subst hz
    obtain ⟨a, h1, ha⟩ := boundQ_ok h1
    obtain ⟨c, h1, hc⟩ := boundQ_ok h1
    obtain ⟨hac, h1⟩ := reqB_ok h1
    obtain ⟨hcl, h1⟩ := reqB_ok h1
    refine still h1 fun w0 φ w ρ o' ho _ hρ => ?_
    obtain ⟨dst', op', ty, pos, after, guard⟩ := o'; simp only at ho; subst ho
    have hlo := optO_ok' (T := T) (φ := φ) (ρ := ρ) hl (fun z hz => hρ z (by simp [Op.operands, hz])) ha
    have hhi := optO_ok' (T := T) (φ := φ) (ρ := ρ) hh (fun z hz => hρ z (by simp [Op.operands, hz])) hc
    have h5 := hρ x (by simp [Op.operands]) p hp
    rw [hx] at h5
    generalize hvx : ρ x = vx at h5
    cases h5 with
    | aslice hφ g1 g2 g3 =>
      rename_i rb δ S cap
      have hrb := run_bounds (P := P) (isSlice := true) (w := w) (cap := cap) hlo hhi hac (by omega)
      by_cases hcap : cap = a
      · have e0 : c - a = 0 := by omega
        refine ⟨.slice (some ⟨rb, δ + o * z, none⟩) 0 0, ?_, ?_⟩
        · simp only [execOp, Instr.sliceAt, Instr.slice, hvx, Sem.run_bind, run_underlying' ht, Result.andThen_ok, Option.map_none, hrb, run_sizeOf hn, Sem.run_pure, if_pos hcap]
          simp [e0]; omega
        · have : Nat.sub c a = 0 := e0
          rw [this]; exact .aslice0 _ hφ
      · refine ⟨.slice (some ⟨rb, δ + (o * z + a * z), none⟩) (c - a) (cap - a), ?_, ?_⟩
        · simp only [execOp, Instr.sliceAt, Instr.slice, hvx, Sem.run_bind, run_underlying' ht, Result.andThen_ok, Option.map_none, hrb, run_sizeOf hn, Sem.run_pure, if_neg hcap, Option.map_some, addr_add, Nat.add_assoc]
        · have e1 : o * z + a * z = (o + a) * z := by rw [Nat.add_mul]
          rw [e1]
          refine .aslice hφ (by show c - a ≤ cap - a; omega) ?_ (by show c - a ≤ mx; omega)
          have : (o + a) * z + (cap - a) * z = o * z + cap * z := by
            rw [Nat.add_mul, Nat.add_assoc, ← Nat.add_mul]; congr 2; omega
          show δ + ((o + a) * z + (cap - a) * z) ≤ S
          omega
    | aslice0 a' hφ =>
      have e1 : a = 0 := by omega
      have e2 : c = 0 := by omega
      subst e1; subst e2
      have hrb := run_bounds (P := P) (isSlice := true) (w := w) (cap := 0) hlo hhi hac (by omega)
      refine ⟨.slice a' 0 0, ?_, .aslice0 a' hφ⟩
      simp only [execOp, Instr.sliceAt, Instr.slice, hvx, Sem.run_bind, run_underlying' ht, Result.andThen_ok, Option.map_none, hrb, run_sizeOf hn, Sem.run_pure, if_true, Nat.sub_self]
theorem sliceA_sound (t e : TypeId) (n sz : Nat) (x : Operand) (lo hi : Option Operand) (p : Opd) (l h : Option Opd) (hp : cOpd x = some p) (hl : optO lo = some l) (hh : optO hi = some h) (ht : P.underlying t = some (.array n e)) (hn : sizeP P e = some sz) :
    OpSound P C (.slice t x lo hi none) (xSliceA n sz p l h) := fun T s K hrun => by
  obtain ⟨b, o, hx, h1⟩ := asPtr_ok hrun
  obtain ⟨k, hk0, hk⟩ := look_ok h1
  obtain ⟨hflat, hk0⟩ := guard_ok hk0
  rw [fN_eq] at hk0
  obtain ⟨hS, h1⟩ := guard_ok hk0
  obtain ⟨a, h1, ha⟩ := bound_ok h1
  obtain ⟨c, h1, hc⟩ := bound_ok h1
  obtain ⟨hac, hcl, h1⟩ := sliceK_ok h1
  have hS := Nat.le_of_ble_eq_true hS
  refine still h1 fun w0 φ w ρ o' ho hw hρ => ?_
  obtain ⟨dst', op', ty, pos, after, guard⟩ := o'; simp only at ho; subst ho
  have hlo := optO_ok (T := T) (φ := φ) (ρ := ρ) hl (fun z hz => hρ z (by simp [Op.operands, hz])) ha
  have hhi := optO_ok (T := T) (φ := φ) (ρ := ρ) hh (fun z hz => hρ z (by simp [Op.operands, hz])) hc
  have h5 := hρ x (by simp [Op.operands]) p hp
  rw [hx] at h5
  generalize hvx : ρ x = vx at h5
  cases h5 with
  | ptr hφ =>
    rename_i rb δ S
    obtain ⟨p', fz, hp', cs, ty', e1, e2, e3⟩ := hw.at (flatB_ok hflat) hk
    rw [hφ] at hp'; cases hp'
    have hb := e3.1
    simp only at e1 e2 hb
    have hS' : δ + o + n * sz ≤ S := by
      have : o + n * sz ≤ k.n := hS
      omega
    have hrb := run_bounds (P := P) (isSlice := false) (w := w) (cap := n) hlo hhi hac hcl
    by_cases hcap : n = a
    · have e0 : c - a = 0 := by omega
      refine ⟨.slice (some ⟨rb, δ + o, none⟩) 0 0, ?_, ?_⟩
      · simp only [execOp, Instr.sliceAt, hvx, Sem.run_bind, run_underlying' ht, Result.andThen_ok, Option.map_none, sureAddr_ptr, hrb, run_sizeOf hn, Sem.run_pure, if_pos hcap]
        simp [e0]; omega
      · rw [e0]; exact .slice0 _ hφ
    · refine ⟨.slice (some ⟨rb, δ + (o + a * sz), none⟩) (c - a) (n - a), ?_, ?_⟩
      · simp only [execOp, Instr.sliceAt, hvx, Sem.run_bind, run_underlying' ht, Result.andThen_ok, Option.map_none, sureAddr_ptr, hrb, run_sizeOf hn, Sem.run_pure, if_neg hcap, addr_add, Nat.add_assoc]
      · refine .slice hφ (by omega) ?_
        have : a * sz + (n - a) * sz = n * sz := by rw [← Nat.add_mul]; congr 1; omega
        omega
theorem call_args {c : Call} {T : Tr EV} {φ : Phi} {ρ : Operand → Value} {ps : List Opd} (h : cOpds c.args.toList = some ps) (hρ : ∀ x ∈ (Op.call c).operands, ∀ p, cOpd x = some p → VR φ (p.run T) (ρ x)) :
    VRs φ (opds T ps) (c.args.map ρ).toList := by
  have := cOpds_ok (T := T) (φ := φ) (ρ := ρ) h fun x hx => hρ x (by simp [Op.operands, Call.operands]; exact .inr (by simpa using hx))
  simpa using this
theorem run_builtin {c : Call} {b : Builtin} (hc : c.callee = .builtin b) {ρ : Operand → Value} {o : Oper} (ho : o.op = .call c) {w : World} :
    ∃ cs, (execOp ρ o).run P w = (builtin b c.argTypes o.type cs (c.args.map ρ)).run P w := by
  obtain ⟨dst', op', ty, pos, after, guard⟩ := o; simp only at ho; subst ho
  refine ⟨c.args.map fun | .const _ => true | _ => false, ?_⟩
  simp only [execOp, resolve, hc, Sem.run_bind, Sem.run_pure, Result.andThen_ok, invoke]
  rfl
theorem two_args {φ : Phi} {a b : EV} {l : Array Value} (h : VRs φ [a, b] l.toList) : ∃ a' b', l = #[a', b'] ∧ VR φ a a' ∧ VR φ b b' := by
  obtain ⟨l⟩ := l
  cases h with
  | cons h1 h2 => cases h2 with
    | cons h2 h3 => cases h3; exact ⟨_, _, rfl, h1, h2⟩
theorem one_arg {φ : Phi} {a : EV} {l : Array Value} (h : VRs φ [a] l.toList) : ∃ a', l = #[a'] ∧ VR φ a a' := by
  obtain ⟨l⟩ := l
  cases h with
  | cons h1 h2 => cases h2; exact ⟨_, rfl, h1⟩
theorem min_sound (c : Call) (p q : Opd) (hc : c.callee = .builtin .min) (ha : cOpds c.args.toList = some [p, q]) : OpSound P C (.call c) (xMin p q) := fun T s K h => by
  unfold xMin min2 at h
  obtain ⟨k, a, la, ha', h, hx⟩ := asNum_ok h
  obtain ⟨k', b, lb, hb', h, hy⟩ := asNum_ok h
  obtain ⟨hk, h⟩ := guard_ok h
  obtain ⟨v, h, hv⟩ := mkN_ok h
  refine still h fun w0 φ w ρ o' ho _ hρ => ?_
  obtain ⟨cs, hr⟩ := run_builtin (P := P) hc (ρ := ρ) ho (w := w)
  obtain ⟨a', b', e, h1, h2⟩ := two_args (call_args ha hρ)
  have h1 : VR φ (p.run T) a' := h1
  have h2 : VR φ (q.run T) b' := h2
  obtain ⟨rfl, ga⟩ := hx φ a' h1
  obtain ⟨rfl, gb⟩ := hy φ b' h2
  obtain rfl := kindEq_ok hk
  refine ⟨.int k (min a b), ?_, hv ?_ φ⟩
  · rw [hr, e]
    simp only [builtin, Builtin.min_, List.foldlM, Builtin.min2, Sem.run_bind, Sem.run_pure, Result.andThen_ok]
    by_cases hba : b < a
    · simp [hba, Sem.run_pure]; omega
    · simp [hba, Sem.run_pure]; omega
  · have g1 := ga.1; have g2 := ga.2; have g3 := gb.1; have g4 := gb.2
    refine ⟨?_, ?_⟩
    · rw [minI_eq]; omega
    · rw [minI_eq]; omega
theorem max_sound (c : Call) (p q : Opd) (hc : c.callee = .builtin .max) (ha : cOpds c.args.toList = some [p, q]) : OpSound P C (.call c) (xMax p q) := fun T s K h => by
  unfold xMax max2 at h
  obtain ⟨k, a, la, ha', h, hx⟩ := asNum_ok h
  obtain ⟨k', b, lb, hb', h, hy⟩ := asNum_ok h
  obtain ⟨hk, h⟩ := guard_ok h
  obtain ⟨v, h, hv⟩ := mkN_ok h
  refine still h fun w0 φ w ρ o' ho _ hρ => ?_
  obtain ⟨cs, hr⟩ := run_builtin (P := P) hc (ρ := ρ) ho (w := w)
  obtain ⟨a', b', e, h1, h2⟩ := two_args (call_args ha hρ)
  have h1 : VR φ (p.run T) a' := h1
  have h2 : VR φ (q.run T) b' := h2
  obtain ⟨rfl, ga⟩ := hx φ a' h1
  obtain ⟨rfl, gb⟩ := hy φ b' h2
  obtain rfl := kindEq_ok hk
  refine ⟨.int k (max a b), ?_, hv ?_ φ⟩
  · rw [hr, e]
    simp only [builtin, Builtin.max_, List.foldlM, Builtin.max2, Sem.run_bind, Sem.run_pure, Result.andThen_ok]
    by_cases hba : a < b
    · simp [hba, Sem.run_pure]; omega
    · simp [hba, Sem.run_pure]; omega
  · have g1 := ga.1; have g2 := ga.2; have g3 := gb.1; have g4 := gb.2
    refine ⟨?_, ?_⟩
    · rw [maxI_eq]; omega
    · rw [maxI_eq]; omega
theorem mm2_ok {mx : Bool} {x y : EV} {K : EV → Ans} (h : bR mx (max2 x y K) (min2 x y K) = true) : ∃ v, K v = true ∧
    ∀ {φ : Phi} {x' y' : Value} (w : World), VR φ x x' → VR φ y y' → ∃ v', ((bR mx Builtin.max2 Builtin.min2) x' y').run P w = .ok v' w ∧ VR φ v v' := by
  cases mx with
  | true =>
    have h : max2 x y K = true := h
    unfold max2 at h
    obtain ⟨k, a, la, ha', h, hx⟩ := asNum_ok h
    obtain ⟨k', b', lb, hb', h, hy⟩ := asNum_ok h
    obtain ⟨hk, h⟩ := guard_ok h
    obtain ⟨v, h, hv⟩ := mkN_ok h
    refine ⟨v, h, fun {φ x' y'} w h1 h2 => ?_⟩
    obtain ⟨rfl, ga⟩ := hx φ _ h1
    obtain ⟨rfl, gb⟩ := hy φ _ h2
    obtain rfl := kindEq_ok hk
    refine ⟨.int k (max a b'), ?_, hv ?_ φ⟩
    · by_cases hba : a < b'
      · simp [bR, Builtin.max2, hba, Sem.run_pure]; omega
      · simp [bR, Builtin.max2, hba, Sem.run_pure]; omega
    · have g1 := ga.1; have g2 := ga.2; have g3 := gb.1; have g4 := gb.2
      refine ⟨?_, ?_⟩
      · rw [maxI_eq]; omega
      · rw [maxI_eq]; omega
  | false =>
    have h : min2 x y K = true := h
    unfold min2 at h
    obtain ⟨k, a, la, ha', h, hx⟩ := asNum_ok h
    obtain ⟨k', b', lb, hb', h, hy⟩ := asNum_ok h
    obtain ⟨hk, h⟩ := guard_ok h
    obtain ⟨v, h, hv⟩ := mkN_ok h
    refine ⟨v, h, fun {φ x' y'} w h1 h2 => ?_⟩
    obtain ⟨rfl, ga⟩ := hx φ _ h1
    obtain ⟨rfl, gb⟩ := hy φ _ h2
    obtain rfl := kindEq_ok hk
    refine ⟨.int k (min a b'), ?_, hv ?_ φ⟩
    · by_cases hba : b' < a
      · simp [bR, Builtin.min2, hba, Sem.run_pure]; omega
      · simp [bR, Builtin.min2, hba, Sem.run_pure]; omega
    · have g1 := ga.1; have g2 := ga.2; have g3 := gb.1; have g4 := gb.2
      refine ⟨?_, ?_⟩
      · rw [minI_eq]; omega
      · rw [minI_eq]; omega
theorem mmS_ok {mx : Bool} : ∀ {l : List EV} {m : EV} {K : EV → Ans}, mmS mx l m K = true → ∃ v, K v = true ∧
    ∀ {φ : Phi} {m' : Value} {l' : List Value} (w : World), VR φ m m' → VRs φ l l' → ∃ v', (l'.foldlM (bR mx Builtin.max2 Builtin.min2) m').run P w = .ok v' w ∧ VR φ v v'
  | [], m, K, h => ⟨m, h, fun {φ m' l'} w hm hv => by cases hv; exact ⟨m', rfl, hm⟩⟩
  | v :: l, m, K, h => by
    obtain ⟨r, h1, h2⟩ := mm2_ok (P := P) (show bR mx (max2 m v fun r => mmS mx l r K) (min2 m v fun r => mmS mx l r K) = true from h)
    obtain ⟨u, h3, h4⟩ := mmS_ok h1
    refine ⟨u, h3, fun {φ m' l'} w hm hv => ?_⟩
    cases hv with
    | cons g1 g2 =>
      obtain ⟨r', e1, e2⟩ := h2 w hm g1
      obtain ⟨u', e3, e4⟩ := h4 w e2 g2
      refine ⟨u', ?_, e4⟩
      rw [List.foldlM_cons, Sem.run_bind, e1, Result.andThen_ok]
      exact e3
theorem mm_sound (mx : Bool) (c : Call) (p : Opd) (q : List Opd) (hc : c.callee = .builtin (bR mx .max .min)) (ha : cOpds c.args.toList = some (p :: q)) : OpSound P C (.call c) (xMM mx p q) := fun T s K h => by
  obtain ⟨n, h1, h2⟩ := mmS_ok (P := P) (show mmS mx (opds T q) (p.run T) (fun v => K v s) = true from h)
  refine still h1 fun w0 φ w ρ o' ho _ hρ => ?_
  obtain ⟨cs, hr⟩ := run_builtin (P := P) hc (ρ := ρ) ho (w := w)
  have hv := call_args ha hρ
  have hv : VRs φ (p.run T :: opds T q) (c.args.map ρ).toList := hv
  generalize hargs : c.args.map ρ = args at hv hr
  obtain ⟨l⟩ := args
  cases hv with
  | cons g1 g2 =>
    obtain ⟨v', e1, e2⟩ := h2 w g1 g2
    refine ⟨v', ?_, e2⟩
    rw [hr]
    cases mx with
    | true =>
      have this : (List.foldlM Builtin.max2 _ _).run P w = _ := e1
      show (builtin .max c.argTypes o'.type cs _).run P w = _
      simp only [builtin, Builtin.max_, Sem.run_bind, this, Result.andThen_ok, Sem.run_pure]
    | false =>
      have this : (List.foldlM Builtin.min2 _ _).run P w = _ := e1
      show (builtin .min c.argTypes o'.type cs _).run P w = _
      simp only [builtin, Builtin.min_, Sem.run_bind, this, Result.andThen_ok, Sem.run_pure]
theorem lenA_sound (c : Call) (n : Nat) (p : Opd) (t e : TypeId) (hc : c.callee = .builtin .len) (ha : cOpds c.args.toList = some [p]) (ht : c.argTypes[0]? = some t) (hu : P.underlying t = some (.array n e)) : OpSound P C (.call c) (xLenA n) := fun T s K h => by
  refine still (v := .int .i64 (n : Nat)) h fun w0 φ w ρ o' ho _ hρ => ?_
  obtain ⟨cs, hr⟩ := run_builtin (P := P) hc (ρ := ρ) ho (w := w)
  obtain ⟨a', e, h1⟩ := one_arg (call_args ha hρ)
  refine ⟨_, ?_, .int .i64 _⟩
  rw [hr, e]
  simp [builtin, Builtin.len_, ht, run_underlying' hu, goInt]
theorem len_sound (c : Call) (p : Opd) (t e : TypeId) (hc : c.callee = .builtin .len) (ha : cOpds c.args.toList = some [p]) (ht : c.argTypes[0]? = some t) (hu : P.underlying t = some (.slice e)) : OpSound P C (.call c) (xLen p) := fun T s K h => by
  rcases asSl2_ok h with ⟨hx, h1⟩ | ⟨b, o, l, z, hx, h1⟩ | ⟨b, o, l, z, mx, hx, h1⟩
  · refine still h1 fun w0 φ w ρ o' ho _ hρ => ?_
    obtain ⟨cs, hr⟩ := run_builtin (P := P) hc (ρ := ρ) ho (w := w)
    obtain ⟨a', e, h2⟩ := one_arg (call_args ha hρ)
    have h2 : VR φ (p.run T) a' := h2
    rw [hx] at h2
    cases h2
    refine ⟨_, ?_, .int .i64 _⟩
    rw [hr, e]
    simp [builtin, Builtin.len_, ht, run_underlying' hu, goInt]
  · refine still h1 fun w0 φ w ρ o' ho _ hρ => ?_
    obtain ⟨cs, hr⟩ := run_builtin (P := P) hc (ρ := ρ) ho (w := w)
    obtain ⟨a', e, h2⟩ := one_arg (call_args ha hρ)
    have h2 : VR φ (p.run T) a' := h2
    rw [hx] at h2
    refine ⟨_, ?_, .int .i64 _⟩
    rw [hr, e]
    cases h2 <;> simp [builtin, Builtin.len_, ht, run_underlying' hu, goInt]
  · obtain ⟨v, h1, hv⟩ := mkN_ok h1
    refine still h1 fun w0 φ w ρ o' ho _ hρ => ?_
    obtain ⟨cs, hr⟩ := run_builtin (P := P) hc (ρ := ρ) ho (w := w)
    obtain ⟨a', e, h2⟩ := one_arg (call_args ha hρ)
    have h2 : VR φ (p.run T) a' := h2
    rw [hx] at h2
    refine ⟨.int .i64 (l : Int), ?_, hv ?_ φ⟩
    · rw [hr, e]
      cases h2 <;> simp [builtin, Builtin.len_, ht, run_underlying' hu, goInt]
    · cases h2 with
      | aslice _ _ _ h3 => exact ⟨by omega, by show (l : Int) ≤ (mx : Int); omega⟩
      | aslice0 => exact ⟨by omega, by show ((0 : Nat) : Int) ≤ (mx : Int); omega⟩
theorem lenS_sound (c : Call) (p : Opd) (t : TypeId) (hc : c.callee = .builtin .len) (ha : cOpds c.args.toList = some [p]) (ht : c.argTypes[0]? = some t) (hu : P.underlying t = some .string) : OpSound P C (.call c) (xLenS p) := fun T s K h => by
  obtain ⟨a, hx, h1⟩ := asStr_ok h
  refine still h1 fun w0 φ w ρ o' ho _ hρ => ?_
  obtain ⟨cs, hr⟩ := run_builtin (P := P) hc (ρ := ρ) ho (w := w)
  obtain ⟨a', e, h2⟩ := one_arg (call_args ha hρ)
  have h2 : VR φ (p.run T) a' := h2
  rw [hx] at h2
  cases h2
  refine ⟨_, ?_, .int .i64 _⟩
  rw [hr, e]
  simp [builtin, Builtin.len_, ht, run_underlying' hu, goInt]

/-! append -/
theorem WR.drew {w0 : World} {φ : Phi} {s : St} {w : World} (h : WR w0 φ s w) : WR w0 φ s w.drew :=
  ⟨h.below.drew, h.ro, h.loc, h.apart, h.loops.step (Ext2.refl _) fun _ _ h _ => h⟩

/-- the state behind an append at 'b': 'c' is the new slice's row, 'b' goes or becomes its mate -/
theorem appendWR {w0 : World} {φ : Phi} {s : St} {w w' : World} {b : List Bool} {k nk : Blk} {bk : Option Blk} {p q : Nat × Nat × Nat}
    (hw : WR w0 φ s w) (hk : s.L.get b = some k) (hreal : Real φ b k) (hkf : k.fz = false) (hc : φ s.c = none) (hφ : φ b = some p)
    (hbl : Below w0.heap.size w w') (hlo : w0.heap.size ≤ q.1)
    (hnew : ∀ φ' : Phi, Ext2 φ φ' → φ' s.c = some q → At φ' s.c nk w' q (0, 0))
    (hq : (q.1 = p.1 ∧ nk.mate = (bk.map fun _ => b)) ∨ (w.heap.size ≤ q.1))
    (hbk : ∀ k', bk = some k' → k'.mate = some s.c ∧ At φ b k' w' p (0, 0))
    (hoth : ∀ b' k' p', s.L.get b' = some k' → Real φ b' k' → b' ≠ b → k.mate ≠ some b' → φ b' = some p' → w'.heap[p'.1]? = w.heap[p'.1]?) (hno : Others w w') :
    WR w0 (φ.put s.c q) ⟨inc s.c, Tr.set (some nk) s.c (Tr.set bk b (kill k.mate s.L)), s.R, s.J⟩ w' := by
  have hst := Step.put (φ := φ) q hc
  have hself : (φ.put s.c q) s.c = some q := by simp [Phi.put]
  have hne : ∀ x, x ≠ s.c → (φ.put s.c q) x = φ x := fun x hx => by simp [Phi.put, hx]
  have hbc : b ≠ s.c := by rintro rfl; rw [hc] at hφ; cases hφ
  have old : ∀ b' k', (Tr.set (some nk) s.c (Tr.set bk b (kill k.mate s.L))).get b' = some k' →
      (b' = s.c ∧ k' = nk) ∨ (b' ≠ s.c ∧ b' = b ∧ bk = some k') ∨ (b' ≠ s.c ∧ b' ≠ b ∧ k.mate ≠ some b' ∧ s.L.get b' = some k') := by
    intro b' k' h
    rw [Tr.get_set] at h
    by_cases h1 : s.c = b'
    · rw [if_pos h1] at h; cases h; exact .inl ⟨h1.symm, rfl⟩
    · rw [if_neg h1, Tr.get_set] at h
      by_cases h2 : b = b'
      · rw [if_pos h2] at h; exact .inr (.inl ⟨fun e => h1 e.symm, h2.symm, h⟩)
      · rw [if_neg h2, get_kill] at h
        by_cases h3 : k.mate = some b'
        · rw [if_pos h3] at h; cases h
        · rw [if_neg h3] at h; exact .inr (.inr ⟨fun e => h1 e.symm, fun e => h2 e.symm, h3, h⟩)
  have hlt : ∀ b' k' p', s.L.get b' = some k' → Real φ b' k' → φ b' = some p' → p'.1 < w.heap.size := by
    intro b' k' p' h1 hr h2
    obtain ⟨p'', _, h3, _⟩ := (hw.loc b' k' h1).real hr
    have := h3.1; rw [h2] at this; cases this
    exact h3.lt
  have hap : ∀ b' k' p', s.L.get b' = some k' → Real φ b' k' → b' ≠ b → k.mate ≠ some b' → φ b' = some p' → p.1 ≠ p'.1 := fun b' k' p' h1 hr h2 h3 h4 =>
    hw.apart b b' k k' p p' hk h1 (fun e => h2 e.symm) h3 ⟨hreal, hr, fun e => by rw [hkf] at e; cases e⟩ hφ h4
  have hqap : ∀ b' k' p', s.L.get b' = some k' → Real φ b' k' → b' ≠ b → k.mate ≠ some b' → φ b' = some p' → q.1 ≠ p'.1 := by
    intro b' k' p' h1 hr h2 h3 h4
    rcases hq with ⟨e, _⟩ | e
    · rw [e]; exact hap b' k' p' h1 hr h2 h3 h4
    · have := hlt b' k' p' h1 hr h4; omega
  have hpsz : p.1 < w.heap.size := hlt b k p hk hreal hφ
  refine ⟨hw.below.trans hbl, fun hp h1 b' k' h2 => ?_, fun b' k' h => ?_, fun b1 b2 k1 k2 p1 p2 h1 h2 h3 h4 hsep h5 h6 => ?_, hw.loops.step hst.ext hno⟩
  · exact (hw.ro hp h1 b' k' h2).mono hst.ext
  · rcases old b' k' h with ⟨rfl, rfl⟩ | ⟨e1, rfl, e2⟩ | ⟨e1, e2, e3, e4⟩
    · exact .inr ⟨q, _, hnew _ hst.ext hself, fun _ => rfl, hlo⟩
    · obtain ⟨p', fz', h7, h8⟩ := (hw.loc b' k hk).real hreal
      have := h7.1; rw [hφ] at this; cases this
      exact .inr ⟨p, _, ((hbk k' e2).2).mono hst.ext, fun _ => rfl, h8.2⟩
    · rcases hw.loc b' k' e4 with h7 | ⟨p', fz', h7, h8⟩
      · exact .inl (h7.mono hst.ext)
      · by_cases hr : Real φ b' k'
        · exact .inr ⟨p', fz', (h7.mono hst.ext).world (hoth b' k' p' e4 hr e2 e3 h7.1), h8⟩
        · exact .inl ((gone_of hr).mono hst.ext)
  · rcases old b1 k1 h1 with ⟨rfl, rfl⟩ | ⟨e1, rfl, e2⟩ | ⟨e1, e2, e3, e4⟩
    · rw [hself] at h5; cases h5
      rcases old b2 k2 h2 with ⟨rfl, _⟩ | ⟨f1, rfl, f2⟩ | ⟨f1, f2, f3, f4⟩
      · exact absurd rfl h3
      · rw [hne _ f1, hφ] at h6; cases h6
        rcases hq with ⟨_, e⟩ | e
        · rw [f2] at e; exact absurd e h4
        · omega
      · rw [hne _ f1] at h6
        exact hqap b2 k2 p2 f4 (hsep.r.back hst.ext) f2 f3 h6
    · rw [hne _ e1, hφ] at h5; cases h5
      rcases old b2 k2 h2 with ⟨rfl, rfl⟩ | ⟨f1, rfl, f2⟩ | ⟨f1, f2, f3, f4⟩
      · exact absurd (hbk k1 e2).1 h4
      · exact absurd rfl h3
      · rw [hne _ f1] at h6
        exact hap b2 k2 p2 f4 (hsep.r.back hst.ext) f2 f3 h6
    · rw [hne _ e1] at h5
      rcases old b2 k2 h2 with ⟨rfl, rfl⟩ | ⟨f1, rfl, f2⟩ | ⟨f1, f2, f3, f4⟩
      · rw [hself] at h6; cases h6
        exact (hqap b1 k1 p1 e4 (hsep.l.back hst.ext) e2 e3 h5).symm
      · rw [hne _ f1, hφ] at h6; cases h6
        exact (hap b1 k1 p1 e4 (hsep.l.back hst.ext) e2 e3 h5).symm
      · rw [hne _ f1] at h6
        exact hw.apart b1 b2 k1 k2 p1 p2 e4 f4 h3 h4 (hsep.back hst.ext) h5 h6
end
end Go.Ev
