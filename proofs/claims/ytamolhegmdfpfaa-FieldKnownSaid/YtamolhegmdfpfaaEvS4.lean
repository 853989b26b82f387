/- The operations, continued. -/
import Derived.Test.YtamolhegmdfpfaaEvS3
namespace Go.Ev
open Go.RowKit (Below)
section
variable {P : Program} {C : CallK}

theorem mkI_ok {k : IntKind} {n : Int} {K : EV → Ans} (h : mkI k n K = true) : K (.int k (k.wrap n)) = true := by
  have wrapId : ∀ m : Int, k.min ≤ m → m ≤ k.max → k.wrap m = m := by
    intro m h1 h2
    unfold IntKind.wrap IntKind.min IntKind.max at *
    cases k <;> simp [IntKind.signed, IntKind.bits] at * <;> omega
  unfold mkI at h
  rcases iR_ok h with ⟨m, rfl, h1⟩ | ⟨m, rfl, h1⟩
  · rw [fN_eq] at h1
    cases hb : Nat.ble m (hiN k) with
    | true =>
      rw [hb] at h1
      have hle := Nat.le_of_ble_eq_true hb
      rw [wrapId m (by unfold IntKind.min; cases k <;> simp [IntKind.signed, IntKind.bits] <;> omega)
        (by unfold IntKind.max; cases k <;> simp [IntKind.signed, IntKind.bits, hiN] at * <;> omega)]
      exact h1
    | false => rw [hb] at h1; rw [bR_false, fI_eq] at h1; exact h1
  · rw [fN_eq] at h1
    cases hb : (k.signed && Nat.ble m (hiN k)) with
    | true =>
      have h1' : bR (k.signed && Nat.ble m (hiN k)) (K (.int k (.negSucc m))) _ = true := h1
      rw [hb] at h1'
      simp at hb
      obtain ⟨hs, hle⟩ := hb
      rw [wrapId (Int.negSucc m) (by unfold IntKind.min; cases k <;> simp [IntKind.signed, IntKind.bits, hiN] at * <;> omega)
        (by unfold IntKind.max; cases k <;> simp [IntKind.signed, IntKind.bits] at * <;> omega)]
      exact h1'
    | false =>
      have h1' : bR (k.signed && Nat.ble m (hiN k)) (K (.int k (.negSucc m))) _ = true := h1
      rw [hb] at h1'; rw [bR_false, fI_eq] at h1'; exact h1'
theorem conv_sound (src dst : TypeId) (k : IntKind) (d : TypeDesc) (x : Operand) (p : Opd) (hp : cOpd x = some p) (hs : P.underlying src = some d) (ht : P.underlying dst = some (.int k)) : OpSound P C (.convert src dst x) (xConv k p) := fun T s K h => by
  obtain ⟨k', n, hx, h1⟩ := asInt_ok h
  refine still (mkI_ok h1) fun w0 φ w ρ o' ho _ hρ => ?_
  obtain ⟨dst', op, ty, pos, after, guard⟩ := o'; simp only at ho; subst ho
  have h5 := hρ x (by simp [Op.operands]) p hp
  rw [hx] at h5
  generalize hvx : ρ x = vx at h5
  cases h5
  refine ⟨_, ?_, .int k _⟩
  simp only [execOp, convert, hvx, Sem.run_bind, run_underlying' hs, run_underlying' ht, Result.andThen_ok, Conv.intToInt, Sem.run_pure]
theorem evBitsS_ok {op : BinOp} {k : IntKind} {x y : Int} {K : EV → Ans} (h : evBitsS op k x y K = true) : ∃ n, K (.int k n) = true ∧ ∀ w : World, (Op.intBits op k x y).run P w = .ok (.int k n) w := by
  unfold evBitsS at h
  split at h
  · exact ⟨_, mkI_ok h, fun w => rfl⟩
  · exact ⟨_, mkI_ok h, fun w => rfl⟩
  · exact ⟨_, mkI_ok h, fun w => rfl⟩
  · exact ⟨_, mkI_ok h, fun w => rfl⟩
  · exact absurd h (by decide)
theorem un_sound (op : UnOp) (t : TypeId) (x : Operand) (p : Opd) (hp : cOpd x = some p) : OpSound P C (.unOp op t x) (xUn op p) := fun T s K h => by
  have key : ∃ v, K v s = true ∧ ∀ φ v', VR φ (p.run T) v' → ∃ u, VR φ v u ∧ ∀ w : World, (Op.unary op v').run P w = .ok u w := by
    unfold xUn evUn at h
    cases op with
    | neg =>
      obtain ⟨k, n, hx, h1⟩ := asInt_ok h
      refine ⟨_, mkI_ok h1, fun φ v' hv => ?_⟩
      rw [hx] at hv; cases hv
      exact ⟨_, .int k _, fun w => rfl⟩
    | xor =>
      obtain ⟨k, n, hx, h1⟩ := asInt_ok h
      obtain ⟨m, h2, h3⟩ := evBitsS_ok (P := P) h1
      refine ⟨_, h2, fun φ v' hv => ?_⟩
      rw [hx] at hv; cases hv
      refine ⟨_, .int k _, fun w => ?_⟩
      rw [← h3 w]
      simp only [Op.unary]
      cases hs : k.signed <;> rfl
    | not =>
      obtain ⟨b, hx, h1⟩ := asBool_ok h
      refine ⟨_, h1, fun φ v' hv => ?_⟩
      rw [hx] at hv; cases hv
      exact ⟨_, .bool _, fun w => rfl⟩
    | plus => exact absurd (show false = true from h) (by decide)
  obtain ⟨v, h1, h2⟩ := key
  refine still h1 fun w0 φ w ρ o' ho _ hρ => ?_
  obtain ⟨dst', op', ty, pos, after, guard⟩ := o'; simp only at ho; subst ho
  obtain ⟨u, h3, h4⟩ := h2 φ _ (hρ x (by simp [Op.operands]) p hp)
  refine ⟨u, ?_, h3⟩
  simp only [execOp, Sem.run_bind, h4, Result.andThen_ok, Sem.run_pure]

theorem kindEq_ok {a b : IntKind} (h : kindEq a b = true) : a = b := by unfold kindEq at h; simpa using h
theorem leI_eq (a b : Int) : leI a b = decide (a ≤ b) := by
  unfold leI; rw [ltI_eq, Bool.eq_iff_iff]; simp
theorem addI_eq (a b : Int) : addI a b = a + b := by cases a <;> cases b <;> rfl
theorem evShl_ok {k yk : IntKind} {a b : Int} {K : EV → Ans} (h : evShl k a b K = true) : ∃ n, K (.int k n) = true ∧ ∀ w : World, (Op.shift .shl k a yk b).run P w = .ok (.int k n) w := by
  obtain ⟨n, rfl, h1⟩ := iR_nat h
  refine ⟨_, mkI_ok h1, fun w => ?_⟩
  have : ¬ ((n : Int) < 0) := by omega
  simp only [Op.shift, if_neg this, Int.toNat_natCast, Sem.run_pure]
  congr 3
theorem evShr_ok {k yk : IntKind} {a b : Int} {K : EV → Ans} (h : evShr k a b K = true) : ∃ n, K (.int k n) = true ∧ ∀ w : World, (Op.shift .shr k a yk b).run P w = .ok (.int k n) w := by
  obtain ⟨n, rfl, h1⟩ := iR_nat h
  rw [fI_eq] at h1
  refine ⟨_, h1, fun w => ?_⟩
  have : ¬ ((n : Int) < 0) := by omega
  simp only [Op.shift, if_neg this, Int.toNat_natCast, Sem.run_pure]
  congr 3
theorem evInts_ok {op : BinOp} {t : TypeId} {k k' : IntKind} {a b : Int} {K : EV → Ans} (h : evInts op k k' a b K = true) :
    ∃ v, K v = true ∧ ∀ φ, ∃ u, VR φ v u ∧ ∀ w : World, (binOp op t (.int k a) (.int k' b)).run P w = .ok u w := by
  have two : ∀ {X : Ans}, guardB (kindEq k k') X = true → k = k' ∧ X = true := fun h => let ⟨h1, h2⟩ := guard_ok h; ⟨kindEq_ok h1, h2⟩
  cases op with
  | shl => obtain ⟨n, h1, h2⟩ := evShl_ok (P := P) (yk := k') h; exact ⟨_, h1, fun φ => ⟨_, .int k n, h2⟩⟩
  | shr => obtain ⟨n, h1, h2⟩ := evShr_ok (P := P) (yk := k') h; exact ⟨_, h1, fun φ => ⟨_, .int k n, h2⟩⟩
  | add =>
    obtain ⟨rfl, h1⟩ := two h
    have h1 := mkI_ok h1
    rw [addI_eq] at h1
    exact ⟨_, h1, fun φ => ⟨_, .int k _, fun w => by simp [binOp, Op.intArith]⟩⟩
  | sub =>
    obtain ⟨rfl, h1⟩ := two h
    exact ⟨_, mkI_ok h1, fun φ => ⟨_, .int k _, fun w => by simp [binOp, Op.intArith] <;> rfl⟩⟩
  | mul =>
    obtain ⟨rfl, h1⟩ := two h
    exact ⟨_, mkI_ok h1, fun φ => ⟨_, .int k _, fun w => by simp [binOp, Op.intArith] <;> rfl⟩⟩
  | quo =>
    obtain ⟨rfl, h1⟩ := two h
    unfold evQuo at h1
    rw [eqI_eq] at h1
    by_cases hb : b = 0
    · simp [hb, bR] at h1
    · have h1' : mkI k (Int.tdiv a b) K = true := by simpa [hb, bR] using h1
      exact ⟨_, mkI_ok h1', fun φ => ⟨_, .int k _, fun w => by simp [binOp, Op.intDiv, hb]⟩⟩
  | rem =>
    obtain ⟨rfl, h1⟩ := two h
    unfold evRem at h1
    rw [eqI_eq, fI_eq] at h1
    by_cases hb : b = 0
    · simp [hb, bR] at h1
    · have h1' : K (.int k (Int.tmod a b)) = true := by simpa [hb, bR] using h1
      exact ⟨_, h1', fun φ => ⟨_, .int k _, fun w => by simp [binOp, Op.intDiv, hb]⟩⟩
  | and =>
    obtain ⟨rfl, h1⟩ := two h
    obtain ⟨n, h2, h3⟩ := evBitsS_ok (P := P) h1
    exact ⟨_, h2, fun φ => ⟨_, .int k n, fun w => by rw [← h3 w]; simp [binOp]⟩⟩
  | or =>
    obtain ⟨rfl, h1⟩ := two h
    obtain ⟨n, h2, h3⟩ := evBitsS_ok (P := P) h1
    exact ⟨_, h2, fun φ => ⟨_, .int k n, fun w => by rw [← h3 w]; simp [binOp]⟩⟩
  | xor =>
    obtain ⟨rfl, h1⟩ := two h
    obtain ⟨n, h2, h3⟩ := evBitsS_ok (P := P) h1
    exact ⟨_, h2, fun φ => ⟨_, .int k n, fun w => by rw [← h3 w]; simp [binOp]⟩⟩
  | andNot =>
    obtain ⟨rfl, h1⟩ := two h
    obtain ⟨n, h2, h3⟩ := evBitsS_ok (P := P) h1
    exact ⟨_, h2, fun φ => ⟨_, .int k n, fun w => by rw [← h3 w]; simp [binOp]⟩⟩
  | eql =>
    obtain ⟨rfl, h1⟩ := two h
    exact ⟨_, h1, fun φ => ⟨_, .bool _, fun w => by simp [binOp, Op.intCmp, eqI_eq] <;> (rw [Bool.eq_iff_iff]; simp)⟩⟩
  | neq =>
    obtain ⟨rfl, h1⟩ := two h
    exact ⟨_, h1, fun φ => ⟨_, .bool _, fun w => by simp [binOp, Op.intCmp, eqI_eq] <;> (rw [Bool.eq_iff_iff]; simp)⟩⟩
  | lss =>
    obtain ⟨rfl, h1⟩ := two h
    exact ⟨_, h1, fun φ => ⟨_, .bool _, fun w => by simp [binOp, Op.intCmp, ltI_eq]⟩⟩
  | leq =>
    obtain ⟨rfl, h1⟩ := two h
    exact ⟨_, h1, fun φ => ⟨_, .bool _, fun w => by simp [binOp, Op.intCmp, leI_eq]⟩⟩
  | gtr =>
    obtain ⟨rfl, h1⟩ := two h
    exact ⟨_, h1, fun φ => ⟨_, .bool _, fun w => by simp [binOp, Op.intCmp, ltI_eq]⟩⟩
  | geq =>
    obtain ⟨rfl, h1⟩ := two h
    exact ⟨_, h1, fun φ => ⟨_, .bool _, fun w => by simp [binOp, Op.intCmp, leI_eq]⟩⟩
theorem iface_sound (t : TypeId) (d : TypeDesc) (x : Operand) (p : Opd) (hp : cOpd x = some p) (ht : P.underlying t = some d) (hd : ∀ ms, d ≠ .interface ms) : OpSound P C (.makeInterface t x) (xIface t p) := fun T s K h => by
  refine still (v := .iface t (p.run T)) h fun w0 φ w ρ o' ho _ hρ => ?_
  obtain ⟨dst', op', ty, pos, after, guard⟩ := o'; simp only at ho; subst ho
  refine ⟨_, ?_, .iface (hρ x (by simp [Op.operands]) p hp)⟩
  simp only [execOp, Instr.makeInterface, Sem.run_bind, run_underlying' ht, Result.andThen_ok]
  cases d <;> first | rfl | exact absurd rfl (hd _)

theorem run_eqlB {t : TypeId} {x y : Value} {w : World} (h : ∀ k n, x ≠ .int k n) (h2 : ∀ s, x ≠ .string s) (h3 : ∀ k n, x ≠ .float k n) (h4 : ∀ k a b, x ≠ .complex k a b) :
    (binOp .eql t x y).run P w = ((Op.equal t x y).run P w).andThen fun b w' => .ok (.bool b) w' := by
  cases x <;> first | exact absurd rfl (h _ _) | exact absurd rfl (h2 _) | exact absurd rfl (h3 _ _) | exact absurd rfl (h4 _ _ _) | (cases y <;> simp [binOp])
theorem run_neqB {t : TypeId} {x y : Value} {w : World} (h : ∀ k n, x ≠ .int k n) (h2 : ∀ s, x ≠ .string s) (h3 : ∀ k n, x ≠ .float k n) (h4 : ∀ k a b, x ≠ .complex k a b) :
    (binOp .neq t x y).run P w = ((Op.equal t x y).run P w).andThen fun b w' => .ok (.bool (!b)) w' := by
  cases x <;> first | exact absurd rfl (h _ _) | exact absurd rfl (h2 _) | exact absurd rfl (h3 _ _) | exact absurd rfl (h4 _ _ _) | (cases y <;> simp [binOp])

theorem eqCell_ok {t : TypeId} {x y : EV} {r : Bool} (h : eqCell P t x y = some r) {φ : Phi} {x' y' : Value} (hx : VR φ x x') (hy : VR φ y y') (w : World) (d : Nat) :
    (Op.equalIn (d + 1) t x' y').run P w = .ok r w := by
  unfold eqCell at h
  split at h
  all_goals first
    | (cases h; done)
    | (rename_i ht; cases hx <;> cases hy <;> simp only [Op.equalIn, Sem.run_bind, run_underlying' ht, Result.andThen_ok, Sem.run_pure])
  · rename_i k a k' b
    cases hk : kindEq k k' with
    | false => rw [hk] at h; cases h
    | true =>
      rw [hk] at h; cases h
      rw [kindEq_ok hk, eqI_eq, if_pos rfl, Sem.run_pure]
      congr 1
  · cases h
    congr 1
    rename_i a b
    cases a <;> cases b <;> rfl
  · cases h
    congr 1
    exact beq_toListBytes _ _
  all_goals (cases h; rfl)
theorem evEq_plain {t : TypeId} {x y : EV} {r : Bool} (h : evEq P t x y = some r) : (∃ a b fs, x = .agg a ∧ y = .agg b ∧ P.underlying t = some (.struct fs) ∧ P.stoodInHeld t = false ∧ P.eqGuardType P.depth t = false ∧ eqFields P fs.toList a b = some r) ∨
    (eqCell P t x y = some r ∧ ¬ ((∃ a, x = .agg a) ∧ ∃ b, y = .agg b)) := by
  unfold evEq at h
  split at h
  · rename_i a b
    split at h
    · rename_i fs ht
      left
      cases h1 : P.stoodInHeld t with
      | true => rw [h1] at h; cases h
      | false =>
        rw [h1] at h
        cases h2 : P.eqGuardType P.depth t with
        | true => rw [h2] at h; cases h
        | false => rw [h2] at h; exact ⟨a, b, fs, rfl, rfl, ht, rfl, rfl, h⟩
    · cases h
  · rename_i hne
    exact .inr ⟨h, fun ⟨⟨a, ha⟩, b, hb⟩ => hne a b ha hb⟩

theorem eqFields_ok {φ : Phi} {a b : List EV} {a' b' : List Value} (ha : VRs φ a a') (hb : VRs φ b b') (w : World) (d : Nat) : ∀ (fs : List Field) {r : Bool}, eqFields P fs a b = some r →
    (Op.eqFields (d + 1) a'.toArray b'.toArray fs).run P w = .ok r w := by
  intro fs
  induction fs with
  | nil => intro r h; cases h; simp [Op.eqFields]
  | cons f fs ih =>
    intro r h
    unfold eqFields at h
    split at h
    · rename_i x y h1 h2 h3 h4
      obtain ⟨x', e1, e2⟩ := nth_part (P := P) (w := w) h2 ha h3
      obtain ⟨y', e3, e4⟩ := nth_part (P := P) (w := w) h2 hb h4
      have hn : f.name ≠ "_" := by simpa using h1
      have hx : ∀ q, eqCell P f.type x y = some q → (Op.equalIn (d + 1) f.type x' y').run P w = .ok q w := fun q hq => eqCell_ok hq e2 e4 w d
      split at h
      · rename_i hq
        simp only [Op.eqFields, if_pos hn, Sem.run_bind, e1, e3, Result.andThen_ok, hx _ hq]
        simpa using ih h
      · simp only [Op.eqFields, if_pos hn, Sem.run_bind, e1, e3, Result.andThen_ok, hx _ h]
        cases r with
        | true => exact absurd h (by assumption)
        | false => simp
    · cases h
theorem guard_plain {op : BinOp} {t : TypeId} {a b : Operand} {x y : Value} {w : World} (h1 : ¬ (x = .nilIface ∧ y = .nilIface)) (h2 : ¬ ∃ l m, x = .agg l ∧ y = .agg m) : (eqGuard op t a b x y).run P w = .ok () w := by
  have key : ∀ (c : Bool) (X : Sem Unit), X.run P w = .ok () w → (if c = true then pure () else X : Sem Unit).run P w = .ok () w := by
    intro c X hX; cases c
    · simpa using hX
    · rfl
  unfold eqGuard
  apply key
  split
  · exact absurd ⟨rfl, rfl⟩ h1
  · exact absurd ⟨_, _, rfl, rfl⟩ h2
  · rfl
theorem evEqO_ok {op : BinOp} {t : TypeId} {x y : EV} {K : EV → Ans} (h : evEqO P op t x y K = true) (hni : ∀ k n, x ≠ .int k n) :
    ∃ v, K v = true ∧ ∀ φ x' y', VR φ x x' → VR φ y y' → ∃ u, VR φ v u ∧ ∀ (w : World) (a b : Operand), (eqGuard op t a b x' y').run P w = .ok () w ∧ (binOp op t x' y').run P w = .ok u w := by
  have main : ∀ r, evEq P t x y = some r → ∀ φ x' y', VR φ x x' → VR φ y y' → ∀ (w : World) (a b : Operand), (op = .eql ∨ op = .neq) →
      (eqGuard op t a b x' y').run P w = .ok () w ∧ (binOp op t x' y').run P w = .ok (.bool (if op = .eql then r else !r)) w := by
    intro r hr φ x' y' hx hy w a b hop
    rcases evEq_plain hr with ⟨l, m, fs, rfl, rfl, ht, hs, hg, hf⟩ | ⟨hc, hna⟩
    · cases hx with
      | agg hx => cases hy with
        | agg hy =>
          have hfs : P.fieldsOf t = fs := by simp [Program.fieldsOf, ht]
          have hrun : (Op.equalIn 10000 t (.agg _) (.agg _)).run P w = .ok r w :=
            (run_equalIn_struct w 9999 t _ _ (by rw [hfs]; exact ht) hs).trans (by rw [hfs]; exact eqFields_ok hx hy w 9998 fs.toList hf)
          refine ⟨run_eqGuard_agg w op t a b _ _ hg, ?_⟩
          rcases hop with rfl | rfl
          · rw [run_eql_struct, hrun]; rfl
          · rw [run_neq_struct, hrun]; rfl
    · have heq : (Op.equal t x' y').run P w = .ok r w := eqCell_ok hc hx hy w 9999
      have hguard : (eqGuard op t a b x' y').run P w = .ok () w := by
        have hnn : ¬ (x' = .nilIface ∧ y' = .nilIface) := by
          rintro ⟨rfl, rfl⟩
          cases hx; cases hy
          unfold eqCell at hc
          split at hc <;> simp_all
        refine guard_plain hnn ?_
        rintro ⟨l, m, rfl, rfl⟩
        cases hx; cases hy; exact hna ⟨⟨_, rfl⟩, _, rfl⟩
      refine ⟨hguard, ?_⟩
      by_cases hstr : ∃ s, x = .str s
      · obtain ⟨s, rfl⟩ := hstr
        cases hx
        unfold eqCell at hc
        split at hc <;> simp_all
        cases hy
        subst hc
        rcases hop with rfl | rfl <;> simp [binOp, Op.stringOp]
      · have n1 : ∀ k n, x' ≠ .int k n := by rintro k n rfl; cases hx; exact hni _ _ rfl
        have n2 : ∀ s, x' ≠ .string s := by rintro s rfl; cases hx; exact hstr ⟨_, rfl⟩
        have n3 : ∀ k n, x' ≠ .float k n := by rintro k n rfl; cases hx
        have n4 : ∀ k p q, x' ≠ .complex k p q := by rintro k p q rfl; cases hx
        rcases hop with rfl | rfl
        · rw [run_eqlB n1 n2 n3 n4, heq]; rfl
        · rw [run_neqB n1 n2 n3 n4, heq]; rfl
  unfold evEqO at h
  split at h
  · obtain ⟨r, hr, hk⟩ := oR_ok h
    exact ⟨_, hk, fun φ x' y' hx hy => ⟨_, .bool r, fun w a b => by simpa using main r hr φ x' y' hx hy w a b (.inl rfl)⟩⟩
  · obtain ⟨r, hr, hk⟩ := oR_ok h
    exact ⟨_, hk, fun φ x' y' hx hy => ⟨_, .bool _, fun w a b => by simpa using main r hr φ x' y' hx hy w a b (.inr rfl)⟩⟩
  · exact absurd h (by decide)
theorem bin_sound (op : BinOp) (t u : TypeId) (x y : Operand) (p q : Opd) (hp : cOpd x = some p) (hq : cOpd y = some q) : OpSound P C (.binOp op t x y u) (xBin P op t p q) := fun T s K h => by
  have key : ∃ v, K v s = true ∧ ∀ φ x' y', VR φ (p.run T) x' → VR φ (q.run T) y' → ∃ r, VR φ v r ∧ ∀ (w : World) (a b : Operand), (eqGuard op t a b x' y').run P w = .ok () w ∧ (binOp op t x' y').run P w = .ok r w := by
    unfold xBin evBin at h
    generalize hx : p.run T = vx at h
    generalize hy : q.run T = vy at h
    cases vx with
    | int k a =>
      obtain ⟨k', b, hb, h1⟩ := asInt_ok h
      obtain ⟨v, h2, h3⟩ := evInts_ok (P := P) (t := t) h1
      refine ⟨v, h2, fun φ x' y' hx' hy' => ?_⟩
      subst hb
      cases hx'; cases hy'
      obtain ⟨r, h4, h5⟩ := h3 φ
      refine ⟨r, h4, fun w a' b' => ⟨?_, h5 w⟩⟩
      exact guard_plain (by simp) (by simp)
    | tuple _ => exact absurd (show false = true from h) (by decide)
    | nilm => exact absurd (show false = true from h) (by decide)
    | map _ => exact absurd (show false = true from h) (by decide)
    | _ => exact evEqO_ok h (by simp)
  obtain ⟨v, h1, h2⟩ := key
  refine still h1 fun w0 φ w ρ o' ho _ hρ => ?_
  obtain ⟨dst', op', ty, pos, after, guard⟩ := o'; simp only at ho; subst ho
  obtain ⟨r, h3, h4⟩ := h2 φ _ _ (hρ x (by simp [Op.operands]) p hp) (hρ y (by simp [Op.operands]) q hq)
  refine ⟨r, ?_, h3⟩
  simp only [execOp, Sem.run_bind, (h4 w x y).1, (h4 w x y).2, Result.andThen_ok, Sem.run_pure]
end
end Go.Ev
