/- The operations, continued. -/
import Derived.Test.YtiadfbpbeaeflaaDoorEvS3
import Derived.ChangeKeysEq
namespace Go.Ev
open Go.RowKit (Below)
section
variable {P : Program} {C : CallK}

theorem mkI_ok {k : IntKind} {n : Int} {K : EV → Ans} (h : mkI k n K = true) : K (.int k (k.wrap n)) = true := by
  have wrapId : ∀ m : Int, k.min ≤ m → m ≤ k.max → k.wrap m = m := by
    intro m h1 h2
    unfold IntKind.wrap IntKind.min IntKind.max at *
    cases k <;> simp [IntKind.signed, IntKind.bits] at * <;> omega
  unfold mkI at h
  rcases iR_ok h with ⟨m, rfl, h1⟩ | ⟨m, rfl, h1⟩
  · rw [fN_eq] at h1
    unfold mkPos at h1
    cases hb : Nat.ble m (hiN k) with
    | true =>
      rw [hb] at h1
      have hle := Nat.le_of_ble_eq_true hb
      rw [wrapId m (by unfold IntKind.min; cases k <;> simp [IntKind.signed, IntKind.bits] <;> omega)
        (by unfold IntKind.max; cases k <;> simp [IntKind.signed, IntKind.bits, hiN] at * <;> omega)]
      exact h1
    | false => rw [hb] at h1; rw [bR_false] at h1; unfold mkOver at h1; rw [fI_eq] at h1; exact h1
  · rw [fN_eq] at h1
    cases hb : (k.signed && Nat.ble m (hiN k)) with
    | true =>
      have h1' : bR (k.signed && Nat.ble m (hiN k)) (K (.int k (.negSucc m))) _ = true := h1
      rw [hb] at h1'
      simp at hb
      obtain ⟨hs, hle⟩ := hb
      rw [wrapId (Int.negSucc m) (by unfold IntKind.min; cases k <;> simp [IntKind.signed, IntKind.bits, hiN] at * <;> omega)
        (by unfold IntKind.max; cases k <;> simp [IntKind.signed, IntKind.bits] at * <;> omega)]
      exact h1'
    | false =>
      have h1' : bR (k.signed && Nat.ble m (hiN k)) (K (.int k (.negSucc m))) _ = true := h1
      rw [hb] at h1'; rw [bR_false] at h1'; unfold mkOver at h1'; rw [fI_eq] at h1'; exact h1'
theorem conv_sound (src dst : TypeId) (k : IntKind) (d : TypeDesc) (x : Operand) (p : Opd) (hp : cOpd x = some p) (hs : P.underlying src = some d) (ht : P.underlying dst = some (.int k)) : OpSound P C (.convert src dst x) (xConv k p) := fun T s K h => by
  have key : ∃ v, K v s = true ∧ ∀ φ v', VR φ (p.run T) v' → ∃ k' n, v' = .int k' n ∧ VR φ v (.int k (k.wrap n)) := by
    rcases asNum2_ok h with ⟨k', n, hx, h1⟩ | ⟨k', e, lo, hi, h1, h2⟩
    · refine ⟨_, mkI_ok h1, fun φ v' hv => ?_⟩
      rw [hx] at hv; cases hv
      exact ⟨_, _, rfl, .int k _⟩
    · obtain ⟨v, h3, h4⟩ := mkS_ok h1
      refine ⟨v, h3, fun φ v' hv => ?_⟩
      obtain ⟨rfl, hr⟩ := h2 φ v' hv
      exact ⟨_, _, rfl, h4 hr φ⟩
  obtain ⟨v, h1, h2⟩ := key
  refine still h1 fun w0 φ w ρ o' ho _ hρ => ?_
  obtain ⟨dst', op, ty, pos, after, guard⟩ := o'; simp only at ho; subst ho
  obtain ⟨k', n, hvx, h5⟩ := h2 φ _ (hρ x (by simp [Op.operands]) p hp)
  refine ⟨_, ?_, h5⟩
  simp only [execOp, convert, hvx, Sem.run_bind, run_underlying' hs, run_underlying' ht, Result.andThen_ok, Conv.intToInt, Sem.run_pure]
theorem evBitsS_ok {op : BinOp} {k : IntKind} {x y : Int} {K : EV → Ans} (h : evBitsS op k x y K = true) : ∃ n, K (.int k n) = true ∧ ∀ w : World, (Op.intBits op k x y).run P w = .ok (.int k n) w := by
  unfold evBitsS at h
  split at h
  · exact ⟨_, mkI_ok h, fun w => rfl⟩
  · exact ⟨_, mkI_ok h, fun w => rfl⟩
  · exact ⟨_, mkI_ok h, fun w => rfl⟩
  · exact ⟨_, mkI_ok h, fun w => rfl⟩
  · exact absurd h (by decide)
theorem un_sound (op : UnOp) (t : TypeId) (x : Operand) (p : Opd) (hp : cOpd x = some p) : OpSound P C (.unOp op t x) (xUn op p) := fun T s K h => by
  have key : ∃ v, K v s = true ∧ ∀ φ v', VR φ (p.run T) v' → ∃ u, VR φ v u ∧ ∀ w : World, (Op.unary op v').run P w = .ok u w := by
    unfold xUn evUn at h
    cases op with
    | neg =>
      rcases asNum2_ok h with ⟨k, n, hx, h1⟩ | ⟨k, e, lo, hi, h1, h2⟩
      · refine ⟨_, mkI_ok h1, fun φ v' hv => ?_⟩
        rw [hx] at hv; cases hv
        exact ⟨_, .int k _, fun w => rfl⟩
      · obtain ⟨v, h3, h4⟩ := mkS_ok h1
        refine ⟨v, h3, fun φ v' hv => ?_⟩
        obtain ⟨rfl, hr⟩ := h2 φ v' hv
        exact ⟨_, h4 ⟨Int.sub_le_sub (Int.le_refl 0) hr.2, Int.sub_le_sub (Int.le_refl 0) hr.1⟩ φ, fun w => rfl⟩
    | xor =>
      rcases asNum2_ok h with ⟨k, n, hx, h1⟩ | ⟨k, e, lo, hi, h1, h2⟩
      · obtain ⟨m, h2, h3⟩ := evBitsS_ok (P := P) h1
        refine ⟨_, h2, fun φ v' hv => ?_⟩
        rw [hx] at hv; cases hv
        refine ⟨_, .int k _, fun w => ?_⟩
        rw [← h3 w]
        simp only [Op.unary]
        cases hs : k.signed <;> rfl
      · obtain ⟨v, h3, h4⟩ := mkN_ok h1
        refine ⟨v, h3, fun φ v' hv => ?_⟩
        obtain ⟨rfl, hr⟩ := h2 φ v' hv
        refine ⟨_, h4 (wrap_rng k _) φ, fun w => ?_⟩
        simp only [Op.unary]
        cases hs : k.signed <;> rfl
    | not =>
      obtain ⟨b, hx, h1⟩ := asBool_ok h
      refine ⟨_, h1, fun φ v' hv => ?_⟩
      rw [hx] at hv; cases hv
      exact ⟨_, .bool _, fun w => rfl⟩
    | plus => exact absurd (show false = true from h) (by decide)
  obtain ⟨v, h1, h2⟩ := key
  refine still h1 fun w0 φ w ρ o' ho _ hρ => ?_
  obtain ⟨dst', op', ty, pos, after, guard⟩ := o'; simp only at ho; subst ho
  obtain ⟨u, h3, h4⟩ := h2 φ _ (hρ x (by simp [Op.operands]) p hp)
  refine ⟨u, ?_, h3⟩
  simp only [execOp, Sem.run_bind, h4, Result.andThen_ok, Sem.run_pure]

theorem evShl_ok {k yk : IntKind} {a b : Int} {K : EV → Ans} (h : evShl k a b K = true) : ∃ n, K (.int k n) = true ∧ ∀ w : World, (Op.shift .shl k a yk b).run P w = .ok (.int k n) w := by
  obtain ⟨n, rfl, h1⟩ := iR_nat h
  refine ⟨_, mkI_ok h1, fun w => ?_⟩
  have : ¬ ((n : Int) < 0) := by omega
  simp only [Op.shift, if_neg this, Int.toNat_natCast, Sem.run_pure]
  congr 3
theorem evShr_ok {k yk : IntKind} {a b : Int} {K : EV → Ans} (h : evShr k a b K = true) : ∃ n, K (.int k n) = true ∧ ∀ w : World, (Op.shift .shr k a yk b).run P w = .ok (.int k n) w := by
  obtain ⟨n, rfl, h1⟩ := iR_nat h
  rw [fI_eq] at h1
  refine ⟨_, h1, fun w => ?_⟩
  have : ¬ ((n : Int) < 0) := by omega
  simp only [Op.shift, if_neg this, Int.toNat_natCast, Sem.run_pure]
  congr 3
theorem evInts_ok {op : BinOp} {t : TypeId} {k k' : IntKind} {a b : Int} {K : EV → Ans} (h : evInts op k k' a b K = true) :
    ∃ v, K v = true ∧ ∀ φ, ∃ u, VR φ v u ∧ ∀ w : World, (binOp op t (.int k a) (.int k' b)).run P w = .ok u w := by
  have two : ∀ {X : Ans}, guardB (kindEq k k') X = true → k = k' ∧ X = true := fun h => let ⟨h1, h2⟩ := guard_ok h; ⟨kindEq_ok h1, h2⟩
  cases op with
  | shl => obtain ⟨n, h1, h2⟩ := evShl_ok (P := P) (yk := k') h; exact ⟨_, h1, fun φ => ⟨_, .int k n, h2⟩⟩
  | shr => obtain ⟨n, h1, h2⟩ := evShr_ok (P := P) (yk := k') h; exact ⟨_, h1, fun φ => ⟨_, .int k n, h2⟩⟩
  | add =>
    obtain ⟨rfl, h1⟩ := two h
    have h1 := mkI_ok h1
    rw [addI_eq] at h1
    exact ⟨_, h1, fun φ => ⟨_, .int k _, fun w => by simp [binOp, Op.intArith]⟩⟩
  | sub =>
    obtain ⟨rfl, h1⟩ := two h
    exact ⟨_, mkI_ok h1, fun φ => ⟨_, .int k _, fun w => by simp [binOp, Op.intArith] <;> rfl⟩⟩
  | mul =>
    obtain ⟨rfl, h1⟩ := two h
    exact ⟨_, mkI_ok h1, fun φ => ⟨_, .int k _, fun w => by simp [binOp, Op.intArith] <;> rfl⟩⟩
  | quo =>
    obtain ⟨rfl, h1⟩ := two h
    unfold evQuo at h1
    rw [eqI_eq] at h1
    by_cases hb : b = 0
    · simp [hb, bR] at h1
    · have h1' : mkI k (Int.tdiv a b) K = true := by simpa [hb, bR] using h1
      exact ⟨_, mkI_ok h1', fun φ => ⟨_, .int k _, fun w => by simp [binOp, Op.intDiv, hb]⟩⟩
  | rem =>
    obtain ⟨rfl, h1⟩ := two h
    unfold evRem at h1
    rw [eqI_eq, fI_eq] at h1
    by_cases hb : b = 0
    · simp [hb, bR] at h1
    · have h1' : K (.int k (Int.tmod a b)) = true := by simpa [hb, bR] using h1
      exact ⟨_, h1', fun φ => ⟨_, .int k _, fun w => by simp [binOp, Op.intDiv, hb]⟩⟩
  | and =>
    obtain ⟨rfl, h1⟩ := two h
    obtain ⟨n, h2, h3⟩ := evBitsS_ok (P := P) h1
    exact ⟨_, h2, fun φ => ⟨_, .int k n, fun w => by rw [← h3 w]; simp [binOp]⟩⟩
  | or =>
    obtain ⟨rfl, h1⟩ := two h
    obtain ⟨n, h2, h3⟩ := evBitsS_ok (P := P) h1
    exact ⟨_, h2, fun φ => ⟨_, .int k n, fun w => by rw [← h3 w]; simp [binOp]⟩⟩
  | xor =>
    obtain ⟨rfl, h1⟩ := two h
    obtain ⟨n, h2, h3⟩ := evBitsS_ok (P := P) h1
    exact ⟨_, h2, fun φ => ⟨_, .int k n, fun w => by rw [← h3 w]; simp [binOp]⟩⟩
  | andNot =>
    obtain ⟨rfl, h1⟩ := two h
    obtain ⟨n, h2, h3⟩ := evBitsS_ok (P := P) h1
    exact ⟨_, h2, fun φ => ⟨_, .int k n, fun w => by rw [← h3 w]; simp [binOp]⟩⟩
  | eql =>
    obtain ⟨rfl, h1⟩ := two h
    exact ⟨_, h1, fun φ => ⟨_, .bool _, fun w => by simp [binOp, Op.intCmp, eqI_eq] <;> (rw [Bool.eq_iff_iff]; simp)⟩⟩
  | neq =>
    obtain ⟨rfl, h1⟩ := two h
    exact ⟨_, h1, fun φ => ⟨_, .bool _, fun w => by simp [binOp, Op.intCmp, eqI_eq] <;> (rw [Bool.eq_iff_iff]; simp)⟩⟩
  | lss =>
    obtain ⟨rfl, h1⟩ := two h
    exact ⟨_, h1, fun φ => ⟨_, .bool _, fun w => by simp [binOp, Op.intCmp, ltI_eq]⟩⟩
  | leq =>
    obtain ⟨rfl, h1⟩ := two h
    exact ⟨_, h1, fun φ => ⟨_, .bool _, fun w => by simp [binOp, Op.intCmp, leI_eq]⟩⟩
  | gtr =>
    obtain ⟨rfl, h1⟩ := two h
    exact ⟨_, h1, fun φ => ⟨_, .bool _, fun w => by simp [binOp, Op.intCmp, ltI_eq]⟩⟩
  | geq =>
    obtain ⟨rfl, h1⟩ := two h
    exact ⟨_, h1, fun φ => ⟨_, .bool _, fun w => by simp [binOp, Op.intCmp, leI_eq]⟩⟩
theorem iface_sound (t : TypeId) (d : TypeDesc) (x : Operand) (p : Opd) (hp : cOpd x = some p) (ht : P.underlying t = some d) (hd : ∀ ms, d ≠ .interface ms) : OpSound P C (.makeInterface t x) (xIface t p) := fun T s K h => by
  refine still (v := .iface t (p.run T)) h fun w0 φ w ρ o' ho _ hρ => ?_
  obtain ⟨dst', op', ty, pos, after, guard⟩ := o'; simp only at ho; subst ho
  refine ⟨_, ?_, .iface (hρ x (by simp [Op.operands]) p hp)⟩
  simp only [execOp, Instr.makeInterface, Sem.run_bind, run_underlying' ht, Result.andThen_ok]
  cases d <;> first | rfl | exact absurd rfl (hd _)

theorem run_eqlB {t : TypeId} {x y : Value} {w : World} (h : ∀ k n, x ≠ .int k n) (h2 : ∀ s, x ≠ .string s) (h3 : ∀ k n, x ≠ .float k n) (h4 : ∀ k a b, x ≠ .complex k a b) :
    (binOp .eql t x y).run P w = ((Op.equal t x y).run P w).andThen fun b w' => .ok (.bool b) w' := by
  cases x <;> first | exact absurd rfl (h _ _) | exact absurd rfl (h2 _) | exact absurd rfl (h3 _ _) | exact absurd rfl (h4 _ _ _) | (cases y <;> simp [binOp])
theorem run_neqB {t : TypeId} {x y : Value} {w : World} (h : ∀ k n, x ≠ .int k n) (h2 : ∀ s, x ≠ .string s) (h3 : ∀ k n, x ≠ .float k n) (h4 : ∀ k a b, x ≠ .complex k a b) :
    (binOp .neq t x y).run P w = ((Op.equal t x y).run P w).andThen fun b w' => .ok (.bool (!b)) w' := by
  cases x <;> first | exact absurd rfl (h _ _) | exact absurd rfl (h2 _) | exact absurd rfl (h3 _ _) | exact absurd rfl (h4 _ _ _) | (cases y <;> simp [binOp])

theorem eqNum_some {k k' : IntKind} {a la ha b lb hb : Int} {r : Bool} (h : (bR (kindEq k k') (eqK' a la ha b lb hb some) none : Option Bool) = some r) : k = k' ∧ (InR a la ha → InR b lb hb → r = decide (a = b)) := by
  cases hk : kindEq k k' with
  | false => rw [hk] at h; cases h
  | true =>
    rw [hk, bR_true] at h
    refine ⟨kindEq_ok hk, ?_⟩
    obtain ⟨q, h1, h2⟩ := eqK_ok' (a := a) (la := la) (ha := ha) (b := b) (lb := lb) (hb := hb) (K := some)
    rw [h1] at h; cases h; exact h2
theorem eqCell_ok {t : TypeId} {x y : EV} {r : Bool} (h : eqCell P t x y = some r) {φ : Phi} {x' y' : Value} (hx : VR φ x x') (hy : VR φ y y') (w : World) (d : Nat) :
    (Op.equalIn (d + 1) t x' y').run P w = .ok r w := by
  unfold eqCell at h
  split at h
  all_goals first
    | (cases h; done)
    | (rename_i ht; cases hx <;> cases hy <;> simp only [Op.equalIn, Sem.run_bind, run_underlying' ht, Result.andThen_ok, Sem.run_pure])
  · rename_i k a k' b
    cases hk : kindEq k k' with
    | false => rw [hk] at h; cases h
    | true =>
      rw [hk] at h; cases h
      rw [kindEq_ok hk, eqI_eq, if_pos rfl, Sem.run_pure]
      congr 1
  · rename_i g1 g2
    obtain ⟨rfl, h2⟩ := eqNum_some h
    rw [if_pos rfl, Sem.run_pure, h2 ⟨Int.le_refl _, Int.le_refl _⟩ ⟨g1, g2⟩]
    congr 1
  · rename_i g1 g2
    obtain ⟨rfl, h2⟩ := eqNum_some h
    rw [if_pos rfl, Sem.run_pure, h2 ⟨g1, g2⟩ ⟨Int.le_refl _, Int.le_refl _⟩]
    congr 1
  · rename_i g1 g2 g1' g2'
    obtain ⟨rfl, h2⟩ := eqNum_some h
    rw [if_pos rfl, Sem.run_pure, h2 ⟨by assumption, by assumption⟩ ⟨by assumption, by assumption⟩]
    congr 1
  · cases h
    congr 1
    rename_i a b
    cases a <;> cases b <;> rfl
  · cases h
    congr 1
    exact beq_toListBytes _ _
  all_goals (cases h; rfl)
theorem eqCell_known {t : TypeId} {x y : EV} {r : Bool} (h : eqCell P t x y = some r) : x ≠ .any ∧ y ≠ .any := by
  constructor
  · rintro rfl; unfold eqCell at h; split at h <;> simp_all
  · rintro rfl; unfold eqCell at h; split at h <;> simp_all
theorem partE_ok {φ : Phi} {t : TypeId} {o : Nat} {cs : List EV} {cs' : List Value} {v : EV} (h : partE P t o cs = some v) (hv : VRs φ cs cs') (w : World) : ∃ v', (part t cs'.toArray o).run P w = .ok v' w ∧ VR φ v v' := by
  unfold partE at h
  split at h
  · exact nth_part ‹_› hv h
  · split at h
    · cases h; exact agg_part ‹_› ‹_› hv
    · cases h
  · cases h
theorem eqFields_ok {φ : Phi} {EQ : TypeId → EV → EV → Option Bool} {D : Nat} (hE : ∀ t x y r, EQ t x y = some r → ∀ x' y', VR φ x x' → VR φ y y' → ∀ w : World, (Op.equalIn D t x' y').run P w = .ok r w)
    {a b : List EV} {a' b' : List Value} (ha : VRs φ a a') (hb : VRs φ b b') (w : World) : ∀ (fs : List Field) {r : Bool}, eqParts P EQ (fieldParts fs) a b = some r →
    (Op.eqFields D a'.toArray b'.toArray fs).run P w = .ok r w := by
  intro fs
  induction fs with
  | nil => intro r h; cases h; simp [Op.eqFields]
  | cons f fs ih =>
    intro r h
    have h : eqParts P EQ (bR (f.name == "_") (fieldParts fs) ((f.type, f.offset) :: fieldParts fs)) a b = some r := h
    cases hn : f.name == "_" with
    | true =>
      rw [hn] at h
      have hn' : ¬ f.name ≠ "_" := by simpa using hn
      simp only [Op.eqFields, if_neg hn']
      exact ih h
    | false =>
      rw [hn] at h
      have hn' : f.name ≠ "_" := by simpa using hn
      have h : eqParts P EQ ((f.type, f.offset) :: fieldParts fs) a b = some r := h
      unfold eqParts at h
      split at h
      · rename_i x y h3 h4
        obtain ⟨x', e1, e2⟩ := partE_ok h3 ha w
        obtain ⟨y', e3, e4⟩ := partE_ok h4 hb w
        split at h
        · rename_i q hq
          simp only [Op.eqFields, if_pos hn', Sem.run_bind, e1, e3, Result.andThen_ok, hE _ _ _ _ hq _ _ e2 e4]
          cases hrest : eqParts P EQ (fieldParts fs) a b with
          | none => rw [hrest] at h; cases h
          | some q' =>
            rw [hrest] at h; cases h
            have := ih hrest
            cases q with
            | true => simpa [andB] using this
            | false => simp [andB]
        · cases h
      · cases h
theorem eqItems_ok {φ : Phi} {EQ : TypeId → EV → EV → Option Bool} {D : Nat} (hE : ∀ t x y r, EQ t x y = some r → ∀ x' y', VR φ x x' → VR φ y y' → ∀ w : World, (Op.equalIn D t x' y').run P w = .ok r w)
    {a b : List EV} {a' b' : List Value} (ha : VRs φ a a') (hb : VRs φ b b') (w : World) (e : TypeId) (z : Nat) : ∀ (is : List Nat) {r : Bool}, eqParts P EQ (is.map fun i => (e, i * z)) a b = some r →
    (Op.eqItems D e z a'.toArray b'.toArray is).run P w = .ok r w := by
  intro is
  induction is with
  | nil => intro r h; cases h; simp [Op.eqItems]
  | cons i is ih =>
    intro r h
    have h : eqParts P EQ ((e, i * z) :: is.map fun i => (e, i * z)) a b = some r := h
    unfold eqParts at h
    split at h
    · rename_i x y h3 h4
      obtain ⟨x', e1, e2⟩ := partE_ok h3 ha w
      obtain ⟨y', e3, e4⟩ := partE_ok h4 hb w
      split at h
      · rename_i q hq
        simp only [Op.eqItems, Sem.run_bind, e1, e3, Result.andThen_ok, hE _ _ _ _ hq _ _ e2 e4]
        cases hrest : eqParts P EQ (is.map fun i => (e, i * z)) a b with
        | none => rw [hrest] at h; cases h
        | some q' =>
          rw [hrest] at h; cases h
          have := ih hrest
          cases q with
          | true => simpa [andB] using this
          | false => simp [andB]
      · cases h
    · cases h
theorem evEqF_ok {φ : Phi} (d : Nat) : ∀ (n : Nat) (t : TypeId) (x y : EV) (r : Bool), evEqF P n t x y = some r → ∀ x' y', VR φ x x' → VR φ y y' → ∀ w : World, (Op.equalIn (d + n) t x' y').run P w = .ok r w := by
  intro n
  induction n with
  | zero => intro t x y r h; unfold evEqF at h; cases h
  | succ n ih =>
    intro t x y r h x' y' hx hy w
    by_cases hag : (∃ a, x = .agg a) ∧ ∃ b, y = .agg b
    · obtain ⟨⟨a, rfl⟩, b, rfl⟩ := hag
      unfold evEqF at h
      split at h
      · rename_i fs ht
        cases hs : P.stoodInHeld t with
        | true => rw [hs] at h; cases h
        | false =>
          rw [hs] at h
          cases hx with
          | agg hx => cases hy with
            | agg hy =>
              have hfs : P.fieldsOf t = fs := by simp [Program.fieldsOf, ht]
              exact (run_equalIn_struct w (d + n) t _ _ (by rw [hfs]; exact ht) hs).trans (by rw [hfs]; exact eqFields_ok ih hx hy w fs.toList h)
      · rename_i len e ht
        split at h
        · rename_i z hz
          cases hx with
          | agg hx => cases hy with
            | agg hy =>
              obtain ⟨i, hi, hiz⟩ : ∃ i, P.info? e = some i ∧ i.size = z := by
                unfold sizeP at hz
                split at hz
                · cases hz; exact ⟨_, ‹_›, rfl⟩
                · cases hz
              have hc : P.cellsOf e = z := by simp [Program.cellsOf, hi, hiz]
              refine (run_equalIn_array w (d + n) _ _ ht hi).trans ?_
              rw [hc]
              exact eqItems_ok ih hx hy w e z _ h
        · cases h
      · cases h
    · have hc : eqCell P t x y = some r := by
        rw [← h]
        cases x <;> first | rfl | (cases y <;> first | rfl | exact absurd ⟨⟨_, rfl⟩, _, rfl⟩ hag)
      exact eqCell_ok hc hx hy w (d + n)
theorem evEq_plain {t : TypeId} {x y : EV} {r : Bool} (h : evEq P t x y = some r) : (∃ a b, x = .agg a ∧ y = .agg b ∧ P.eqGuardType P.depth t = false ∧ evEqF P 4 t (.agg a) (.agg b) = some r) ∨
    (eqCell P t x y = some r ∧ ¬ ((∃ a, x = .agg a) ∧ ∃ b, y = .agg b)) := by
  unfold evEq at h
  split at h
  · rename_i a b
    left
    cases h2 : P.eqGuardType P.depth t with
    | true => rw [h2] at h; cases h
    | false => rw [h2] at h; exact ⟨a, b, rfl, rfl, rfl, h⟩
  · rename_i hne
    exact .inr ⟨h, fun ⟨⟨a, ha⟩, b, hb⟩ => hne a b ha hb⟩
theorem guard_plain {op : BinOp} {t : TypeId} {a b : Operand} {x y : Value} {w : World} (h1 : ¬ (x = .nilIface ∧ y = .nilIface)) (h2 : ¬ ∃ l m, x = .agg l ∧ y = .agg m) : (eqGuard op t a b x y).run P w = .ok () w := by
  have key : ∀ (c : Bool) (X : Sem Unit), X.run P w = .ok () w → (if c = true then pure () else X : Sem Unit).run P w = .ok () w := by
    intro c X hX; cases c
    · simpa using hX
    · rfl
  unfold eqGuard
  apply key
  split
  · exact absurd ⟨rfl, rfl⟩ h1
  · exact absurd ⟨_, _, rfl, rfl⟩ h2
  · rfl
theorem evEqO0_ok {op : BinOp} {t : TypeId} {x y : EV} {K : EV → Ans} (h : evEqO0 P op t x y K = true) (hni : ∀ k n, x ≠ .int k n) (hns : ∀ k e lo hi, x ≠ .sym k e lo hi) :
    ∃ v, K v = true ∧ ∀ φ x' y', VR φ x x' → VR φ y y' → ∃ u, VR φ v u ∧ ∀ (w : World) (a b : Operand), (eqGuard op t a b x' y').run P w = .ok () w ∧ (binOp op t x' y').run P w = .ok u w := by
  have main : ∀ r, evEq P t x y = some r → ∀ φ x' y', VR φ x x' → VR φ y y' → ∀ (w : World) (a b : Operand), (op = .eql ∨ op = .neq) →
      (eqGuard op t a b x' y').run P w = .ok () w ∧ (binOp op t x' y').run P w = .ok (.bool (if op = .eql then r else !r)) w := by
    intro r hr φ x' y' hx hy w a b hop
    rcases evEq_plain hr with ⟨l, m, rfl, rfl, hg, hf⟩ | ⟨hc, hna⟩
    · cases hx with
      | agg hx => cases hy with
        | agg hy =>
          have hrun : (Op.equalIn 10000 t (.agg _) (.agg _)).run P w = .ok r w := evEqF_ok (φ := φ) 9996 4 t _ _ r hf _ _ (.agg hx) (.agg hy) w
          refine ⟨run_eqGuard_agg w op t a b _ _ hg, ?_⟩
          rcases hop with rfl | rfl
          · rw [run_eql_struct, hrun]; rfl
          · rw [run_neq_struct, hrun]; rfl
    · obtain ⟨hxa, hya⟩ := eqCell_known hc
      have heq : (Op.equal t x' y').run P w = .ok r w := eqCell_ok hc hx hy w 9999
      have hguard : (eqGuard op t a b x' y').run P w = .ok () w := by
        have hnn : ¬ (x' = .nilIface ∧ y' = .nilIface) := by
          rintro ⟨rfl, rfl⟩
          cases hx <;> first | exact absurd rfl hxa | skip
          cases hy <;> first | exact absurd rfl hya | skip
          unfold eqCell at hc
          split at hc <;> simp_all
        refine guard_plain hnn ?_
        rintro ⟨l, m, rfl, rfl⟩
        cases hx <;> first | exact absurd rfl hxa | skip
        cases hy <;> first | exact absurd rfl hya | skip
        exact hna ⟨⟨_, rfl⟩, _, rfl⟩
      refine ⟨hguard, ?_⟩
      by_cases hstr : ∃ s, x = .str s
      · obtain ⟨s, rfl⟩ := hstr
        cases hx
        unfold eqCell at hc
        split at hc <;> simp_all
        cases hy
        subst hc
        rcases hop with rfl | rfl <;> simp [binOp, Op.stringOp]
      · have n1 : ∀ k n, x' ≠ .int k n := by rintro k n rfl; cases hx <;> first | exact hni _ _ rfl | exact hns _ _ _ _ rfl | exact hxa rfl
        have n2 : ∀ s, x' ≠ .string s := by rintro s rfl; cases hx <;> first | exact hstr ⟨_, rfl⟩ | exact hxa rfl
        have n3 : ∀ k n, x' ≠ .float k n := by rintro k n rfl; cases hx; exact hxa rfl
        have n4 : ∀ k p q, x' ≠ .complex k p q := by rintro k p q rfl; cases hx; exact hxa rfl
        rcases hop with rfl | rfl
        · rw [run_eqlB n1 n2 n3 n4, heq]; rfl
        · rw [run_neqB n1 n2 n3 n4, heq]; rfl
  unfold evEqO0 at h
  split at h
  · obtain ⟨r, hr, hk⟩ := oR_ok h
    exact ⟨_, hk, fun φ x' y' hx hy => ⟨_, .bool r, fun w a b => by simpa using main r hr φ x' y' hx hy w a b (.inl rfl)⟩⟩
  · obtain ⟨r, hr, hk⟩ := oR_ok h
    exact ⟨_, hk, fun φ x' y' hx hy => ⟨_, .bool _, fun w a b => by simpa using main r hr φ x' y' hx hy w a b (.inr rfl)⟩⟩
  · exact absurd h (by decide)
theorem evEqO_ok {op : BinOp} {t : TypeId} {x y : EV} {K : EV → Ans} (h : evEqO P op t x y K = true) (hni : ∀ k n, x ≠ .int k n) (hns : ∀ k e lo hi, x ≠ .sym k e lo hi) :
    ∃ v, K v = true ∧ ∀ φ x' y', VR φ x x' → VR φ y y' → ∃ u, VR φ v u ∧ ∀ (w : World) (a b : Operand), (eqGuard op t a b x' y').run P w = .ok () w ∧ (binOp op t x' y').run P w = .ok u w := by
  unfold evEqO at h
  split at h
  · rename_i b o len z mx
    obtain ⟨hl, h⟩ := reqB_ok h
    obtain ⟨v, hK, hv⟩ := evEqO0_ok h (by simp) (by simp)
    refine ⟨v, hK, fun φ x' y' hx hy => hv φ x' y' ?_ hy⟩
    cases hx with
    | aslice h1 h2 h3 h4 => exact .slice h1 h2 (by show _ + o * z + _ ≤ _; omega)
    | aslice0 a h => exact absurd rfl hl
  · exact evEqO0_ok h hni hns
theorem bin_sound (op : BinOp) (t u : TypeId) (x y : Operand) (p q : Opd) (hp : cOpd x = some p) (hq : cOpd y = some q) : OpSound P C (.binOp op t x y u) (xBin P op t p q) := fun T s K h => by
  have key : ∃ v, K v s = true ∧ ∀ φ x' y', VR φ (p.run T) x' → VR φ (q.run T) y' → ∃ r, VR φ v r ∧ ∀ (w : World) (a b : Operand), (eqGuard op t a b x' y').run P w = .ok () w ∧ (binOp op t x' y').run P w = .ok r w := by
    unfold xBin evBin at h
    generalize hx : p.run T = vx at h
    generalize hy : q.run T = vy at h
    cases vx with
    | int k a =>
      rcases asNum2_ok h with ⟨k', b, hb, h1⟩ | ⟨k', e, lo, hi, h1, h2⟩
      · obtain ⟨v, h2, h3⟩ := evInts_ok (P := P) (t := t) h1
        refine ⟨v, h2, fun φ x' y' hx' hy' => ?_⟩
        subst hb
        cases hx'; cases hy'
        obtain ⟨r, h4, h5⟩ := h3 φ
        refine ⟨r, h4, fun w a' b' => ⟨?_, h5 w⟩⟩
        exact guard_plain (by simp) (by simp)
      · obtain ⟨v, h3, h4⟩ := symBin_ok (P := P) (t := t) h1
        refine ⟨v, h3, fun φ x' y' hx' hy' => ?_⟩
        cases hx'
        obtain ⟨rfl, hr⟩ := h2 φ y' hy'
        obtain ⟨r, h5, h6⟩ := h4 ⟨Int.le_refl _, Int.le_refl _⟩ hr φ
        exact ⟨r, h5, fun w a' b' => ⟨guard_plain (by simp) (by simp), h6 w⟩⟩
    | sym k e lo hi =>
      obtain ⟨k', e', lo', hi', h1, h2⟩ := asNum_ok h
      obtain ⟨v, h3, h4⟩ := symBin_ok (P := P) (t := t) h1
      refine ⟨v, h3, fun φ x' y' hx' hy' => ?_⟩
      obtain ⟨rfl, hr⟩ := h2 φ y' hy'
      cases hx' with
      | sym _ _ _ _ g1 g2 =>
        obtain ⟨r, h5, h6⟩ := h4 ⟨g1, g2⟩ hr φ
        exact ⟨r, h5, fun w a' b' => ⟨guard_plain (by simp) (by simp), h6 w⟩⟩
    | str a =>
      have hns : ∀ {y' : Value} (a' b' : Operand) (w : World), (eqGuard op t a' b' (.string a) y').run P w = .ok () w := fun a' b' w => guard_plain (by simp) (by simp)
      have hsz : ∀ {b : ByteArray}, Nat.ble (a.size + b.size) 1000000 = true → ¬ (((a.size + b.size : Nat) : Int) > IntKind.i64.max) := fun h => by
        have := Nat.le_of_ble_eq_true h
        have e : IntKind.i64.max = 9223372036854775807 := by decide
        rw [e]; omega
      unfold evStr at h
      split at h
      · obtain ⟨b, rfl, h⟩ := asStr_ok h
        obtain ⟨hb, h⟩ := guard_ok h
        exact ⟨_, h, fun φ x' y' hx' hy' => by cases hx'; cases hy'; exact ⟨_, .str _, fun w a' b' => ⟨hns a' b' w, by have := hsz hb; simp only [binOp, Op.stringOp, if_neg this, Sem.run_pure]⟩⟩⟩
      · obtain ⟨b, rfl, h⟩ := asStr_ok h
        exact ⟨_, h, fun φ x' y' hx' hy' => by cases hx'; cases hy'; exact ⟨_, .bool _, fun w a' b' => ⟨hns a' b' w, rfl⟩⟩⟩
      · obtain ⟨b, rfl, h⟩ := asStr_ok h
        exact ⟨_, h, fun φ x' y' hx' hy' => by cases hx'; cases hy'; exact ⟨_, .bool _, fun w a' b' => ⟨hns a' b' w, rfl⟩⟩⟩
      · obtain ⟨b, rfl, h⟩ := asStr_ok h
        exact ⟨_, h, fun φ x' y' hx' hy' => by cases hx'; cases hy'; exact ⟨_, .bool _, fun w a' b' => ⟨hns a' b' w, rfl⟩⟩⟩
      · obtain ⟨b, rfl, h⟩ := asStr_ok h
        exact ⟨_, h, fun φ x' y' hx' hy' => by cases hx'; cases hy'; exact ⟨_, .bool _, fun w a' b' => ⟨hns a' b' w, rfl⟩⟩⟩
      · exact evEqO_ok h (by simp) (by simp)
    | tuple _ => exact absurd (show false = true from h) (by decide)
    | nilm => exact absurd (show false = true from h) (by decide)
    | map _ => exact absurd (show false = true from h) (by decide)
    | any => exact absurd (show false = true from h) (by decide)
    | aptr _ _ _ _ => exact absurd (show false = true from h) (by decide)
    | _ => exact evEqO_ok h (by simp) (by simp)
  obtain ⟨v, h1, h2⟩ := key
  refine still h1 fun w0 φ w ρ o' ho _ hρ => ?_
  obtain ⟨dst', op', ty, pos, after, guard⟩ := o'; simp only at ho; subst ho
  obtain ⟨r, h3, h4⟩ := h2 φ _ _ (hρ x (by simp [Op.operands]) p hp) (hρ y (by simp [Op.operands]) q hq)
  refine ⟨r, ?_, h3⟩
  simp only [execOp, Sem.run_bind, (h4 w x y).1, (h4 w x y).2, Result.andThen_ok, Sem.run_pure]
end
end Go.Ev
