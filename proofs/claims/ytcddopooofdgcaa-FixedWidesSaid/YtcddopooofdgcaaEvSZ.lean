/- Symbolic numbers: the operations. -/
import Derived.Test.YtcddopooofdgcaaEvSY
namespace Go.Ev
set_option linter.unusedSectionVars false
variable [FactsC] [Env]
open Go.RowKit (Below)
section
variable {P : Program} {C : CallK}
theorem kindEq_ok {a b : IntKind} (h : kindEq a b = true) : a = b := by unfold kindEq at h; simpa using h
theorem lin {a x y b : Int} (h1 : x ≤ a) (h2 : a ≤ y) : min (x * b) (y * b) ≤ a * b ∧ a * b ≤ max (x * b) (y * b) := by
  rcases Int.le_total 0 b with hb | hb
  · have g1 := Int.mul_le_mul_of_nonneg_right h1 hb
    have g2 := Int.mul_le_mul_of_nonneg_right h2 hb
    omega
  · have g1 := Int.mul_le_mul_of_nonpos_right h1 hb
    have g2 := Int.mul_le_mul_of_nonpos_right h2 hb
    omega
theorem mul_rng {a la ha b lb hb : Int} (a1 : la ≤ a) (a2 : a ≤ ha) (b1 : lb ≤ b) (b2 : b ≤ hb) :
    min4 (Int.mul la lb) (Int.mul la hb) (Int.mul ha lb) (Int.mul ha hb) ≤ a * b ∧ a * b ≤ max4 (Int.mul la lb) (Int.mul la hb) (Int.mul ha lb) (Int.mul ha hb) := by
  unfold min4 max4
  simp only [minI_eq, maxI_eq]
  show min (min (la * lb) (la * hb)) (min (ha * lb) (ha * hb)) ≤ _ ∧ _ ≤ max (max (la * lb) (la * hb)) (max (ha * lb) (ha * hb))
  have h1 := lin (b := b) a1 a2
  have h2 := lin (b := la) b1 b2
  have h3 := lin (b := ha) b1 b2
  rw [Int.mul_comm lb, Int.mul_comm hb, Int.mul_comm b] at h2 h3
  omega
theorem tdiv_anti_pos {a b c : Int} (ha : 0 ≤ a) (h0 : 0 < b) (h : b ≤ c) : a.tdiv c ≤ a.tdiv b := by
  obtain ⟨n, rfl⟩ := Int.eq_ofNat_of_zero_le ha
  obtain ⟨m, rfl⟩ := Int.eq_ofNat_of_zero_le (Int.le_of_lt h0)
  obtain ⟨k, rfl⟩ := Int.eq_ofNat_of_zero_le (show 0 ≤ c by omega)
  exact Int.ofNat_le.2 (Nat.div_le_div_left (by omega) (by omega))
theorem tdiv_anti_neg {a b c : Int} (ha : a ≤ 0) (h0 : 0 < b) (h : b ≤ c) : a.tdiv b ≤ a.tdiv c := by
  have := tdiv_anti_pos (a := -a) (by omega) h0 h
  rw [Int.neg_tdiv, Int.neg_tdiv] at this
  omega
theorem bR_le {x : Bool} {a b c : Int} (h1 : x = true → a ≤ c) (h2 : x = false → b ≤ c) : bR x a b ≤ c := by cases x <;> first | exact h1 rfl | exact h2 rfl
theorem le_bR {x : Bool} {a b c : Int} (h1 : x = true → c ≤ a) (h2 : x = false → c ≤ b) : c ≤ bR x a b := by cases x <;> first | exact h1 rfl | exact h2 rfl
theorem leI_t {a b : Int} (h : leI a b = true) : a ≤ b := by rw [leI_eq] at h; exact of_decide_eq_true h
theorem leI_f {a b : Int} (h : leI a b = false) : b < a := by rw [leI_eq] at h; have := of_decide_eq_false h; omega
theorem quo_rng {a la ha b lb hb : Int} (a1 : la ≤ a) (a2 : a ≤ ha) (b0 : 1 ≤ lb) (b1 : lb ≤ b) (b2 : b ≤ hb) :
    bR (leI 0 la) (Int.tdiv la hb) (Int.tdiv la lb) ≤ a.tdiv b ∧ a.tdiv b ≤ bR (leI 0 ha) (Int.tdiv ha lb) (Int.tdiv ha hb) := by
  have m1 := Int.tdiv_le_tdiv (c := b) (by omega) a1
  have m2 := Int.tdiv_le_tdiv (c := b) (by omega) a2
  refine ⟨bR_le (fun h => ?_) (fun h => ?_), le_bR (fun h => ?_) (fun h => ?_)⟩
  · have := tdiv_anti_pos (leI_t h) (show 0 < b by omega) b2; omega
  · have := tdiv_anti_neg (show la ≤ 0 by have := leI_f h; omega) (show 0 < lb by omega) b1; omega
  · have := tdiv_anti_pos (leI_t h) (show 0 < lb by omega) b1; omega
  · have := tdiv_anti_neg (show ha ≤ 0 by have := leI_f h; omega) (show 0 < b by omega) b2; omega
theorem rem_rng {a la ha b lb hb : Int} (a1 : la ≤ a) (a2 : a ≤ ha) (b0 : 1 ≤ lb) (b1 : lb ≤ b) (b2 : b ≤ hb) :
    bR (leI 0 la) 0 (maxI la (Int.sub 1 hb)) ≤ a.tmod b ∧ a.tmod b ≤ bR (leI ha 0) 0 (minI ha (Int.sub hb 1)) := by
  rw [maxI_eq, minI_eq]
  show bR (leI 0 la) 0 (max la (1 - hb)) ≤ a.tmod b ∧ a.tmod b ≤ bR (leI ha 0) 0 (min ha (hb - 1))
  have up : ∀ x : Int, 0 ≤ x → 0 ≤ x.tmod b ∧ x.tmod b ≤ x ∧ x.tmod b < b := fun x hx => by
    refine ⟨Int.tmod_nonneg b hx, ?_, Int.tmod_lt_of_pos x (by omega)⟩
    rw [Int.tmod_eq_emod_of_nonneg hx]
    obtain ⟨n, rfl⟩ := Int.eq_ofNat_of_zero_le hx
    obtain ⟨m, rfl⟩ := Int.eq_ofNat_of_zero_le (show 0 ≤ b by omega)
    exact Int.ofNat_le.2 (Nat.mod_le _ _)
  rcases Int.le_total 0 a with hz | hz
  · have := up a hz
    refine ⟨bR_le (fun h => by omega) (fun h => by have := leI_f h; omega), le_bR (fun h => ?_) (fun h => by omega)⟩
    have := leI_t h
    have e : a = 0 := by omega
    rw [e]; simp
  · have := up (-a) (by omega)
    rw [Int.neg_tmod] at this
    refine ⟨bR_le (fun h => ?_) (fun h => by omega), le_bR (fun h => by omega) (fun h => ?_)⟩
    · have := leI_t h
      have e : a = 0 := by omega
      rw [e]; simp
    · have := leI_f h; omega
theorem min_le0 (k : IntKind) : k.min ≤ 0 := by unfold IntKind.min; cases k <;> simp [IntKind.signed, IntKind.bits]
theorem cnt_ok {lb hb : Int} {K : Nat → Ans} {N : Ans} (h : cnt lb hb K N = true) : (∃ n : Nat, lb = n ∧ hb = n ∧ K n = true) ∨ N = true := by
  unfold cnt at h
  cases he : eqI lb hb with
  | false => rw [he, bR_false] at h; exact .inr h
  | true =>
    rw [he, bR_true] at h
    obtain ⟨n, hn, hk⟩ := iR_nat h
    exact .inl ⟨n, hn, by rw [← eqI_iff he, hn], hk⟩
theorem pw2_pos (k : IntKind) (n : Int) : 0 < pw2 k n := by
  have : 0 < Nat.pow 2 (Nat.min n.toNat k.bits) := Nat.two_pow_pos _
  show (0 : Int) < ((Nat.pow 2 (Nat.min n.toNat k.bits) : Nat) : Int)
  omega
theorem pw2_le (k : IntKind) {n m : Int} (h : n ≤ m) : pw2 k n ≤ pw2 k m := by
  have : Nat.pow 2 (Nat.min n.toNat k.bits) ≤ Nat.pow 2 (Nat.min m.toNat k.bits) := Nat.pow_le_pow_right (by decide) (by show min _ _ ≤ min _ _; omega)
  exact Int.ofNat_le.2 this
theorem ediv_up {a p q : Int} (ha : a ≤ 0) (hp : 0 < p) (h : p ≤ q) : a / p ≤ a / q := by
  refine Int.le_ediv_of_mul_le (by omega) ?_
  have h1 : a / p * p ≤ a := Int.ediv_mul_le a (by omega)
  have h2 : a / p ≤ 0 := by
    rcases Int.lt_or_le 0 (a / p) with g | g
    · have := Int.mul_le_mul_of_nonneg_right (show 1 ≤ a / p by omega) (show 0 ≤ p by omega)
      omega
    · exact g
  have h3 := Int.mul_le_mul_of_nonpos_left (a := a / p) (b := q) (c := p) h2 h
  omega
theorem ediv_down {a p q : Int} (ha : 0 ≤ a) (hp : 0 < p) (h : p ≤ q) : a / q ≤ a / p := by
  have h1 := tdiv_anti_pos ha hp h
  rw [Int.tdiv_eq_ediv_of_nonneg ha, Int.tdiv_eq_ediv_of_nonneg ha] at h1
  exact h1
theorem shl_rng {k : IntKind} {a b : SE} {la ha lb hb : Int} (h0 : 0 ≤ la) (h1 : Int.mul ha (pw2 k hb) ≤ k.max) (h2 : 0 ≤ lb) (ga : InR a la ha) (gb : InR b lb hb) :
    InR (.bin (.shl k) a b) (Int.mul la (pw2 k lb)) (Int.mul ha (pw2 k hb)) := by
  obtain ⟨a1, a2⟩ := ga
  obtain ⟨b1, b2⟩ := gb
  have p0 := pw2_pos k lb
  have p1 := pw2_le k b1
  have p2 := pw2_le k b2
  have l1 : la * pw2 k lb ≤ a.eval * pw2 k b.eval := Int.mul_le_mul a1 p1 (by omega) (by omega)
  have l2 : a.eval * pw2 k b.eval ≤ ha * pw2 k hb := Int.mul_le_mul a2 p2 (by omega) (by omega)
  have h1 : ha * pw2 k hb ≤ k.max := h1
  have hp : 0 ≤ la * pw2 k lb := Int.mul_nonneg h0 (by omega)
  have hm := min_le0 k
  have e : (SE.bin (.shl k) a b).eval = a.eval * pw2 k b.eval := by
    show k.wrap (a.eval * pw2 k b.eval) = _
    exact wrapIn (by omega) (by omega)
  unfold InR
  rw [e]
  exact ⟨l1, l2⟩
theorem shr_rng {k : IntKind} {a b : SE} {la ha lb hb : Int} (ga : InR a la ha) (gb : InR b lb hb) :
    InR (.bin (.shr k) a b) (bR (leI 0 la) (Int.fdiv la (pw2 k hb)) (Int.fdiv la (pw2 k lb))) (bR (leI 0 ha) (Int.fdiv ha (pw2 k lb)) (Int.fdiv ha (pw2 k hb))) := by
  obtain ⟨a1, a2⟩ := ga
  obtain ⟨b1, b2⟩ := gb
  have p0 := pw2_pos k lb
  have p1 := pw2_le k b1
  have p2 := pw2_le k b2
  have pb := pw2_pos k b.eval
  have ph := pw2_pos k hb
  have e : (SE.bin (.shr k) a b).eval = a.eval / pw2 k b.eval := by
    show Int.fdiv a.eval (pw2 k b.eval) = _
    exact Int.fdiv_eq_ediv_of_nonneg _ (by omega)
  unfold InR
  rw [e, Int.fdiv_eq_ediv_of_nonneg _ (by omega), Int.fdiv_eq_ediv_of_nonneg _ (by omega), Int.fdiv_eq_ediv_of_nonneg _ (by omega), Int.fdiv_eq_ediv_of_nonneg _ (by omega)]
  have m1 := Int.ediv_le_ediv pb a1
  have m2 := Int.ediv_le_ediv pb a2
  refine ⟨bR_le (fun h => ?_) (fun h => ?_), le_bR (fun h => ?_) (fun h => ?_)⟩
  · have := ediv_down (leI_t h) pb p2; omega
  · have := ediv_up (show la ≤ 0 by have := leI_f h; omega) p0 p1; omega
  · have := ediv_down (leI_t h) p0 p1; omega
  · have := ediv_up (show ha ≤ 0 by have := leI_f h; omega) pb p2; omega
theorem ofInt_nn {bits : Nat} {a : Int} (h0 : 0 ≤ a) (h1 : a < 2 ^ bits) : (BitVec.ofInt bits a).toNat = a.toNat := by
  rw [BitVec.toNat_ofInt]
  congr 1
  exact Int.emod_eq_of_lt h0 (by simpa using h1)
theorem max_lt (k : IntKind) : k.max < 2 ^ k.bits := by unfold IntKind.max; cases k <;> simp [IntKind.signed, IntKind.bits]
theorem wrapK {k : IntKind} {n : Nat} (h : (n : Int) ≤ k.max) : k.wrap (n : Int) = n := wrapIn (by have := min_le0 k; omega) h
theorem and_rng {k : IntKind} {a b : SE} {la ha lb hb : Int} (h1 : 0 ≤ la) (h2 : 0 ≤ lb) (h3 : ha ≤ k.max) (h4 : hb ≤ k.max) (ga : InR a la ha) (gb : InR b lb hb) : InR (.bin (.and k) a b) 0 (minI ha hb) := by
  have hm := max_lt k
  obtain ⟨a1, a2⟩ := ga
  obtain ⟨b1, b2⟩ := gb
  have e : (BitVec.ofInt k.bits a.eval &&& BitVec.ofInt k.bits b.eval).toNat = a.eval.toNat &&& b.eval.toNat := by
    rw [BitVec.toNat_and, ofInt_nn (by omega) (by omega), ofInt_nn (by omega) (by omega)]
  have l1 : a.eval.toNat &&& b.eval.toNat ≤ a.eval.toNat := Nat.and_le_left
  have l2 : a.eval.toNat &&& b.eval.toNat ≤ b.eval.toNat := Nat.and_le_right
  have e2 : (SE.bin (.and k) a b).eval = ((a.eval.toNat &&& b.eval.toNat : Nat) : Int) := by
    show k.wrap ((BitVec.ofInt k.bits a.eval &&& BitVec.ofInt k.bits b.eval).toNat : Int) = _
    rw [e]; exact wrapK (by omega)
  unfold InR
  rw [e2, minI_eq]
  omega
theorem full2_lt {n : Int} {m : Int} (h0 : 0 ≤ m) (h : m ≤ n) : m.toNat < 2 ^ (Nat.succ (Nat.log2 n.toNat)) := by
  have := @Nat.lt_log2_self n.toNat
  show m.toNat < 2 ^ (n.toNat.log2 + 1)
  omega
theorem full2_eq (n : Int) : full2 n = (2 ^ (n.toNat.log2 + 1) : Nat) - 1 := by
  unfold full2
  have : 0 < 2 ^ (n.toNat.log2 + 1) := Nat.two_pow_pos _
  show ((2 ^ (n.toNat.log2 + 1) - 1 : Nat) : Int) = _
  omega
theorem ox_rng {k : IntKind} {a b : SE} {la ha lb hb : Int} (h1 : 0 ≤ la) (h2 : 0 ≤ lb) (h3 : full2 (maxI ha hb) ≤ k.max) (ga : InR a la ha) (gb : InR b lb hb) :
    InR (.bin (.or k) a b) 0 (full2 (maxI ha hb)) ∧ InR (.bin (.xor k) a b) 0 (full2 (maxI ha hb)) := by
  have hm := max_lt k
  obtain ⟨a1, a2⟩ := ga
  obtain ⟨b1, b2⟩ := gb
  rw [full2_eq] at h3
  unfold InR
  rw [full2_eq]
  rw [maxI_eq] at *
  have la' : a.eval.toNat < 2 ^ (Nat.succ (Nat.log2 (max ha hb).toNat)) := full2_lt (by omega) (by omega)
  have lb' : b.eval.toNat < 2 ^ (Nat.succ (Nat.log2 (max ha hb).toNat)) := full2_lt (by omega) (by omega)
  have ao : a.eval < 2 ^ k.bits := by
    have : a.eval < ((2 ^ (Nat.succ (Nat.log2 (max ha hb).toNat)) : Nat) : Int) := by omega
    have e : ((2 ^ (Nat.succ (Nat.log2 (max ha hb).toNat)) : Nat) : Int) = (2 ^ ((max ha hb).toNat.log2 + 1) : Nat) := rfl
    omega
  have bo : b.eval < 2 ^ k.bits := by
    have : b.eval < ((2 ^ (Nat.succ (Nat.log2 (max ha hb).toNat)) : Nat) : Int) := by omega
    have e : ((2 ^ (Nat.succ (Nat.log2 (max ha hb).toNat)) : Nat) : Int) = (2 ^ ((max ha hb).toNat.log2 + 1) : Nat) := rfl
    omega
  have o1 := Nat.or_lt_two_pow la' lb'
  have x1 := Nat.xor_lt_two_pow la' lb'
  have e : (2 ^ (Nat.succ (Nat.log2 (max ha hb).toNat)) : Nat) = 2 ^ ((max ha hb).toNat.log2 + 1) := rfl
  rw [e] at o1 x1
  have eo : (SE.bin (.or k) a b).eval = ((a.eval.toNat ||| b.eval.toNat : Nat) : Int) := by
    show k.wrap ((BitVec.ofInt k.bits a.eval ||| BitVec.ofInt k.bits b.eval).toNat : Int) = _
    rw [BitVec.toNat_or, ofInt_nn (by omega) ao, ofInt_nn (by omega) bo]; exact wrapK (by omega)
  have ex : (SE.bin (.xor k) a b).eval = ((a.eval.toNat ^^^ b.eval.toNat : Nat) : Int) := by
    show k.wrap ((BitVec.ofInt k.bits a.eval ^^^ BitVec.ofInt k.bits b.eval).toNat : Int) = _
    rw [BitVec.toNat_xor, ofInt_nn (by omega) ao, ofInt_nn (by omega) bo]; exact wrapK (by omega)
  rw [eo, ex]
  omega
theorem mask_ok {k : IntKind} {a b : SE} {la ha lb hb : Int} (h : isMask b la ha = true) (h3 : ha ≤ k.max) (h4 : hb ≤ k.max) (ga : InR a la ha) (gb : InR b lb hb) : (SE.bin (.and k) a b).eval = a.eval := by
  unfold isMask at h
  rcases litR_ok (e := b) (y := fun c => andB (andB (leI 0 la) (leI ha c)) (eqI c (full2 c))) (n := false) with ⟨c, rfl, h1⟩ | h1
  · rw [h1] at h
    obtain ⟨c1, c2⟩ := andB_ok h
    obtain ⟨c3, c4⟩ := andB_ok c1
    have c3 := leI_t c3
    have c4 := leI_t c4
    have c2 := eqI_iff c2
    rw [full2_eq] at c2
    have hm := max_lt k
    obtain ⟨a1, a2⟩ := ga
    obtain ⟨b1, b2⟩ := gb
    have eb : (SE.lit c).eval = c := rfl
    rw [eb] at b1 b2
    have hp : 0 < 2 ^ (c.toNat.log2 + 1) := Nat.two_pow_pos _
    show k.wrap ((BitVec.ofInt k.bits a.eval &&& BitVec.ofInt k.bits (SE.lit c).eval).toNat : Int) = _
    rw [eb, BitVec.toNat_and, ofInt_nn (by omega) (by omega), ofInt_nn (by omega) (by omega)]
    have e1 : c.toNat = 2 ^ (c.toNat.log2 + 1) - 1 := by omega
    have e2 : a.eval.toNat &&& c.toNat = a.eval.toNat := by
      rw [e1, Nat.and_two_pow_sub_one_eq_mod]
      exact Nat.mod_eq_of_lt (by omega)
    rw [e2, wrapK (by omega)]
    omega
  · rw [h1] at h; cases h
def BinGood (P : Program) (op : BinOp) (t : TypeId) (k k' : IntKind) (a : SE) (la ha : Int) (b : SE) (lb hb : Int) (v : EV) : Prop :=
  InR a la ha → InR b lb hb → ∀ φ, ∃ u, VR φ v u ∧ ∀ w : World, (binOp op t (.int k a.eval) (.int k' b.eval)).run P w = .ok u w
theorem symBin_ok {op : BinOp} {t : TypeId} {k k' : IntKind} {a b : SE} {la ha lb hb : Int} {K : EV → Ans} (h : symBin op k k' a la ha b lb hb K = true) :
    ∃ v, K v = true ∧ BinGood P op t k k' a la ha b lb hb v := by
  have two : ∀ {X : Ans}, guardB (kindEq k k') X = true → k = k' ∧ X = true := fun h => let ⟨h1, h2⟩ := guard_ok h; ⟨kindEq_ok h1, h2⟩
  cases op with
  | add =>
    obtain ⟨rfl, h1⟩ := two h
    obtain ⟨v, h2, h3⟩ := mkS_ok h1
    exact ⟨v, h2, fun ⟨a1, a2⟩ ⟨b1, b2⟩ φ => ⟨_, h3 ⟨Int.add_le_add a1 b1, Int.add_le_add a2 b2⟩ φ, fun w => by simp [binOp, Op.intArith] <;> rfl⟩⟩
  | sub =>
    obtain ⟨rfl, h1⟩ := two h
    obtain ⟨v, h2, h3⟩ := mkS_ok h1
    exact ⟨v, h2, fun ⟨a1, a2⟩ ⟨b1, b2⟩ φ => ⟨_, h3 ⟨Int.sub_le_sub a1 b2, Int.sub_le_sub a2 b1⟩ φ, fun w => by simp [binOp, Op.intArith] <;> rfl⟩⟩
  | mul =>
    obtain ⟨rfl, h1⟩ := two h
    obtain ⟨v, h2, h3⟩ := mkS_ok h1
    exact ⟨v, h2, fun ⟨a1, a2⟩ ⟨b1, b2⟩ φ => ⟨_, h3 (mul_rng a1 a2 b1 b2) φ, fun w => by simp [binOp, Op.intArith] <;> rfl⟩⟩
  | quo =>
    obtain ⟨rfl, h1⟩ := two h
    cases hb1 : leI 1 lb with
    | false => rw [hb1] at h1; exact absurd (show false = true from h1) (by decide)
    | true =>
      rw [hb1, bR_true] at h1
      have hb1 := leI_t hb1
      obtain ⟨v, h2, h3⟩ := mkS_ok h1
      refine ⟨v, h2, fun ⟨a1, a2⟩ ⟨b1, b2⟩ φ => ⟨_, h3 (quo_rng a1 a2 hb1 b1 b2) φ, fun w => ?_⟩⟩
      have hne : b.eval ≠ 0 := by omega
      simp [binOp, Op.intDiv, hne] <;> rfl
  | rem =>
    obtain ⟨rfl, h1⟩ := two h
    cases hb1 : leI 1 lb with
    | false => rw [hb1] at h1; exact absurd (show false = true from h1) (by decide)
    | true =>
      rw [hb1, bR_true] at h1
      have hb1 := leI_t hb1
      obtain ⟨v, h2, h3⟩ := mkN_ok h1
      refine ⟨v, h2, fun ⟨a1, a2⟩ ⟨b1, b2⟩ φ => ⟨_, h3 (rem_rng a1 a2 hb1 b1 b2) φ, fun w => ?_⟩⟩
      have hne : b.eval ≠ 0 := by omega
      simp [binOp, Op.intDiv, hne] <;> rfl
  | and =>
    obtain ⟨rfl, h1⟩ := two h
    cases hmk : andB (isMask b la ha) (andB (leI ha k.max) (leI hb k.max)) with
    | true =>
      rw [hmk, bR_true] at h1
      obtain ⟨c1, c2⟩ := andB_ok hmk
      obtain ⟨c3, c4⟩ := andB_ok c2
      obtain ⟨v, h2, h3⟩ := symK_ok h1
      refine ⟨v, h2, fun ga gb φ => ⟨_, h3 ga φ, fun w => ?_⟩⟩
      have h5 : (binOp .and t (.int k a.eval) (.int k b.eval)).run P w = .ok (.int k (SE.bin (.and k) a b).eval) w := by simp [binOp] <;> rfl
      rw [mask_ok (k := k) c1 (leI_t c3) (leI_t c4) ga gb] at h5
      exact h5
    | false =>
    rw [hmk, bR_false] at h1
    cases hc : andB (andB (leI 0 la) (leI 0 lb)) (andB (leI ha k.max) (leI hb k.max)) with
    | false =>
      rw [hc, bR_false] at h1
      obtain ⟨v, h2, h3⟩ := mkN_ok h1
      exact ⟨v, h2, fun _ _ φ => ⟨_, h3 (wrap_rng k _) φ, fun w => by simp [binOp] <;> rfl⟩⟩
    | true =>
      rw [hc, bR_true] at h1
      obtain ⟨c1, c2⟩ := andB_ok hc
      obtain ⟨c3, c4⟩ := andB_ok c1
      obtain ⟨c5, c6⟩ := andB_ok c2
      obtain ⟨v, h2, h3⟩ := mkN_ok h1
      exact ⟨v, h2, fun ga gb φ => ⟨_, h3 (and_rng (leI_t c3) (leI_t c4) (leI_t c5) (leI_t c6) ga gb) φ, fun w => by simp [binOp] <;> rfl⟩⟩
  | or =>
    obtain ⟨rfl, h1⟩ := two h
    cases hc : andB (andB (leI 0 la) (leI 0 lb)) (leI (full2 (maxI ha hb)) k.max) with
    | false =>
      rw [hc, bR_false] at h1
      obtain ⟨v, h2, h3⟩ := mkN_ok h1
      exact ⟨v, h2, fun _ _ φ => ⟨_, h3 (wrap_rng k _) φ, fun w => by simp [binOp] <;> rfl⟩⟩
    | true =>
      rw [hc, bR_true] at h1
      obtain ⟨c1, c2⟩ := andB_ok hc
      obtain ⟨c3, c4⟩ := andB_ok c1
      obtain ⟨v, h2, h3⟩ := mkN_ok h1
      exact ⟨v, h2, fun ga gb φ => ⟨_, h3 (ox_rng (leI_t c3) (leI_t c4) (leI_t c2) ga gb).1 φ, fun w => by simp [binOp] <;> rfl⟩⟩
  | xor =>
    obtain ⟨rfl, h1⟩ := two h
    cases hc : andB (andB (leI 0 la) (leI 0 lb)) (leI (full2 (maxI ha hb)) k.max) with
    | false =>
      rw [hc, bR_false] at h1
      obtain ⟨v, h2, h3⟩ := mkN_ok h1
      exact ⟨v, h2, fun _ _ φ => ⟨_, h3 (wrap_rng k _) φ, fun w => by simp [binOp] <;> rfl⟩⟩
    | true =>
      rw [hc, bR_true] at h1
      obtain ⟨c1, c2⟩ := andB_ok hc
      obtain ⟨c3, c4⟩ := andB_ok c1
      obtain ⟨v, h2, h3⟩ := mkN_ok h1
      exact ⟨v, h2, fun ga gb φ => ⟨_, h3 (ox_rng (leI_t c3) (leI_t c4) (leI_t c2) ga gb).2 φ, fun w => by simp [binOp] <;> rfl⟩⟩
  | andNot =>
    obtain ⟨rfl, h1⟩ := two h
    obtain ⟨v, h2, h3⟩ := mkN_ok h1
    exact ⟨v, h2, fun _ _ φ => ⟨_, h3 (wrap_rng k _) φ, fun w => by simp [binOp] <;> rfl⟩⟩
  | shl =>
    rcases cnt_ok h with ⟨n, rfl, rfl, h1⟩ | h1
    · rw [fI_eq] at h1
      obtain ⟨v, h2, h3⟩ := mkS_ok h1
      refine ⟨v, h2, fun ⟨a1, a2⟩ ⟨b1, b2⟩ φ => ?_⟩
      have eb : b.eval = n := by omega
      have hp : (0 : Int) ≤ Int.ofNat (Nat.pow 2 (min n k.bits)) := Int.natCast_nonneg _
      refine ⟨_, h3 ⟨Int.mul_le_mul_of_nonneg_right a1 hp, Int.mul_le_mul_of_nonneg_right a2 hp⟩ φ, fun w => ?_⟩
      rw [eb]
      have : ¬ ((n : Int) < 0) := by omega
      simp only [binOp, Op.shift, if_neg this, Int.toNat_natCast, Sem.run_pure]
      congr 3
    · unfold shlV at h1
      cases hz : leI 0 lb with
      | false => rw [hz] at h1; exact absurd (show false = true from h1) (by decide)
      | true =>
        rw [hz, bR_true] at h1
        have hz := leI_t hz
        have key : ∃ v, K v = true ∧ (InR a la ha → InR b lb hb → ∀ φ, VR φ v (.int k (SE.bin (.shl k) a b).eval)) := by
          cases hc : andB (leI 0 la) (leI (Int.mul ha (pw2 k hb)) k.max) with
          | true =>
            rw [hc, bR_true] at h1
            obtain ⟨c1, c2⟩ := andB_ok hc
            obtain ⟨v, h2, h3⟩ := mkN_ok h1
            exact ⟨v, h2, fun ga gb φ => h3 (shl_rng (leI_t c1) (leI_t c2) hz ga gb) φ⟩
          | false =>
            rw [hc, bR_false] at h1
            obtain ⟨v, h2, h3⟩ := mkN_ok h1
            exact ⟨v, h2, fun _ _ φ => h3 (wrap_rng k _) φ⟩
        obtain ⟨v, h2, h3⟩ := key
        refine ⟨v, h2, fun ga gb φ => ⟨_, h3 ga gb φ, fun w => ?_⟩⟩
        have : ¬ (b.eval < 0) := by have := gb.1; omega
        simp only [binOp, Op.shift, if_neg this, Sem.run_pure]
        congr 3
  | shr =>
    rcases cnt_ok h with ⟨n, rfl, rfl, h1⟩ | h1
    · rw [fI_eq] at h1
      obtain ⟨v, h2, h3⟩ := mkN_ok h1
      refine ⟨v, h2, fun ⟨a1, a2⟩ ⟨b1, b2⟩ φ => ?_⟩
      have eb : b.eval = n := by omega
      have hp : (0 : Int) < Int.ofNat (Nat.pow 2 (min n k.bits)) := by
        have : 0 < Nat.pow 2 (min n k.bits) := Nat.two_pow_pos _
        show (0 : Int) < ((Nat.pow 2 (min n k.bits) : Nat) : Int)
        omega
      have fd : ∀ {x y : Int}, x ≤ y → Int.fdiv x (Int.ofNat (Nat.pow 2 (min n k.bits))) ≤ Int.fdiv y (Int.ofNat (Nat.pow 2 (min n k.bits))) := fun hxy => by
        rw [Int.fdiv_eq_ediv_of_nonneg _ (Int.le_of_lt hp), Int.fdiv_eq_ediv_of_nonneg _ (Int.le_of_lt hp)]
        exact Int.ediv_le_ediv hp hxy
      refine ⟨_, h3 ⟨fd a1, fd a2⟩ φ, fun w => ?_⟩
      rw [eb]
      have : ¬ ((n : Int) < 0) := by omega
      simp only [binOp, Op.shift, if_neg this, Int.toNat_natCast, Sem.run_pure]
      congr 3
    · unfold shrV at h1
      cases hz : leI 0 lb with
      | false => rw [hz] at h1; exact absurd (show false = true from h1) (by decide)
      | true =>
        rw [hz, bR_true] at h1
        have hz := leI_t hz
        obtain ⟨v, h2, h3⟩ := mkN_ok h1
        refine ⟨v, h2, fun ga gb φ => ⟨_, h3 (shr_rng ga gb) φ, fun w => ?_⟩⟩
        have : ¬ (b.eval < 0) := by have := gb.1; omega
        simp only [binOp, Op.shift, if_neg this, Sem.run_pure]
        congr 3
  | eql =>
    obtain ⟨rfl, h1⟩ := two h
    obtain ⟨r, h2, h3⟩ := eqS_yes h1
    exact ⟨_, h2, fun ga gb φ => ⟨_, .bool _, fun w => by rw [h3 ga gb]; simp [binOp, Op.intCmp] <;> (rw [Bool.eq_iff_iff]; simp)⟩⟩
  | neq =>
    obtain ⟨rfl, h1⟩ := two h
    obtain ⟨r, h2, h3⟩ := eqS_yes h1
    exact ⟨_, h2, fun ga gb φ => ⟨_, .bool _, fun w => by rw [h3 ga gb]; simp [binOp, Op.intCmp] <;> (rw [Bool.eq_iff_iff]; simp)⟩⟩
  | lss =>
    obtain ⟨rfl, h1⟩ := two h
    obtain ⟨r, h2, h3⟩ := ltS_yes h1
    exact ⟨_, h2, fun ga gb φ => ⟨_, .bool _, fun w => by rw [h3 ga gb]; simp [binOp, Op.intCmp]⟩⟩
  | leq =>
    obtain ⟨rfl, h1⟩ := two h
    obtain ⟨r, h2, h3⟩ := ltS_yes h1
    exact ⟨_, h2, fun ga gb φ => ⟨_, .bool _, fun w => by rw [h3 gb ga]; simp [binOp, Op.intCmp] <;> (rw [Bool.eq_iff_iff]; simp)⟩⟩
  | gtr =>
    obtain ⟨rfl, h1⟩ := two h
    obtain ⟨r, h2, h3⟩ := ltS_yes h1
    exact ⟨_, h2, fun ga gb φ => ⟨_, .bool _, fun w => by rw [h3 gb ga]; simp [binOp, Op.intCmp]⟩⟩
  | geq =>
    obtain ⟨rfl, h1⟩ := two h
    obtain ⟨r, h2, h3⟩ := ltS_yes h1
    exact ⟨_, h2, fun ga gb φ => ⟨_, .bool _, fun w => by rw [h3 ga gb]; simp [binOp, Op.intCmp] <;> (rw [Bool.eq_iff_iff]; simp)⟩⟩
end
end Go.Ev
