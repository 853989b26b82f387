import Derived.Test.YtbgooiiihmnnmaaSpec25
namespace Go.Sp
open Go.Ev
theorem p2_nat' (n : Int) : Int.ofNat (2 ^ n.toNat) = p2 n := by
  unfold p2
  show ((2 ^ n.toNat : Nat) : Int) = _
  exact Int.natCast_pow 2 n.toNat
theorem shlU' {a n : Int} (h : 0 ≤ n) (g : n ≤ 64) : opI (.shl .u64) a n = a * p2 n % 18446744073709551616 := by
  have e : min n.toNat IntKind.u64.bits = n.toNat := by
    show min n.toNat 64 = _
    omega
  show IntKind.wrap .u64 (a * Int.ofNat (2 ^ min n.toNat IntKind.u64.bits)) = _
  rw [e, wrap_u64, p2_nat']
theorem shlI' {a n : Int} (h : 0 ≤ n) (g : n ≤ 64) : opI (.shl .i64) a n = IntKind.wrap .i64 (a * p2 n) := by
  have e : min n.toNat IntKind.i64.bits = n.toNat := by
    show min n.toNat 64 = _
    omega
  show IntKind.wrap .i64 (a * Int.ofNat (2 ^ min n.toNat IntKind.i64.bits)) = _
  rw [e, p2_nat']
theorem shrU' {a n : Int} (h : 0 ≤ n) (g : n ≤ 64) : opI (.shr .u64) a n = a / p2 n := by
  have e : min n.toNat IntKind.u64.bits = n.toNat := by
    show min n.toNat 64 = _
    omega
  show Int.fdiv a (Int.ofNat (2 ^ min n.toNat IntKind.u64.bits)) = _
  rw [e, p2_nat']
  exact Int.fdiv_eq_ediv_of_nonneg a (Int.le_of_lt (p2_pos n))
theorem ofInt_nat' {a : Int} (h1 : 0 ≤ a) (h2 : a < 18446744073709551616) : (BitVec.ofInt 64 a).toNat = a.toNat := by
  rw [BitVec.toNat_ofInt]
  have : a % (2 ^ 64 : Nat) = a := Int.emod_eq_of_lt h1 (by simpa using h2)
  rw [this]
theorem or_nat {m c : Nat} (h : c < 2) : (m * 2) ||| c = m * 2 + c := by
  have e := Nat.shiftLeft_add_eq_or_of_lt (b := c) (i := 1) (by simpa using h) m
  rw [Nat.shiftLeft_eq] at e
  simpa using e.symm
theorem or_bits {a c : Int} (h : 0 ≤ a) (g : a ≤ 1099511627775) (h0 : 0 ≤ c) (h1 : c ≤ 1) : ((BitVec.ofInt 64 (a * 2) ||| BitVec.ofInt 64 c).toNat : Int) = 2 * a + c := by
  rw [BitVec.toNat_or, ofInt_nat' (by omega) (by omega), ofInt_nat' h0 (by omega), show (a * 2).toNat = a.toNat * 2 by omega, or_nat (by omega)]
  omega
theorem orU_bit {a c : Int} (h : 0 ≤ a) (g : a ≤ 1099511627775) (h0 : 0 ≤ c) (h1 : c ≤ 1) : opI (.or .u64) (a * 2) c = 2 * a + c := by
  show IntKind.wrap .u64 ((BitVec.ofInt 64 (a * 2) ||| BitVec.ofInt 64 c).toNat : Int) = _
  rw [or_bits h g h0 h1, wrap_u64]; omega
theorem orI_bit {a c : Int} (h : 0 ≤ a) (g : a ≤ 1099511627775) (h0 : 0 ≤ c) (h1 : c ≤ 1) : opI (.or .i64) (a * 2) c = 2 * a + c := by
  show IntKind.wrap .i64 ((BitVec.ofInt 64 (a * 2) ||| BitVec.ofInt 64 c).toNat : Int) = _
  rw [or_bits h g h0 h1, wrap_i64]; omega
theorem p2_64 {L : Int} (h : 1 ≤ L) (g : L ≤ 40) : p2 L * p2 (64 - L) = 18446744073709551616 ∧ p2 (L - 1) * p2 (64 - L) = 9223372036854775808 := by
  rw [← p2_add (by omega) (by omega), ← p2_add (by omega) (by omega), show L + (64 - L) = 64 by omega, show L - 1 + (64 - L) = 63 by omega]
  decide
theorem upU {n L : Int} (h : 1 ≤ L) (g : L ≤ 40) (h0 : 0 ≤ n) (h1 : n < p2 L) : opI (.shr .u64) (opI (.shl .u64) n (64 - L)) (64 - L) = n := by
  have hp := p2_pos (64 - L)
  have e := (p2_64 h g).1
  have a := Int.mul_lt_mul_of_pos_right h1 hp
  have b := Int.mul_nonneg h0 (Int.le_of_lt hp)
  rw [shlU' (by omega) (by omega), shrU' (by omega) (by omega), Int.emod_eq_of_lt b (by omega), Int.mul_ediv_cancel _ (by omega)]
theorem upS {n L : Int} (h : 1 ≤ L) (g : L ≤ 40) (h0 : 0 ≤ n) (h1 : n < p2 L) : opI (.shr .i64) (opI (.shl .i64) n (64 - L)) (64 - L) = sgnN true L n := by
  have hp := p2_pos (64 - L)
  have e := p2_64 h g
  have a := Int.mul_lt_mul_of_pos_right h1 hp
  have b := Int.mul_nonneg h0 (Int.le_of_lt hp)
  rw [shlI' (by omega) (by omega), shr_eq (by omega) (by omega)]
  unfold sgnN
  rw [hiR_t]
  rcases Int.lt_or_le n (p2 (L - 1)) with c | c
  · have d := Int.mul_lt_mul_of_pos_right c hp
    rw [if_neg (by omega), show IntKind.wrap .i64 (n * p2 (64 - L)) = n * p2 (64 - L) by rw [wrap_i64]; omega, Int.mul_ediv_cancel _ (by omega)]
  · have d := Int.mul_le_mul_of_nonneg_right c (Int.le_of_lt hp)
    rw [if_pos (by omega), show IntKind.wrap .i64 (n * p2 (64 - L)) = (n - p2 L) * p2 (64 - L) by rw [wrap_i64, Int.sub_mul]; omega, Int.mul_ediv_cancel _ (by omega)]
theorem numA_next {l : List Int} {a : Nat} {i : Int} (h : 0 ≤ i) : numA l a (i + 1).toNat = 2 * numA l a i.toNat + l.getD (a + i.toNat) 0 := by
  rw [toNat_succ h]; rfl
theorem numA_40 {l : List Int} {a k : Nat} (hk : k ≤ 40) (h : ∀ j : Nat, a ≤ j → j < a + k → l.getD j 0 = 0 ∨ l.getD j 0 = 1) : 0 ≤ numA l a k ∧ numA l a k ≤ 1099511627775 ∧ numA l a k < p2 k := by
  have := numA_bd h
  have := p2_mono (show (k : Int) ≤ 40 by omega)
  rw [p2_40] at this
  omega
theorem bit01 {l : List Int} {j : Nat} (h : ∀ y ∈ l, 0 ≤ y ∧ y ≤ 1) : l.getD j 0 = 0 ∨ l.getD j 0 = 1 := by
  have := getD_bd (i := j) h (by omega) (by omega); omega
theorem numA_td {l : List Int} {a n : Nat} : numA (List.take n (List.drop a l)) 0 n = numA l a n :=
  numA_congr fun j hj => by
    rw [Nat.zero_add, List.getD_eq_getElem?_getD, List.getD_eq_getElem?_getD, List.getElem?_take_of_lt hj, List.getElem?_drop]
theorem sgnN_bd {g : Bool} {b n : Int} (h : 1 ≤ b) (k : b ≤ 40) (h0 : 0 ≤ n) (h1 : n < p2 b) : loR g b ≤ sgnN g b n ∧ sgnN g b n ≤ hiR g b := by
  have := p2_b h k
  unfold sgnN
  cases g
  · rw [loR_f, hiR_f]; split <;> omega
  · rw [loR_t, hiR_t]; split <;> omega
theorem sgnN_f {b n : Int} (h1 : n < p2 b) : sgnN false b n = n := by
  unfold sgnN; rw [hiR_f, if_neg (by omega)]
end Go.Sp
namespace Go.Sp
open Go.Ev
theorem td_len {l : List Int} {a b : Int} {m n : Nat} (hm : m = a.toNat) (hn : n = b.toNat) (h0 : 0 ≤ a) (hb : 1 ≤ b) (hl : a + b ≤ (l.length : Int)) : (List.take n (List.drop m l)).length = b.toNat ∧ numA (List.take n (List.drop m l)) 0 (List.take n (List.drop m l)).length = numA l a.toNat b.toNat := by
  have e : (List.take n (List.drop m l)).length = b.toNat := by rw [List.length_take, List.length_drop]; omega
  refine ⟨e, ?_⟩
  rw [e, ← hn, numA_td, hm]
theorem td_get' {l : List Int} {m n j : Nat} (h : j < n) : (List.take n (List.drop m l)).getD j 0 = l.getD (m + j) 0 := by
  rw [List.getD_eq_getElem?_getD, List.getD_eq_getElem?_getD, List.getElem?_take_of_lt h, List.getElem?_drop]
theorem form_td {l : List Int} {a b : Int} {m n : Nat} {k : Bool} (hm : m = a.toNat) (hn : n = b.toNat) (h0 : 0 ≤ a) (hb : 1 ≤ b) (hl : a + b ≤ (l.length : Int))
    (h : k = true ↔ ∀ j : Nat, j < (List.take n (List.drop m l)).length → (List.take n (List.drop m l)).getD j 0 = 0 ∨ (List.take n (List.drop m l)).getD j 0 = 1) : k = true ↔ formB l a b := by
  rw [h, (td_len hm hn h0 hb hl).1]
  constructor
  · intro g j h1 h2
    have := g (j - m) (by omega)
    rw [td_get' (by omega), show m + (j - m) = j by omega] at this
    exact this
  · intro g j h1
    rw [td_get' (by omega)]
    exact g (m + j) (by omega) (by omega)
theorem form_mem {l : List Int} {a b : Int} {m n : Nat} (hm : m = a.toNat) (hn : n = b.toNat) (h0 : 0 ≤ a) (hb : 1 ≤ b) (f : formB l a b) : ∀ y ∈ List.take n (List.drop m l), 0 ≤ y ∧ y ≤ 1 := by
  intro y hy
  obtain ⟨j, hj, e⟩ := List.getElem_of_mem hy
  have g := td_get' (l := l) (m := m) (n := n) (j := j) (by rw [List.length_take] at hj; omega)
  rw [List.getD_eq_getElem?_getD, List.getElem?_eq_getElem hj, e] at g
  simp only [Option.getD_some] at g
  have := f (m + j) (by omega) (by rw [List.length_take] at hj; omega)
  omega
end Go.Sp
