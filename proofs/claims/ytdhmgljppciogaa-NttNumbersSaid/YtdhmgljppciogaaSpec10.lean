import Derived.Test.YtdhmgljppciogaaSpecC2
namespace Go.Sp
open Go.Ev
noncomputable section
def PR : Int := 998244353
def pwR (p a : Int) (n : Nat) : Int := if n = 0 then p else pwR (if n % 2 = 1 then p * a % 998244353 else p) (a * a % 998244353) (n / 2)
termination_by n
def pwPost : List DV → List DV → Prop
  | [.n a, .n n], [.n r] => r = pwR 1 a n.toNat
  | _, _ => False
def sigPw : Sig := ⟨[.one (ib 0 998244352), .one (ib 0 9223372036854775807)], [.one (ib 0 998244352)], fun _ => True, pwPost⟩
def pwInv : List DV → List DV → Prop
  | [.n a0, .n n0], [.n p, .n a, .n n] => pwR 1 a0 n0.toNat = pwR p a n.toNat
  | _, _ => False
def pwMea : List DV → List DV → Nat
  | _, [.n _, .n _, .n n] => n.toNat
  | _, _ => 0
def pwL : LSpec := ⟨[4], [(.tmp 5, ib 0 998244352), (.tmp 0, ib 0 998244352), (.tmp 1, ib 0 9223372036854775807)], [(.tmp 0, ib 0 998244352), (.tmp 1, ib 0 9223372036854775807)], pwInv, pwMea, 10⟩
theorem pwR_0 (p a : Int) : pwR p a 0 = p := by rw [pwR]; rfl
theorem pwR_odd {p a n : Int} (h : 0 < n) (g : n % 2 = 1) : pwR p a n.toNat = pwR (p * a % 998244353) (a * a % 998244353) (n / 2).toNat := by
  rw [pwR, if_neg (by omega), if_pos (by omega), show n.toNat / 2 = (n / 2).toNat by omega]
theorem pwR_even {p a n : Int} (h : 0 < n) (g : ¬n % 2 = 1) : pwR p a n.toNat = pwR p (a * a % 998244353) (n / 2).toNat := by
  rw [pwR, if_neg (by omega), if_neg (by omega), show n.toNat / 2 = (n / 2).toNat by omega]
theorem pw_bd {p a : Int} (h : 0 ≤ p) (h2 : p ≤ 998244352) (g : 0 ≤ a) (g2 : a ≤ 998244352) : 0 ≤ p * a ∧ p * a ≤ 996491786299900000 := by
  have := Int.mul_nonneg h g
  have := Int.mul_le_mul h2 g2 g (by omega)
  omega
def isL (n : Int) : Prop := 1 ≤ n ∧ n ≤ 32768 ∧ opI (.and .i64) n (n - 1) = 0
def rootPost : List DV → List DV → Prop
  | [.n n], [.n r, .n e] => (isL n ∧ r = pwR 1 3 (998244352 / n).toNat ∧ e = 0) ∨ (¬isL n ∧ r = 0 ∧ e = 3)
  | _, _ => False
def sigRoot : Sig := ⟨[.one i64], [.one (ib 0 998244352), .one (ib 0 18)], fun _ => True, rootPost⟩
def powPost : List DV → List DV → Prop
  | [.n a, .n n], [.n r, .n e] => ((0 ≤ a ∧ a < 998244353 ∧ 0 ≤ n) ∧ r = pwR 1 a n.toNat ∧ e = 0) ∨ (¬(0 ≤ a ∧ a < 998244353 ∧ 0 ≤ n) ∧ r = 0 ∧ e = 2)
  | _, _ => False
def sigPow : Sig := ⟨[.one i64, .one i64], [.one (ib 0 998244352), .one (ib 0 18)], fun _ => True, powPost⟩
def sgdPost : List DV → List DV → Prop
  | [.n a], [.n r, .n e] => ((0 ≤ a ∧ a < 998244353) ∧ (499122176 < a → r = a - 998244353) ∧ (¬499122176 < a → r = a) ∧ e = 0) ∨ (¬(0 ≤ a ∧ a < 998244353) ∧ r = 0 ∧ e = 2)
  | _, _ => False
def sigSgd : Sig := ⟨[.one i64], [.one i64, .one (ib 0 18)], fun _ => True, sgdPost⟩
def sigL2 : Sig := ⟨[.one i64, .one i64], [.one .b], fun _ => True, fun _ rs => rs = [.b true]⟩
def tab : Nat → LT := fun f p c => at2 f p 30 28 pwL (at2 f p 41 28 pwL none)
end
end Go.Sp
