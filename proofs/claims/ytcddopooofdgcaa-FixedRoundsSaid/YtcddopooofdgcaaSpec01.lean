import Derived.Test.YtcddopooofdgcaaSpecC2
import Derived.Test.YtcddopooofdgcaaEvSU
namespace Go.Sp
open Go.Ev
noncomputable section
def u64c : CX := .i .u64 0 18446744073709551615
def M64 : Int := 18446744073709551616
def absI (a : Int) : Int := if a < 0 then -a else a
/-- saturated -/
def sat (a : Int) : Int := max (-9223372036854775808) (min a 9223372036854775807)
def sizePost : List DV → List DV → Prop
  | [.n a], [.n r] => r = absI a
  | _, _ => False
def sigSize : Sig := ⟨[.one i64], [.one (.i .u64 0 9223372036854775808)], fun _ => True, sizePost⟩
def satPost : List DV → List DV → Prop
  | [.b g, .n h, .n l], [.n r] => r = sat (if g then -(h * 18446744073709551616 + l) else h * 18446744073709551616 + l)
  | _, _ => False
def sigSat : Sig := ⟨[.one .b, .agg [u64c, u64c]], [.one i64], fun _ => True, satPost⟩
def togPost : List DV → List DV → Prop
  | [.n a, .n b], [.n h, .n l] => h * 18446744073709551616 + l = absI a + absI b
  | _, _ => False
def sigTog : Sig := ⟨[.one i64, .one i64], [.agg [.i .u64 0 1, u64c]], fun _ => True, togPost⟩
def mulPost : List DV → List DV → Prop
  | [.n a, .n b], [.n h, .n l] => h * 18446744073709551616 + l = a * b
  | _, _ => False
def sigMul : Sig := ⟨[.one u64c, .one u64c], [.one u64c, .one u64c], fun _ => True, mulPost⟩
def bin (f : Int → Int → Int) : List DV → List DV → Prop
  | [.n a, .n b], [.n r] => r = f a b
  | _, _ => False
def addP : List DV → List DV → Prop
  | [.n a, .n b], [.n r] => r = sat (a + b)
  | _, _ => False
def sigAdd : Sig := ⟨[.one i64, .one i64], [.one i64], fun _ => True, addP⟩
def subP : List DV → List DV → Prop
  | [.n a, .n b], [.n r] => r = sat (a - b)
  | _, _ => False
def sigSub : Sig := ⟨[.one i64, .one i64], [.one i64], fun _ => True, subP⟩
def negP : List DV → List DV → Prop
  | [.n a], [.n r] => r = sat (-a)
  | _, _ => False
def sigNeg : Sig := ⟨[.one i64], [.one i64], fun _ => True, negP⟩
def clampP : List DV → List DV → Prop
  | [.n a, .n b, .n c], [.n r, .n e] => (c < b ∧ r = 0 ∧ e = 2) ∨ (b ≤ c ∧ r = min (max a b) c ∧ e = 0)
  | _, _ => False
def sigClamp : Sig := ⟨[.one i64, .one i64, .one i64], [.one i64, .one (ib 0 18)], fun _ => True, clampP⟩
theorem mul64_eq {x y : Int} (h1 : 0 ≤ x) (h2 : x ≤ 18446744073709551615) (h3 : 0 ≤ y) (h4 : y ≤ 18446744073709551615) :
    0 ≤ x * y ∧ x * y ≤ 340282366920938463426481119284349108225 ∧
    (x / 4294967296 * (y / 4294967296) + (x / 4294967296 * (y % 4294967296) + x % 4294967296 * (y % 4294967296) / 4294967296) / 4294967296 +
      ((x / 4294967296 * (y % 4294967296) + x % 4294967296 * (y % 4294967296) / 4294967296) % 4294967296 + x % 4294967296 * (y / 4294967296)) / 4294967296) = x * y / 18446744073709551616 := by
  have e1 : x = x / 4294967296 * 4294967296 + x % 4294967296 := by omega
  have e2 : y = y / 4294967296 * 4294967296 + y % 4294967296 := by omega
  have a1 : 0 ≤ x / 4294967296 := by omega
  have a2 : 0 ≤ x % 4294967296 := by omega
  have a3 : 0 ≤ y / 4294967296 := by omega
  have a4 : 0 ≤ y % 4294967296 := by omega
  have b1 := Int.mul_nonneg h1 h3
  have b2 := Int.mul_le_mul h2 h4 h3 (by omega)
  generalize hx1 : x / 4294967296 = x1 at *
  generalize hx0 : x % 4294967296 = x0 at *
  generalize hy1 : y / 4294967296 = y1 at *
  generalize hy0 : y % 4294967296 = y0 at *
  have e3 : x * y = x1 * y1 * 18446744073709551616 + (x1 * y0 + x0 * y1) * 4294967296 + x0 * y0 := by
    rw [e1, e2]; grind
  have c1 := Int.mul_nonneg a1 a3
  have c2 := Int.mul_nonneg a1 a4
  have c3 := Int.mul_nonneg a2 a3
  have c4 := Int.mul_nonneg a2 a4
  refine ⟨b1, by omega, ?_⟩
  generalize x1 * y1 = p11 at *
  generalize x1 * y0 = p10 at *
  generalize x0 * y1 = p01 at *
  generalize x0 * y0 = p00 at *
  generalize x * y = z at *
  omega
def wideV : VK := .agg [i64, u64c]
def wv (h l : Int) : Int := h * 18446744073709551616 + l
def timesPost : List DV → List DV → Prop
  | [.n a, .n b], [.n h, .n l] => h * 18446744073709551616 + l = absI a * absI b
  | _, _ => False
def sigTimes : Sig := ⟨[.one i64, .one i64], [.agg [u64c, u64c]], fun _ => True, timesPost⟩
def prodPost : List DV → List DV → Prop
  | [.n a, .n b], [.n h, .n l] => h * 18446744073709551616 + l = a * b
  | _, _ => False
def sigProd : Sig := ⟨[.one i64, .one i64], [wideV], fun _ => True, prodPost⟩
def inW (s : Int) : Prop := -170141183460469231731687303715884105728 ≤ s ∧ s < 170141183460469231731687303715884105728
def plusPost : List DV → List DV → Prop
  | [.n a, .n b, .n c, .n d], [.n h, .n l, .n e] => ((-170141183460469231731687303715884105728 ≤ (a + c) * 18446744073709551616 + (b + d) ∧ (a + c) * 18446744073709551616 + (b + d) < 170141183460469231731687303715884105728) ∧ h * 18446744073709551616 + l = (a + c) * 18446744073709551616 + (b + d) ∧ e = 0) ∨
      (¬(-170141183460469231731687303715884105728 ≤ (a + c) * 18446744073709551616 + (b + d) ∧ (a + c) * 18446744073709551616 + (b + d) < 170141183460469231731687303715884105728) ∧ h = 0 ∧ l = 0 ∧ e = 5)
  | _, _ => False
def sigPlus : Sig := ⟨[wideV, wideV], [wideV, .one (ib 0 18)], fun _ => True, plusPost⟩
def minusPost : List DV → List DV → Prop
  | [.n a, .n b, .n c, .n d], [.n h, .n l, .n e] => ((-170141183460469231731687303715884105728 ≤ (a - c) * 18446744073709551616 + (b - d) ∧ (a - c) * 18446744073709551616 + (b - d) < 170141183460469231731687303715884105728) ∧ h * 18446744073709551616 + l = (a - c) * 18446744073709551616 + (b - d) ∧ e = 0) ∨
      (¬(-170141183460469231731687303715884105728 ≤ (a - c) * 18446744073709551616 + (b - d) ∧ (a - c) * 18446744073709551616 + (b - d) < 170141183460469231731687303715884105728) ∧ h = 0 ∧ l = 0 ∧ e = 5)
  | _, _ => False
def sigMinus : Sig := ⟨[wideV, wideV], [wideV, .one (ib 0 18)], fun _ => True, minusPost⟩
def cmpPost : List DV → List DV → Prop
  | [.n a, .n b, .n c, .n d], [.n r] => (r = -1 ∧ (a < c ∨ a = c ∧ b < d)) ∨ (r = 0 ∧ a = c ∧ b = d) ∨ (r = 1 ∧ (c < a ∨ a = c ∧ d < b))
  | _, _ => False
def sigCmp : Sig := ⟨[wideV, wideV], [.one (ib (-1) 1)], fun _ => True, cmpPost⟩
def narPost : List DV → List DV → Prop
  | [.n a, .n b], [.n r, .n e] => (-9223372036854775808 ≤ a * 18446744073709551616 + b ∧ a * 18446744073709551616 + b ≤ 9223372036854775807 ∧ r = a * 18446744073709551616 + b ∧ e = 0) ∨ (¬(-9223372036854775808 ≤ a * 18446744073709551616 + b ∧ a * 18446744073709551616 + b ≤ 9223372036854775807) ∧ r = 0 ∧ e = 5)
  | _, _ => False
def sigNar : Sig := ⟨[wideV], [.one i64, .one (ib 0 18)], fun _ => True, narPost⟩
def sigL3 : Sig := ⟨[.one i64, .one i64, .one i64], [.one .b], fun _ => True, fun _ rs => rs = [.b true]⟩
theorem tdiv2_bd {a : Int} (h1 : -9223372036854775808 ≤ a) (h2 : a ≤ 9223372036854775807) : -4611686018427387904 ≤ a.tdiv 2 ∧ a.tdiv 2 ≤ 4611686018427387903 := by
  by_cases h : 0 ≤ a
  · rw [tdiv_nn h]; omega
  · have : a.tdiv 2 = -((-a).tdiv 2) := by rw [Int.neg_tdiv, Int.neg_neg]
    rw [this, tdiv_nn (by omega)]; omega
theorem mul_in2 {a b A B : Int} (h1 : -A ≤ a) (h2 : a ≤ A) (h3 : -B ≤ b) (h4 : b ≤ B) : -(A * B) ≤ a * b ∧ a * b ≤ A * B := by
  have hA : 0 ≤ A := by omega
  have hB : 0 ≤ B := by omega
  rcases Int.le_total 0 a with ha | ha <;> rcases Int.le_total 0 b with hb | hb
  · have := Int.mul_nonneg ha hb; have := Int.mul_le_mul h2 h4 hb hA; omega
  · have := Int.mul_nonneg ha (show 0 ≤ -b by omega); have := Int.mul_le_mul h2 (show -b ≤ B by omega) (by omega) hA; rw [Int.mul_neg] at *; omega
  · have := Int.mul_nonneg (show 0 ≤ -a by omega) hb; have := Int.mul_le_mul (show -a ≤ A by omega) h4 hb hA; rw [Int.neg_mul] at *; omega
  · have := Int.mul_nonneg (show 0 ≤ -a by omega) (show 0 ≤ -b by omega); have := Int.mul_le_mul (show -a ≤ A by omega) (show -b ≤ B by omega) (by omega) hA; rw [Int.neg_mul_neg] at *; omega
theorem abs_mul {a b : Int} (h1 : -9223372036854775808 ≤ a) (h2 : a ≤ 9223372036854775807) (h3 : -9223372036854775808 ≤ b) (h4 : b ≤ 9223372036854775807) :
    0 ≤ absI a * absI b ∧ absI a * absI b ≤ 85070591730234615865843651857942052864 ∧ ((a < 0 ∧ b < 0 ∨ ¬a < 0 ∧ ¬b < 0) → absI a * absI b = a * b) ∧ ((a < 0 ∧ ¬b < 0 ∨ ¬a < 0 ∧ b < 0) → absI a * absI b = -(a * b)) := by
  have p1 : 0 ≤ absI a ∧ absI a ≤ 9223372036854775808 := by unfold absI; split <;> omega
  have p2 : 0 ≤ absI b ∧ absI b ≤ 9223372036854775808 := by unfold absI; split <;> omega
  refine ⟨Int.mul_nonneg p1.1 p2.1, ?_, ?_, ?_⟩
  · have := Int.mul_le_mul p1.2 p2.2 p2.1 (by omega); omega
  · rintro (⟨x, y⟩ | ⟨x, y⟩) <;> simp only [absI, x, y, if_true, if_false, Int.neg_mul_neg]
  · rintro (⟨x, y⟩ | ⟨x, y⟩) <;> simp only [absI, x, y, if_true, if_false, Int.neg_mul, Int.mul_neg]
/-- a half rounded upwards -/
def shR (W n : Int) : Int := if n = 0 then W else (W + p2 (n - 1)) / p2 n
def downPre : List DV → Prop
  | [.n h, .n l, .n _] => h * 18446744073709551616 + l ≤ 170141183460469231731687303715884105728
  | _ => False
def downPost : List DV → List DV → Prop
  | [.n h, .n l, .n n], [.n x, .n y] => x * 18446744073709551616 + y = shR (h * 18446744073709551616 + l) n
  | _, _ => False
def sigDown : Sig := ⟨[.agg [u64c, u64c], .one (.i .u64 0 126)], [.agg [u64c, u64c]], downPre, downPost⟩
def upPost : List DV → List DV → Prop
  | [.n _, .n l, .n n], [.n x, .n y] => x * 18446744073709551616 + y = l * p2 n
  | _, _ => False
def sigUp : Sig := ⟨[.agg [.i .u64 0 0, .i .u64 0 9223372036854775808], .one (.i .u64 0 64)], [.agg [u64c, u64c]], fun _ => True, upPost⟩
def halPre : List DV → Prop
  | [.n h, .n l, .n _] => h * 18446744073709551616 + l ≤ 170141183460469231731687303715884105728
  | _ => False
def sigHal : Sig := ⟨[.one u64c, .one u64c, .one (ib 0 126)], [.one u64c, .one u64c], halPre, downPost⟩
/-- shifted to the left, or to the right and rounded away from zero -/
def shF (a n : Int) : Int := if 0 ≤ n then sat (a * p2 (min n 64)) else if a < 0 then -(shR (-a) (-n)) else shR a (-n)
def shiftPost : List DV → List DV → Prop
  | [.n a, .n n], [.n r] => r = shF a n
  | _, _ => False
def sigShift : Sig := ⟨[.one i64, .one i64], [.one i64], fun _ => True, shiftPost⟩
def halInv : List DV → List DV → Prop
  | [.n h0, .n l0, .n n0], [.n h, .n l, .n n] => 0 ≤ n ∧ n ≤ n0 ∧ (1 ≤ n ∨ n = n0) ∧ h * 18446744073709551616 + l = (h0 * 18446744073709551616 + l0) / p2 (n0 - n)
  | _, _ => False
def halMea : List DV → List DV → Nat
  | _, [.n _, .n _, .n n] => n.toNat
  | _, _ => 0
def halL : LSpec := ⟨[], [(.tmp 0, u64c), (.tmp 1, u64c), (.tmp 2, ib 0 126)], [(.tmp 0, u64c), (.tmp 1, u64c), (.tmp 2, ib 0 126)], halInv, halMea, 10⟩
def shLInv : List DV → List DV → Prop
  | [.n a0, .n n0], [.n a, .n n] => 0 ≤ n ∧ n ≤ n0 ∧ a = sat (a0 * p2 (n0 - n))
  | _, _ => False
def shLMea : List DV → List DV → Nat
  | _, [.n _, .n n] => n.toNat
  | _, _ => 0
def shLL : LSpec := ⟨[], [(.tmp 0, i64), (.tmp 1, ib 0 64)], [(.tmp 0, i64), (.tmp 1, ib 0 64)], shLInv, shLMea, 10⟩
def sgnPost : List DV → List DV → Prop
  | [.n m, .b o, .b g], [.n r] => r = sat (if g then -(if o then 18446744073709551616 else m) else if o then 18446744073709551616 else m)
  | _, _ => False
def sigSgn : Sig := ⟨[.one u64c, .one .b, .one .b], [.one i64], fun _ => True, sgnPost⟩
def tab : Nat → LT := fun f p c => at2 f p 59 12 halL (at2 f p 30 232 shLL none)
end
end Go.Sp
