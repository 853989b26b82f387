import Derived.Test.YtbgooiiihmnnmaaSpec25d
namespace Go.Sp
open Go.Ev
def cAny : CX := .l [.i .i64 (-9223372036854775808) 9223372036854775807] 9223372036854775807
def cB : CX := .l [.i .i64 0 1] 200
def sigNth : Sig := ⟨[.one cAny, .one (ib 0 100)], [.one i64], fun _ => True, fun _ _ => True⟩
def blPost : List DV → List DV → Prop
  | [.n _, .n k], [.n r] => r < k
  | _, _ => False
def sigBl : Sig := ⟨[.one i64, .one (ib 1 4000000000000000001)], [.one (ib 0 4000000000000000000)], fun _ => True, blPost⟩
def ofPost : List DV → List DV → Prop
  | [.l _, .n a], [.n a', .n _, .b _, .n _, .n _] => a' = a
  | _, _ => False
def sigOf : Sig := ⟨[.one cAny, .one (ib 0 100)], [.agg [ib 0 100, ib 1 40, .b, ib 1 1000000, ib (-1000000) 1000000]], fun _ => True, ofPost⟩
def coPost : List DV → List DV → Prop
  | [.l _, .n n], [.l m] => (m.length : Int) = n
  | _, _ => False
def sigCo : Sig := ⟨[.one cAny, .one (ib 1 200)], [.one cB], fun _ => True, coPost⟩
def coInv : List DV → List DV → Prop
  | [.n n], [.n i, .l m] => 0 ≤ i ∧ i ≤ n ∧ (m.length : Int) = n
  | _, _ => False
def coMea : List DV → List DV → Nat
  | [.n n], .n i :: _ => (n - i).toNat
  | _, _ => 0
def bkInv : List DV → List DV → Prop
  | [.l l], [.n i] => 0 ≤ i ∧ i ≤ (l.length : Int)
  | _, _ => False
def sigBack : Sig := ⟨[.one cAny, .one i64], [.one .b], fun _ => True, fun _ rs => rs = [.b true]⟩
theorem shr_bd {a n : Int} (h : 0 ≤ n) (g : n ≤ 64) (h1 : -9223372036854775808 ≤ a) (h2 : a ≤ 9223372036854775807) : -9223372036854775808 ≤ opI (.shr .i64) a n ∧ opI (.shr .i64) a n ≤ 9223372036854775807 := by
  rw [shr_eq h g]
  have hp := p2_pos n
  constructor
  · refine Int.le_ediv_of_mul_le hp ?_
    have := Int.mul_le_mul_of_nonneg_left (show (1 : Int) ≤ p2 n by omega) (show (0 : Int) ≤ 9223372036854775808 by omega)
    omega
  · refine Int.le_of_lt_add_one (Int.ediv_lt_of_lt_mul hp ?_)
    have := Int.mul_le_mul_of_nonneg_left (show (1 : Int) ≤ p2 n by omega) (show (0 : Int) ≤ 9223372036854775807 + 1 by omega)
    omega
end Go.Sp
namespace Go.Sp
open Go.Ev
noncomputable section
def coL : LSpec := ⟨[0, 1, 5], [(.tmp 6, ib 0 200), (.blk (key 2), cB)], [(.tmp 1, ib 1 200)], coInv, coMea, 60⟩
def bkL : LSpec := ⟨[0, 1, 5, 6, 7, 8, 9, 10, 11], [(.tmp 12, ib 0 200)], [(.tmp 9, cB)], bkInv, meaF, 60⟩
end
end Go.Sp
namespace Go.Sp
open Go.Ev
theorem md_bd {a n : Int} (h : 0 ≤ a) (hn : 0 < n) : 0 ≤ a.tmod n ∧ a.tmod n < n := by
  rw [tmod_nn h]; exact ⟨Int.emod_nonneg a (by omega), Int.emod_lt_of_pos a hn⟩
end Go.Sp
namespace Go.Sp
open Go.Ev
theorem lo_hi {g : Bool} {b : Int} (h : 1 ≤ b) (k : b ≤ 40) : loR g b + 1 ≤ hiR g b := by
  have := p2_b h k
  cases g
  · rw [loR_f, hiR_f]; omega
  · rw [loR_t, hiR_t]; omega
end Go.Sp
