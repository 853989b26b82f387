import Derived.Test.YtofeleohcpaclaaDoorSpecGl
namespace Go.Sp
open Go.Ev
noncomputable section
def insd (x y : Int) : Prop := -1048576 ≤ x ∧ x ≤ 1048576 ∧ -1048576 ≤ y ∧ y ≤ 1048576
def insPost : List DV → List DV → Prop
  | [.n x, .n y], [.b r] => (r = true ↔ insd x y)
  | _, _ => False
def sigIns : Sig := ⟨[smpV], [.one .b], fun _ => True, insPost⟩
/-- the number around 0 -/
def cen (x m : Int) : Int := (x + m / 2) % m - m / 2
def fullPost : List DV → List DV → Prop
  | [.n x, .n y], [.n r, .n e] => (¬insd x y ∧ r = 0 ∧ e = 2) ∨ (insd x y ∧ e = 0 ∧ r = cen (fineOf x y) 4096)
  | _, _ => False
def sigFull : Sig := ⟨[smpV], [.one (ib (-2048) 2047), .one (ib 0 18)], fun _ => True, fullPost⟩
def halfPost : List DV → List DV → Prop
  | [.n x, .n y], [.n r, .n e] => (¬insd x y ∧ r = 0 ∧ e = 2) ∨ (insd x y ∧ e = 0 ∧ r = cen (fineOf x y) 2048)
  | _, _ => False
def sigHalf : Sig := ⟨[smpV], [.one (ib (-1024) 1023), .one (ib 0 18)], fun _ => True, halfPost⟩
def tI (a b c d : Int) : Int := c * a + d * b
def tQ (a b c d : Int) : Int := d * a - c * b
def turnPost : List DV → List DV → Prop
  | [.n a, .n b, .n c, .n d], [.n x, .n y, .n e] => (¬(insd a b ∧ insd c d) ∧ x = 0 ∧ y = 0 ∧ e = 2) ∨ ((insd a b ∧ insd c d) ∧ e = 0 ∧ x = tI a b c d ∧ y = tQ a b c d)
  | _, _ => False
def t41 : VK := .agg [ib (-2199023255552) 2199023255552, ib (-2199023255552) 2199023255552]
def sigTurnD : Sig := ⟨[smpV, smpV], [t41, .one (ib 0 18)], fun _ => True, turnPost⟩
def ratePost : List DV → List DV → Prop
  | [.n a, .n b, .n c, .n d], [.n r, .n e] => (¬(insd a b ∧ insd c d) ∧ r = 0 ∧ e = 2) ∨ ((insd a b ∧ insd c d) ∧ e = 0 ∧ r = cen (fineOf (tI a b c d) (tQ a b c d)) 4096)
  | _, _ => False
def sigRate : Sig := ⟨[smpV, smpV], [.one (ib (-2048) 2047), .one (ib 0 18)], fun _ => True, ratePost⟩
def hratePost : List DV → List DV → Prop
  | [.n a, .n b, .n c, .n d], [.n r, .n e] => (¬(insd a b ∧ insd c d) ∧ r = 0 ∧ e = 2) ∨ ((insd a b ∧ insd c d) ∧ e = 0 ∧ r = cen (fineOf (tI a b c d) (tQ a b c d)) 2048)
  | _, _ => False
def sigHRate : Sig := ⟨[smpV, smpV], [.one (ib (-1024) 1023), .one (ib 0 18)], fun _ => True, hratePost⟩
def shN (a b : Int) : Int := (2048 * a + b) / (2 * b)
def shareOf (a b : Int) : Int := if b = 0 then 0 else if a < 0 then -shN (-a) b else shN a b
def sharePost : List DV → List DV → Prop
  | [.n a, .n b], [.n r] => r = shareOf a b
  | _, _ => False
def sharePre : List DV → Prop
  | [.n a, .n b] => -b ≤ a ∧ a ≤ b
  | _ => False
def sigShare (lo hi : Int) : Sig := ⟨[.one (ib lo hi), .one (ib 0 4398046511104)], [.one (ib (-1024) 1024)], sharePre, sharePost⟩
def powr (x y : Int) : Int := x * x + y * y
def codePost : List DV → List DV → Prop
  | [.n a, .n b, .n p, .n q, .n c, .n d], [.n r, .n e] => (¬(insd a b ∧ insd p q ∧ insd c d) ∧ r = 0 ∧ e = 2) ∨ ((insd a b ∧ insd p q ∧ insd c d) ∧ e = 0 ∧ r = shareOf (powr a b - powr c d) (powr a b + powr c d))
  | _, _ => False
def sigCode : Sig := ⟨[.agg [i64, i64, i64, i64, i64, i64]], [.one (ib (-1024) 1024), .one (ib 0 18)], fun _ => True, codePost⟩
def lockPost : List DV → List DV → Prop
  | [.n x, .n y], [.n r, .n e] => (¬insd x y ∧ r = 0 ∧ e = 2) ∨ (insd x y ∧ e = 0 ∧ r = shareOf (x * x - y * y) (powr x y))
  | _, _ => False
def sigLock : Sig := ⟨[smpV], [.one (ib (-1024) 1024), .one (ib 0 18)], fun _ => True, lockPost⟩
def sigSums : Sig := ⟨[.agg [i64, i64, i64, i64, i64, i64]], [.one .b], fun _ => True, fun _ rs => rs = [.b true]⟩
def sigRates : Sig := ⟨[smpV, smpV], [.one .b], fun _ => True, fun _ rs => rs = [.b true]⟩
theorem shN_bd {a b : Int} (h : 0 ≤ a) (g : a ≤ b) (k : 0 < b) : 0 ≤ shN a b ∧ shN a b ≤ 1024 := by
  unfold shN
  refine ⟨Int.ediv_nonneg (by omega) (by omega), ?_⟩
  have := Int.ediv_lt_of_lt_mul (a := 2048 * a + b) (b := 1025) (c := 2 * b) (by omega) (by omega)
  omega
theorem det1 {P : Prop} {r e r' e' v : Int} (h : (¬P ∧ r = 0 ∧ e = 2) ∨ (P ∧ e = 0 ∧ r = v)) (g : (¬P ∧ r' = 0 ∧ e' = 2) ∨ (P ∧ e' = 0 ∧ r' = v)) : r = r' ∧ e = e' := by
  rcases h with ⟨h1, h2, h3⟩ | ⟨h1, h2, h3⟩ <;> rcases g with ⟨g1, g2, g3⟩ | ⟨g1, g2, g3⟩
  · exact ⟨h2.trans g2.symm, h3.trans g3.symm⟩
  · exact absurd g1 h1
  · exact absurd h1 g1
  · exact ⟨h3.trans g3.symm, h2.trans g2.symm⟩
theorem det2 {P : Prop} {r s e r' s' e' v w : Int} (h : (¬P ∧ r = 0 ∧ s = 0 ∧ e = 2) ∨ (P ∧ e = 0 ∧ r = v ∧ s = w)) (g : (¬P ∧ r' = 0 ∧ s' = 0 ∧ e' = 2) ∨ (P ∧ e' = 0 ∧ r' = v ∧ s' = w)) : r = r' ∧ s = s' ∧ e = e' := by
  rcases h with ⟨h1, h2, h3, h4⟩ | ⟨h1, h2, h3, h4⟩ <;> rcases g with ⟨g1, g2, g3, g4⟩ | ⟨g1, g2, g3, g4⟩
  · exact ⟨h2.trans g2.symm, h3.trans g3.symm, h4.trans g4.symm⟩
  · exact absurd g1 h1
  · exact absurd h1 g1
  · exact ⟨h3.trans g3.symm, h4.trans g4.symm, h2.trans g2.symm⟩
end
end Go.Sp
