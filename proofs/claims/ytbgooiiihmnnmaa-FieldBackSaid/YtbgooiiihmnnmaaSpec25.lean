import Derived.Test.YtbgooiiihmnnmaaSpecC2
namespace Go.Sp
open Go.Ev
def fV : VK := .agg [i64, i64, .b, i64, i64]
def gV : VK := .agg [ib 0 4000, ib 1 40, .b, ib 1 1000000, ib (-1000000000000000) 1000000000000000]
def okF (a b u s : Int) : Prop := 0 ≤ a ∧ a ≤ 4000 ∧ 1 ≤ b ∧ b ≤ 40 ∧ a + b ≤ 4000 ∧ 1 ≤ u ∧ u ≤ 1000000 ∧ -1000000000000000 ≤ s ∧ s ≤ 1000000000000000
def chkPost : List DV → List DV → Prop
  | [.n a, .n b, .b _, .n u, .n s], [.n e] => (okF a b u s ∧ e = 0) ∨ (¬okF a b u s ∧ e = 2)
  | _, _ => False
def sigChk : Sig := ⟨[fV], [.one (ib 0 18)], fun _ => True, chkPost⟩
noncomputable def loR (g : Bool) (b : Int) : Int := if g = true then -p2 (b - 1) else 0
noncomputable def hiR (g : Bool) (b : Int) : Int := if g = true then p2 (b - 1) - 1 else p2 b - 1
theorem loR_t {b : Int} : loR true b = -p2 (b - 1) := rfl
theorem loR_f {b : Int} : loR false b = 0 := rfl
theorem hiR_t {b : Int} : hiR true b = p2 (b - 1) - 1 := rfl
theorem hiR_f {b : Int} : hiR false b = p2 b - 1 := rfl
theorem p2_39 : p2 39 = 549755813888 := by decide
theorem p2_40 : p2 40 = 1099511627776 := by decide
theorem p2_0 : p2 0 = 1 := by decide
theorem p2_1 : p2 1 = 2 := by decide
theorem p2_b {b : Int} (h : 1 ≤ b) (g : b ≤ 40) : 1 ≤ p2 (b - 1) ∧ p2 (b - 1) ≤ 549755813888 ∧ p2 b = 2 * p2 (b - 1) := by
  have h1 := p2_pos (b - 1)
  have h2 : p2 (b - 1) ≤ p2 39 := p2_mono (by omega)
  have h3 : p2 (b - 1 + 1) = p2 (b - 1) * p2 1 := p2_add (by omega) (by omega)
  rw [p2_39] at h2
  rw [p2_1, show b - 1 + 1 = b by omega] at h3
  omega
theorem R_bd {g : Bool} {b : Int} (h : 1 ≤ b) (k : b ≤ 40) : -549755813888 ≤ loR g b ∧ loR g b ≤ 0 ∧ 0 ≤ hiR g b ∧ hiR g b ≤ 1099511627775 := by
  have := p2_b h k
  cases g
  · rw [loR_f, hiR_f]; omega
  · rw [loR_t, hiR_t]; omega
def limPre : List DV → Prop := fun _ => True
def rlPost : List DV → List DV → Prop
  | [.n _, .n b, .b g, .n _, .n _], [.n x, .n y] => x = loR g b ∧ y = hiR g b
  | _, _ => False
def sigRl : Sig := ⟨[gV], [.one (ib (-549755813888) 0), .one (ib 0 1099511627775)], fun _ => True, rlPost⟩
def vlPost : List DV → List DV → Prop
  | [.n _, .n _, .b _, .n u, .n s, .n r], [.n x] => x = s + r * u
  | _, _ => False
def sigVl : Sig := ⟨[gV, .one (ib (-549755813888) 1099511627775)], [.one (ib (-1200000000000000000) 1200000000000000000)], fun _ => True, vlPost⟩
theorem vl_bd {r u : Int} (h : -549755813888 ≤ r) (h' : r ≤ 1099511627775) (g : 1 ≤ u) (g' : u ≤ 1000000) : -549755813888000000 ≤ r * u ∧ r * u ≤ 1099511627775000000 := by
  have a := Int.mul_nonneg (show 0 ≤ r + 549755813888 by omega) (show 0 ≤ u by omega)
  have b := Int.mul_nonneg (show 0 ≤ 1099511627775 - r by omega) (show 0 ≤ u by omega)
  rw [Int.add_mul] at a
  rw [Int.sub_mul] at b
  omega
def limPost : List DV → List DV → Prop
  | [.n a, .n b, .b g, .n u, .n s], [.n x, .n y, .n e] => (okF a b u s ∧ x = s + loR g b * u ∧ y = s + hiR g b * u ∧ e = 0) ∨ (¬okF a b u s ∧ x = 0 ∧ y = 0 ∧ e = 2)
  | _, _ => False
def lB : CX := ib (-1200000000000000000) 1200000000000000000
def sigLim : Sig := ⟨[fV], [.one lB, .one lB, .one (ib 0 18)], fun _ => True, limPost⟩
def rawN (v s u : Int) : Int := if v - s < 0 then -((2 * (s - v) + u) / (2 * u)) else (2 * (v - s) + u) / (2 * u)
def inV (b : Int) (g : Bool) (u s v : Int) : Prop := -2000000000000000000 ≤ v ∧ v ≤ 2000000000000000000 ∧ loR g b ≤ rawN v s u ∧ rawN v s u ≤ hiR g b
def rawPost : List DV → List DV → Prop
  | [.n _, .n b, .b g, .n u, .n s, .n v], [.n n, .b k] => (k = true ↔ inV b g u s v) ∧ (k = true → n = rawN v s u)
  | _, _ => False
def nB : CX := ib (-3000000000000000000) 3000000000000000000
def sigRaw : Sig := ⟨[gV, .one i64], [.one nB, .one .b], fun _ => True, rawPost⟩
/-- half up -/
theorem half_up {d u : Int} (hd : 0 ≤ d) (hu : 1 ≤ u) : (d + u / 2) / u = (2 * d + u) / (2 * u) := by
  have e1 : (2 * d + u) / (2 * u) = ((2 * d + u) / 2) / u := by rw [Int.ediv_ediv_of_nonneg (by omega)]
  have e2 : (2 * d + u) / 2 = d + u / 2 := by omega
  rw [e1, e2]
theorem div_le {d u : Int} (hd : 0 ≤ d) (hu : 1 ≤ u) : 0 ≤ d / u ∧ d / u ≤ d := by
  constructor
  · exact Int.ediv_nonneg hd (by omega)
  · exact Int.ediv_le_self _ hd
def formB (l : List Int) (a b : Int) : Prop := ∀ j : Nat, a ≤ (j : Int) → (j : Int) < a + b → l.getD j 0 = 0 ∨ l.getD j 0 = 1
def cL : CX := .l [.i .i64 (-9223372036854775808) 9223372036854775807] 200
def c40 : CX := .l [.i .i64 (-9223372036854775808) 9223372036854775807] 40
def isfPost : List DV → List DV → Prop
  | [.l l], [.b k] => (k = true ↔ ∀ j : Nat, j < l.length → l.getD j 0 = 0 ∨ l.getD j 0 = 1)
  | _, _ => False
def sigIsf : Sig := ⟨[.one c40], [.one .b], fun _ => True, isfPost⟩
def isfInv : List DV → List DV → Prop
  | [.l l], [.n i] => 0 ≤ i ∧ i ≤ (l.length : Int) ∧ ∀ j : Nat, (j : Int) < i → l.getD j 0 = 0 ∨ l.getD j 0 = 1
  | _, _ => False
def okL (l : List Int) (a b u s : Int) : Prop := okF a b u s ∧ a + b ≤ (l.length : Int) ∧ formB l a b
def plErr (l : List Int) (a b u s e : Int) : Prop := (¬okF a b u s ∧ e = 2) ∨ (okF a b u s ∧ (l.length : Int) < a + b ∧ e = 16) ∨ (okF a b u s ∧ a + b ≤ (l.length : Int) ∧ ¬formB l a b ∧ e = 3)
def plPost : List DV → List DV → Prop
  | [.l l, .n a, .n b, .b _, .n u, .n s], [.n e] => plErr l a b u s e ∨ (okL l a b u s ∧ e = 0)
  | _, _ => False
def sigPl : Sig := ⟨[.one cL, fV], [.one (ib 0 18)], fun _ => True, plPost⟩
def plInv : List DV → List DV → Prop
  | [.l l, .n a, .n b], [.n i] => 0 ≤ a ∧ a + b ≤ (l.length : Int) ∧ 1 ≤ b ∧ b ≤ 40 ∧ a ≤ i ∧ i ≤ a + b ∧ ∀ j : Nat, a ≤ (j : Int) → (j : Int) < i → l.getD j 0 = 0 ∨ l.getD j 0 = 1
  | _, _ => False
def putP (l : List Int) (a b n : Int) (m : List Int) : Prop := m.length = l.length ∧ ∀ j : Nat, j < l.length → m.getD j 0 = if a ≤ (j : Int) ∧ (j : Int) < a + b then n / p2 (a + b - 1 - j) % 2 else l.getD j 0
theorem putP_fun {l m m' : List Int} {a b n : Int} (h : putP l a b n m) (g : putP l a b n m') : m = m' :=
  eq_of_getD (d := 0) (by rw [h.1, g.1]) fun j hj => by rw [h.2 j (by rw [← h.1]; exact hj), g.2 j (by rw [← h.1]; exact hj)]
def putPost : List DV → List DV → Prop
  | [.l l, .n a, .n b, .b g, .n u, .n s, .n v], [.l m, .n e] => (plErr l a b u s e ∧ m = []) ∨ (okL l a b u s ∧ ¬inV b g u s v ∧ m = [] ∧ e = 5) ∨ (okL l a b u s ∧ inV b g u s v ∧ putP l a b (rawN v s u) m ∧ e = 0)
  | _, _ => False
def sigPut : Sig := ⟨[.one cL, fV, .one i64], [.one cL, .one (ib 0 18)], fun _ => True, putPost⟩
def numA (l : List Int) (a : Nat) : Nat → Int
  | 0 => 0
  | k + 1 => 2 * numA l a k + l.getD (a + k) 0
noncomputable def sgnN (g : Bool) (b n : Int) : Int := if n > hiR g b then n - p2 b else n
def getPost : List DV → List DV → Prop
  | [.l l, .n a, .n b, .b g, .n u, .n s], [.n x, .n e] => (plErr l a b u s e ∧ x = 0) ∨ (okL l a b u s ∧ x = s + sgnN g b (numA l a.toNat b.toNat) * u ∧ e = 0)
  | _, _ => False
def sigGet : Sig := ⟨[.one cL, fV], [.one lB, .one (ib 0 18)], fun _ => True, getPost⟩
def rdPre : List DV → Prop
  | [.l l, .n a, .n b, .b _, .n u, .n s] => okL l a b u s
  | _ => False
def rdPost : List DV → List DV → Prop
  | [.l l, .n a, .n b, .b g, .n u, .n s], [.n x] => x = s + sgnN g b (numA l a.toNat b.toNat) * u
  | _, _ => False
def sigRd : Sig := ⟨[.one cL, gV], [.one lB], rdPre, rdPost⟩
def clPost : List DV → List DV → Prop
  | [.l a], [.l b] => b = a
  | _, _ => False
def clPre : List DV → Prop
  | [.l a] => a.length ≠ 0
  | _ => False
def sigCl : Sig := ⟨[.one cL], [.one cL], clPre, clPost⟩
def alP : List DV → List DV → Prop
  | [.l a, .l b], [.b r] => (r = true ↔ a = b)
  | _, _ => False
def sigAl : Sig := ⟨[.one cL, .one cL], [.one .b], fun _ => True, alP⟩
def alInv : List DV → List DV → Prop
  | [.l a, .l b], [.n i] => 0 ≤ i ∧ a.length = b.length ∧ i ≤ (a.length : Int) ∧ ∀ j : Nat, (j : Int) < i → a.getD j 0 = b.getD j 0
  | _, _ => False
theorem al_of {a b : List Int} {i : Int} (h : a.length = b.length) (k : ¬i < (a.length : Int)) (g : ∀ j : Nat, (j : Int) < i → a.getD j 0 = b.getD j 0) : a = b :=
  eq_of_getD (d := 0) h fun j hj => g j (by omega)
def meaF : List DV → List DV → Nat
  | .l l :: _, .n i :: _ => ((l.length : Int) - i).toNat
  | _, _ => 0
def meaG : List DV → List DV → Nat
  | [.l _, .n a, .n b], .n i :: _ => (a + b - i).toNat
  | _, _ => 0
def numPre : List DV → Prop
  | [.l l] => 1 ≤ l.length
  | _ => False
def nuPost : List DV → List DV → Prop
  | [.l l], [.n r] => r = numA l 0 l.length
  | _, _ => False
def nsPost : List DV → List DV → Prop
  | [.l l], [.n r] => r = sgnN true l.length (numA l 0 l.length)
  | _, _ => False
def c01 : CX := .l [.i .i64 0 1] 40
def sigNu : Sig := ⟨[.one c01], [.one (.i .u64 0 1099511627775)], numPre, nuPost⟩
def sigNs : Sig := ⟨[.one c01], [.one (ib (-549755813888) 549755813887)], numPre, nsPost⟩
def nuInv : List DV → List DV → Prop
  | [.l l], [.n i, .n n] => 0 ≤ i ∧ i ≤ (l.length : Int) ∧ n = numA l 0 i.toNat
  | _, _ => False
def ngInv : List DV → List DV → Prop
  | [.l l, .n a, .n b], [.n i, .n n] => 0 ≤ a ∧ a + b ≤ (l.length : Int) ∧ 1 ≤ b ∧ b ≤ 40 ∧ formB l a b ∧ a ≤ i ∧ i ≤ a + b ∧ n = numA l a.toNat (i - a).toNat
  | _, _ => False
theorem numA_bd {l : List Int} {a : Nat} : ∀ {k : Nat}, (∀ j : Nat, a ≤ j → j < a + k → l.getD j 0 = 0 ∨ l.getD j 0 = 1) → 0 ≤ numA l a k ∧ numA l a k < p2 k
  | 0, _ => by show (0 : Int) ≤ 0 ∧ (0 : Int) < p2 0; rw [p2_0]; omega
  | k + 1, h => by
    have ih := numA_bd (l := l) (a := a) (k := k) fun j x y => h j x (by omega)
    have g := h (a + k) (by omega) (by omega)
    have e : p2 ((k : Int) + 1) = p2 k * p2 1 := p2_add (by omega) (by omega)
    rw [p2_1] at e
    rw [show ((k + 1 : Nat) : Int) = (k : Int) + 1 by omega]
    simp only [numA]; omega
theorem numA_congr {l m : List Int} {a c : Nat} : ∀ {k : Nat}, (∀ j : Nat, j < k → l.getD (a + j) 0 = m.getD (c + j) 0) → numA l a k = numA m c k
  | 0, _ => rfl
  | k + 1, h => by
    simp only [numA]; rw [numA_congr (fun j x => h j (by omega)), h k (by omega)]
def sigPuts : Sig := ⟨[.one (.l [.i .i64 (-9223372036854775808) 9223372036854775807] 9223372036854775807), fV, .one i64], [.one .b], fun _ => True, fun _ rs => rs = [.b true]⟩
end Go.Sp
namespace Go.Sp
open Go.Ev
theorem raw_neg {v s u n : Int} (h : v - s < 0) (hu : 1 ≤ u) (e : n = (s - v) + u / 2) : rawN v s u = -(n / u) ∧ 0 ≤ n / u ∧ n / u ≤ n := by
  unfold rawN; rw [if_pos h, ← half_up (by omega) hu, e]
  exact ⟨rfl, div_le (by omega) hu⟩
theorem raw_pos {v s u n : Int} (h : ¬v - s < 0) (hu : 1 ≤ u) (e : n = (v - s) + u / 2) : rawN v s u = n / u ∧ 0 ≤ n / u ∧ n / u ≤ n := by
  unfold rawN; rw [if_neg h, ← half_up (by omega) hu, e]
  exact ⟨rfl, div_le (by omega) hu⟩
theorem raw_neg2 {v s u n : Int} (h : v - s < 0) (hu : 1 ≤ u) (e : n = 2 * (s - v) + u) : rawN v s u = -(n / (2 * u)) ∧ 0 ≤ n / (2 * u) ∧ n / (2 * u) ≤ (s - v) + u := by
  have k := half_up (d := s - v) (by omega) hu
  have g := div_le (d := s - v + u / 2) (by omega) hu
  unfold rawN; rw [if_pos h, e]
  exact ⟨rfl, by omega⟩
theorem raw_pos2 {v s u n : Int} (h : ¬v - s < 0) (hu : 1 ≤ u) (e : n = 2 * (v - s) + u) : rawN v s u = n / (2 * u) ∧ 0 ≤ n / (2 * u) ∧ n / (2 * u) ≤ (v - s) + u := by
  have k := half_up (d := v - s) (by omega) hu
  have g := div_le (d := v - s + u / 2) (by omega) hu
  unfold rawN; rw [if_neg h, e]
  exact ⟨rfl, by omega⟩
theorem raw_in {g k : Bool} {b u s v n : Int} (e : n = rawN v s u) (h1 : -2000000000000000000 ≤ v) (h2 : v ≤ 2000000000000000000) (hk : k = true ↔ loR g b ≤ n ∧ n ≤ hiR g b) : (k = true ↔ inV b g u s v) ∧ (k = true → n = rawN v s u) := by
  refine ⟨?_, fun _ => e⟩
  rw [hk, e]; unfold inV
  exact ⟨fun ⟨x, y⟩ => ⟨h1, h2, x, y⟩, fun ⟨_, _, x, y⟩ => ⟨x, y⟩⟩
noncomputable section
def isfL : LSpec := ⟨[0, 1, 6, 7], [(.tmp 8, ib 0 40)], [(.tmp 0, c40)], isfInv, meaF, 40⟩
def alL : LSpec := ⟨[0, 1], [(.tmp 5, ib 0 200)], [(.tmp 0, cL), (.tmp 1, cL)], alInv, meaF, 20⟩
def nuL : LSpec := ⟨[0, 7, 8], [(.tmp 9, ib 0 40), (.tmp 3, .i .u64 0 1099511627775)], [(.tmp 7, c01)], nuInv, meaF, 40⟩
def nsL : LSpec := ⟨[0, 7, 8], [(.tmp 9, ib 0 40), (.tmp 3, ib 0 1099511627775)], [(.tmp 7, c01)], nuInv, meaF, 40⟩
def plL : LSpec := ⟨[0, 1, 3], [(.tmp 6, ib 0 4000)], [(.tmp 0, cL), (.cell (key 2) 0, i64), (.cell (key 2) 1, i64)], plInv, meaG, 100⟩
def ngL : LSpec := ⟨[0, 1, 3], [(.tmp 8, ib 0 4000), (.tmp 7, ib 0 1099511627775)], [(.tmp 0, cL), (.cell (key 2) 0, i64), (.cell (key 2) 1, i64)], ngInv, meaG, 100⟩
end
end Go.Sp
