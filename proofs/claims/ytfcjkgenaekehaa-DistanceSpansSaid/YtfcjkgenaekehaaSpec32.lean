import Derived.Test.YtfcjkgenaekehaaSpec02b
namespace Go.Sp
open Go.Ev
noncomputable section
def nearP (x y z : Int) : Prop := -100000000000 ≤ x ∧ x ≤ 100000000000 ∧ -100000000000 ≤ y ∧ y ≤ 100000000000 ∧ -100000000000 ≤ z ∧ z ≤ 100000000000
def pt3 : VK := .agg [i64, i64, i64]
def dsq (a b c x y z : Int) : Int := (x - a) * (x - a) + (y - b) * (y - b) + (z - c) * (z - c)
def rangePost : List DV → List DV → Prop
  | [.n a, .n b, .n c, .n x, .n y, .n z], [.n r, .n e] => (¬(nearP a b c ∧ nearP x y z) ∧ r = 0 ∧ e = 2) ∨ ((nearP a b c ∧ nearP x y z) ∧ e = 0 ∧ isq (dsq a b c x y z) r)
  | _, _ => False
def sigRange : Sig := ⟨[pt3, pt3], [.one (ib 0 9223372036854775807), .one (ib 0 18)], fun _ => True, rangePost⟩
def lnearPost : List DV → List DV → Prop
  | [.n _, .n _, .n _], [.n _, .n _, .n _] => True
  | _, _ => False
def c11 : CX := ib (-100000000000) 100000000000
def sigLnear : Sig := ⟨[.one i64, .one i64, .one i64], [.agg [c11, c11, c11]], fun _ => True, lnearPost⟩
def sigP3 : Sig := ⟨[pt3, pt3, pt3], [.one .b], fun _ => True, fun _ rs => rs = [.b true]⟩
def sigP3h : Sig := ⟨[pt3, pt3, pt3, .one i64], [.one .b], fun _ => True, fun _ rs => rs = [.b true]⟩
def norm12 : VK := .agg [ib (-1000000000000) 1000000000000, ib (-1000000000000) 1000000000000, ib (-1000000000000) 1000000000000]
def sigNorm2 : Sig := ⟨[norm12], [.agg [i64, .i .u64 0 18446744073709551615], .one (ib 0 18)], fun _ => True, normPost⟩
theorem range_val {a b c x y z r e : Int} (h : sigRange.post [.n a, .n b, .n c, .n x, .n y, .n z] [.n r, .n e]) (g : nearP a b c) (k : nearP x y z) : e = 0 ∧ isq (dsq a b c x y z) r := by
  rcases h with h | h
  · exact absurd ⟨g, k⟩ h.1
  · exact h.2
theorem sqn (a : Int) : 0 ≤ a * a := by
  rcases Int.le_total 0 a with h | h
  · exact Int.mul_nonneg h h
  · have := Int.mul_nonneg (show 0 ≤ -a by omega) (show 0 ≤ -a by omega); rwa [Int.neg_mul_neg] at this
theorem cs3 (x y z u v w : Int) : (x * u + y * v + z * w) * (x * u + y * v + z * w) ≤ (x * x + y * y + z * z) * (u * u + v * v + w * w) := by
  have e : (x * x + y * y + z * z) * (u * u + v * v + w * w) - (x * u + y * v + z * w) * (x * u + y * v + z * w) = (x * v - y * u) * (x * v - y * u) + (x * w - z * u) * (x * w - z * u) + (y * w - z * v) * (y * w - z * v) := by grind
  have := sqn (x * v - y * u)
  have := sqn (x * w - z * u)
  have := sqn (y * w - z * v)
  omega
theorem tri_lt {A B C D s t : Int} (hA : A = B + C + 2 * D) (hD : D * D ≤ B * C) (b0 : 0 ≤ B) (c0 : 0 ≤ C) (hB : B < s * s) (hC : C ≤ t * t) (s0 : 0 ≤ s) (t0 : 0 ≤ t) : A < (s + t) * (s + t) := by
  have m := Int.mul_le_mul (Int.le_of_lt hB) hC c0 (sqn s)
  have st := Int.mul_nonneg s0 t0
  have k : D ≤ s * t := by
    rcases Int.lt_or_le (s * t) D with c | c
    · have g := Int.mul_le_mul (show s * t + 1 ≤ D by omega) (show s * t + 1 ≤ D by omega) (by omega) (by omega)
      have e1 : (s * t + 1) * (s * t + 1) = s * s * (t * t) + 2 * (s * t) + 1 := by grind
      omega
    · exact c
  have e2 : (s + t) * (s + t) = s * s + t * t + 2 * (s * t) := by grind
  omega
theorem lt_of_sq {a b : Int} (hb : 0 ≤ b) (h : a * a < b * b) : a < b := by
  rcases Int.lt_or_le a b with c | c
  · exact c
  · have := Int.mul_le_mul c c hb (by omega); omega
theorem dsq_sym (a b c x y z : Int) : dsq x y z a b c = dsq a b c x y z := by unfold dsq; grind
theorem dsq_nn (a b c x y z : Int) : 0 ≤ dsq a b c x y z := by unfold dsq; have := sqn (x - a); have := sqn (y - b); have := sqn (z - c); omega
/-- p, q and s between -/
theorem tri {a b c x y z u v w pq ps sq : Int} (h1 : isq (dsq a b c x y z) pq) (h2 : isq (dsq a b c u v w) ps) (h3 : isq (dsq u v w x y z) sq) : pq ≤ ps + sq + 1 := by
  have t := tri_lt (A := dsq a b c x y z) (B := dsq a b c u v w) (C := dsq u v w x y z) (D := (u - a) * (x - u) + (v - b) * (y - v) + (w - c) * (z - w)) (s := ps + 1) (t := sq + 1) (by unfold dsq; grind) (by unfold dsq; exact cs3 _ _ _ _ _ _) (dsq_nn ..) (dsq_nn ..) h2.2.2 (Int.le_of_lt h3.2.2) (by have := h2.1; omega) (by have := h3.1; omega)
  have := lt_of_sq (a := pq) (b := ps + 1 + (sq + 1)) (by have := h2.1; have := h3.1; omega) (by have := h1.2.1; omega)
  omega
theorem range_max {a b c x y z r : Int} (g : nearP a b c) (k : nearP x y z) (h : isq (dsq a b c x y z) r) : r ≤ 400000000000 ∧ dsq a b c x y z ≤ 120000000000000000000000 := by
  obtain ⟨g1, g2, g3, g4, g5, g6⟩ := g
  obtain ⟨k1, k2, k3, k4, k5, k6⟩ := k
  have s1 := sq_abs (a := x - a) (A := 200000000000) (by omega) (by omega)
  have s2 := sq_abs (a := y - b) (A := 200000000000) (by omega) (by omega)
  have s3 := sq_abs (a := z - c) (A := 200000000000) (by omega) (by omega)
  have d : dsq a b c x y z ≤ 120000000000000000000000 := by unfold dsq; omega
  refine ⟨?_, d⟩
  have := lt_of_sq (a := r) (b := 400000000001) (by omega) (by have := h.2.1; omega)
  omega
theorem dsq_step1 (a b c x y z u v w : Int) : dsq (a + u) (b + v) (c + w) x y z = dsq a b c x y z + (u * u + v * v + w * w) + 2 * ((x - a) * -u + (y - b) * -v + (z - c) * -w) := by unfold dsq; grind
theorem dsq_step2 (a b c x y z u v w : Int) : dsq a b c x y z = dsq (a + u) (b + v) (c + w) x y z + (u * u + v * v + w * w) + 2 * ((x - (a + u)) * u + (y - (b + v)) * v + (z - (c + w)) * w) := by unfold dsq; grind
/-- a step of at most h -/
theorem span {a b c x y z u v w r R h : Int} (h1 : isq (dsq a b c x y z) r) (h2 : isq (dsq (a + u) (b + v) (c + w) x y z) R) (h0 : 0 ≤ h) (hN : u * u + v * v + w * w ≤ h * h) : r - h ≤ R ∧ R ≤ r + h := by
  have n0 : 0 ≤ u * u + v * v + w * w := by have := sqn u; have := sqn v; have := sqn w; omega
  have r0 := h1.1
  have R0 := h2.1
  have c1 := cs3 (x - a) (y - b) (z - c) (-u) (-v) (-w)
  have c2 := cs3 (x - (a + u)) (y - (b + v)) (z - (c + w)) u v w
  rw [Int.neg_mul_neg, Int.neg_mul_neg, Int.neg_mul_neg] at c1
  have t1 := tri_lt (A := dsq (a + u) (b + v) (c + w) x y z) (B := dsq a b c x y z) (C := u * u + v * v + w * w) (s := r + 1) (t := h) (dsq_step1 a b c x y z u v w) (by unfold dsq; exact c1) (dsq_nn ..) n0 h1.2.2 hN (by omega) h0
  have t2 := tri_lt (A := dsq a b c x y z) (B := dsq (a + u) (b + v) (c + w) x y z) (C := u * u + v * v + w * w) (s := R + 1) (t := h) (dsq_step2 a b c x y z u v w) (by unfold dsq; exact c2) (dsq_nn ..) n0 h2.2.2 hN (by omega) h0
  have a1 := lt_of_sq (a := R) (b := r + 1 + h) (by omega) (by have := h2.2.1; omega)
  have a2 := lt_of_sq (a := r) (b := R + 1 + h) (by omega) (by have := h1.2.1; omega)
  omega
end
end Go.Sp
