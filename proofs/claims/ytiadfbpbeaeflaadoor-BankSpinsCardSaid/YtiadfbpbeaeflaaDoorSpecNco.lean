import Derived.Test.YtiadfbpbeaeflaaDoorSpecAng2
import Derived.Test.YtiadfbpbeaeflaaDoorSpecGl
namespace Go.Sp
open Go.Ev
noncomputable section
def u32 : CX := .i .u32 0 4294967295
def adv (a b n : Int) : Int := (a + b * n) % 4294967296
def advPost : List DV → List DV → Prop
  | [.n a, .n b, .n n], [.n r] => r = adv a b n
  | _, _ => False
def sigAdv : Sig := ⟨[.one u32, .one u32, .one i64], [.one u32], fun _ => True, advPost⟩
def sigPhase : Sig := ⟨[.agg [u32, u32], .one i64], [.one u32], fun _ => True, advPost⟩
def laterPost : List DV → List DV → Prop
  | [.n a, .n b, .n n], [.n r, .n s] => r = adv a b n ∧ s = b
  | _, _ => False
def sigLater : Sig := ⟨[.agg [u32, u32], .one i64], [.agg [u32, u32]], fun _ => True, laterPost⟩
def del (a b : Int) : Int := (a - b + 2147483648) % 4294967296 - 2147483648
def delPost : List DV → List DV → Prop
  | [.n a, .n b], [.n r] => r = del a b
  | _, _ => False
def i32c : CX := ib (-2147483648) 2147483647
def sigDel : Sig := ⟨[.one u32, .one u32], [.one i32c], fun _ => True, delPost⟩
def apartPost : List DV → List DV → Prop
  | [.n a, .n b, .n c, .n d, .n n], [.n r] => r = del (adv a b n) (adv c d n)
  | _, _ => False
def sigApart : Sig := ⟨[.agg [u32, u32], .agg [u32, u32], .one i64], [.one i32c], fun _ => True, apartPost⟩
def wC (p : Int) : Int := cosZ (p / 67108864)
def wS (p : Int) : Int := sinZ (p / 67108864)
def smpW (n : Nat) : VK := .one (.l [.i .i64 (-127) 127, .i .i64 (-127) 127] n)
def wavPost : List DV → List DV → Prop
  | [.n a, .n b, .n m], [.l x, .l y, .n e] => ((m < 0 ∨ 100000 < m) ∧ x = [] ∧ y = [] ∧ e = 2) ∨ (0 ≤ m ∧ m ≤ 100000 ∧ e = 0 ∧ (x.length : Int) = m ∧ ∀ j : Nat, (j : Int) < m → x.getD j 0 = wC (adv a b j) ∧ y.getD j 0 = wS (adv a b j))
  | _, _ => False
def sigWave : Sig := ⟨[.agg [u32, u32], .one i64], [smpW 100000, .one (ib 0 18)], fun _ => True, wavPost⟩
def smpI (n : Nat) : VK := .one (.l [.i .i64 (-9223372036854775808) 9223372036854775807, .i .i64 (-9223372036854775808) 9223372036854775807] n)
def wipPost : List DV → List DV → Prop
  | [.n x, .n y, .n p], [.n u, .n v, .n e] => (¬sml x y ∧ u = 0 ∧ v = 0 ∧ e = 2) ∨ (sml x y ∧ e = 0 ∧ u = x * wC p + y * wS p ∧ v = y * wC p - x * wS p)
  | _, _ => False
def mxW : VK := .agg [ib (-17873661021126656) 17873661021126656, ib (-17873661021126656) 17873661021126656]
def sigWipe : Sig := ⟨[smpV, .one u32], [mxW, .one (ib 0 18)], fun _ => True, wipPost⟩
def smlAll (s t : List Int) : Prop := ∀ j : Nat, j < s.length → sml (s.getD j 0) (t.getD j 0)
def mixPost : List DV → List DV → Prop
  | [.l s, .l t, .n a, .n b], [.l x, .l y, .n e] => (1048576 < s.length ∧ x = [] ∧ y = [] ∧ e = 4) ∨ (s.length ≤ 1048576 ∧ ¬smlAll s t ∧ x = [] ∧ y = [] ∧ e = 2) ∨
      (s.length ≤ 1048576 ∧ smlAll s t ∧ e = 0 ∧ x.length = s.length ∧ ∀ j : Nat, j < s.length → x.getD j 0 = s.getD j 0 * wC (adv a b j) + t.getD j 0 * wS (adv a b j) ∧ y.getD j 0 = t.getD j 0 * wC (adv a b j) - s.getD j 0 * wS (adv a b j))
  | _, _ => False
def mxL (n : Nat) : VK := .one (.l [.i .i64 (-17873661021126656) 17873661021126656, .i .i64 (-17873661021126656) 17873661021126656] n)
def sigMix : Sig := ⟨[smpI 400, .agg [u32, u32]], [mxL 400, .one (ib 0 18)], fun _ => True, mixPost⟩
theorem cs_bd_ : ∀ k : Fin 64, -127 ≤ cosZ k.val ∧ cosZ k.val ≤ 127 ∧ -127 ≤ sinZ k.val ∧ sinZ k.val ≤ 127 := by decide +kernel
theorem cs_bd (k : Int) : -127 ≤ cosZ k ∧ cosZ k ≤ 127 ∧ -127 ≤ sinZ k ∧ sinZ k ≤ 127 := by
  have h1 := Int.emod_nonneg k (show (64 : Int) ≠ 0 by decide)
  have h2 := Int.emod_lt_of_pos k (show (0 : Int) < 64 by decide)
  have h := cs_bd_ ⟨(k % 64).toNat, by omega⟩
  have e1 := cosZ_mod k 0
  have e2 := sinZ_mod k 0
  simp only [Int.add_zero] at e1 e2
  simp only [Int.toNat_of_nonneg h1, e1, e2] at h
  exact h
theorem w_bd (p : Int) : -127 ≤ wC p ∧ wC p ≤ 127 ∧ -127 ≤ wS p ∧ wS p ≤ 127 := cs_bd _
theorem adv_step {a b n d : Int} (h : d = (adv a b 1 - adv a b 0) % 4294967296) : (adv a b n + d) % 4294967296 = adv a b (n + 1) := by
  subst h
  unfold adv
  have e : b * (n + 1) = b * n + b := by grind
  rw [e, Int.mul_one, Int.mul_zero]
  generalize b * n = c
  omega
theorem adv_in (a b n : Int) : 0 ≤ adv a b n ∧ adv a b n < 4294967296 := by unfold adv; omega
theorem all_getD {l : List Int} {lo hi : Int} (h : ∀ j : Nat, j < l.length → lo ≤ l.getD j 0 ∧ l.getD j 0 ≤ hi) : ∀ y ∈ l, lo ≤ y ∧ y ≤ hi := fun y hy => by
  obtain ⟨j, hj, e⟩ := List.getElem_of_mem hy
  have := h j hj
  rw [List.getD_eq_getElem?_getD, List.getElem?_eq_getElem hj, Option.getD_some, e] at this
  exact this
def wAt (a b : Int) (x y : List Int) (i : Int) : Prop := ∀ j : Nat, (j : Int) < i → x.getD j 0 = wC (adv a b j) ∧ y.getD j 0 = wS (adv a b j)
def wavInv : List DV → List DV → Prop
  | [.n a, .n b, .n m], [.n i, .n p, .l x, .l y] => 0 ≤ i ∧ i ≤ m ∧ p = adv a b i ∧ (x.length : Int) = m ∧ wAt a b x y i
  | _, _ => False
def mea3 : List DV → List DV → Nat
  | [.n _, .n _, .n m], .n i :: _ => (m - i).toNat
  | _, _ => 0
def wavL : LSpec := ⟨[0, 4, 6, 16], [(.tmp 17, ib 0 100000), (.cell (key 11) 0, u32), (.blk (key 2), .l [.i .i64 (-9223372036854775808) 9223372036854775807, .i .i64 (-9223372036854775808) 9223372036854775807] 1000000)],
  [(.cell (key 1) 0, u32), (.cell (key 1) 1, u32), (.tmp 16, i64)], wavInv, mea3, 60⟩
def wavRInv : List DV → List DV → Prop
  | [.n a, .n b, .n m], [.n i, .l x, .l y] => 0 ≤ i ∧ i ≤ m ∧ (x.length : Int) = i ∧ wAt a b x y i
  | _, _ => False
def wavRL : LSpec := ⟨[1, 2], [(.tmp 7, ib 0 100000), (.tmp 6, .l [.i .i64 (-127) 127, .i .i64 (-127) 127] 100000)], [(.cell (key 1) 0, u32), (.cell (key 1) 1, u32), (.tmp 1, i64)], wavRInv, mea3, 60⟩
theorem wAt_set {a b u v : Int} {x y : List Int} {i : Int} (h0 : 0 ≤ i) (hx : i < (x.length : Int)) (hl : y.length = x.length) (h : wAt a b x y i) (hu : u = wC (adv a b i)) (hv : v = wS (adv a b i)) : wAt a b (x.set i.toNat u) (y.set i.toNat v) (i + 1) := fun j hj => by
  rw [getD_set, getD_set]
  by_cases e : i.toNat = j
  · rw [if_pos ⟨e, by omega⟩, if_pos ⟨e, by omega⟩, hu, hv, show (j : Int) = i by omega]; exact ⟨rfl, rfl⟩
  · rw [if_neg (fun g => e g.1), if_neg (fun g => e g.1)]; exact h j (by omega)
theorem wAt_snoc {a b u v : Int} {x y : List Int} {i : Int} (hx : (x.length : Int) = i) (hl : y.length = x.length) (h : wAt a b x y i) (hu : u = wC (adv a b i)) (hv : v = wS (adv a b i)) : wAt a b (x ++ [u]) (y ++ [v]) (i + 1) := fun j hj => by
  rcases Nat.lt_or_ge j x.length with c | c
  · rw [getD_app1 c, getD_app1 (by omega)]; exact h j (by omega)
  · have e : j = x.length := by omega
    subst e
    rw [getD_last, show x.length = y.length by omega, getD_last, hu, hv, show ((y.length : Nat) : Int) = i by omega]; exact ⟨rfl, rfl⟩
theorem adv_calc (a b n : Int) : (a + b * (n % 4294967296) % 4294967296) % 4294967296 = adv a b n := by
  unfold adv
  rw [Int.mul_emod, Int.emod_emod_of_dvd _ (Int.dvd_refl _), ← Int.mul_emod]
  omega
theorem adv_calcR (a b n : Int) : (a + (n % 4294967296) * b % 4294967296) % 4294967296 = adv a b n := by
  rw [Int.mul_comm, adv_calc]
def fl2 : CX := .l [.i .i64 (-9223372036854775808) 9223372036854775807, .i .i64 (-9223372036854775808) 9223372036854775807] 9223372036854775807
def ml2 : CX := .l [.i .i64 (-17873661021126656) 17873661021126656, .i .i64 (-17873661021126656) 17873661021126656] 400
def mAt (s t : List Int) (a b : Int) (x y : List Int) (i : Int) : Prop := ∀ j : Nat, (j : Int) < i → sml (s.getD j 0) (t.getD j 0) ∧ x.getD j 0 = s.getD j 0 * wC (adv a b j) + t.getD j 0 * wS (adv a b j) ∧ y.getD j 0 = t.getD j 0 * wC (adv a b j) - s.getD j 0 * wS (adv a b j)
def mixRInv : List DV → List DV → Prop
  | [.l s, .l t, .n a, .n b], [.n i, .l x, .l y] => 0 ≤ i ∧ i ≤ (s.length : Int) ∧ (x.length : Int) = i ∧ mAt s t a b x y i
  | _, _ => False
def meaL : List DV → List DV → Nat
  | .l s :: _, .n i :: _ => ((s.length : Int) - i).toNat
  | _, _ => 0
def mixRL : LSpec := ⟨[0, 3], [(.tmp 7, ib 0 400), (.tmp 6, ml2)], [(.tmp 0, fl2), (.cell (key 2) 0, u32), (.cell (key 2) 1, u32)], mixRInv, meaL, 60⟩
def chkInv : List DV → List DV → Prop
  | [.l s, .l t], [.n i] => 0 ≤ i ∧ i ≤ (s.length : Int) ∧ ∀ j : Nat, (j : Int) < i → sml (s.getD j 0) (t.getD j 0)
  | _, _ => False
def chkL : LSpec := ⟨[0, 3, 13, 14], [(.tmp 15, ib 0 400)], [(.tmp 0, fl2)], chkInv, meaL, 60⟩
theorem mAt_snoc {s t x y : List Int} {a b i u v : Int} (hx : (x.length : Int) = i) (hl : y.length = x.length) (h : mAt s t a b x y i) (hs : sml (s.getD i.toNat 0) (t.getD i.toNat 0)) (hu : u = s.getD i.toNat 0 * wC (adv a b i) + t.getD i.toNat 0 * wS (adv a b i)) (hv : v = t.getD i.toNat 0 * wC (adv a b i) - s.getD i.toNat 0 * wS (adv a b i)) : mAt s t a b (x ++ [u]) (y ++ [v]) (i + 1) := fun j hj => by
  rcases Nat.lt_or_ge j x.length with c | c
  · rw [getD_app1 c, getD_app1 (by omega)]; exact h j (by omega)
  · have e : j = x.length := by omega
    have e2 : i.toNat = j := by omega
    have e3 : i = (j : Int) := by omega
    rw [e2, e3] at hu hv
    rw [e2] at hs
    subst e
    rw [getD_last, show (y ++ [v]).getD x.length 0 = v by rw [← hl, getD_last]]
    exact ⟨hs, hu, hv⟩
theorem mAt_set {s t x y : List Int} {a b i u v : Int} (h0 : 0 ≤ i) (hx : i < (x.length : Int)) (hl : y.length = x.length) (h : mAt s t a b x y i) (hs : sml (s.getD i.toNat 0) (t.getD i.toNat 0)) (hu : u = s.getD i.toNat 0 * wC (adv a b i) + t.getD i.toNat 0 * wS (adv a b i)) (hv : v = t.getD i.toNat 0 * wC (adv a b i) - s.getD i.toNat 0 * wS (adv a b i)) : mAt s t a b (x.set i.toNat u) (y.set i.toNat v) (i + 1) := fun j hj => by
  rw [getD_set, getD_set]
  by_cases e : i.toNat = j
  · have e3 : i = (j : Int) := by omega
    rw [if_pos ⟨e, by omega⟩, if_pos ⟨e, by omega⟩]
    rw [e] at hs
    rw [e, e3] at hu hv
    exact ⟨hs, hu, hv⟩
  · rw [if_neg (fun g => e g.1), if_neg (fun g => e g.1)]; exact h j (by omega)
theorem mx_bd {x y p : Int} (h : sml x y) : -17873661021126656 ≤ x * wC p + y * wS p ∧ x * wC p + y * wS p ≤ 17873661021126656 ∧ -17873661021126656 ≤ y * wC p - x * wS p ∧ y * wC p - x * wS p ≤ 17873661021126656 := by
  obtain ⟨a1, a2, a3, a4⟩ := h
  have c := w_bd p
  have p1 := mul_abs (a := x) (b := wC p) (A := 70368744177664) (B := 127) (by omega) (by omega) (by omega) (by omega)
  have p2 := mul_abs (a := y) (b := wS p) (A := 70368744177664) (B := 127) (by omega) (by omega) (by omega) (by omega)
  have p3 := mul_abs (a := y) (b := wC p) (A := 70368744177664) (B := 127) (by omega) (by omega) (by omega) (by omega)
  have p4 := mul_abs (a := x) (b := wS p) (A := 70368744177664) (B := 127) (by omega) (by omega) (by omega) (by omega)
  omega
/-- a wave that is mixed: keys of the loop's state -/
def mixInv : List DV → List DV → Prop
  | [.l s, .l t, .n a, .n b], [.n i, .n p, .l x, .l y] => 0 ≤ i ∧ i ≤ (s.length : Int) ∧ p = adv a b i ∧ x.length = s.length ∧ mAt s t a b x y i
  | _, _ => False
def mixL : LSpec := ⟨[0, 4, 6, 16], [(.tmp 17, ib 0 400), (.cell (key 74) 0, u32), (.blk (key 65), .l [.i .i64 (-9223372036854775808) 9223372036854775807, .i .i64 (-9223372036854775808) 9223372036854775807] 400)],
  [(.cell (key 63) 0, fl2), (.cell (key 2) 0, u32), (.cell (key 2) 1, u32)], mixInv, meaL, 60⟩
theorem chk_step {s t : List Int} {i : Int} (h : ∀ j : Nat, (j : Int) < i → sml (s.getD j 0) (t.getD j 0)) (g : sml (s.getD i.toNat 0) (t.getD i.toNat 0)) : ∀ j : Nat, (j : Int) < i + 1 → sml (s.getD j 0) (t.getD j 0) := fun j hj => by
  by_cases e : (j : Int) < i
  · exact h j e
  · rw [show j = i.toNat by omega]; exact g
theorem wip_bad {x y p u v e : Int} (h : sigWipe.post [.n x, .n y, .n p] [.n u, .n v, .n e]) (g : e ≠ 0) : ¬sml x y ∧ e = 2 := by
  rcases h with h | h
  · exact ⟨h.1, h.2.2.2⟩
  · exact absurd h.2.1 g
theorem wip_good {x y p u v e : Int} (h : sigWipe.post [.n x, .n y, .n p] [.n u, .n v, .n e]) (g : ¬e ≠ 0) : sml x y ∧ u = x * wC p + y * wS p ∧ v = y * wC p - x * wS p := by
  rcases h with h | h
  · exact absurd (by rw [h.2.2.2]; decide) g
  · exact ⟨h.1, h.2.2⟩
theorem wip_sml {x y p u v e : Int} (h : sigWipe.post [.n x, .n y, .n p] [.n u, .n v, .n e]) (g : sml x y) : u = x * wC p + y * wS p ∧ v = y * wC p - x * wS p := by
  rcases h with h | h
  · exact absurd g h.1
  · exact h.2.2
def smpL (mx : Nat) : CX := .l [.i .i64 (-9223372036854775808) 9223372036854775807, .i .i64 (-9223372036854775808) 9223372036854775807] mx
def mea0 : List DV → List DV → Nat
  | .l a :: _, .n i :: _ => ((a.length : Int) - i).toNat
  | _, _ => 0
theorem equ_of {a c : List Int} {i : Int} (h : a.length = c.length) (g : ¬ i < (a.length : Int)) (k : ∀ j : Nat, (j : Int) < i → a.getD j 0 = c.getD j 0) : a = c :=
  eq_of_getD (d := 0) h fun j hj => k j (by omega)
/-- restored levels -/
theorem two_fun {s : List Int} {x y x' y' : List Int} {f g : Nat → Int} (hl : y.length = x.length) (hl' : y'.length = x'.length) (a : x.length = s.length) (a' : x'.length = s.length) (p : ∀ j : Nat, j < s.length → x.getD j 0 = f j ∧ y.getD j 0 = g j) (p' : ∀ j : Nat, j < s.length → x'.getD j 0 = f j ∧ y'.getD j 0 = g j) : x = x' ∧ y = y' :=
  ⟨eq_of_getD (d := 0) (by omega) fun j hj => by rw [(p j (by omega)).1, (p' j (by omega)).1], eq_of_getD (d := 0) (by omega) fun j hj => by rw [(p j (by omega)).2, (p' j (by omega)).2]⟩
def samP : List DV → List DV → Prop
  | [.l a, .l b, .l c, .l d], [.b r] => (r = true ↔ a = c ∧ b = d)
  | _, _ => False
def sigSamP : Sig := ⟨[.one (smpL 9223372036854775807), .one (smpL 9223372036854775807)], [.one .b], fun _ => True, samP⟩
def samPInv : List DV → List DV → Prop
  | [.l a, .l b, .l c, .l d], [.n i] => 0 ≤ i ∧ i ≤ (a.length : Int) ∧ a.length = c.length ∧ ∀ j : Nat, (j : Int) < i → a.getD j 0 = c.getD j 0 ∧ b.getD j 0 = d.getD j 0
  | _, _ => False
def samPL : LSpec := ⟨[0, 1], [(.tmp 5, ib 0 9223372036854775807)], [(.tmp 0, smpL 9223372036854775807), (.tmp 1, smpL 9223372036854775807)], samPInv, mea0, 10⟩
theorem wav_fun {a b m e e' : Int} {x y x' y' : List Int} (hl : y.length = x.length) (hl' : y'.length = x'.length) (h : sigWave.post [.n a, .n b, .n m] [.l x, .l y, .n e]) (h' : sigWave.post [.n a, .n b, .n m] [.l x', .l y', .n e']) : x = x' ∧ y = y' ∧ e = e' := by
  rcases h with ⟨h1, h2, h3, h4⟩ | ⟨h1, h2, h3, h4, h5⟩ <;> rcases h' with ⟨g1, g2, g3, g4⟩ | ⟨g1, g2, g3, g4, g5⟩
  · exact ⟨h2.trans g2.symm, h3.trans g3.symm, h4.trans g4.symm⟩
  · omega
  · omega
  · refine ⟨eq_of_getD (d := 0) (by omega) fun j hj => ?_, eq_of_getD (d := 0) (by omega) fun j hj => ?_, h3.trans g3.symm⟩
    · rw [(h5 j (by omega)).1, (g5 j (by omega)).1]
    · rw [(h5 j (by omega)).2, (g5 j (by omega)).2]
theorem mix_fun {a b e e' : Int} {s t x y x' y' : List Int} (hl : y.length = x.length) (hl' : y'.length = x'.length) (h : sigMix.post [.l s, .l t, .n a, .n b] [.l x, .l y, .n e]) (h' : sigMix.post [.l s, .l t, .n a, .n b] [.l x', .l y', .n e']) : x = x' ∧ y = y' ∧ e = e' := by
  rcases h with ⟨h1, h2, h3, h4⟩ | ⟨h0, h1, h2, h3, h4⟩ | ⟨h0, h1, h3, h4, h5⟩ <;> rcases h' with ⟨g1, g2, g3, g4⟩ | ⟨g0, g1, g2, g3, g4⟩ | ⟨g0, g1, g3, g4, g5⟩
  · exact ⟨h2.trans g2.symm, h3.trans g3.symm, h4.trans g4.symm⟩
  · omega
  · omega
  · omega
  · exact ⟨h2.trans g2.symm, h3.trans g3.symm, h4.trans g4.symm⟩
  · exact absurd g1 h1
  · omega
  · exact absurd h1 g1
  · refine ⟨eq_of_getD (d := 0) (by omega) fun j hj => ?_, eq_of_getD (d := 0) (by omega) fun j hj => ?_, h3.trans g3.symm⟩
    · rw [(h5 j (by omega)).1, (g5 j (by omega)).1]
    · rw [(h5 j (by omega)).2, (g5 j (by omega)).2]
def sigNW : Sig := ⟨[.agg [u32, u32], .agg [u32, u32], .one i64, .one i64, smpI 9223372036854775807], [.one .b], fun _ => True, fun _ rs => rs = [.b true]⟩
def sigPick : Sig := ⟨[.one i64, .one (.i .i64 1 4503599627370496)], [.one (.i .i64 0 4503599627370496)], fun _ => True, pickPost⟩
def sigNL : Sig := ⟨[.agg [u32, u32], .one i64, .one i64, .one i64], [.one .b], fun _ => True, fun _ rs => rs = [.b true]⟩
def runInv : List DV → List DV → Prop
  | .l a :: _, [.n i] => 0 ≤ i ∧ i ≤ (a.length : Int)
  | _, _ => False
def latL : LSpec := ⟨[1, 2, 4, 9, 10, 11, 15], [(.tmp 17, ib 0 100000)], [(.tmp 11, fl2)], runInv, meaL, 60⟩
theorem wav_val {a b m e : Int} {x y : List Int} (h : sigWave.post [.n a, .n b, .n m] [.l x, .l y, .n e]) (h0 : 0 ≤ m) (h1 : m ≤ 100000) : e = 0 ∧ (x.length : Int) = m ∧ ∀ j : Nat, (j : Int) < m → x.getD j 0 = wC (adv a b j) ∧ y.getD j 0 = wS (adv a b j) := by
  rcases h with ⟨g1, _⟩ | ⟨_, _, g3, g4, g5⟩
  · omega
  · exact ⟨g3, g4, g5⟩
theorem mix_val {a b e : Int} {s t x y : List Int} (h : sigMix.post [.l s, .l t, .n a, .n b] [.l x, .l y, .n e]) (h0 : s.length ≤ 400) (h1 : smlAll s t) : e = 0 ∧ x.length = s.length ∧ ∀ j : Nat, j < s.length → x.getD j 0 = s.getD j 0 * wC (adv a b j) + t.getD j 0 * wS (adv a b j) ∧ y.getD j 0 = t.getD j 0 * wC (adv a b j) - s.getD j 0 * wS (adv a b j) := by
  rcases h with ⟨g1, _⟩ | ⟨_, g2, _⟩ | ⟨_, _, g3, g4, g5⟩
  · omega
  · exact absurd h1 g2
  · exact ⟨g3, g4, g5⟩
theorem adv_adv (a b m n : Int) : adv (adv a b m) b n = adv a b (m + n) := by
  unfold adv
  rw [Int.mul_add]
  generalize b * m = c
  generalize b * n = d
  omega
theorem adv_wrap {a b x y k : Int} (h : y = x + 18446744073709551616 * k) : adv a b y = adv a b x := by
  unfold adv
  have e : b * y = b * x + 4294967296 * (4294967296 * (b * k)) := by rw [h]; grind
  rw [e, show a + (b * x + 4294967296 * (4294967296 * (b * k))) = a + b * x + 4294967296 * (4294967296 * (b * k)) by omega, Int.add_mul_emod_self_left]
theorem del_law {a b m n : Int} (h0 : 0 ≤ a) (h1 : a ≤ 4294967295) : del (adv (adv a b m) b n) (adv a b n) = del (adv (adv a b m) 0 0) (adv a 0 0) := by
  unfold del adv
  rw [Int.zero_mul]
  generalize b * m = c
  generalize b * n = d
  omega
theorem drop_fun {x z : List Int} {m : Nat} {f : Nat → Int} (hz : z.length + m = x.length) (hx : ∀ j, j < x.length → x.getD j 0 = f j) (hf : ∀ j, j < z.length → z.getD j 0 = f (m + j)) : (x.drop m).take (x.length - m) = z := by
  rw [List.take_of_length_le (by rw [List.length_drop]; omega)]
  refine eq_of_getD (d := 0) (by rw [List.length_drop]; omega) fun j hj => ?_
  rw [List.length_drop] at hj
  rw [hf j (by omega), ← hx (m + j) (by omega), List.getD_eq_getElem?_getD, List.getElem?_drop, ← List.getD_eq_getElem?_getD]
theorem sml_of {x y : List Int} (hx : ∀ v ∈ x, -127 ≤ v ∧ v ≤ 127) (hy : ∀ v ∈ y, -127 ≤ v ∧ v ≤ 127) (hl : y.length = x.length) : smlAll x y := fun j hj => by
  have := getD_in hx (i := j) hj
  have := getD_in hy (i := j) (by omega)
  unfold sml; omega
def int1 (n : Nat) : CX := .l [.i .i64 (-9223372036854775808) 9223372036854775807] n
def sigNI : Sig := ⟨[.agg [u32, u32], .one (int1 9223372036854775807), .one (int1 9223372036854775807), .one i64], [.one .b], fun _ => True, fun _ rs => rs = [.b true]⟩
def sm2 (m : Int) (n : Nat) : CX := .l [.i .i64 (-m) m, .i .i64 (-m) m] n
def comb (f : Int) (a b c : List Int) (i : Int) : Prop := ∀ j : Nat, (j : Int) < i → c.getD j 0 = a.getD j 0 + f * b.getD j 0
def linInv : List DV → List DV → Prop
  | [.n n, .n f], [.n i, .l a, .l a', .l b, .l b', .l c, .l c'] => 0 ≤ i ∧ i ≤ n ∧ (a.length : Int) = i ∧ (b.length : Int) = i ∧ (c.length : Int) = i ∧ comb f a b c i ∧ comb f a' b' c' i
  | _, _ => False
def mea2 : List DV → List DV → Nat
  | .n n :: _, .n i :: _ => (n - i).toNat
  | _, _ => 0
def s4 : CX := .l [.i .i64 (-10000) 10000, .i .i64 (-10000) 10000] 40
def s5 : CX := .l [.i .i64 (-100000) 100000, .i .i64 (-100000) 100000] 40
def linL : LSpec := ⟨[1, 2, 3, 4, 9, 10], [(.tmp 14, ib 0 40), (.tmp 11, s4), (.tmp 12, s4), (.tmp 13, s5)], [(.tmp 10, i64), (.tmp 3, i64)], linInv, mea2, 60⟩
def lin2Inv : List DV → List DV → Prop
  | [.n n], [.n i] => 0 ≤ i ∧ i ≤ n
  | _, _ => False
def lin2L : LSpec := ⟨[3, 9, 10, 17, 19, 21], [(.tmp 23, ib 0 40)], [(.tmp 10, i64)], lin2Inv, mea2, 60⟩
theorem comb_snoc {f u v w i : Int} {a b c : List Int} (ha : (a.length : Int) = i) (hb : (b.length : Int) = i) (hc : (c.length : Int) = i) (h : comb f a b c i) (g : w = u + f * v) : comb f (a ++ [u]) (b ++ [v]) (c ++ [w]) (i + 1) := fun j hj => by
  rcases Nat.lt_or_ge j a.length with k | k
  · rw [getD_app1 k, getD_app1 (by omega), getD_app1 (by omega)]; exact h j (by omega)
  · have e1 : j = a.length := by omega
    have e2 : j = b.length := by omega
    have e3 : j = c.length := by omega
    rw [show (a ++ [u]).getD j 0 = u by rw [e1, getD_last], show (b ++ [v]).getD j 0 = v by rw [e2, getD_last], show (c ++ [w]).getD j 0 = w by rw [e3, getD_last], g]
theorem smlM {M : Int} {x y : List Int} (hM : M ≤ 70368744177664) (hx : ∀ v ∈ x, -M ≤ v ∧ v ≤ M) (hy : ∀ v ∈ y, -M ≤ v ∧ v ≤ M) (hl : y.length = x.length) : smlAll x y := fun j hj => by
  have := getD_in hx (i := j) hj
  have := getD_in hy (i := j) (by omega)
  unfold sml; omega
end
end Go.Sp
