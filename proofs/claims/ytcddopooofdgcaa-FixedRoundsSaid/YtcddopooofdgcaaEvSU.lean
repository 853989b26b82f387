/- The sums and differences of words with a carry, as contracts. -/
import Derived.Test.YtcddopooofdgcaaEvSS
namespace Go.Ev
open Go.RowKit (Below)
noncomputable section
def cU : CX := .i .u64 0 18446744073709551615
def add64Post : List DV → List DV → Prop
  | [.n x, .n y, .n c], [.n s, .n d] => s = (x + y + c) % 18446744073709551616 ∧ d = (x + y + c) / 18446744073709551616
  | _, _ => False
def sub64Post : List DV → List DV → Prop
  | [.n x, .n y, .n c], [.n s, .n d] => s = (x - y - c) % 18446744073709551616 ∧ d = if x < y + c then 1 else 0
  | _, _ => False
def sigAdd64 : Sig := ⟨[.one cU, .one cU, .one (.i .u64 0 1)], [.one cU, .one (.i .u64 0 1)], fun _ => True, add64Post⟩
def sigSub64 : Sig := ⟨[.one cU, .one cU, .one (.i .u64 0 1)], [.one cU, .one (.i .u64 0 1)], fun _ => True, sub64Post⟩
theorem fn_add64 {P : Program} {f : Nat} (hr : ExtRow P f .add64) : FnOk P f sigAdd64 [] := by
  intro dss hs _
  have hq : ShapeVKs [.one cU, .one cU, .one (.i .u64 0 1)] dss := hs
  clear hs
  cases hq with | cons h1 hq => cases hq with | cons h2 hq => cases hq with | cons h3 hq =>
  cases hq
  obtain ⟨⟨x, rfl, x1, x2⟩, _⟩ := h1
  obtain ⟨⟨y, rfl, y1, y2⟩, _⟩ := h2
  obtain ⟨⟨c, rfl, c1, c2⟩, _⟩ := h3
  have hK : evExt .add64 [.int .u64 x, .int .u64 y, .int .u64 c] (fun v => dec (v = .tuple [.int .u64 (.ofNat (Nat.mod (Nat.add (Nat.add x.toNat y.toNat) c.toNat) 18446744073709551616)), .int .u64 (.ofNat (Nat.div (Nat.add (Nat.add x.toNat y.toNat) c.toNat) 18446744073709551616))])) = true := by
    show guardB (Nat.ble c.toNat 1) (fN _ fun a => fN _ fun d => _) = true
    rw [fN_eq, fN_eq, show Nat.ble c.toNat 1 = true from Nat.ble_eq_true_of_le (by omega)]
    exact dec_iff.2 rfl
  obtain ⟨v, hv, hrun⟩ := ext_ok (P := P) hK
  have hv := dec_iff.1 hv
  subst hv
  generalize ha : Nat.mod (Nat.add (Nat.add x.toNat y.toNat) c.toNat) 18446744073709551616 = a at hrun
  generalize hd : Nat.div (Nat.add (Nat.add x.toNat y.toNat) c.toNat) 18446744073709551616 = d at hrun
  have ha : (x.toNat + y.toNat + c.toNat) % 18446744073709551616 = a := ha
  have hd : (x.toNat + y.toNat + c.toNat) / 18446744073709551616 = d := hd
  refine ⟨[cU, .i .u64 0 1], [[.n (a : Nat)], [.n (d : Nat)]], ⟨[.bool true, .bool true], _, .one (.one .nil)⟩, .cons ⟨_, rfl, by omega, by omega⟩ (by simp [cU]) (.cons ⟨_, rfl, by omega, by omega⟩ (by simp) .nil), ⟨by show (a : Int) = (x + y + c) % 18446744073709551616; omega, by show (d : Int) = (x + y + c) / 18446744073709551616; omega⟩, fun w args' _ hA => ?_⟩
  cases hA with | cons g1 hA => cases hA with | cons g2 hA => cases hA with | cons g3 hA =>
  cases hA
  obtain ⟨_, e1, rfl, _⟩ := g1
  cases e1
  obtain ⟨_, e2, rfl, _⟩ := g2
  cases e2
  obtain ⟨_, e3, rfl, _⟩ := g3
  cases e3
  obtain ⟨u, hu, e⟩ := hrun (φ := fun _ => none) w (.cons (.int _ _) (.cons (.int _ _) (.cons (.int _ _) .nil)))
  obtain ⟨fn, k1, k2, k3, k4, k5⟩ := hr
  rw [run_callFunc_extern k1 k2 k3 k4 k5, e]
  cases hu with | tuple h => cases h with | cons q1 h => cases h with | cons q2 h =>
  cases h; cases q1; cases q2
  exact ⟨[.int .u64 (a : Nat), .int .u64 (d : Nat)], _, [none, none], rfl, .one (.one .nil), .cons ⟨fun _ e => by cases e; rfl, rfl⟩ (.cons ⟨fun _ e => by cases e; rfl, rfl⟩ .nil), by simp [Apart3], Below.refl _ _⟩
theorem fn_sub64 {P : Program} {f : Nat} (hr : ExtRow P f .sub64) : FnOk P f sigSub64 [] := by
  intro dss hs _
  have hq : ShapeVKs [.one cU, .one cU, .one (.i .u64 0 1)] dss := hs
  clear hs
  cases hq with | cons h1 hq => cases hq with | cons h2 hq => cases hq with | cons h3 hq =>
  cases hq
  obtain ⟨⟨x, rfl, x1, x2⟩, _⟩ := h1
  obtain ⟨⟨y, rfl, y1, y2⟩, _⟩ := h2
  obtain ⟨⟨c, rfl, c1, c2⟩, _⟩ := h3
  have hK : evExt .sub64 [.int .u64 x, .int .u64 y, .int .u64 c] (fun v => dec (v = .tuple [.int .u64 (.ofNat (Nat.mod (Nat.sub (Nat.sub (Nat.add x.toNat 18446744073709551616) y.toNat) c.toNat) 18446744073709551616)), .int .u64 (bR (Nat.ble (Nat.succ x.toNat) (Nat.add y.toNat c.toNat)) 1 0)])) = true := by
    show guardB (Nat.ble c.toNat 1) (fN _ fun a => _) = true
    rw [fN_eq, show Nat.ble c.toNat 1 = true from Nat.ble_eq_true_of_le (by omega)]
    exact dec_iff.2 rfl
  obtain ⟨v, hv, hrun⟩ := ext_ok (P := P) hK
  have hv := dec_iff.1 hv
  subst hv
  have hd : (bR (Nat.ble (Nat.succ x.toNat) (Nat.add y.toNat c.toNat)) 1 0 : Int) = if x < y + c then 1 else 0 := by
    by_cases hlt : x.toNat < y.toNat + c.toNat
    · rw [show Nat.ble (Nat.succ x.toNat) (Nat.add y.toNat c.toNat) = true from Nat.ble_eq_true_of_le hlt, if_pos (by omega)]; rfl
    · rw [if_neg (by omega)]
      cases hb : Nat.ble (Nat.succ x.toNat) (Nat.add y.toNat c.toNat) with
      | true => exact absurd (Nat.le_of_ble_eq_true hb) hlt
      | false => rfl
  rw [hd] at hrun
  generalize ha : Nat.mod (Nat.sub (Nat.sub (Nat.add x.toNat 18446744073709551616) y.toNat) c.toNat) 18446744073709551616 = a at hrun
  have ha : (x.toNat + 18446744073709551616 - y.toNat - c.toNat) % 18446744073709551616 = a := ha
  generalize hg : (if x < y + c then 1 else 0 : Int) = d at hrun
  have hd2 : 0 ≤ d ∧ d ≤ 1 := by subst hg; split <;> omega
  refine ⟨[cU, .i .u64 0 1], [[.n (a : Nat)], [.n d]], ⟨[.bool true, .bool true], _, .one (.one .nil)⟩, .cons ⟨_, rfl, by omega, by omega⟩ (by simp [cU]) (.cons ⟨_, rfl, hd2.1, hd2.2⟩ (by simp) .nil), ⟨by show (a : Int) = (x - y - c) % 18446744073709551616; omega, hg.symm⟩, fun w args' _ hA => ?_⟩
  cases hA with | cons g1 hA => cases hA with | cons g2 hA => cases hA with | cons g3 hA =>
  cases hA
  obtain ⟨_, e1, rfl, _⟩ := g1
  cases e1
  obtain ⟨_, e2, rfl, _⟩ := g2
  cases e2
  obtain ⟨_, e3, rfl, _⟩ := g3
  cases e3
  obtain ⟨u, hu, e⟩ := hrun (φ := fun _ => none) w (.cons (.int _ _) (.cons (.int _ _) (.cons (.int _ _) .nil)))
  obtain ⟨fn, k1, k2, k3, k4, k5⟩ := hr
  rw [run_callFunc_extern k1 k2 k3 k4 k5, e]
  cases hu with | tuple h => cases h with | cons q1 h => cases h with | cons q2 h =>
  cases h; cases q1; cases q2
  exact ⟨[.int .u64 (a : Nat), .int .u64 d], _, [none, none], rfl, .one (.one .nil), .cons ⟨fun _ e => by cases e; rfl, rfl⟩ (.cons ⟨fun _ e => by cases e; rfl, rfl⟩ .nil), by simp [Apart3], Below.refl _ _⟩
end
end Go.Ev
