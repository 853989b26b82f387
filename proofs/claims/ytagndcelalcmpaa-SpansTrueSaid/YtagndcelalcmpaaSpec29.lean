import Derived.Test.YtagndcelalcmpaaSpecC
namespace Go.Sp
open Go.Ev
noncomputable section
def chan : VK := .agg [i64, i64, i64]
def rnd (n d : Int) : Int := if 0 ≤ n then (2 * n + d) / (2 * d) else -((2 * (-n) + d) / (2 * d))
def rndPost0 : List DV → List DV → Prop
  | [.n n, .n d], [.n r] => r = (2 * n + d) / (2 * d)
  | _, _ => False
def rndPost : List DV → List DV → Prop
  | [.n n, .n d], [.n r] => r = rnd n d
  | _, _ => False
def rndPost1 : List DV → List DV → Prop
  | [.n n, .n d], [.n r] => r = -((2 * (-n) + d) / (2 * d))
  | _, _ => False
def sigRnd1 : Sig := ⟨[.one (ib (-200000000000000000) (-1)), .one (ib 1 8192)], [.one (ib (-500000000000000000) 500000000000000000)], fun _ => True, rndPost1⟩
def sigRnd0 : Sig := ⟨[.one (ib 0 200000000000000000), .one (ib 1 8192)], [.one (ib (-500000000000000000) 500000000000000000)], fun _ => True, rndPost0⟩
def sigRnd : Sig := ⟨[.one (ib (-200000000000000000) 200000000000000000), .one (ib 1 8192)], [.one (ib (-500000000000000000) 500000000000000000)], fun _ => True, rndPost⟩
def lenPost : List DV → List DV → Prop
  | [.n l, .n rx, .n prn, .n t, .n ms], [.n x, .n e] => 1 ≤ l → l ≤ 8192 → -604800000 ≤ rx → rx ≤ 1209600000 → 1 ≤ prn → prn ≤ 2048 → 0 ≤ t → t ≤ 1099511627776 → 0 ≤ ms → ms < 604800000 → -40000 * l ≤ (rx - ms) * l + t → (rx - ms) * l + t ≤ 40000 * l →
      -10000000000000 ≤ rnd (299792458 * ((rx - ms) * l + t)) l → rnd (299792458 * ((rx - ms) * l + t)) l ≤ 10000000000000 → x = rnd (299792458 * ((rx - ms) * l + t)) l ∧ e = 0
  | _, _ => False
def sigLen : Sig := ⟨[.one i64, .one i64, chan], [.one i64, .one i64], fun _ => True, lenPost⟩
def bndPost : List DV → List DV → Prop
  | [.n l, .n o], [.n x, .n e] => x = (o * 299792458 + l - 1) / l + 1 ∧ e = 0
  | _, _ => False
def sigBnd : Sig := ⟨[.one (ib 1 8192), .one (ib 1 8)], [.one i64, .one i64], fun _ => True, bndPost⟩
def sigL5 : Sig := ⟨[.one i64, .one i64, .one i64, .one i64, .one i64], [.one .b], fun _ => True, fun _ rs => rs = [.b true]⟩
def tab : Nat → LT := noA
end
end Go.Sp
