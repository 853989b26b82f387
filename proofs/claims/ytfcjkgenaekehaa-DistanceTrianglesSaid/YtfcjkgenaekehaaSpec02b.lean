import Derived.Test.YtfcjkgenaekehaaSpec02
import Derived.Test.YtfcjkgenaekehaaSpecAng2
namespace Go.Sp
open Go.Ev
noncomputable section
def sigSm2 : Sig := ⟨[smpV], [.one .b], fun _ => True, fun _ rs => rs = [.b true]⟩
def sigI4 : Sig := ⟨[.one i64, .one i64, .one i64, .one i64], [.one .b], fun _ => True, fun _ rs => rs = [.b true]⟩
def tabPost : List DV → List DV → Prop
  | [], [.l a, .l b] => a.length = 64 ∧ b.length = 64 ∧ ∀ j : Fin 64, a.getD j.val 0 = cosZ j.val ∧ b.getD j.val 0 = sinZ j.val
  | _, _ => False
def sigTab : Sig := ⟨[], [.one (.l [.i .i64 (-127) 127, .i .i64 (-127) 127] 64)], fun _ => True, tabPost⟩
theorem tab_at {a b : List Int} {k : Int} (h : a.length = 64 ∧ b.length = 64 ∧ ∀ j : Fin 64, a.getD j.val 0 = cosZ j.val ∧ b.getD j.val 0 = sinZ j.val) (h0 : 0 ≤ k) (h1 : k ≤ 63) : a.getD k.toNat 0 = cosZ k ∧ b.getD k.toNat 0 = sinZ k := by
  have := h.2.2 ⟨k.toNat, by omega⟩
  simp only [Int.toNat_of_nonneg h0] at this
  exact this
end
end Go.Sp
