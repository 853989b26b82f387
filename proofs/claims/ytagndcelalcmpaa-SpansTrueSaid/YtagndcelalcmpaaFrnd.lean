import Derived.Test.YtagndcelalcmpaaSpec29e
import Derived.Test.YtagndcelalcmpaaEvSS
import Derived.Test.YtagndcelalcmpaaRows
import Derived.Test.YtagndcelalcmpaaFnames
import Derived.Test.YtagndcelalcmpaaFrnd0
import Derived.Test.YtagndcelalcmpaaFrnd1
namespace Go.Proofs.Ytagndcelalcmpaa
open Go.Ev Go.Sp
theorem fn_rnd : FnOk Try.prog 31 sigRnd [] := fn_join fun dss hs hp => by
  cases hs with
  | cons h1 h2 =>
    obtain ⟨⟨x, rfl, a1, a2⟩, _⟩ := h1
    cases h2 with
    | cons h3 h4 =>
      obtain ⟨⟨d, rfl, a3, a4⟩, _⟩ := h3
      cases h4
      by_cases hx : 0 ≤ x
      · refine ⟨sigRnd0, fn_rnd0, rfl, ⟨rfl, rfl, trivial⟩, .cons ⟨⟨x, rfl, hx, a2⟩, by simp [ib]⟩ (.cons ⟨⟨d, rfl, a3, a4⟩, by simp [ib]⟩ .nil), trivial, fun rs h => ?_⟩
        rcases rs with _ | ⟨r | r | r | r | r, _ | _⟩ <;> first | exact False.elim h | skip
        have h : r = (2 * x + d) / (2 * d) := h
        show r = rnd x d
        rw [rnd, if_pos hx]; exact h
      · refine ⟨sigRnd1, fn_rnd1, rfl, ⟨rfl, rfl, trivial⟩, .cons ⟨⟨x, rfl, a1, by omega⟩, by simp [ib]⟩ (.cons ⟨⟨d, rfl, a3, a4⟩, by simp [ib]⟩ .nil), trivial, fun rs h => ?_⟩
        rcases rs with _ | ⟨r | r | r | r | r, _ | _⟩ <;> first | exact False.elim h | skip
        have h : r = -((2 * (-x) + d) / (2 * d)) := h
        show r = rnd x d
        rw [rnd, if_neg hx]; exact h
end Go.Proofs.Ytagndcelalcmpaa
