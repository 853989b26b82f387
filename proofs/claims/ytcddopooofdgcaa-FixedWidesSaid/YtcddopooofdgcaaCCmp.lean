/- What Cmp returns, by cases: functions ['fixed.Cmp', 'skyfixref01.Cmp'] of the seat. -/
import Derived.Test.YtcddopooofdgcaaRows
import Derived.WalkKit
import Derived.Test.YtcddopooofdgcaaEvV
import Derived.Test.YtcddopooofdgcaaEvW
namespace Go.Proofs.Ytcddopooofdgcaa.CCmp
open Go.Ev Go.RowKit
set_option linter.unusedVariables false
def con : Con := ⟨192, [.agg [.int .i64, .int .u64], .agg [.int .i64, .int .u64]], [.one ⟨.int .i64, (-1), 1⟩], false⟩
def rt : RTree := (.split (.bin .sub (.var 0) (.var 2)) (-1) (.leaf [(.lit (-1))]) (.split (.bin .sub (.var 0) (.var 2)) 0 (.split (.bin .sub (.var 1) (.var 3)) (-1) (.leaf [(.lit (-1))]) (.split (.bin .sub (.var 1) (.var 3)) 0 (.leaf [(.lit 0)]) (.leaf [(.lit 1)]))) (.leaf [(.lit 1)])))
def Fs : List (List Int → List Int) := []
def F : List Int → List Int := fun ns => rt.ev (valC Fs ns)
def ext : List (Nat × Ext) := [(54, .add64), (55, .sub64)]
theorem exts : ∀ p ∈ ext, ExtRow Try.prog p.1 p.2 := by
  intro p hp
  simp only [ext, List.mem_cons, List.not_mem_nil, or_false] at hp
  rcases hp with rfl | rfl
  · exact .inr ⟨Try.f54, Try.func54, by kernel_rfl, by kernel_rfl, by kernel_rfl, by kernel_rfl⟩
  · exact .inr ⟨Try.f55, Try.func55, by kernel_rfl, by kernel_rfl, by kernel_rfl, by kernel_rfl⟩
theorem cons (L : List Fact) (E : @Env ⟨L⟩) (hv : (@Env.val ⟨L⟩ E).f = tabF Fs) : @ConOk ⟨L⟩ E Try.prog ext :=
  letI : FactsC := ⟨L⟩
  letI := E
  conOk_none rfl
theorem names : namesB Try.prog = true := by kernel_rfl
namespace f25
def q0 : SE := (.bin .sub (.var 0) (.var 2))
def q1 : SE := (.bin .sub (.var 2) (.var 0))
def q2 : SE := (.bin .sub (.var 1) (.var 3))
def q3 : SE := (.bin .sub (.var 3) (.var 1))
def deadsC : List Dead := [⟨[⟨q0, 0, true⟩, ⟨q1, (-1), true⟩], [(.var 0), (.var 2)], [], [(1, [0]), (1, [1])]⟩,
  ⟨[⟨q0, 0, false⟩, ⟨q1, (-1), false⟩], [(.var 0), (.var 2)], [], [(1, [0]), (1, [1])]⟩,
  ⟨[⟨q2, 0, true⟩, ⟨q3, (-1), true⟩], [(.var 1), (.var 3)], [], [(1, [0]), (1, [1])]⟩,
  ⟨[⟨q2, 0, false⟩, ⟨q3, (-1), false⟩], [(.var 1), (.var 3)], [], [(1, [0]), (1, [1])]⟩]
set_option maxRecDepth 100000 in
theorem deadsC_ok : deadsB deadsC = true := by kernel_rfl
def deads : List (List Fact) := deadsC.map Dead.cl ++ []
def facts0 : List Fact := [⟨(.var 0), 9223372036854775807, true⟩, ⟨(.var 0), (-9223372036854775809), false⟩, ⟨(.var 1), 18446744073709551615, true⟩, ⟨(.var 1), (-1), false⟩, ⟨(.var 2), 9223372036854775807, true⟩, ⟨(.var 2), (-9223372036854775809), false⟩, ⟨(.var 3), 18446744073709551615, true⟩, ⟨(.var 3), (-1), false⟩]

theorem deads_no (v : VAL) : ∀ cl ∈ deads, ¬ ∀ f ∈ cl, f.holds v := by
  intro cl h
  rcases List.mem_append.1 h with h | h
  · exact deadsB_ok deadsC_ok v cl h
  cases h
noncomputable def theRun : List Fact → Bool := fun F => @runC ⟨F⟩ Try.prog ext [] 300 25 con.args (@isRT ⟨F⟩ con.res rt)
def part0 : STree := (.split q0 (-1) (.split q2 (-1) .leaf (.split q3 (-1) .leaf .leaf)) (.split q1 (-1) (.split q2 (-1) (.split q0 0 (.dead 0) .leaf) (.split q3 (-1) (.split q0 0 (.dead 0) .leaf) (.split q0 0 (.dead 0) .leaf))) (.split q2 (-1) (.split q0 0 .leaf (.dead 1)) (.split q3 (-1) (.split q0 0 (.split q2 0 (.dead 2) .leaf) (.dead 1)) (.split q0 0 (.split q2 0 .leaf (.dead 3)) (.dead 1))))))
set_option maxRecDepth 100000 in
theorem ranp0 : checkT theRun deads part0 (facts0) = true := by kernel_rfl
theorem ok : conN Try.prog 25 con F := con_tree (F0 := facts0) Fs (by kernel_rfl) exts (Go.Ev.knownOk_none rfl) cons names Try.func25 (by kernel_rfl) ranp0 deads_no (by kernel_rfl) (by kernel_rfl)
end f25
namespace f39
def deadsC : List Dead := []
set_option maxRecDepth 100000 in
theorem deadsC_ok : deadsB deadsC = true := by kernel_rfl
def deads : List (List Fact) := deadsC.map Dead.cl ++ []
def facts0 : List Fact := [⟨(.var 0), 9223372036854775807, true⟩, ⟨(.var 0), (-9223372036854775809), false⟩, ⟨(.var 1), 18446744073709551615, true⟩, ⟨(.var 1), (-1), false⟩, ⟨(.var 2), 9223372036854775807, true⟩, ⟨(.var 2), (-9223372036854775809), false⟩, ⟨(.var 3), 18446744073709551615, true⟩, ⟨(.var 3), (-1), false⟩]

theorem deads_no (v : VAL) : ∀ cl ∈ deads, ¬ ∀ f ∈ cl, f.holds v := by
  intro cl h
  rcases List.mem_append.1 h with h | h
  · exact deadsB_ok deadsC_ok v cl h
  cases h
noncomputable def theRun : List Fact → Bool := fun F => @runC ⟨F⟩ Try.prog ext [] 300 39 con.args (@isRT ⟨F⟩ con.res rt)
def part0 : STree := (.split (.bin .sub (.var 0) (.var 2)) (-1) .leaf (.split (.bin .sub (.var 0) (.var 2)) 0 (.split (.bin .sub (.var 1) (.var 3)) (-1) .leaf (.split (.bin .sub (.var 1) (.var 3)) 0 .leaf .leaf)) .leaf))
set_option maxRecDepth 100000 in
theorem ranp0 : checkT theRun deads part0 (facts0) = true := by kernel_rfl
theorem ok : conN Try.prog 39 con F := con_tree (F0 := facts0) Fs (by kernel_rfl) exts (Go.Ev.knownOk_none rfl) cons names Try.func39 (by kernel_rfl) ranp0 deads_no (by kernel_rfl) (by kernel_rfl)
end f39
end Go.Proofs.Ytcddopooofdgcaa.CCmp
