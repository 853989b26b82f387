/- What Narrow returns, by cases: functions ['fixed.Narrow', 'skyfixref01.Narrow'] of the seat. -/
import Derived.Test.YtcddopooofdgcaaRows
import Derived.WalkKit
import Derived.Test.YtcddopooofdgcaaEvV
import Derived.Test.YtcddopooofdgcaaEvW
namespace Go.Proofs.Ytcddopooofdgcaa.CNarrow
open Go.Ev Go.RowKit
set_option linter.unusedVariables false
def con : Con := ⟨224, [.agg [.int .i64, .int .u64]], [.one ⟨.int .i64, (-9223372036854775808), 9223372036854775807⟩, .one ⟨.int .i64, 0, 5⟩], true⟩
def rt : RTree := (.split (.var 0) (-1) (.split (.var 0) (-2) (.leaf [(.lit 0), (.lit 5)]) (.split (.wrap .i64 (.var 1)) (-1) (.leaf [(.wrap .i64 (.var 1)), (.lit 0)]) (.leaf [(.lit 0), (.lit 5)]))) (.split (.var 0) 0 (.split (.wrap .i64 (.var 1)) (-1) (.leaf [(.lit 0), (.lit 5)]) (.leaf [(.wrap .i64 (.var 1)), (.lit 0)])) (.leaf [(.lit 0), (.lit 5)])))
def Fs : List (List Int → List Int) := []
def F : List Int → List Int := fun ns => rt.ev (valC Fs ns)
def ext : List (Nat × Ext) := [(54, .add64), (55, .sub64)]
theorem exts : ∀ p ∈ ext, ExtRow Try.prog p.1 p.2 := by
  intro p hp
  simp only [ext, List.mem_cons, List.not_mem_nil, or_false] at hp
  rcases hp with rfl | rfl
  · exact .inr ⟨Try.f54, Try.func54, by kernel_rfl, by kernel_rfl, by kernel_rfl, by kernel_rfl⟩
  · exact .inr ⟨Try.f55, Try.func55, by kernel_rfl, by kernel_rfl, by kernel_rfl, by kernel_rfl⟩
theorem cons (L : List Fact) (E : @Env ⟨L⟩) (hv : (@Env.val ⟨L⟩ E).f = tabF Fs) : @ConOk ⟨L⟩ E Try.prog ext :=
  letI : FactsC := ⟨L⟩
  letI := E
  conOk_none rfl
theorem names : namesB Try.prog = true := by kernel_rfl
namespace f21
def q0 : SE := (.bin .fdiv (.wrap .i64 (.var 1)) (.lit 9223372036854775808))
def q1 : SE := (.bin .sub (.var 0) (.bin .fdiv (.wrap .i64 (.var 1)) (.lit 9223372036854775808)))
def q2 : SE := (.wrap .i64 (.var 1))
def deadsC : List Dead := [⟨[⟨q0, (-1), true⟩, ⟨(.var 0), (-2), false⟩, ⟨q1, (-1), true⟩], [q0, (.var 0)], [], [(1, [0]), (1, [1]), (1, [2])]⟩,
  ⟨[⟨q2, (-1), true⟩, ⟨(.var 0), (-2), false⟩, ⟨q1, (-1), true⟩], [q2, (.var 0), q0], [q0], [(1, [0]), (9223372036854775808, [1]), (9223372036854775808, [2]), (1, [3])]⟩,
  ⟨[⟨(.var 0), (-1), false⟩, ⟨q1, (-1), true⟩], [(.var 0), q0, q2], [q0, q2], [(9223372036854775808, [0]), (9223372036854775808, [1]), (1, [2]), (1, [5])]⟩,
  ⟨[⟨(.var 0), (-2), true⟩, ⟨q1, (-1), false⟩], [(.var 0), q0, q2], [q0, q2], [(9223372036854775808, [0]), (9223372036854775808, [1]), (1, [3]), (1, [4])]⟩,
  ⟨[⟨q2, (-1), false⟩, ⟨(.var 0), (-1), true⟩, ⟨q1, (-1), false⟩], [q2, (.var 0), q0], [q0], [(1, [0]), (9223372036854775808, [1]), (9223372036854775808, [2]), (1, [4])]⟩,
  ⟨[⟨q0, (-1), false⟩, ⟨(.var 0), (-1), true⟩, ⟨q1, (-1), false⟩], [q0, (.var 0)], [], [(1, [0]), (1, [1]), (1, [2])]⟩,
  ⟨[⟨q0, (-1), true⟩, ⟨(.var 0), (-1), false⟩, ⟨q1, 0, true⟩], [q0, (.var 0)], [], [(1, [0]), (1, [1]), (1, [2])]⟩,
  ⟨[⟨q2, (-1), true⟩, ⟨(.var 0), (-1), false⟩, ⟨q1, 0, true⟩], [q2, (.var 0), q0], [q0], [(1, [0]), (9223372036854775808, [1]), (9223372036854775808, [2]), (1, [3])]⟩,
  ⟨[⟨(.var 0), 0, false⟩, ⟨q1, 0, true⟩], [(.var 0), q0, q2], [q0, q2], [(9223372036854775808, [0]), (9223372036854775808, [1]), (1, [2]), (1, [5])]⟩,
  ⟨[⟨(.var 0), (-1), true⟩, ⟨q1, 0, false⟩], [(.var 0), q0, q2], [q0, q2], [(9223372036854775808, [0]), (9223372036854775808, [1]), (1, [3]), (1, [4])]⟩,
  ⟨[⟨q2, (-1), false⟩, ⟨(.var 0), 0, true⟩, ⟨q1, 0, false⟩], [q2, (.var 0), q0], [q0], [(1, [0]), (9223372036854775808, [1]), (9223372036854775808, [2]), (1, [4])]⟩,
  ⟨[⟨q0, (-1), false⟩, ⟨(.var 0), 0, true⟩, ⟨q1, 0, false⟩], [q0, (.var 0)], [], [(1, [0]), (1, [1]), (1, [2])]⟩]
set_option maxRecDepth 100000 in
theorem deadsC_ok : deadsB deadsC = true := by kernel_rfl
def deads : List (List Fact) := deadsC.map Dead.cl ++ []
def facts0 : List Fact := [⟨(.var 0), 9223372036854775807, true⟩, ⟨(.var 0), (-9223372036854775809), false⟩, ⟨(.var 1), 18446744073709551615, true⟩, ⟨(.var 1), (-1), false⟩]

theorem deads_no (v : VAL) : ∀ cl ∈ deads, ¬ ∀ f ∈ cl, f.holds v := by
  intro cl h
  rcases List.mem_append.1 h with h | h
  · exact deadsB_ok deadsC_ok v cl h
  cases h
noncomputable def theRun : List Fact → Bool := fun F => @runC ⟨F⟩ Try.prog ext [] 300 21 con.args (@isRT ⟨F⟩ con.res rt)
def part0 : STree := (.split q1 (-1) (.split (.var 0) (-1) (.split (.var 0) (-2) .leaf (.split q0 (-1) (.dead 0) (.split q2 (-1) (.dead 1) .leaf))) (.dead 2)) (.split q1 0 (.split (.var 0) (-1) (.split (.var 0) (-2) (.dead 3) (.split q0 (-1) (.split q2 (-1) .leaf (.dead 4)) (.dead 5))) (.split (.var 0) 0 (.split q0 (-1) (.dead 6) (.split q2 (-1) (.dead 7) .leaf)) (.dead 8))) (.split (.var 0) (-1) (.dead 9) (.split (.var 0) 0 (.split q0 (-1) (.split q2 (-1) .leaf (.dead 10)) (.dead 11)) .leaf))))
set_option maxRecDepth 100000 in
theorem ranp0 : checkT theRun deads part0 (facts0) = true := by kernel_rfl
theorem ok : conN Try.prog 21 con F := con_tree (F0 := facts0) Fs (by kernel_rfl) exts (Go.Ev.knownOk_none rfl) cons names Try.func21 (by kernel_rfl) ranp0 deads_no (by kernel_rfl) (by kernel_rfl)
end f21
namespace f37
def deadsC : List Dead := []
set_option maxRecDepth 100000 in
theorem deadsC_ok : deadsB deadsC = true := by kernel_rfl
def deads : List (List Fact) := deadsC.map Dead.cl ++ []
def facts0 : List Fact := [⟨(.var 0), 9223372036854775807, true⟩, ⟨(.var 0), (-9223372036854775809), false⟩, ⟨(.var 1), 18446744073709551615, true⟩, ⟨(.var 1), (-1), false⟩]

theorem deads_no (v : VAL) : ∀ cl ∈ deads, ¬ ∀ f ∈ cl, f.holds v := by
  intro cl h
  rcases List.mem_append.1 h with h | h
  · exact deadsB_ok deadsC_ok v cl h
  cases h
noncomputable def theRun : List Fact → Bool := fun F => @runC ⟨F⟩ Try.prog ext [] 300 37 con.args (@isRT ⟨F⟩ con.res rt)
def part0 : STree := (.split (.var 0) (-1) (.split (.var 0) (-2) .leaf (.split (.wrap .i64 (.var 1)) (-1) .leaf .leaf)) (.split (.var 0) 0 (.split (.wrap .i64 (.var 1)) (-1) .leaf .leaf) .leaf))
set_option maxRecDepth 100000 in
theorem ranp0 : checkT theRun deads part0 (facts0) = true := by kernel_rfl
theorem ok : conN Try.prog 37 con F := con_tree (F0 := facts0) Fs (by kernel_rfl) exts (Go.Ev.knownOk_none rfl) cons names Try.func37 (by kernel_rfl) ranp0 deads_no (by kernel_rfl) (by kernel_rfl)
end f37
end Go.Proofs.Ytcddopooofdgcaa.CNarrow
