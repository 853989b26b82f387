/- What Minus returns, by cases: functions ['fixed.Minus', 'skyfixref01.Minus'] of the seat. -/
import Derived.Test.YtcddopooofdgcaaRows
import Derived.WalkKit
import Derived.Test.YtcddopooofdgcaaEvV
import Derived.Test.YtcddopooofdgcaaEvW
namespace Go.Proofs.Ytcddopooofdgcaa.CMinus
open Go.Ev Go.RowKit
set_option linter.unusedVariables false
def con : Con := ⟨160, [.agg [.int .i64, .int .u64], .agg [.int .i64, .int .u64]], [.agg [⟨.int .i64, (-9223372036854775808), 9223372036854775807⟩, ⟨.int .u64, 0, 18446744073709551615⟩], .one ⟨.int .i64, 0, 5⟩], true⟩
def rt : RTree := (.split (.var 0) (-1) (.split (.var 2) (-1) (.leaf [(.bin .sub (.bin .sub (.var 0) (.var 2)) (.bin .sub (.lit 1) (.bin .quo (.bin .add (.bin .sub (.bin .sub (.var 1) (.var 3)) (.lit 0)) (.lit 18446744073709551616)) (.lit 18446744073709551616)))), (.bin .rem (.bin .add (.bin .sub (.bin .sub (.var 1) (.var 3)) (.lit 0)) (.lit 18446744073709551616)) (.lit 18446744073709551616)), (.lit 0)]) (.split (.wrap .i64 (.bin .sub (.wrap .i64 (.bin .sub (.var 0) (.var 2))) (.bin .sub (.lit 1) (.bin .quo (.bin .add (.bin .sub (.bin .sub (.var 1) (.var 3)) (.lit 0)) (.lit 18446744073709551616)) (.lit 18446744073709551616))))) (-1) (.leaf [(.wrap .i64 (.bin .sub (.wrap .i64 (.bin .sub (.var 0) (.var 2))) (.bin .sub (.lit 1) (.bin .quo (.bin .add (.bin .sub (.bin .sub (.var 1) (.var 3)) (.lit 0)) (.lit 18446744073709551616)) (.lit 18446744073709551616))))), (.bin .rem (.bin .add (.bin .sub (.bin .sub (.var 1) (.var 3)) (.lit 0)) (.lit 18446744073709551616)) (.lit 18446744073709551616)), (.lit 0)]) (.leaf [(.lit 0), (.lit 0), (.lit 5)]))) (.split (.var 2) (-1) (.split (.wrap .i64 (.bin .sub (.wrap .i64 (.bin .sub (.var 0) (.var 2))) (.bin .sub (.lit 1) (.bin .quo (.bin .add (.bin .sub (.bin .sub (.var 1) (.var 3)) (.lit 0)) (.lit 18446744073709551616)) (.lit 18446744073709551616))))) (-1) (.leaf [(.lit 0), (.lit 0), (.lit 5)]) (.leaf [(.wrap .i64 (.bin .sub (.wrap .i64 (.bin .sub (.var 0) (.var 2))) (.bin .sub (.lit 1) (.bin .quo (.bin .add (.bin .sub (.bin .sub (.var 1) (.var 3)) (.lit 0)) (.lit 18446744073709551616)) (.lit 18446744073709551616))))), (.bin .rem (.bin .add (.bin .sub (.bin .sub (.var 1) (.var 3)) (.lit 0)) (.lit 18446744073709551616)) (.lit 18446744073709551616)), (.lit 0)])) (.leaf [(.bin .sub (.bin .sub (.var 0) (.var 2)) (.bin .sub (.lit 1) (.bin .quo (.bin .add (.bin .sub (.bin .sub (.var 1) (.var 3)) (.lit 0)) (.lit 18446744073709551616)) (.lit 18446744073709551616)))), (.bin .rem (.bin .add (.bin .sub (.bin .sub (.var 1) (.var 3)) (.lit 0)) (.lit 18446744073709551616)) (.lit 18446744073709551616)), (.lit 0)])))
def Fs : List (List Int → List Int) := []
def F : List Int → List Int := fun ns => rt.ev (valC Fs ns)
def ext : List (Nat × Ext) := [(54, .add64), (55, .sub64)]
theorem exts : ∀ p ∈ ext, ExtRow Try.prog p.1 p.2 := by
  intro p hp
  simp only [ext, List.mem_cons, List.not_mem_nil, or_false] at hp
  rcases hp with rfl | rfl
  · exact .inr ⟨Try.f54, Try.func54, by kernel_rfl, by kernel_rfl, by kernel_rfl, by kernel_rfl⟩
  · exact .inr ⟨Try.f55, Try.func55, by kernel_rfl, by kernel_rfl, by kernel_rfl, by kernel_rfl⟩
theorem cons (L : List Fact) (E : @Env ⟨L⟩) (hv : (@Env.val ⟨L⟩ E).f = tabF Fs) : @ConOk ⟨L⟩ E Try.prog ext :=
  letI : FactsC := ⟨L⟩
  letI := E
  conOk_none rfl
theorem names : namesB Try.prog = true := by kernel_rfl
namespace f35
def deadsC : List Dead := []
set_option maxRecDepth 100000 in
theorem deadsC_ok : deadsB deadsC = true := by kernel_rfl
def deads : List (List Fact) := deadsC.map Dead.cl ++ []
def facts0 : List Fact := [⟨(.var 0), 9223372036854775807, true⟩, ⟨(.var 0), (-9223372036854775809), false⟩, ⟨(.var 1), 18446744073709551615, true⟩, ⟨(.var 1), (-1), false⟩, ⟨(.var 2), 9223372036854775807, true⟩, ⟨(.var 2), (-9223372036854775809), false⟩, ⟨(.var 3), 18446744073709551615, true⟩, ⟨(.var 3), (-1), false⟩]

theorem deads_no (v : VAL) : ∀ cl ∈ deads, ¬ ∀ f ∈ cl, f.holds v := by
  intro cl h
  rcases List.mem_append.1 h with h | h
  · exact deadsB_ok deadsC_ok v cl h
  cases h
noncomputable def theRun : List Fact → Bool := fun F => @runC ⟨F⟩ Try.prog ext [] 300 35 con.args (@isRT ⟨F⟩ con.res rt)
def part0 : STree := (.split (.var 0) (-1) (.split (.var 2) (-1) .leaf (.split (.wrap .i64 (.bin .sub (.wrap .i64 (.bin .sub (.var 0) (.var 2))) (.bin .sub (.lit 1) (.bin .quo (.bin .add (.bin .sub (.bin .sub (.var 1) (.var 3)) (.lit 0)) (.lit 18446744073709551616)) (.lit 18446744073709551616))))) (-1) .leaf .leaf)) (.split (.var 2) (-1) (.split (.wrap .i64 (.bin .sub (.wrap .i64 (.bin .sub (.var 0) (.var 2))) (.bin .sub (.lit 1) (.bin .quo (.bin .add (.bin .sub (.bin .sub (.var 1) (.var 3)) (.lit 0)) (.lit 18446744073709551616)) (.lit 18446744073709551616))))) (-1) .leaf .leaf) .leaf))
set_option maxRecDepth 100000 in
theorem ranp0 : checkT theRun deads part0 (facts0) = true := by kernel_rfl
theorem ok : conN Try.prog 35 con F := con_tree (F0 := facts0) Fs (by kernel_rfl) exts (Go.Ev.knownOk_none rfl) cons names Try.func35 (by kernel_rfl) ranp0 deads_no (by kernel_rfl) (by kernel_rfl)
end f35
namespace f36
def deadsC : List Dead := []
set_option maxRecDepth 100000 in
theorem deadsC_ok : deadsB deadsC = true := by kernel_rfl
def deads : List (List Fact) := deadsC.map Dead.cl ++ []
def facts0 : List Fact := [⟨(.var 0), 9223372036854775807, true⟩, ⟨(.var 0), (-9223372036854775809), false⟩, ⟨(.var 1), 18446744073709551615, true⟩, ⟨(.var 1), (-1), false⟩, ⟨(.var 2), 9223372036854775807, true⟩, ⟨(.var 2), (-9223372036854775809), false⟩, ⟨(.var 3), 18446744073709551615, true⟩, ⟨(.var 3), (-1), false⟩]

theorem deads_no (v : VAL) : ∀ cl ∈ deads, ¬ ∀ f ∈ cl, f.holds v := by
  intro cl h
  rcases List.mem_append.1 h with h | h
  · exact deadsB_ok deadsC_ok v cl h
  cases h
noncomputable def theRun : List Fact → Bool := fun F => @runC ⟨F⟩ Try.prog ext [] 300 36 con.args (@isRT ⟨F⟩ con.res rt)
def part0 : STree := (.split (.var 0) (-1) (.split (.var 2) (-1) .leaf (.split (.wrap .i64 (.bin .sub (.wrap .i64 (.bin .sub (.var 0) (.var 2))) (.bin .sub (.lit 1) (.bin .quo (.bin .add (.bin .sub (.bin .sub (.var 1) (.var 3)) (.lit 0)) (.lit 18446744073709551616)) (.lit 18446744073709551616))))) (-1) .leaf .leaf)) (.split (.var 2) (-1) (.split (.wrap .i64 (.bin .sub (.wrap .i64 (.bin .sub (.var 0) (.var 2))) (.bin .sub (.lit 1) (.bin .quo (.bin .add (.bin .sub (.bin .sub (.var 1) (.var 3)) (.lit 0)) (.lit 18446744073709551616)) (.lit 18446744073709551616))))) (-1) .leaf .leaf) .leaf))
set_option maxRecDepth 100000 in
theorem ranp0 : checkT theRun deads part0 (facts0) = true := by kernel_rfl
theorem ok : conN Try.prog 36 con F := con_tree (F0 := facts0) Fs (by kernel_rfl) exts (Go.Ev.knownOk_none rfl) cons names Try.func36 (by kernel_rfl) ranp0 deads_no (by kernel_rfl) (by kernel_rfl)
end f36
end Go.Proofs.Ytcddopooofdgcaa.CMinus
