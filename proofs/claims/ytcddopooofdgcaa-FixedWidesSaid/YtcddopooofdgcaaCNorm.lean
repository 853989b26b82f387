/- What Norm returns, by cases: functions ['fixed.Norm', 'skyfixref01.Norm'] of the seat. -/
import Derived.Test.YtcddopooofdgcaaRows
import Derived.WalkKit
import Derived.Test.YtcddopooofdgcaaEvV
import Derived.Test.YtcddopooofdgcaaEvW
import Derived.Test.YtcddopooofdgcaaCProd
import Derived.Test.YtcddopooofdgcaaCPlus
namespace Go.Proofs.Ytcddopooofdgcaa.CNorm
open Go.Ev Go.RowKit
set_option linter.unusedVariables false
def con : Con := ⟨256, [.agg [.int .i64, .int .i64, .int .i64]], [.agg [⟨.int .i64, (-9223372036854775808), 9223372036854775807⟩, ⟨.int .u64, 0, 18446744073709551615⟩], .one ⟨.int .i64, 0, 5⟩], true⟩
def rt : RTree := (.split (.app 130 (.app 0 (.app 96 (.app 0 (.var 0) (.app 0 (.var 0) (.lit 0))) (.lit 0)) (.app 0 (.app 97 (.app 0 (.var 0) (.app 0 (.var 0) (.lit 0))) (.lit 0)) (.app 0 (.app 96 (.app 0 (.var 1) (.app 0 (.var 1) (.lit 0))) (.lit 0)) (.app 0 (.app 97 (.app 0 (.var 1) (.app 0 (.var 1) (.lit 0))) (.lit 0)) (.lit 0))))) (.lit 0)) 0 (.split (.app 130 (.app 0 (.app 128 (.app 0 (.app 96 (.app 0 (.var 0) (.app 0 (.var 0) (.lit 0))) (.lit 0)) (.app 0 (.app 97 (.app 0 (.var 0) (.app 0 (.var 0) (.lit 0))) (.lit 0)) (.app 0 (.app 96 (.app 0 (.var 1) (.app 0 (.var 1) (.lit 0))) (.lit 0)) (.app 0 (.app 97 (.app 0 (.var 1) (.app 0 (.var 1) (.lit 0))) (.lit 0)) (.lit 0))))) (.lit 0)) (.app 0 (.app 129 (.app 0 (.app 96 (.app 0 (.var 0) (.app 0 (.var 0) (.lit 0))) (.lit 0)) (.app 0 (.app 97 (.app 0 (.var 0) (.app 0 (.var 0) (.lit 0))) (.lit 0)) (.app 0 (.app 96 (.app 0 (.var 1) (.app 0 (.var 1) (.lit 0))) (.lit 0)) (.app 0 (.app 97 (.app 0 (.var 1) (.app 0 (.var 1) (.lit 0))) (.lit 0)) (.lit 0))))) (.lit 0)) (.app 0 (.app 96 (.app 0 (.var 2) (.app 0 (.var 2) (.lit 0))) (.lit 0)) (.app 0 (.app 97 (.app 0 (.var 2) (.app 0 (.var 2) (.lit 0))) (.lit 0)) (.lit 0))))) (.lit 0)) 0 (.leaf [(.app 128 (.app 0 (.app 128 (.app 0 (.app 96 (.app 0 (.var 0) (.app 0 (.var 0) (.lit 0))) (.lit 0)) (.app 0 (.app 97 (.app 0 (.var 0) (.app 0 (.var 0) (.lit 0))) (.lit 0)) (.app 0 (.app 96 (.app 0 (.var 1) (.app 0 (.var 1) (.lit 0))) (.lit 0)) (.app 0 (.app 97 (.app 0 (.var 1) (.app 0 (.var 1) (.lit 0))) (.lit 0)) (.lit 0))))) (.lit 0)) (.app 0 (.app 129 (.app 0 (.app 96 (.app 0 (.var 0) (.app 0 (.var 0) (.lit 0))) (.lit 0)) (.app 0 (.app 97 (.app 0 (.var 0) (.app 0 (.var 0) (.lit 0))) (.lit 0)) (.app 0 (.app 96 (.app 0 (.var 1) (.app 0 (.var 1) (.lit 0))) (.lit 0)) (.app 0 (.app 97 (.app 0 (.var 1) (.app 0 (.var 1) (.lit 0))) (.lit 0)) (.lit 0))))) (.lit 0)) (.app 0 (.app 96 (.app 0 (.var 2) (.app 0 (.var 2) (.lit 0))) (.lit 0)) (.app 0 (.app 97 (.app 0 (.var 2) (.app 0 (.var 2) (.lit 0))) (.lit 0)) (.lit 0))))) (.lit 0)), (.app 129 (.app 0 (.app 128 (.app 0 (.app 96 (.app 0 (.var 0) (.app 0 (.var 0) (.lit 0))) (.lit 0)) (.app 0 (.app 97 (.app 0 (.var 0) (.app 0 (.var 0) (.lit 0))) (.lit 0)) (.app 0 (.app 96 (.app 0 (.var 1) (.app 0 (.var 1) (.lit 0))) (.lit 0)) (.app 0 (.app 97 (.app 0 (.var 1) (.app 0 (.var 1) (.lit 0))) (.lit 0)) (.lit 0))))) (.lit 0)) (.app 0 (.app 129 (.app 0 (.app 96 (.app 0 (.var 0) (.app 0 (.var 0) (.lit 0))) (.lit 0)) (.app 0 (.app 97 (.app 0 (.var 0) (.app 0 (.var 0) (.lit 0))) (.lit 0)) (.app 0 (.app 96 (.app 0 (.var 1) (.app 0 (.var 1) (.lit 0))) (.lit 0)) (.app 0 (.app 97 (.app 0 (.var 1) (.app 0 (.var 1) (.lit 0))) (.lit 0)) (.lit 0))))) (.lit 0)) (.app 0 (.app 96 (.app 0 (.var 2) (.app 0 (.var 2) (.lit 0))) (.lit 0)) (.app 0 (.app 97 (.app 0 (.var 2) (.app 0 (.var 2) (.lit 0))) (.lit 0)) (.lit 0))))) (.lit 0)), (.lit 0)]) (.leaf [(.lit 0), (.lit 0), (.app 130 (.app 0 (.app 128 (.app 0 (.app 96 (.app 0 (.var 0) (.app 0 (.var 0) (.lit 0))) (.lit 0)) (.app 0 (.app 97 (.app 0 (.var 0) (.app 0 (.var 0) (.lit 0))) (.lit 0)) (.app 0 (.app 96 (.app 0 (.var 1) (.app 0 (.var 1) (.lit 0))) (.lit 0)) (.app 0 (.app 97 (.app 0 (.var 1) (.app 0 (.var 1) (.lit 0))) (.lit 0)) (.lit 0))))) (.lit 0)) (.app 0 (.app 129 (.app 0 (.app 96 (.app 0 (.var 0) (.app 0 (.var 0) (.lit 0))) (.lit 0)) (.app 0 (.app 97 (.app 0 (.var 0) (.app 0 (.var 0) (.lit 0))) (.lit 0)) (.app 0 (.app 96 (.app 0 (.var 1) (.app 0 (.var 1) (.lit 0))) (.lit 0)) (.app 0 (.app 97 (.app 0 (.var 1) (.app 0 (.var 1) (.lit 0))) (.lit 0)) (.lit 0))))) (.lit 0)) (.app 0 (.app 96 (.app 0 (.var 2) (.app 0 (.var 2) (.lit 0))) (.lit 0)) (.app 0 (.app 97 (.app 0 (.var 2) (.app 0 (.var 2) (.lit 0))) (.lit 0)) (.lit 0))))) (.lit 0))])) (.leaf [(.lit 0), (.lit 0), (.app 130 (.app 0 (.app 96 (.app 0 (.var 0) (.app 0 (.var 0) (.lit 0))) (.lit 0)) (.app 0 (.app 97 (.app 0 (.var 0) (.app 0 (.var 0) (.lit 0))) (.lit 0)) (.app 0 (.app 96 (.app 0 (.var 1) (.app 0 (.var 1) (.lit 0))) (.lit 0)) (.app 0 (.app 97 (.app 0 (.var 1) (.app 0 (.var 1) (.lit 0))) (.lit 0)) (.lit 0))))) (.lit 0))]))
def Fs : List (List Int → List Int) := [fun _ => [], fun _ => [], CProd.F, CPlus.F]
def F : List Int → List Int := fun ns => rt.ev (valC Fs ns)
def ext : List (Nat × Ext) := [(24, .con CProd.con), (40, .con CProd.con), (22, .con CPlus.con), (34, .con CPlus.con), (54, .add64), (55, .sub64)]
theorem exts : ∀ p ∈ ext, ExtRow Try.prog p.1 p.2 := by
  intro p hp
  simp only [ext, List.mem_cons, List.not_mem_nil, or_false] at hp
  rcases hp with rfl | rfl | rfl | rfl | rfl | rfl
  · exact .inl (.inr ⟨_, rfl⟩)
  · exact .inl (.inr ⟨_, rfl⟩)
  · exact .inl (.inr ⟨_, rfl⟩)
  · exact .inl (.inr ⟨_, rfl⟩)
  · exact .inr ⟨Try.f54, Try.func54, by kernel_rfl, by kernel_rfl, by kernel_rfl, by kernel_rfl⟩
  · exact .inr ⟨Try.f55, Try.func55, by kernel_rfl, by kernel_rfl, by kernel_rfl, by kernel_rfl⟩
theorem cons (L : List Fact) (E : @Env ⟨L⟩) (hv : (@Env.val ⟨L⟩ E).f = tabF Fs) : @ConOk ⟨L⟩ E Try.prog ext :=
  letI : FactsC := ⟨L⟩
  letI := E
  conOk_cons (by decide) (named_tab (k := 2) hv rfl rfl (by decide)) CProd.f24.ok (conOk_cons (by decide) (named_tab (k := 2) hv rfl rfl (by decide)) CProd.f40.ok (conOk_cons (by decide) (named_tab (k := 3) hv rfl rfl (by decide)) CPlus.f22.ok (conOk_cons (by decide) (named_tab (k := 3) hv rfl rfl (by decide)) CPlus.f34.ok (conOk_none rfl))))
theorem names : namesB Try.prog = true := by kernel_rfl
namespace f23
def deadsC : List Dead := []
set_option maxRecDepth 100000 in
theorem deadsC_ok : deadsB deadsC = true := by kernel_rfl
def deads : List (List Fact) := deadsC.map Dead.cl ++ []
def facts0 : List Fact := [⟨(.var 0), 9223372036854775807, true⟩, ⟨(.var 0), (-9223372036854775809), false⟩, ⟨(.var 1), 9223372036854775807, true⟩, ⟨(.var 1), (-9223372036854775809), false⟩, ⟨(.var 2), 9223372036854775807, true⟩, ⟨(.var 2), (-9223372036854775809), false⟩]

theorem deads_no (v : VAL) : ∀ cl ∈ deads, ¬ ∀ f ∈ cl, f.holds v := by
  intro cl h
  rcases List.mem_append.1 h with h | h
  · exact deadsB_ok deadsC_ok v cl h
  cases h
noncomputable def theRun : List Fact → Bool := fun F => @runC ⟨F⟩ Try.prog ext [] 300 23 con.args (@isRT ⟨F⟩ con.res rt)
def part0 : STree := (.split (.app 130 (.app 0 (.app 96 (.app 0 (.var 0) (.app 0 (.var 0) (.lit 0))) (.lit 0)) (.app 0 (.app 97 (.app 0 (.var 0) (.app 0 (.var 0) (.lit 0))) (.lit 0)) (.app 0 (.app 96 (.app 0 (.var 1) (.app 0 (.var 1) (.lit 0))) (.lit 0)) (.app 0 (.app 97 (.app 0 (.var 1) (.app 0 (.var 1) (.lit 0))) (.lit 0)) (.lit 0))))) (.lit 0)) 0 (.split (.app 130 (.app 0 (.app 128 (.app 0 (.app 96 (.app 0 (.var 0) (.app 0 (.var 0) (.lit 0))) (.lit 0)) (.app 0 (.app 97 (.app 0 (.var 0) (.app 0 (.var 0) (.lit 0))) (.lit 0)) (.app 0 (.app 96 (.app 0 (.var 1) (.app 0 (.var 1) (.lit 0))) (.lit 0)) (.app 0 (.app 97 (.app 0 (.var 1) (.app 0 (.var 1) (.lit 0))) (.lit 0)) (.lit 0))))) (.lit 0)) (.app 0 (.app 129 (.app 0 (.app 96 (.app 0 (.var 0) (.app 0 (.var 0) (.lit 0))) (.lit 0)) (.app 0 (.app 97 (.app 0 (.var 0) (.app 0 (.var 0) (.lit 0))) (.lit 0)) (.app 0 (.app 96 (.app 0 (.var 1) (.app 0 (.var 1) (.lit 0))) (.lit 0)) (.app 0 (.app 97 (.app 0 (.var 1) (.app 0 (.var 1) (.lit 0))) (.lit 0)) (.lit 0))))) (.lit 0)) (.app 0 (.app 96 (.app 0 (.var 2) (.app 0 (.var 2) (.lit 0))) (.lit 0)) (.app 0 (.app 97 (.app 0 (.var 2) (.app 0 (.var 2) (.lit 0))) (.lit 0)) (.lit 0))))) (.lit 0)) 0 .leaf .leaf) .leaf)
set_option maxRecDepth 100000 in
theorem ranp0 : checkT theRun deads part0 (facts0) = true := by kernel_rfl
theorem ok : conN Try.prog 23 con F := con_tree (F0 := facts0) Fs (by kernel_rfl) exts (Go.Ev.knownOk_none rfl) cons names Try.func23 (by kernel_rfl) ranp0 deads_no (by kernel_rfl) (by kernel_rfl)
end f23
namespace f38
def deadsC : List Dead := []
set_option maxRecDepth 100000 in
theorem deadsC_ok : deadsB deadsC = true := by kernel_rfl
def deads : List (List Fact) := deadsC.map Dead.cl ++ []
def facts0 : List Fact := [⟨(.var 0), 9223372036854775807, true⟩, ⟨(.var 0), (-9223372036854775809), false⟩, ⟨(.var 1), 9223372036854775807, true⟩, ⟨(.var 1), (-9223372036854775809), false⟩, ⟨(.var 2), 9223372036854775807, true⟩, ⟨(.var 2), (-9223372036854775809), false⟩]

theorem deads_no (v : VAL) : ∀ cl ∈ deads, ¬ ∀ f ∈ cl, f.holds v := by
  intro cl h
  rcases List.mem_append.1 h with h | h
  · exact deadsB_ok deadsC_ok v cl h
  cases h
noncomputable def theRun : List Fact → Bool := fun F => @runC ⟨F⟩ Try.prog ext [] 300 38 con.args (@isRT ⟨F⟩ con.res rt)
def part0 : STree := (.split (.app 130 (.app 0 (.app 96 (.app 0 (.var 0) (.app 0 (.var 0) (.lit 0))) (.lit 0)) (.app 0 (.app 97 (.app 0 (.var 0) (.app 0 (.var 0) (.lit 0))) (.lit 0)) (.app 0 (.app 96 (.app 0 (.var 1) (.app 0 (.var 1) (.lit 0))) (.lit 0)) (.app 0 (.app 97 (.app 0 (.var 1) (.app 0 (.var 1) (.lit 0))) (.lit 0)) (.lit 0))))) (.lit 0)) 0 (.split (.app 130 (.app 0 (.app 128 (.app 0 (.app 96 (.app 0 (.var 0) (.app 0 (.var 0) (.lit 0))) (.lit 0)) (.app 0 (.app 97 (.app 0 (.var 0) (.app 0 (.var 0) (.lit 0))) (.lit 0)) (.app 0 (.app 96 (.app 0 (.var 1) (.app 0 (.var 1) (.lit 0))) (.lit 0)) (.app 0 (.app 97 (.app 0 (.var 1) (.app 0 (.var 1) (.lit 0))) (.lit 0)) (.lit 0))))) (.lit 0)) (.app 0 (.app 129 (.app 0 (.app 96 (.app 0 (.var 0) (.app 0 (.var 0) (.lit 0))) (.lit 0)) (.app 0 (.app 97 (.app 0 (.var 0) (.app 0 (.var 0) (.lit 0))) (.lit 0)) (.app 0 (.app 96 (.app 0 (.var 1) (.app 0 (.var 1) (.lit 0))) (.lit 0)) (.app 0 (.app 97 (.app 0 (.var 1) (.app 0 (.var 1) (.lit 0))) (.lit 0)) (.lit 0))))) (.lit 0)) (.app 0 (.app 96 (.app 0 (.var 2) (.app 0 (.var 2) (.lit 0))) (.lit 0)) (.app 0 (.app 97 (.app 0 (.var 2) (.app 0 (.var 2) (.lit 0))) (.lit 0)) (.lit 0))))) (.lit 0)) 0 .leaf .leaf) .leaf)
set_option maxRecDepth 100000 in
theorem ranp0 : checkT theRun deads part0 (facts0) = true := by kernel_rfl
theorem ok : conN Try.prog 38 con F := con_tree (F0 := facts0) Fs (by kernel_rfl) exts (Go.Ev.knownOk_none rfl) cons names Try.func38 (by kernel_rfl) ranp0 deads_no (by kernel_rfl) (by kernel_rfl)
end f38
end Go.Proofs.Ytcddopooofdgcaa.CNorm
