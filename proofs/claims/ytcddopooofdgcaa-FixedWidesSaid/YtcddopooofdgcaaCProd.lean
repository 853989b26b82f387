/- What Prod returns, by cases: functions ['fixed.Prod', 'skyfixref01.Prod'] of the seat. -/
import Derived.Test.YtcddopooofdgcaaRows
import Derived.WalkKit
import Derived.Test.YtcddopooofdgcaaEvV
import Derived.Test.YtcddopooofdgcaaEvW
import Derived.Test.YtcddopooofdgcaaCMul64
import Derived.Test.YtcddopooofdgcaaCSize
namespace Go.Proofs.Ytcddopooofdgcaa.CProd
open Go.Ev Go.RowKit
set_option linter.unusedVariables false
def con : Con := ⟨96, [.one (.int .i64), .one (.int .i64)], [.agg [⟨.int .i64, (-9223372036854775808), 9223372036854775807⟩, ⟨.int .u64, 0, 18446744073709551615⟩]], false⟩
def rt : RTree := (.split (.var 0) (-1) (.split (.var 1) (-1) (.leaf [(.wrap .i64 (.app 32 (.app 0 (.app 64 (.app 0 (.var 0) (.lit 0)) (.lit 0)) (.app 0 (.app 64 (.app 0 (.var 1) (.lit 0)) (.lit 0)) (.lit 0))) (.lit 0))), (.app 33 (.app 0 (.app 64 (.app 0 (.var 0) (.lit 0)) (.lit 0)) (.app 0 (.app 64 (.app 0 (.var 1) (.lit 0)) (.lit 0)) (.lit 0))) (.lit 0))]) (.leaf [(.wrap .i64 (.bin .rem (.bin .add (.bin .sub (.bin .sub (.lit 0) (.app 32 (.app 0 (.app 64 (.app 0 (.var 0) (.lit 0)) (.lit 0)) (.app 0 (.app 64 (.app 0 (.var 1) (.lit 0)) (.lit 0)) (.lit 0))) (.lit 0))) (.bin .sub (.lit 1) (.bin .quo (.bin .add (.bin .sub (.bin .sub (.lit 0) (.app 33 (.app 0 (.app 64 (.app 0 (.var 0) (.lit 0)) (.lit 0)) (.app 0 (.app 64 (.app 0 (.var 1) (.lit 0)) (.lit 0)) (.lit 0))) (.lit 0))) (.lit 0)) (.lit 18446744073709551616)) (.lit 18446744073709551616)))) (.lit 18446744073709551616)) (.lit 18446744073709551616))), (.bin .rem (.bin .add (.bin .sub (.bin .sub (.lit 0) (.app 33 (.app 0 (.app 64 (.app 0 (.var 0) (.lit 0)) (.lit 0)) (.app 0 (.app 64 (.app 0 (.var 1) (.lit 0)) (.lit 0)) (.lit 0))) (.lit 0))) (.lit 0)) (.lit 18446744073709551616)) (.lit 18446744073709551616))])) (.split (.var 1) (-1) (.leaf [(.wrap .i64 (.bin .rem (.bin .add (.bin .sub (.bin .sub (.lit 0) (.app 32 (.app 0 (.app 64 (.app 0 (.var 0) (.lit 0)) (.lit 0)) (.app 0 (.app 64 (.app 0 (.var 1) (.lit 0)) (.lit 0)) (.lit 0))) (.lit 0))) (.bin .sub (.lit 1) (.bin .quo (.bin .add (.bin .sub (.bin .sub (.lit 0) (.app 33 (.app 0 (.app 64 (.app 0 (.var 0) (.lit 0)) (.lit 0)) (.app 0 (.app 64 (.app 0 (.var 1) (.lit 0)) (.lit 0)) (.lit 0))) (.lit 0))) (.lit 0)) (.lit 18446744073709551616)) (.lit 18446744073709551616)))) (.lit 18446744073709551616)) (.lit 18446744073709551616))), (.bin .rem (.bin .add (.bin .sub (.bin .sub (.lit 0) (.app 33 (.app 0 (.app 64 (.app 0 (.var 0) (.lit 0)) (.lit 0)) (.app 0 (.app 64 (.app 0 (.var 1) (.lit 0)) (.lit 0)) (.lit 0))) (.lit 0))) (.lit 0)) (.lit 18446744073709551616)) (.lit 18446744073709551616))]) (.leaf [(.wrap .i64 (.app 32 (.app 0 (.app 64 (.app 0 (.var 0) (.lit 0)) (.lit 0)) (.app 0 (.app 64 (.app 0 (.var 1) (.lit 0)) (.lit 0)) (.lit 0))) (.lit 0))), (.app 33 (.app 0 (.app 64 (.app 0 (.var 0) (.lit 0)) (.lit 0)) (.app 0 (.app 64 (.app 0 (.var 1) (.lit 0)) (.lit 0)) (.lit 0))) (.lit 0))])))
def Fs : List (List Int → List Int) := [CMul64.F, CSize.F]
def F : List Int → List Int := fun ns => rt.ev (valC Fs ns)
def ext : List (Nat × Ext) := [(62, .con CMul64.con), (46, .con CSize.con), (60, .con CSize.con), (54, .add64), (55, .sub64)]
theorem exts : ∀ p ∈ ext, ExtRow Try.prog p.1 p.2 := by
  intro p hp
  simp only [ext, List.mem_cons, List.not_mem_nil, or_false] at hp
  rcases hp with rfl | rfl | rfl | rfl | rfl
  · exact .inl (.inr ⟨_, rfl⟩)
  · exact .inl (.inr ⟨_, rfl⟩)
  · exact .inl (.inr ⟨_, rfl⟩)
  · exact .inr ⟨Try.f54, Try.func54, by kernel_rfl, by kernel_rfl, by kernel_rfl, by kernel_rfl⟩
  · exact .inr ⟨Try.f55, Try.func55, by kernel_rfl, by kernel_rfl, by kernel_rfl, by kernel_rfl⟩
theorem cons (L : List Fact) (E : @Env ⟨L⟩) (hv : (@Env.val ⟨L⟩ E).f = tabF Fs) : @ConOk ⟨L⟩ E Try.prog ext :=
  letI : FactsC := ⟨L⟩
  letI := E
  conOk_cons (by decide) (named_tab (k := 0) hv rfl rfl (by decide)) CMul64.f62.ok (conOk_cons (by decide) (named_tab (k := 1) hv rfl rfl (by decide)) CSize.f46.ok (conOk_cons (by decide) (named_tab (k := 1) hv rfl rfl (by decide)) CSize.f60.ok (conOk_none rfl)))
theorem names : namesB Try.prog = true := by kernel_rfl
namespace f24
def deadsC : List Dead := []
set_option maxRecDepth 100000 in
theorem deadsC_ok : deadsB deadsC = true := by kernel_rfl
def deads : List (List Fact) := deadsC.map Dead.cl ++ []
def facts0 : List Fact := [⟨(.var 0), 9223372036854775807, true⟩, ⟨(.var 0), (-9223372036854775809), false⟩, ⟨(.var 1), 9223372036854775807, true⟩, ⟨(.var 1), (-9223372036854775809), false⟩]

theorem deads_no (v : VAL) : ∀ cl ∈ deads, ¬ ∀ f ∈ cl, f.holds v := by
  intro cl h
  rcases List.mem_append.1 h with h | h
  · exact deadsB_ok deadsC_ok v cl h
  cases h
noncomputable def theRun : List Fact → Bool := fun F => @runC ⟨F⟩ Try.prog ext [] 300 24 con.args (@isRT ⟨F⟩ con.res rt)
def part0 : STree := (.split (.var 0) (-1) (.split (.var 1) (-1) .leaf .leaf) (.split (.var 1) (-1) .leaf .leaf))
set_option maxRecDepth 100000 in
theorem ranp0 : checkT theRun deads part0 (facts0) = true := by kernel_rfl
theorem ok : conN Try.prog 24 con F := con_tree (F0 := facts0) Fs (by kernel_rfl) exts (Go.Ev.knownOk_none rfl) cons names Try.func24 (by kernel_rfl) ranp0 deads_no (by kernel_rfl) (by kernel_rfl)
end f24
namespace f40
def deadsC : List Dead := []
set_option maxRecDepth 100000 in
theorem deadsC_ok : deadsB deadsC = true := by kernel_rfl
def deads : List (List Fact) := deadsC.map Dead.cl ++ []
def facts0 : List Fact := [⟨(.var 0), 9223372036854775807, true⟩, ⟨(.var 0), (-9223372036854775809), false⟩, ⟨(.var 1), 9223372036854775807, true⟩, ⟨(.var 1), (-9223372036854775809), false⟩]

theorem deads_no (v : VAL) : ∀ cl ∈ deads, ¬ ∀ f ∈ cl, f.holds v := by
  intro cl h
  rcases List.mem_append.1 h with h | h
  · exact deadsB_ok deadsC_ok v cl h
  cases h
noncomputable def theRun : List Fact → Bool := fun F => @runC ⟨F⟩ Try.prog ext [] 300 40 con.args (@isRT ⟨F⟩ con.res rt)
def part0 : STree := (.split (.var 0) (-1) (.split (.var 1) (-1) .leaf .leaf) (.split (.var 1) (-1) .leaf .leaf))
set_option maxRecDepth 100000 in
theorem ranp0 : checkT theRun deads part0 (facts0) = true := by kernel_rfl
theorem ok : conN Try.prog 40 con F := con_tree (F0 := facts0) Fs (by kernel_rfl) exts (Go.Ev.knownOk_none rfl) cons names Try.func40 (by kernel_rfl) ranp0 deads_no (by kernel_rfl) (by kernel_rfl)
end f40
end Go.Proofs.Ytcddopooofdgcaa.CProd
