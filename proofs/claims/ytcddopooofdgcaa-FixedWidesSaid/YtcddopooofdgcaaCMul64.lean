/- What Mul64 returns, by cases: functions ['math/bits.Mul64'] of the seat. -/
import Derived.Test.YtcddopooofdgcaaRows
import Derived.WalkKit
import Derived.Test.YtcddopooofdgcaaEvV
import Derived.Test.YtcddopooofdgcaaEvW
namespace Go.Proofs.Ytcddopooofdgcaa.CMul64
open Go.Ev Go.RowKit
set_option linter.unusedVariables false
def con : Con := ⟨32, [.one (.int .u64), .one (.int .u64)], [.one ⟨.int .u64, 0, 18446744073709551614⟩, .one ⟨.int .u64, 0, 18446744073709551615⟩], false⟩
def rt : RTree := (.leaf [(.bin .add (.bin .add (.bin .mul (.bin .fdiv (.var 0) (.lit 4294967296)) (.bin .fdiv (.var 1) (.lit 4294967296))) (.bin .fdiv (.bin .add (.bin .mul (.bin .fdiv (.var 0) (.lit 4294967296)) (.bin (.and .u64) (.var 1) (.lit 4294967295))) (.bin .fdiv (.bin .mul (.bin (.and .u64) (.var 0) (.lit 4294967295)) (.bin (.and .u64) (.var 1) (.lit 4294967295))) (.lit 4294967296))) (.lit 4294967296))) (.bin .fdiv (.bin .add (.bin (.and .u64) (.bin .add (.bin .mul (.bin .fdiv (.var 0) (.lit 4294967296)) (.bin (.and .u64) (.var 1) (.lit 4294967295))) (.bin .fdiv (.bin .mul (.bin (.and .u64) (.var 0) (.lit 4294967295)) (.bin (.and .u64) (.var 1) (.lit 4294967295))) (.lit 4294967296))) (.lit 4294967295)) (.bin .mul (.bin (.and .u64) (.var 0) (.lit 4294967295)) (.bin .fdiv (.var 1) (.lit 4294967296)))) (.lit 4294967296))), (.wrap .u64 (.bin .mul (.var 0) (.var 1)))])
def Fs : List (List Int → List Int) := []
def F : List Int → List Int := fun ns => rt.ev (valC Fs ns)
def ext : List (Nat × Ext) := [(54, .add64), (55, .sub64)]
theorem exts : ∀ p ∈ ext, ExtRow Try.prog p.1 p.2 := by
  intro p hp
  simp only [ext, List.mem_cons, List.not_mem_nil, or_false] at hp
  rcases hp with rfl | rfl
  · exact .inr ⟨Try.f54, Try.func54, by kernel_rfl, by kernel_rfl, by kernel_rfl, by kernel_rfl⟩
  · exact .inr ⟨Try.f55, Try.func55, by kernel_rfl, by kernel_rfl, by kernel_rfl, by kernel_rfl⟩
theorem cons (L : List Fact) (E : @Env ⟨L⟩) (hv : (@Env.val ⟨L⟩ E).f = tabF Fs) : @ConOk ⟨L⟩ E Try.prog ext :=
  letI : FactsC := ⟨L⟩
  letI := E
  conOk_none rfl
theorem names : namesB Try.prog = true := by kernel_rfl
namespace f62
def deadsC : List Dead := []
set_option maxRecDepth 100000 in
theorem deadsC_ok : deadsB deadsC = true := by kernel_rfl
def deads : List (List Fact) := deadsC.map Dead.cl ++ []
def facts0 : List Fact := [⟨(.var 0), 18446744073709551615, true⟩, ⟨(.var 0), (-1), false⟩, ⟨(.var 1), 18446744073709551615, true⟩, ⟨(.var 1), (-1), false⟩]

theorem deads_no (v : VAL) : ∀ cl ∈ deads, ¬ ∀ f ∈ cl, f.holds v := by
  intro cl h
  rcases List.mem_append.1 h with h | h
  · exact deadsB_ok deadsC_ok v cl h
  cases h
noncomputable def theRun : List Fact → Bool := fun F => @runC ⟨F⟩ Try.prog ext [] 300 62 con.args (@isRT ⟨F⟩ con.res rt)
def part0 : STree := .leaf
set_option maxRecDepth 100000 in
theorem ranp0 : checkT theRun deads part0 (facts0) = true := by kernel_rfl
theorem ok : conN Try.prog 62 con F := con_tree (F0 := facts0) Fs (by kernel_rfl) exts (Go.Ev.knownOk_none rfl) cons names Try.func62 (by kernel_rfl) ranp0 deads_no (by kernel_rfl) (by kernel_rfl)
end f62
end Go.Proofs.Ytcddopooofdgcaa.CMul64
