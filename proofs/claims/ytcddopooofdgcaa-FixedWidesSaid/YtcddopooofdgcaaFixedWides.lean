/- FixedWides: for every input her call returns true: an evaluator of Go code with symbolic numbers, proved sound over every world, carries the call out on each path of a tree of cases; the paths that no numbers take are shown to be contradictory. Conditions: none beyond the statement's own. -/
import Derived.Test.YtcddopooofdgcaaRows
import Derived.WalkKit
import Derived.ProofKit
import Derived.OpenShut
import Derived.Test.YtcddopooofdgcaaEvV
import Derived.Test.YtcddopooofdgcaaEvW
import Derived.Test.YtcddopooofdgcaaCProd
import Derived.Test.YtcddopooofdgcaaCPlus
import Derived.Test.YtcddopooofdgcaaCMinus
import Derived.Test.YtcddopooofdgcaaCCmp
import Derived.Test.YtcddopooofdgcaaCNarrow
import Derived.Test.YtcddopooofdgcaaCNorm
namespace Go.Proofs.Ytcddopooofdgcaa.fixedWides
open Go.ChangeShapes Go.WideShapes Go.ChangeAt Go.RowKit
set_option linter.unusedVariables false
theorem own : ownKnob Try.prog.godebug = none := by kernel_rfl
section
open Go.Ev

namespace c
def deadsC : List Dead := []
set_option maxRecDepth 100000 in
theorem deadsC_ok : deadsB deadsC = true := by kernel_rfl
def deads : List (List Fact) := deadsC.map Dead.cl ++ []
def tree : STree := (.split (.app 130 (.app 0 (.var 0) (.app 0 (.var 1) (.app 0 (.var 2) (.app 0 (.var 3) (.lit 0))))) (.lit 0)) 0 (.split (.app 162 (.app 0 (.var 0) (.app 0 (.var 1) (.app 0 (.var 2) (.app 0 (.var 3) (.lit 0))))) (.lit 0)) 0 (.split (.app 225 (.app 0 (.var 0) (.app 0 (.var 1) (.lit 0))) (.lit 0)) 0 (.split (.app 258 (.app 0 (.var 4) (.app 0 (.var 5) (.app 0 (.var 6) (.lit 0)))) (.lit 0)) 0 .leaf .leaf) (.split (.app 258 (.app 0 (.var 4) (.app 0 (.var 5) (.app 0 (.var 6) (.lit 0)))) (.lit 0)) 0 .leaf .leaf)) (.split (.app 225 (.app 0 (.var 0) (.app 0 (.var 1) (.lit 0))) (.lit 0)) 0 (.split (.app 258 (.app 0 (.var 4) (.app 0 (.var 5) (.app 0 (.var 6) (.lit 0)))) (.lit 0)) 0 .leaf .leaf) (.split (.app 258 (.app 0 (.var 4) (.app 0 (.var 5) (.app 0 (.var 6) (.lit 0)))) (.lit 0)) 0 .leaf .leaf))) (.split (.app 162 (.app 0 (.var 0) (.app 0 (.var 1) (.app 0 (.var 2) (.app 0 (.var 3) (.lit 0))))) (.lit 0)) 0 (.split (.app 225 (.app 0 (.var 0) (.app 0 (.var 1) (.lit 0))) (.lit 0)) 0 (.split (.app 258 (.app 0 (.var 4) (.app 0 (.var 5) (.app 0 (.var 6) (.lit 0)))) (.lit 0)) 0 .leaf .leaf) (.split (.app 258 (.app 0 (.var 4) (.app 0 (.var 5) (.app 0 (.var 6) (.lit 0)))) (.lit 0)) 0 .leaf .leaf)) (.split (.app 225 (.app 0 (.var 0) (.app 0 (.var 1) (.lit 0))) (.lit 0)) 0 (.split (.app 258 (.app 0 (.var 4) (.app 0 (.var 5) (.app 0 (.var 6) (.lit 0)))) (.lit 0)) 0 .leaf .leaf) (.split (.app 258 (.app 0 (.var 4) (.app 0 (.var 5) (.app 0 (.var 6) (.lit 0)))) (.lit 0)) 0 .leaf .leaf))))
def facts0 : List Fact := []

theorem deads_no (v : VAL) : ∀ cl ∈ deads, ¬ ∀ f ∈ cl, f.holds v := by
  intro cl h
  rcases List.mem_append.1 h with h | h
  · exact deadsB_ok deadsC_ok v cl h
  cases h
def args0 : List EV := [.agg [.sym .i64 (.var 0) (IntKind.min .i64) (IntKind.max .i64), .sym .u64 (.var 1) (IntKind.min .u64) (IntKind.max .u64)], .agg [.sym .i64 (.var 2) (IntKind.min .i64) (IntKind.max .i64), .sym .u64 (.var 3) (IntKind.min .u64) (IntKind.max .u64)], .agg [.sym .i64 (.var 4) (IntKind.min .i64) (IntKind.max .i64), .sym .i64 (.var 5) (IntKind.min .i64) (IntKind.max .i64), .sym .i64 (.var 6) (IntKind.min .i64) (IntKind.max .i64)]]
set_option maxRecDepth 100000 in
theorem ran : checkT (fun F => @runS ⟨F⟩ Try.prog [(24, Go.Ev.Ext.con Go.Proofs.Ytcddopooofdgcaa.CProd.con), (40, Go.Ev.Ext.con Go.Proofs.Ytcddopooofdgcaa.CProd.con), (22, Go.Ev.Ext.con Go.Proofs.Ytcddopooofdgcaa.CPlus.con), (34, Go.Ev.Ext.con Go.Proofs.Ytcddopooofdgcaa.CPlus.con), (35, Go.Ev.Ext.con Go.Proofs.Ytcddopooofdgcaa.CMinus.con), (36, Go.Ev.Ext.con Go.Proofs.Ytcddopooofdgcaa.CMinus.con), (25, Go.Ev.Ext.con Go.Proofs.Ytcddopooofdgcaa.CCmp.con), (39, Go.Ev.Ext.con Go.Proofs.Ytcddopooofdgcaa.CCmp.con), (21, Go.Ev.Ext.con Go.Proofs.Ytcddopooofdgcaa.CNarrow.con), (37, Go.Ev.Ext.con Go.Proofs.Ytcddopooofdgcaa.CNarrow.con), (23, Go.Ev.Ext.con Go.Proofs.Ytcddopooofdgcaa.CNorm.con), (38, Go.Ev.Ext.con Go.Proofs.Ytcddopooofdgcaa.CNorm.con), (10, Go.Ev.Ext.known true), (54, Go.Ev.Ext.add64), (55, Go.Ev.Ext.sub64)] [] 300 6 args0 isTrue) deads tree facts0 = true := by kernel_rfl
end c
theorem names : namesB Try.prog = true := by kernel_rfl
end
def FsL : List (List Int → List Int) := [fun _ => [], fun _ => [], Go.Proofs.Ytcddopooofdgcaa.CProd.F, Go.Proofs.Ytcddopooofdgcaa.CPlus.F, Go.Proofs.Ytcddopooofdgcaa.CMinus.F, Go.Proofs.Ytcddopooofdgcaa.CCmp.F, Go.Proofs.Ytcddopooofdgcaa.CNarrow.F, Go.Proofs.Ytcddopooofdgcaa.CNorm.F]
theorem consOk (L : List Go.Ev.Fact) (E : @Go.Ev.Env ⟨L⟩) (hv : (@Go.Ev.Env.val ⟨L⟩ E).f = Go.Ev.tabF FsL) : @Go.Ev.ConOk ⟨L⟩ E Try.prog [(24, Go.Ev.Ext.con Go.Proofs.Ytcddopooofdgcaa.CProd.con), (40, Go.Ev.Ext.con Go.Proofs.Ytcddopooofdgcaa.CProd.con), (22, Go.Ev.Ext.con Go.Proofs.Ytcddopooofdgcaa.CPlus.con), (34, Go.Ev.Ext.con Go.Proofs.Ytcddopooofdgcaa.CPlus.con), (35, Go.Ev.Ext.con Go.Proofs.Ytcddopooofdgcaa.CMinus.con), (36, Go.Ev.Ext.con Go.Proofs.Ytcddopooofdgcaa.CMinus.con), (25, Go.Ev.Ext.con Go.Proofs.Ytcddopooofdgcaa.CCmp.con), (39, Go.Ev.Ext.con Go.Proofs.Ytcddopooofdgcaa.CCmp.con), (21, Go.Ev.Ext.con Go.Proofs.Ytcddopooofdgcaa.CNarrow.con), (37, Go.Ev.Ext.con Go.Proofs.Ytcddopooofdgcaa.CNarrow.con), (23, Go.Ev.Ext.con Go.Proofs.Ytcddopooofdgcaa.CNorm.con), (38, Go.Ev.Ext.con Go.Proofs.Ytcddopooofdgcaa.CNorm.con), (10, Go.Ev.Ext.known true), (54, Go.Ev.Ext.add64), (55, Go.Ev.Ext.sub64)] :=
  letI : Go.Ev.FactsC := ⟨L⟩
  letI := E
  Go.Ev.conOk_cons (by decide) (Go.Ev.named_tab (k := 2) hv rfl rfl (by decide)) Go.Proofs.Ytcddopooofdgcaa.CProd.f24.ok (Go.Ev.conOk_cons (by decide) (Go.Ev.named_tab (k := 2) hv rfl rfl (by decide)) Go.Proofs.Ytcddopooofdgcaa.CProd.f40.ok (Go.Ev.conOk_cons (by decide) (Go.Ev.named_tab (k := 3) hv rfl rfl (by decide)) Go.Proofs.Ytcddopooofdgcaa.CPlus.f22.ok (Go.Ev.conOk_cons (by decide) (Go.Ev.named_tab (k := 3) hv rfl rfl (by decide)) Go.Proofs.Ytcddopooofdgcaa.CPlus.f34.ok (Go.Ev.conOk_cons (by decide) (Go.Ev.named_tab (k := 4) hv rfl rfl (by decide)) Go.Proofs.Ytcddopooofdgcaa.CMinus.f35.ok (Go.Ev.conOk_cons (by decide) (Go.Ev.named_tab (k := 4) hv rfl rfl (by decide)) Go.Proofs.Ytcddopooofdgcaa.CMinus.f36.ok (Go.Ev.conOk_cons (by decide) (Go.Ev.named_tab (k := 5) hv rfl rfl (by decide)) Go.Proofs.Ytcddopooofdgcaa.CCmp.f25.ok (Go.Ev.conOk_cons (by decide) (Go.Ev.named_tab (k := 5) hv rfl rfl (by decide)) Go.Proofs.Ytcddopooofdgcaa.CCmp.f39.ok (Go.Ev.conOk_cons (by decide) (Go.Ev.named_tab (k := 6) hv rfl rfl (by decide)) Go.Proofs.Ytcddopooofdgcaa.CNarrow.f21.ok (Go.Ev.conOk_cons (by decide) (Go.Ev.named_tab (k := 6) hv rfl rfl (by decide)) Go.Proofs.Ytcddopooofdgcaa.CNarrow.f37.ok (Go.Ev.conOk_cons (by decide) (Go.Ev.named_tab (k := 7) hv rfl rfl (by decide)) Go.Proofs.Ytcddopooofdgcaa.CNorm.f23.ok (Go.Ev.conOk_cons (by decide) (Go.Ev.named_tab (k := 7) hv rfl rfl (by decide)) Go.Proofs.Ytcddopooofdgcaa.CNorm.f38.ok (Go.Ev.conOk_none rfl))))))))))))
theorem exts : ∀ p ∈ ([(24, Go.Ev.Ext.con Go.Proofs.Ytcddopooofdgcaa.CProd.con), (40, Go.Ev.Ext.con Go.Proofs.Ytcddopooofdgcaa.CProd.con), (22, Go.Ev.Ext.con Go.Proofs.Ytcddopooofdgcaa.CPlus.con), (34, Go.Ev.Ext.con Go.Proofs.Ytcddopooofdgcaa.CPlus.con), (35, Go.Ev.Ext.con Go.Proofs.Ytcddopooofdgcaa.CMinus.con), (36, Go.Ev.Ext.con Go.Proofs.Ytcddopooofdgcaa.CMinus.con), (25, Go.Ev.Ext.con Go.Proofs.Ytcddopooofdgcaa.CCmp.con), (39, Go.Ev.Ext.con Go.Proofs.Ytcddopooofdgcaa.CCmp.con), (21, Go.Ev.Ext.con Go.Proofs.Ytcddopooofdgcaa.CNarrow.con), (37, Go.Ev.Ext.con Go.Proofs.Ytcddopooofdgcaa.CNarrow.con), (23, Go.Ev.Ext.con Go.Proofs.Ytcddopooofdgcaa.CNorm.con), (38, Go.Ev.Ext.con Go.Proofs.Ytcddopooofdgcaa.CNorm.con), (10, Go.Ev.Ext.known true), (54, Go.Ev.Ext.add64), (55, Go.Ev.Ext.sub64)] : List (Nat × Go.Ev.Ext)), Go.Ev.ExtRow Try.prog p.1 p.2 := by
  intro p hp
  simp only [List.mem_cons, List.not_mem_nil, or_false] at hp
  rcases hp with rfl | rfl | rfl | rfl | rfl | rfl | rfl | rfl | rfl | rfl | rfl | rfl | rfl | rfl | rfl
  · exact .inl (.inr ⟨_, rfl⟩)
  · exact .inl (.inr ⟨_, rfl⟩)
  · exact .inl (.inr ⟨_, rfl⟩)
  · exact .inl (.inr ⟨_, rfl⟩)
  · exact .inl (.inr ⟨_, rfl⟩)
  · exact .inl (.inr ⟨_, rfl⟩)
  · exact .inl (.inr ⟨_, rfl⟩)
  · exact .inl (.inr ⟨_, rfl⟩)
  · exact .inl (.inr ⟨_, rfl⟩)
  · exact .inl (.inr ⟨_, rfl⟩)
  · exact .inl (.inr ⟨_, rfl⟩)
  · exact .inl (.inr ⟨_, rfl⟩)
  · exact .inl (.inl ⟨_, rfl⟩)
  · exact .inr ⟨Try.f54, Try.func54, by kernel_rfl, by kernel_rfl, by kernel_rfl, by kernel_rfl⟩
  · exact .inr ⟨Try.f55, Try.func55, by kernel_rfl, by kernel_rfl, by kernel_rfl, by kernel_rfl⟩
theorem exts0 : ∀ p ∈ ([(54, Go.Ev.Ext.add64), (55, Go.Ev.Ext.sub64)] : List (Nat × Go.Ev.Ext)), Go.Ev.ExtRow Try.prog p.1 p.2 := by
  intro p hp
  simp only [List.mem_cons, List.not_mem_nil, or_false] at hp
  rcases hp with rfl | rfl
  · exact .inr ⟨Try.f54, Try.func54, by kernel_rfl, by kernel_rfl, by kernel_rfl, by kernel_rfl⟩
  · exact .inr ⟨Try.f55, Try.func55, by kernel_rfl, by kernel_rfl, by kernel_rfl, by kernel_rfl⟩
set_option maxRecDepth 100000 in
theorem ran10 : @Go.Ev.run1 ⟨[]⟩ Try.prog [(54, Go.Ev.Ext.add64), (55, Go.Ev.Ext.sub64)] [] 5000 10 = true := by kernel_rfl
theorem known10 (w : World) : Calls Try.prog 10 #[] w fun e w' => e = .returned (.bool true) ∧ Below w.heap.size w w' := by
  letI : Go.Ev.FactsC := ⟨[]⟩
  letI : Go.Ev.Env := ⟨⟨fun _ => 0, fun _ => [], fun _ _ _ => (0, [])⟩, fun f hf => by cases hf⟩
  exact Go.Ev.run0_sound (by kernel_rfl) exts0 (Go.Ev.knownOk_none rfl) (Go.Ev.conOk_none rfl) names Try.func10 (by kernel_rfl) ran10 w
theorem knowns : Go.Ev.KnownOk Try.prog [(24, Go.Ev.Ext.con Go.Proofs.Ytcddopooofdgcaa.CProd.con), (40, Go.Ev.Ext.con Go.Proofs.Ytcddopooofdgcaa.CProd.con), (22, Go.Ev.Ext.con Go.Proofs.Ytcddopooofdgcaa.CPlus.con), (34, Go.Ev.Ext.con Go.Proofs.Ytcddopooofdgcaa.CPlus.con), (35, Go.Ev.Ext.con Go.Proofs.Ytcddopooofdgcaa.CMinus.con), (36, Go.Ev.Ext.con Go.Proofs.Ytcddopooofdgcaa.CMinus.con), (25, Go.Ev.Ext.con Go.Proofs.Ytcddopooofdgcaa.CCmp.con), (39, Go.Ev.Ext.con Go.Proofs.Ytcddopooofdgcaa.CCmp.con), (21, Go.Ev.Ext.con Go.Proofs.Ytcddopooofdgcaa.CNarrow.con), (37, Go.Ev.Ext.con Go.Proofs.Ytcddopooofdgcaa.CNarrow.con), (23, Go.Ev.Ext.con Go.Proofs.Ytcddopooofdgcaa.CNorm.con), (38, Go.Ev.Ext.con Go.Proofs.Ytcddopooofdgcaa.CNorm.con), (10, Go.Ev.Ext.known true), (54, Go.Ev.Ext.add64), (55, Go.Ev.Ext.sub64)] := Go.Ev.knownOk_skip (by intro b h; cases h) (Go.Ev.knownOk_skip (by intro b h; cases h) (Go.Ev.knownOk_skip (by intro b h; cases h) (Go.Ev.knownOk_skip (by intro b h; cases h) (Go.Ev.knownOk_skip (by intro b h; cases h) (Go.Ev.knownOk_skip (by intro b h; cases h) (Go.Ev.knownOk_skip (by intro b h; cases h) (Go.Ev.knownOk_skip (by intro b h; cases h) (Go.Ev.knownOk_skip (by intro b h; cases h) (Go.Ev.knownOk_skip (by intro b h; cases h) (Go.Ev.knownOk_skip (by intro b h; cases h) (Go.Ev.knownOk_skip (by intro b h; cases h) (Go.Ev.knownOk_cons known10 (Go.Ev.knownOk_none rfl)))))))))))))
theorem walk (x0 : Int) (x1 : Int) (x2 : Int) (x3 : Int) (x4 : Int) (x5 : Int) (x6 : Int)  (w0 : (Lit.int .i64 x0).wf = true) (w1 : (Lit.int .u64 x1).wf = true) (w2 : (Lit.int .i64 x2).wf = true) (w3 : (Lit.int .u64 x3).wf = true) (w4 : (Lit.int .i64 x4).wf = true) (w5 : (Lit.int .i64 x5).wf = true) (w6 : (Lit.int .i64 x6).wf = true) (w : World) :
    Calls Try.prog 6 #[.agg #[.int .i64 x0, .int .u64 x1], .agg #[.int .i64 x2, .int .u64 x3], .agg #[.int .i64 x4, .int .i64 x5, .int .i64 x6]] w fun e w' => e = .returned (.bool true) ∧ Below w.heap.size w w' := by
  let v : Go.Ev.VAL := ⟨fun k => match k with | 0 => x0 | 1 => x1 | 2 => x2 | 3 => x3 | 4 => x4 | 5 => x5 | 6 => x6 | _ => 0, fun _ => [], Go.Ev.tabF FsL⟩
  refine Go.Ev.checkT_ok (v := v) (fun F hrun hF => ?_) (c.deads_no v) c.ran (fun f hf => by cases hf)
  letI : Go.Ev.FactsC := ⟨F⟩
  letI : Go.Ev.Env := ⟨v, hF⟩
  refine (Go.Ev.runS_sound (args' := [.agg #[.int .i64 x0, .int .u64 x1], .agg #[.int .i64 x2, .int .u64 x3], .agg #[.int .i64 x4, .int .i64 x5, .int .i64 x6]]) (by kernel_rfl) exts knowns (consOk F _ rfl) names Try.func6 (by kernel_rfl) hrun w (fun p hp => by cases hp) (fun φ => .cons (Go.Ev.VR.agg (.cons (Go.Ev.num_vr .i64 0 rfl w0 φ) (.cons (Go.Ev.num_vr .u64 1 rfl w1 φ) (.nil)))) (.cons (Go.Ev.VR.agg (.cons (Go.Ev.num_vr .i64 2 rfl w2 φ) (.cons (Go.Ev.num_vr .u64 3 rfl w3 φ) (.nil)))) (.cons (Go.Ev.VR.agg (.cons (Go.Ev.num_vr .i64 4 rfl w4 φ) (.cons (Go.Ev.num_vr .i64 5 rfl w5 φ) (.cons (Go.Ev.num_vr .i64 6 rfl w6 φ) (.nil))))) (.nil))))).mono fun e w' ⟨⟨u, φ, r, h1, h2, h3⟩, hb⟩ => ⟨?_, hb⟩
  obtain ⟨b, rfl, hb'⟩ := Go.Ev.asBool_ok (show Go.Ev.asBool u (fun b => b) = true from h1)
  subst hb'
  cases h2
  exact h3

set_option maxRecDepth 100000 in
theorem lifted (os : Os) (started : os.Started) (H : Type) (enc : TypeId × Value → H) :
    ReturnsInHanded {} Try.checked os 6 .any (Rows.fixedWidesSpec.pre6 enc Try.prog Try.f6 Rows.fixedWidesRow.domain false) (Rows.fixedWidesSpec.post enc Try.prog Try.f6 false true false false) := by
  refine returnsInHanded_of_change (C := Try.checked) own started (by kernel_rfl) Try.func6
    (ChangeSpec.witness6 (enc := enc) (C := Try.checked) false ⟨#[], #[.agg #[.int .i64 0, .int .u64 0], .agg #[.int .i64 0, .int .u64 0], .agg #[.int .i64 0, .int .i64 0, .int .i64 0]], []⟩ 8 (by kernel_rfl) (by kernel_rfl) (by kernel_rfl) (by kernel_rfl)) ?_
  intro W base args ds gs before hval0 hW hcnd _
  have hval : ∀ (j : Nat) t v, Try.f6.params[j]? = some t → args[j]? = some v → Value.okWide Try.prog W .any base t v := hval0
  have hW' := hW
  obtain ⟨p, q, hA0, hV, rfl, hfz, hnd⟩ := hW
  have hA : DataW.TrodAll enc Try.prog W 0 (fun _ => true) true Try.f6.params.toList args.toList ds p := hA0
  rw [Try.params6] at hA hval
  obtain ⟨v0, vs0, d0, ds0, p0, q0, hargs, rfl, rfl, h0, r0⟩ := trodAll_cons hA
  obtain ⟨v1, vs1, d1, ds1, p1, q1, rfl, rfl, rfl, h1, r1⟩ := trodAll_cons r0
  obtain ⟨v2, vs2, d2, ds2, p2, q2, rfl, rfl, rfl, h2, r2⟩ := trodAll_cons r1
  obtain ⟨rfl, rfl, rfl⟩ := trodAll_nil r2
  obtain rfl : args = #[v0, v1, v2] := by cases args; simp_all
  obtain ⟨rfl, rfl⟩ := trodVars_none hV
  obtain ⟨cs0, rfl, hc0, rfl, sh0⟩ := Go.Ev.open_plain (n := 6) Try.underlying33 (by kernel_rfl : Go.Ev.plainK Try.prog 6 33 = some [.int .i64, .int .u64]) (hval 0 33 v0 rfl rfl) h0
  obtain ⟨x0, tl0x0, rfl, w0, hc0x0⟩ := hc0.int_inv
  obtain ⟨x1, tl0x1, rfl, w1, hc0x1⟩ := hc0x0.int_inv
  obtain rfl := hc0x1.nil_inv
  obtain ⟨cs1, rfl, hc1, rfl, sh1⟩ := Go.Ev.open_plain (n := 6) Try.underlying33 (by kernel_rfl : Go.Ev.plainK Try.prog 6 33 = some [.int .i64, .int .u64]) (hval 1 33 v1 rfl rfl) h1
  obtain ⟨x2, tl1x0, rfl, w2, hc1x0⟩ := hc1.int_inv
  obtain ⟨x3, tl1x1, rfl, w3, hc1x1⟩ := hc1x0.int_inv
  obtain rfl := hc1x1.nil_inv
  obtain ⟨cs2, rfl, hc2, rfl, sh2⟩ := Go.Ev.open_plain (n := 6) Try.underlying38 (by kernel_rfl : Go.Ev.plainK Try.prog 6 38 = some [.int .i64, .int .i64, .int .i64]) (hval 2 38 v2 rfl rfl) h2
  obtain ⟨x4, tl2x0, rfl, w4, hc2x0⟩ := hc2.int_inv
  obtain ⟨x5, tl2x1, rfl, w5, hc2x1⟩ := hc2x0.int_inv
  obtain ⟨x6, tl2x2, rfl, w6, hc2x2⟩ := hc2x1.int_inv
  obtain rfl := hc2x2.nil_inv
  clear hA0 hval0
  simp only [List.append_nil, List.nil_append] at hW'
  refine (walk x0 x1 x2 x3 x4 x5 x6  w0 w1 w2 w3 w4 w5 w6 W).mono fun e W' ⟨he, hg⟩ => ?_
  subst he
  exact ⟨_, rfl, Go.Ev.post_below (pa := []) (pv := []) hW' (fun _ _ _ => (trodAll_cons_mk (shut_bool Try.underlying4 _) trodAll_mk0)) (fun sp _ => (trodAll_cons_mk (sh0 _ _ _ _) (trodAll_cons_mk (sh1 _ _ _ _) (trodAll_cons_mk (sh2 _ _ _ _) trodAll_mk0)))) (fun _ _ => rfl) rfl
    hg (ok_one (by kernel_rfl) rfl (okWide_bool_mk Try.underlying4 _))⟩

theorem over : Rows.fixedWidesRow.holds Try.pinned (OpenSpec.ofChange Rows.fixedWidesSpec) :=
  OpenClaim.holds_of_wide 6 Try.f6 rfl rfl rfl rfl rfl rfl rfl ⟨rfl, rfl, rfl, rfl, rfl⟩ rfl rfl rfl rfl rfl (by kernel_rfl) Try.func6 (by kernel_rfl)
    (of_decide_eq_true (by kernel_rfl)) (by unfold Func.isWrapper; first | (rw [if_pos (by decide +kernel)]; kernel_rfl) | (rw [if_neg (by decide +kernel)]; exact ⟨rfl, rfl⟩))
    (fun os started H enc _ => lifted os started H enc)

/-- the statement -/
theorem proved : Rows.FixedWidesSaid :=
  over
#print axioms proved
end Go.Proofs.Ytcddopooofdgcaa.fixedWides
