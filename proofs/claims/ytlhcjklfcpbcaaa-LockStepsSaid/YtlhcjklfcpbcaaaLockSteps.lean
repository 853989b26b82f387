/- LockSteps: for every input her call returns true: an evaluator of Go code with symbolic numbers, proved sound over every world, carries the call out on each path of a tree of cases; the paths that no numbers take are shown to be contradictory. Conditions: none beyond the statement's own. -/
import Derived.Test.YtlhcjklfcpbcaaaRows
import Derived.WalkKit
import Derived.ProofKit
import Derived.OpenShut
import Derived.Test.YtlhcjklfcpbcaaaLockStepsBf
import Derived.Test.YtlhcjklfcpbcaaaLockStepsQf0
import Derived.Test.YtlhcjklfcpbcaaaLockStepsQf1
import Derived.Test.YtlhcjklfcpbcaaaLockStepsBt
import Derived.Test.YtlhcjklfcpbcaaaLockStepsQt0
import Derived.Test.YtlhcjklfcpbcaaaLockStepsQt1
import Derived.Test.YtlhcjklfcpbcaaaEvU
namespace Go.Proofs.Ytlhcjklfcpbcaaa.lockSteps
open Go.ChangeShapes Go.WideShapes Go.ChangeAt Go.RowKit
set_option linter.unusedVariables false
theorem own : ownKnob Try.prog.godebug = none := by kernel_rfl
section
open Go.Ev

namespace cf
def top0 : STree := .split (.bin .sub (.var 3) (.var 1)) (-1) part5 part6
theorem rant0 : checkT theRun deads top0 (⟨(.var 3), 0, false⟩ :: ⟨(.var 3), (-1), false⟩ :: ⟨(.var 2), 0, true⟩ :: ⟨(.var 2), (-1), false⟩ :: ⟨(.var 1), 100, true⟩ :: ⟨(.var 1), 0, false⟩ :: ⟨(.var 0), 100, true⟩ :: ⟨(.var 0), 0, false⟩ :: facts0) = true := (checkT_split _ _ _ _ _ _ _).trans (andB_mk ranp5 ranp6)
def top1 : STree := .split (.var 3) 0 part4 top0
theorem rant1 : checkT theRun deads top1 (⟨(.var 3), (-1), false⟩ :: ⟨(.var 2), 0, true⟩ :: ⟨(.var 2), (-1), false⟩ :: ⟨(.var 1), 100, true⟩ :: ⟨(.var 1), 0, false⟩ :: ⟨(.var 0), 100, true⟩ :: ⟨(.var 0), 0, false⟩ :: facts0) = true := (checkT_split _ _ _ _ _ _ _).trans (andB_mk ranp4 rant0)
def top2 : STree := .split (.var 3) (-1) part3 top1
theorem rant2 : checkT theRun deads top2 (⟨(.var 2), 0, true⟩ :: ⟨(.var 2), (-1), false⟩ :: ⟨(.var 1), 100, true⟩ :: ⟨(.var 1), 0, false⟩ :: ⟨(.var 0), 100, true⟩ :: ⟨(.var 0), 0, false⟩ :: facts0) = true := (checkT_split _ _ _ _ _ _ _).trans (andB_mk ranp3 rant1)
def top3 : STree := .split (.bin .sub (.var 2) (.var 0)) (-1) part7 part8
theorem rant3 : checkT theRun deads top3 (⟨(.var 2), 0, false⟩ :: ⟨(.var 2), (-1), false⟩ :: ⟨(.var 1), 100, true⟩ :: ⟨(.var 1), 0, false⟩ :: ⟨(.var 0), 100, true⟩ :: ⟨(.var 0), 0, false⟩ :: facts0) = true := (checkT_split _ _ _ _ _ _ _).trans (andB_mk ranp7 ranp8)
def top4 : STree := .split (.var 2) 0 top2 top3
theorem rant4 : checkT theRun deads top4 (⟨(.var 2), (-1), false⟩ :: ⟨(.var 1), 100, true⟩ :: ⟨(.var 1), 0, false⟩ :: ⟨(.var 0), 100, true⟩ :: ⟨(.var 0), 0, false⟩ :: facts0) = true := (checkT_split _ _ _ _ _ _ _).trans (andB_mk rant2 rant3)
def top5 : STree := .split (.var 2) (-1) part2 top4
theorem rant5 : checkT theRun deads top5 (⟨(.var 1), 100, true⟩ :: ⟨(.var 1), 0, false⟩ :: ⟨(.var 0), 100, true⟩ :: ⟨(.var 0), 0, false⟩ :: facts0) = true := (checkT_split _ _ _ _ _ _ _).trans (andB_mk ranp2 rant4)
def top6 : STree := .split (.var 1) 100 top5 part9
theorem rant6 : checkT theRun deads top6 (⟨(.var 1), 0, false⟩ :: ⟨(.var 0), 100, true⟩ :: ⟨(.var 0), 0, false⟩ :: facts0) = true := (checkT_split _ _ _ _ _ _ _).trans (andB_mk rant5 ranp9)
def top7 : STree := .split (.var 1) 0 part1 top6
theorem rant7 : checkT theRun deads top7 (⟨(.var 0), 100, true⟩ :: ⟨(.var 0), 0, false⟩ :: facts0) = true := (checkT_split _ _ _ _ _ _ _).trans (andB_mk ranp1 rant6)
def top8 : STree := .split (.var 0) 100 top7 part10
theorem rant8 : checkT theRun deads top8 (⟨(.var 0), 0, false⟩ :: facts0) = true := (checkT_split _ _ _ _ _ _ _).trans (andB_mk rant7 ranp10)
def top9 : STree := .split (.var 0) 0 part0 top8
theorem rant9 : checkT theRun deads top9 (facts0) = true := (checkT_split _ _ _ _ _ _ _).trans (andB_mk ranp0 rant8)
theorem ran : checkT (fun F => @runS ⟨F⟩ Try.prog [(17, Go.Ev.Ext.known true)] [] 300 3 args0 isTrue) deads top9 facts0 = true := rant9
end cf
namespace ct
def top0 : STree := .split (.var 3) 0 part4 part5
theorem rant0 : checkT theRun deads top0 (⟨(.var 3), (-1), false⟩ :: ⟨(.var 2), 0, true⟩ :: ⟨(.var 2), (-1), false⟩ :: ⟨(.var 1), 100, true⟩ :: ⟨(.var 1), 0, false⟩ :: ⟨(.var 0), 100, true⟩ :: ⟨(.var 0), 0, false⟩ :: facts0) = true := (checkT_split _ _ _ _ _ _ _).trans (andB_mk ranp4 ranp5)
def top1 : STree := .split (.var 3) (-1) part3 top0
theorem rant1 : checkT theRun deads top1 (⟨(.var 2), 0, true⟩ :: ⟨(.var 2), (-1), false⟩ :: ⟨(.var 1), 100, true⟩ :: ⟨(.var 1), 0, false⟩ :: ⟨(.var 0), 100, true⟩ :: ⟨(.var 0), 0, false⟩ :: facts0) = true := (checkT_split _ _ _ _ _ _ _).trans (andB_mk ranp3 rant0)
def top2 : STree := .split (.bin .sub (.var 2) (.var 0)) 0 part7 part8
theorem rant2 : checkT theRun deads top2 (⟨(.bin .sub (.var 2) (.var 0)), (-1), false⟩ :: ⟨(.var 2), 0, false⟩ :: ⟨(.var 2), (-1), false⟩ :: ⟨(.var 1), 100, true⟩ :: ⟨(.var 1), 0, false⟩ :: ⟨(.var 0), 100, true⟩ :: ⟨(.var 0), 0, false⟩ :: facts0) = true := (checkT_split _ _ _ _ _ _ _).trans (andB_mk ranp7 ranp8)
def top3 : STree := .split (.bin .sub (.var 2) (.var 0)) (-1) part6 top2
theorem rant3 : checkT theRun deads top3 (⟨(.var 2), 0, false⟩ :: ⟨(.var 2), (-1), false⟩ :: ⟨(.var 1), 100, true⟩ :: ⟨(.var 1), 0, false⟩ :: ⟨(.var 0), 100, true⟩ :: ⟨(.var 0), 0, false⟩ :: facts0) = true := (checkT_split _ _ _ _ _ _ _).trans (andB_mk ranp6 rant2)
def top4 : STree := .split (.var 2) 0 top1 top3
theorem rant4 : checkT theRun deads top4 (⟨(.var 2), (-1), false⟩ :: ⟨(.var 1), 100, true⟩ :: ⟨(.var 1), 0, false⟩ :: ⟨(.var 0), 100, true⟩ :: ⟨(.var 0), 0, false⟩ :: facts0) = true := (checkT_split _ _ _ _ _ _ _).trans (andB_mk rant1 rant3)
def top5 : STree := .split (.var 2) (-1) part2 top4
theorem rant5 : checkT theRun deads top5 (⟨(.var 1), 100, true⟩ :: ⟨(.var 1), 0, false⟩ :: ⟨(.var 0), 100, true⟩ :: ⟨(.var 0), 0, false⟩ :: facts0) = true := (checkT_split _ _ _ _ _ _ _).trans (andB_mk ranp2 rant4)
def top6 : STree := .split (.var 1) 100 top5 part9
theorem rant6 : checkT theRun deads top6 (⟨(.var 1), 0, false⟩ :: ⟨(.var 0), 100, true⟩ :: ⟨(.var 0), 0, false⟩ :: facts0) = true := (checkT_split _ _ _ _ _ _ _).trans (andB_mk rant5 ranp9)
def top7 : STree := .split (.var 1) 0 part1 top6
theorem rant7 : checkT theRun deads top7 (⟨(.var 0), 100, true⟩ :: ⟨(.var 0), 0, false⟩ :: facts0) = true := (checkT_split _ _ _ _ _ _ _).trans (andB_mk ranp1 rant6)
def top8 : STree := .split (.var 0) 100 top7 part10
theorem rant8 : checkT theRun deads top8 (⟨(.var 0), 0, false⟩ :: facts0) = true := (checkT_split _ _ _ _ _ _ _).trans (andB_mk rant7 ranp10)
def top9 : STree := .split (.var 0) 0 part0 top8
theorem rant9 : checkT theRun deads top9 (facts0) = true := (checkT_split _ _ _ _ _ _ _).trans (andB_mk ranp0 rant8)
theorem ran : checkT (fun F => @runS ⟨F⟩ Try.prog [(17, Go.Ev.Ext.known true)] [] 300 3 args0 isTrue) deads top9 facts0 = true := rant9
end ct
theorem names : namesB Try.prog = true := by kernel_rfl
end
theorem exts : ∀ p ∈ ([(17, Go.Ev.Ext.known true)] : List (Nat × Go.Ev.Ext)), Go.Ev.ExtRow Try.prog p.1 p.2 := by
  intro p hp
  simp only [List.mem_cons, List.not_mem_nil, or_false] at hp
  rcases hp with rfl
  · exact .inl ⟨_, rfl⟩
theorem exts0 : ∀ p ∈ ([] : List (Nat × Go.Ev.Ext)), Go.Ev.ExtRow Try.prog p.1 p.2 := by
  intro p hp
  cases hp
set_option maxRecDepth 100000 in
theorem ran17 : @Go.Ev.run1 ⟨[]⟩ Try.prog [] [] 5000 17 = true := by kernel_rfl
theorem known17 (w : World) : Calls Try.prog 17 #[] w fun e w' => e = .returned (.bool true) ∧ Below w.heap.size w w' := by
  letI : Go.Ev.FactsC := ⟨[]⟩
  letI : Go.Ev.Env := ⟨fun _ => 0, fun f hf => by cases hf⟩
  exact Go.Ev.run0_sound (by kernel_rfl) exts0 (Go.Ev.knownOk_none rfl) names Try.func17 (by kernel_rfl) ran17 w
theorem knowns : Go.Ev.KnownOk Try.prog [(17, Go.Ev.Ext.known true)] := Go.Ev.knownOk_cons known17 (Go.Ev.knownOk_none rfl)
theorem walk (x0 : Int) (x1 : Int) (x2 : Int) (x3 : Int) (x4 : Int) (x5 : Int) (x6 : Int) (b0 : Bool) (w0 : (Lit.int .i64 x0).wf = true) (w1 : (Lit.int .i64 x1).wf = true) (w2 : (Lit.int .i64 x2).wf = true) (w3 : (Lit.int .i64 x3).wf = true) (w4 : (Lit.int .i64 x4).wf = true) (w5 : (Lit.int .i64 x5).wf = true) (w6 : (Lit.int .i64 x6).wf = true) (w : World) :
    Calls Try.prog 3 #[.agg #[.int .i64 x0, .int .i64 x1, .int .i64 x2, .int .i64 x3, .bool b0], .int .i64 x4, .int .i64 x5, .int .i64 x6] w fun e w' => e = .returned (.bool true) ∧ Below w.heap.size w w' := by
  let v : Nat → Int := fun k => match k with | 0 => x0 | 1 => x1 | 2 => x2 | 3 => x3 | 4 => x4 | 5 => x5 | 6 => x6 | _ => 0
  cases b0
  · refine Go.Ev.checkT_ok (v := v) (fun F hrun hF => ?_) (cf.deads_no v) cf.ran (fun f hf => by cases hf)
    letI : Go.Ev.FactsC := ⟨F⟩
    letI : Go.Ev.Env := ⟨v, hF⟩
    refine (Go.Ev.runS_sound (args' := [.agg #[.int .i64 x0, .int .i64 x1, .int .i64 x2, .int .i64 x3, .bool false], .int .i64 x4, .int .i64 x5, .int .i64 x6]) (by kernel_rfl) exts knowns names Try.func3 (by kernel_rfl) hrun w (fun p hp => by cases hp) (fun φ => .cons (Go.Ev.VR.agg (.cons (Go.Ev.num_vr .i64 0 rfl w0 φ) (.cons (Go.Ev.num_vr .i64 1 rfl w1 φ) (.cons (Go.Ev.num_vr .i64 2 rfl w2 φ) (.cons (Go.Ev.num_vr .i64 3 rfl w3 φ) (.cons (.bool _) (.nil))))))) (.cons (Go.Ev.num_vr .i64 4 rfl w4 φ) (.cons (Go.Ev.num_vr .i64 5 rfl w5 φ) (.cons (Go.Ev.num_vr .i64 6 rfl w6 φ) (.nil)))))).mono fun e w' ⟨⟨u, φ, r, h1, h2, h3⟩, hb⟩ => ⟨?_, hb⟩
    obtain ⟨b, rfl, hb'⟩ := Go.Ev.asBool_ok (show Go.Ev.asBool u (fun b => b) = true from h1)
    subst hb'
    cases h2
    exact h3
  · refine Go.Ev.checkT_ok (v := v) (fun F hrun hF => ?_) (ct.deads_no v) ct.ran (fun f hf => by cases hf)
    letI : Go.Ev.FactsC := ⟨F⟩
    letI : Go.Ev.Env := ⟨v, hF⟩
    refine (Go.Ev.runS_sound (args' := [.agg #[.int .i64 x0, .int .i64 x1, .int .i64 x2, .int .i64 x3, .bool true], .int .i64 x4, .int .i64 x5, .int .i64 x6]) (by kernel_rfl) exts knowns names Try.func3 (by kernel_rfl) hrun w (fun p hp => by cases hp) (fun φ => .cons (Go.Ev.VR.agg (.cons (Go.Ev.num_vr .i64 0 rfl w0 φ) (.cons (Go.Ev.num_vr .i64 1 rfl w1 φ) (.cons (Go.Ev.num_vr .i64 2 rfl w2 φ) (.cons (Go.Ev.num_vr .i64 3 rfl w3 φ) (.cons (.bool _) (.nil))))))) (.cons (Go.Ev.num_vr .i64 4 rfl w4 φ) (.cons (Go.Ev.num_vr .i64 5 rfl w5 φ) (.cons (Go.Ev.num_vr .i64 6 rfl w6 φ) (.nil)))))).mono fun e w' ⟨⟨u, φ, r, h1, h2, h3⟩, hb⟩ => ⟨?_, hb⟩
    obtain ⟨b, rfl, hb'⟩ := Go.Ev.asBool_ok (show Go.Ev.asBool u (fun b => b) = true from h1)
    subst hb'
    cases h2
    exact h3

set_option maxRecDepth 100000 in
theorem lifted (os : Os) (started : os.Started) (H : Type) (enc : TypeId × Value → H) :
    ReturnsInHanded {} Try.checked os 3 .any (Rows.lockStepsSpec.pre6 enc Try.prog Try.f3 Rows.lockStepsRow.domain false) (Rows.lockStepsSpec.post enc Try.prog Try.f3 false true false false) := by
  refine returnsInHanded_of_change (C := Try.checked) own started (by kernel_rfl) Try.func3
    (ChangeSpec.witness6 (enc := enc) (C := Try.checked) false ⟨#[], #[.agg #[.int .i64 0, .int .i64 0, .int .i64 0, .int .i64 0, .bool false], .int .i64 0, .int .i64 0, .int .i64 0], []⟩ 8 (by kernel_rfl) (by kernel_rfl) (by kernel_rfl) (by kernel_rfl)) ?_
  intro W base args ds gs before hval0 hW hcnd _
  have hval : ∀ (j : Nat) t v, Try.f3.params[j]? = some t → args[j]? = some v → Value.okWide Try.prog W .any base t v := hval0
  have hW' := hW
  obtain ⟨p, q, hA0, hV, rfl, hfz, hnd⟩ := hW
  have hA : DataW.TrodAll enc Try.prog W 0 (fun _ => true) true Try.f3.params.toList args.toList ds p := hA0
  rw [Try.params3] at hA hval
  obtain ⟨v0, vs0, d0, ds0, p0, q0, hargs, rfl, rfl, h0, r0⟩ := trodAll_cons hA
  obtain ⟨v1, vs1, d1, ds1, p1, q1, rfl, rfl, rfl, h1, r1⟩ := trodAll_cons r0
  obtain ⟨v2, vs2, d2, ds2, p2, q2, rfl, rfl, rfl, h2, r2⟩ := trodAll_cons r1
  obtain ⟨v3, vs3, d3, ds3, p3, q3, rfl, rfl, rfl, h3, r3⟩ := trodAll_cons r2
  obtain ⟨rfl, rfl, rfl⟩ := trodAll_nil r3
  obtain rfl : args = #[v0, v1, v2, v3] := by cases args; simp_all
  obtain ⟨rfl, rfl⟩ := trodVars_none hV
  obtain ⟨cs0, rfl, hc0, rfl, sh0⟩ := Go.Ev.open_plain (n := 6) Try.underlying23 (by kernel_rfl : Go.Ev.plainK Try.prog 6 23 = some [.int .i64, .int .i64, .int .i64, .int .i64, .bool]) (hval 0 23 v0 rfl rfl) h0
  obtain ⟨x0, tl0x0, rfl, w0, hc0x0⟩ := hc0.int_inv
  obtain ⟨x1, tl0x1, rfl, w1, hc0x1⟩ := hc0x0.int_inv
  obtain ⟨x2, tl0x2, rfl, w2, hc0x2⟩ := hc0x1.int_inv
  obtain ⟨x3, tl0x3, rfl, w3, hc0x3⟩ := hc0x2.int_inv
  obtain ⟨b0, tl0x4, rfl, hc0x4⟩ := hc0x3.bool_inv
  obtain rfl := hc0x4.nil_inv
  obtain ⟨x4, rfl, rfl, rfl, w4⟩ := open_int Try.underlying3 (hval 1 3 v1 rfl rfl) h1
  obtain ⟨x5, rfl, rfl, rfl, w5⟩ := open_int Try.underlying3 (hval 2 3 v2 rfl rfl) h2
  obtain ⟨x6, rfl, rfl, rfl, w6⟩ := open_int Try.underlying3 (hval 3 3 v3 rfl rfl) h3
  clear hA0 hval0
  simp only [List.append_nil, List.nil_append] at hW'
  refine (walk x0 x1 x2 x3 x4 x5 x6 b0 w0 w1 w2 w3 w4 w5 w6 W).mono fun e W' ⟨he, hg⟩ => ?_
  subst he
  exact ⟨_, rfl, Go.Ev.post_below (pa := []) (pv := []) hW' (fun _ _ _ => (trodAll_cons_mk (shut_bool Try.underlying4 _) trodAll_mk0)) (fun sp _ => (trodAll_cons_mk (sh0 _ _ _ _) (trodAll_cons_mk (shut_int Try.underlying3 w4) (trodAll_cons_mk (shut_int Try.underlying3 w5) (trodAll_cons_mk (shut_int Try.underlying3 w6) trodAll_mk0))))) (fun _ _ => rfl) rfl
    hg (ok_one (by kernel_rfl) rfl (okWide_bool_mk Try.underlying4 _))⟩

theorem over : Rows.lockStepsRow.holds Try.pinned (OpenSpec.ofChange Rows.lockStepsSpec) :=
  OpenClaim.holds_of_wide 3 Try.f3 rfl rfl rfl rfl rfl rfl rfl ⟨rfl, rfl, rfl, rfl, rfl⟩ rfl rfl rfl rfl rfl (by kernel_rfl) Try.func3 (by kernel_rfl)
    (of_decide_eq_true (by kernel_rfl)) (by unfold Func.isWrapper; first | (rw [if_pos (by decide +kernel)]; kernel_rfl) | (rw [if_neg (by decide +kernel)]; exact ⟨rfl, rfl⟩))
    (fun os started H enc _ => lifted os started H enc)

/-- the statement -/
theorem proved : Rows.LockStepsSaid :=
  over
#print axioms proved
end Go.Proofs.Ytlhcjklfcpbcaaa.lockSteps
