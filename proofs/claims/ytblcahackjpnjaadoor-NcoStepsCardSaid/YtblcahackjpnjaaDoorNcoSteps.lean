/- NcoSteps: for every input her call returns true: an evaluator of Go code with symbolic numbers, proved sound over every world, carries the call out on each path of a tree of cases; the paths that no numbers take are shown to be contradictory. Conditions: none beyond the statement's own. -/
import Derived.Test.YtblcahackjpnjaaDoorRows
import Derived.WalkKit
import Derived.ProofKit
import Derived.OpenShut
import Derived.Lay
import Derived.SevenTiedAt
import Derived.Test.YtblcahackjpnjaaDoorTie
import Derived.Test.YtblcahackjpnjaaDoorCards
import Derived.Test.YtblcahackjpnjaaDoorEvG
import Derived.Test.YtblcahackjpnjaaDoorEvU
namespace Go.Proofs.YtblcahackjpnjaaDoor.ncoSteps
open Go.ChangeShapes Go.WideShapes Go.ChangeAt Go.RowKit
set_option linter.unusedVariables false
theorem own : ownKnob Tryd.prog.godebug = none := by kernel_rfl
def tabled : List Int := [127, 126, 125, 122, 117, 112, 106, 98, 90, 81, 71, 60, 49, 37, 25, 12, 0]
section
open Go.Ev

namespace c
def dead0 : List Fact := [⟨(.var 0), (-1), false⟩, ⟨(.bin .sub (.var 0) (.bin .sub (.lit 0) (.var 0))), (-1), true⟩]
theorem dead0_no (v : Nat → Int) : ¬ ∀ f ∈ dead0, f.holds v := by
  intro h
  have h0 : (-1) < v 0 := h _ (.head _)
  have h1 : (v 0 - (0 - v 0)) ≤ (-1) := h _ (.tail _ (.head _))
  clear h
  first | omega | (simp only [Int.mul_add, Int.add_mul, Int.mul_sub, Int.sub_mul, Int.mul_assoc, Int.mul_comm, Int.mul_left_comm] at *; omega) | (simp (disch := omega) only [Go.Ev.w_i64, Go.Ev.w_i32, Go.Ev.w_u64, Go.Ev.w_u32, Go.Ev.w_u8, Go.Ev.tdiv_e, Go.Ev.tmod_e, Go.Ev.fdiv_e] at *; omega) | (simp only [Int.mul_add, Int.add_mul, Int.mul_sub, Int.sub_mul, Int.mul_assoc, Int.mul_comm, Int.mul_left_comm] at *; simp (disch := omega) only [Go.Ev.w_i64, Go.Ev.w_i32, Go.Ev.w_u64, Go.Ev.w_u32, Go.Ev.w_u8, Go.Ev.tdiv_e, Go.Ev.tmod_e, Go.Ev.fdiv_e] at *; omega)
def dead1 : List Fact := [⟨(.var 0), (-1), true⟩, ⟨(.bin .sub (.var 0) (.bin .sub (.lit 0) (.var 0))), (-1), false⟩]
theorem dead1_no (v : Nat → Int) : ¬ ∀ f ∈ dead1, f.holds v := by
  intro h
  have h0 : v 0 ≤ (-1) := h _ (.head _)
  have h1 : (-1) < (v 0 - (0 - v 0)) := h _ (.tail _ (.head _))
  clear h
  first | omega | (simp only [Int.mul_add, Int.add_mul, Int.mul_sub, Int.sub_mul, Int.mul_assoc, Int.mul_comm, Int.mul_left_comm] at *; omega) | (simp (disch := omega) only [Go.Ev.w_i64, Go.Ev.w_i32, Go.Ev.w_u64, Go.Ev.w_u32, Go.Ev.w_u8, Go.Ev.tdiv_e, Go.Ev.tmod_e, Go.Ev.fdiv_e] at *; omega) | (simp only [Int.mul_add, Int.add_mul, Int.mul_sub, Int.sub_mul, Int.mul_assoc, Int.mul_comm, Int.mul_left_comm] at *; simp (disch := omega) only [Go.Ev.w_i64, Go.Ev.w_i32, Go.Ev.w_u64, Go.Ev.w_u32, Go.Ev.w_u8, Go.Ev.tdiv_e, Go.Ev.tmod_e, Go.Ev.fdiv_e] at *; omega)
def deads : List (List Fact) := [dead0, dead1]
def tree : STree := (.split (.var 0) (-1073741825) .leaf (.split (.var 0) 1073741824 (.split (.var 1) 0 .leaf (.split (.var 1) 1073741824 (.split (.bin .sub (.var 0) (.bin .sub (.lit 0) (.var 0))) (-1) (.split (.bin .sub (.bin .mul (.lit 2) (.bin .rem (.bin .mul (.bin .sub (.lit 0) (.var 0)) (.lit 4294967296)) (.var 1))) (.var 1)) (-1) (.split (.var 0) (-1) .leaf (.dead 0)) (.split (.var 0) (-1) .leaf (.dead 0))) (.split (.bin .sub (.bin .mul (.lit 2) (.bin .rem (.bin .mul (.var 0) (.lit 4294967296)) (.var 1))) (.var 1)) (-1) (.split (.var 0) (-1) (.dead 1) .leaf) (.split (.var 0) (-1) (.dead 1) .leaf))) .leaf)) .leaf))
def facts0 : List Fact := []

theorem deads_no (v : Nat → Int) : ∀ cl ∈ deads, ¬ ∀ f ∈ cl, f.holds v := by
  intro cl h
  rcases List.mem_cons.1 h with rfl | h
  · exact dead0_no v
  rcases List.mem_cons.1 h with rfl | h
  · exact dead1_no v
  cases h
def args0 : List EV := [.sym .i64 (.var 0) (IntKind.min .i64) (IntKind.max .i64), .sym .i64 (.var 1) (IntKind.min .i64) (IntKind.max .i64)]
set_option maxRecDepth 100000 in
theorem ran : checkT (fun F => @runS ⟨F⟩ Tryd.prog [] [(0, tabled.map (Go.Ev.EV.int .i64))] 300 5 args0 isTrue) deads tree facts0 = true := by kernel_rfl
end c
theorem names : namesB Tryd.prog = true := by kernel_rfl
end
theorem exts : ∀ p ∈ ([] : List (Nat × Go.Ev.Ext)), Go.Ev.ExtRow Tryd.prog p.1 p.2 := by
  intro p hp
  cases hp
theorem exts0 : ∀ p ∈ ([] : List (Nat × Go.Ev.Ext)), Go.Ev.ExtRow Tryd.prog p.1 p.2 := by
  intro p hp
  cases hp
theorem knowns : Go.Ev.KnownOk Tryd.prog [] := Go.Ev.knownOk_none rfl
theorem walk (x0 : Int) (x1 : Int)  (w0 : (Lit.int .i64 x0).wf = true) (w1 : (Lit.int .i64 x1).wf = true) (w : World) (hl : ∀ (F : List Go.Ev.Fact) (E : @Go.Ev.Env ⟨F⟩), @Go.Ev.Laid ⟨F⟩ E [(0, tabled.map (Go.Ev.EV.int .i64))] w) :
    Calls Tryd.prog 5 #[.int .i64 x0, .int .i64 x1] w fun e w' => e = .returned (.bool true) ∧ Below w.heap.size w w' := by
  let v : Nat → Int := fun k => match k with | 0 => x0 | 1 => x1 | _ => 0
  refine Go.Ev.checkT_ok (v := v) (fun F hrun hF => ?_) (c.deads_no v) c.ran (fun f hf => by cases hf)
  letI : Go.Ev.FactsC := ⟨F⟩
  letI : Go.Ev.Env := ⟨v, hF⟩
  refine (Go.Ev.runS_sound (args' := [.int .i64 x0, .int .i64 x1]) (by kernel_rfl) exts knowns names Tryd.func5 (by kernel_rfl) hrun w (hl F _) (fun φ => .cons (Go.Ev.num_vr .i64 0 rfl w0 φ) (.cons (Go.Ev.num_vr .i64 1 rfl w1 φ) (.nil)))).mono fun e w' ⟨⟨u, φ, r, h1, h2, h3⟩, hb⟩ => ⟨?_, hb⟩
  obtain ⟨b, rfl, hb'⟩ := Go.Ev.asBool_ok (show Go.Ev.asBool u (fun b => b) = true from h1)
  subst hb'
  cases h2
  exact h3

set_option maxRecDepth 100000 in
theorem lifted (os : Os) (started : os.Started) (H : Type) (enc : TypeId × Value → H) :
    ReturnsInHanded {} Tryd.checked os 5 .any (fun w args => (Rows.ncoStepsSpec.pre enc Tryd.prog Tryd.f5 [] false w args ∧ laidMetH Tryd.prog Rows.ncoStepsRow.laid w) ∧ sizedMet enc Tryd.prog Tryd.f5 (OpenSpec.ofChange Rows.ncoStepsSpec) false w args)
      (Rows.ncoStepsSpec.post enc Tryd.prog Tryd.f5 false true false false) := by
  refine returnsInHanded_of_change_and (C := Tryd.checked) (X := fun w _ => laidMetH Tryd.prog Rows.ncoStepsRow.laid w) (fun _ _ _ hh h => h.of_heap hh) own started (by kernel_rfl) Tryd.func5
    (ChangeSpec.witness_shaped (enc := enc) (C := Tryd.checked) (os := os) (X := fun w _ => laidMetH Tryd.prog Rows.ncoStepsRow.laid w) false (World.laidAll Tryd.prog os Rows.ncoStepsRow.laid) #[.int .i64 0, .int .i64 0] 8 (World.laidAll_os _ _ _)
      (World.shaped_of_ZipB (by kernel_rfl) (by kernel_rfl)) (by kernel_rfl) (by kernel_rfl) (by kernel_rfl)
      (by rw [MakeChecks.laidMetH_plain _ _ _ (by kernel_rfl)]; exact laidMet_laidAll _ (by kernel_rfl) (by kernel_rfl))) ?_
  intro W base args ds gs before hval0 hW _ _ hL _
  have hval : ∀ (j : Nat) t v, Tryd.f5.params[j]? = some t → args[j]? = some v → Value.okWide Tryd.prog W .any base t v := hval0
  have hW' := hW
  obtain ⟨p, q, hA0, hV, rfl, _, _⟩ := hW
  have hA : DataW.TrodAll enc Tryd.prog W 0 (fun _ => true) true Tryd.f5.params.toList args.toList ds p := hA0
  rw [Tryd.params5] at hA hval
  obtain ⟨v0, vs0, d0, ds0, p0, q0, hargs, rfl, rfl, h0, r0⟩ := trodAll_cons hA
  obtain ⟨v1, vs1, d1, ds1, p1, q1, rfl, rfl, rfl, h1, r1⟩ := trodAll_cons r0
  obtain ⟨rfl, rfl, rfl⟩ := trodAll_nil r1
  obtain rfl : args = #[v0, v1] := by cases args; simp_all
  obtain ⟨rfl, rfl⟩ := trodVars_none hV
  obtain ⟨x0, rfl, rfl, rfl, w0⟩ := open_int Tryd.underlying3 (hval 0 3 v0 rfl rfl) h0
  obtain ⟨x1, rfl, rfl, rfl, w1⟩ := open_int Tryd.underlying3 (hval 1 3 v1 rfl rfl) h1
  clear hA0 hval0
  simp only [List.append_nil, List.nil_append] at hW'
  rw [MakeChecks.laidMetH_plain _ _ _ (by kernel_rfl)] at hL
  have hl : ∀ (F : List Go.Ev.Fact) (E : @Go.Ev.Env ⟨F⟩), @Go.Ev.Laid ⟨F⟩ E [(0, tabled.map (Go.Ev.EV.int .i64))] W := fun F E => by
    letI : Go.Ev.FactsC := ⟨F⟩
    letI := E
    exact Go.Ev.laid_ints (name := "skyfix/angle.quarter") (n := 17) hL (by kernel_rfl) (by kernel_rfl) Tryd.underlying83 Tryd.underlying3 (by kernel_rfl) (by kernel_rfl) (by decide)
  refine (walk x0 x1  w0 w1 W hl).mono fun e W' ⟨he, hg⟩ => ?_
  subst he
  exact ⟨_, rfl, Go.Ev.post_below (pa := []) (pv := []) hW' (fun _ _ _ => (trodAll_cons_mk (shut_bool Tryd.underlying4 _) trodAll_mk0)) (fun sp _ => (trodAll_cons_mk (shut_int Tryd.underlying3 w0) (trodAll_cons_mk (shut_int Tryd.underlying3 w1) trodAll_mk0))) (fun _ _ => rfl) rfl
    hg (ok_one (by kernel_rfl) rfl (okWide_bool_mk Tryd.underlying4 _))⟩

theorem over : Rows.ncoStepsRow.holds Tryd.pinned (OpenSpec.ofChange Rows.ncoStepsSpec) :=
  OpenClaim.holds_of_wide 5 Tryd.f5 rfl rfl rfl rfl rfl rfl rfl ⟨rfl, rfl, rfl, rfl, rfl⟩ rfl rfl rfl rfl rfl (by kernel_rfl) Tryd.func5 (by kernel_rfl)
    (of_decide_eq_true (by kernel_rfl)) (by unfold Func.isWrapper; first | (rw [if_pos (by decide +kernel)]; kernel_rfl) | (rw [if_neg (by decide +kernel)]; exact ⟨rfl, rfl⟩))
    (fun os started H enc _ => lifted os started H enc)

/-- the card -/
theorem proved : Rows.NcoStepsCardSaid :=
  Claim7.holds_tied_plain_at .later [] [.data] true (true, "660868e5454c00d3562e58b7ef95195a830531557a88d5c2fa4cab1636c216e5") false over (fun _ h => by cases h) (by kernel_rfl) (fun _ h => by cases h) ncoSteps_row_tie rfl ⟨rfl, rfl⟩ (by kernel_rfl) rfl
    (fun f fn hf hfn => by
      obtain rfl : f = 5 := Option.some.inj ((show Tryd.prog.funcNamed "skyfix/skyfixlaw11.NcoSteps" = some 5 by kernel_rfl).symm.trans hf) |>.symm
      obtain rfl : fn = Tryd.f5 := (Option.some.inj (Tryd.func5.symm.trans hfn)).symm
      exact ⟨by kernel_rfl, fun j t ht => by
        rw [Tryd.params5] at ht
        have hm := List.mem_of_getElem? (by simpa using ht)
        simp only [List.mem_cons, List.not_mem_nil, or_false] at hm
        rcases hm with rfl | rfl <;> first | kernel_rfl | (show Go.Program.wantsStandIn _ _ = false; kernel_rfl)⟩)
    (by kernel_rfl)
#print axioms proved
end Go.Proofs.YtblcahackjpnjaaDoor.ncoSteps
