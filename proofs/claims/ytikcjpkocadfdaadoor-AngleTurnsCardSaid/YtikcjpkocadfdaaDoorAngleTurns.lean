/- AngleTurns: for every input her call returns true: an evaluator of Go code with symbolic numbers, proved sound over every world, carries the call out on each path of a tree of cases; the paths that no numbers take are shown to be contradictory. Conditions: none beyond the statement's own. -/
import Derived.Test.YtikcjpkocadfdaaDoorRows
import Derived.WalkKit
import Derived.ProofKit
import Derived.OpenShut
import Derived.Lay
import Derived.SevenTiedAt
import Derived.Test.YtikcjpkocadfdaaDoorTie
import Derived.Test.YtikcjpkocadfdaaDoorCards
import Derived.Test.YtikcjpkocadfdaaDoorEvG
import Derived.Test.YtikcjpkocadfdaaDoorAngleTurnsB
import Derived.Test.YtikcjpkocadfdaaDoorAngleTurnsD0k0
import Derived.Test.YtikcjpkocadfdaaDoorAngleTurnsQ0
import Derived.Test.YtikcjpkocadfdaaDoorAngleTurnsD16k0
import Derived.Test.YtikcjpkocadfdaaDoorAngleTurnsQ16
import Derived.Test.YtikcjpkocadfdaaDoorAngleTurnsD32k0
import Derived.Test.YtikcjpkocadfdaaDoorAngleTurnsQ32
import Derived.Test.YtikcjpkocadfdaaDoorAngleTurnsD48k0
import Derived.Test.YtikcjpkocadfdaaDoorAngleTurnsQ48
import Derived.Test.YtikcjpkocadfdaaDoorEvU
namespace Go.Proofs.YtikcjpkocadfdaaDoor.angleTurns
open Go.ChangeShapes Go.WideShapes Go.ChangeAt Go.RowKit
set_option linter.unusedVariables false
theorem own : ownKnob Tryd.prog.godebug = none := by kernel_rfl
section
open Go.Ev

theorem names : namesB Tryd.prog = true := by kernel_rfl
end
theorem exts : ∀ p ∈ ([(72, Go.Ev.Ext.add64), (60, Go.Ev.Ext.sub64)] : List (Nat × Go.Ev.Ext)), Go.Ev.ExtRow Tryd.prog p.1 p.2 := by
  intro p hp
  simp only [List.mem_cons, List.not_mem_nil, or_false] at hp
  rcases hp with rfl | rfl
  · exact .inr ⟨Tryd.f72, Tryd.func72, by kernel_rfl, by kernel_rfl, by kernel_rfl, by kernel_rfl⟩
  · exact .inr ⟨Tryd.f60, Tryd.func60, by kernel_rfl, by kernel_rfl, by kernel_rfl, by kernel_rfl⟩
theorem exts0 : ∀ p ∈ ([(72, Go.Ev.Ext.add64), (60, Go.Ev.Ext.sub64)] : List (Nat × Go.Ev.Ext)), Go.Ev.ExtRow Tryd.prog p.1 p.2 := by
  intro p hp
  simp only [List.mem_cons, List.not_mem_nil, or_false] at hp
  rcases hp with rfl | rfl
  · exact .inr ⟨Tryd.f72, Tryd.func72, by kernel_rfl, by kernel_rfl, by kernel_rfl, by kernel_rfl⟩
  · exact .inr ⟨Tryd.f60, Tryd.func60, by kernel_rfl, by kernel_rfl, by kernel_rfl, by kernel_rfl⟩
theorem knowns : Go.Ev.KnownOk Tryd.prog [(72, Go.Ev.Ext.add64), (60, Go.Ev.Ext.sub64)] := Go.Ev.knownOk_none rfl
theorem walk (x0 : Int) (x1 : Int) (x2 : Int) (x3 : Int) (x4 : Int)  (w0 : (Lit.int .u32 x0).wf = true) (w1 : (Lit.int .u32 x1).wf = true) (w2 : (Lit.int .i64 x2).wf = true) (w3 : (Lit.int .i64 x3).wf = true) (w4 : (Lit.int .i64 x4).wf = true) (w : World) (hl : ∀ (F : List Go.Ev.Fact) (E : @Go.Ev.Env ⟨F⟩), @Go.Ev.Laid ⟨F⟩ E [(0, tabled.map (Go.Ev.EV.int .i64))] w) :
    Calls Tryd.prog 7 #[.int .u32 x0, .int .u32 x1, .int .i64 x2, .int .i64 x3, .int .i64 x4] w fun e w' => e = .returned (.bool true) ∧ Below w.heap.size w w' := by
  let v : Nat → Int := fun k => match k with | 0 => x0 | 1 => x1 | 2 => x2 | 3 => x3 | 4 => x4 | _ => 0
  have step : ∀ F : List Go.Ev.Fact, @Go.Ev.runS ⟨F⟩ Tryd.prog [(72, Go.Ev.Ext.add64), (60, Go.Ev.Ext.sub64)] [(0, tabled.map (Go.Ev.EV.int .i64))] 300 7 args0 Go.Ev.isTrue = true → (∀ f ∈ F, f.holds v) → Calls Tryd.prog 7 #[.int .u32 x0, .int .u32 x1, .int .i64 x2, .int .i64 x3, .int .i64 x4] w fun e w' => e = .returned (.bool true) ∧ Below w.heap.size w w' := by
    intro F hrun hF
    letI : Go.Ev.FactsC := ⟨F⟩
    letI : Go.Ev.Env := ⟨v, hF⟩
    refine (Go.Ev.runS_sound (args' := [.int .u32 x0, .int .u32 x1, .int .i64 x2, .int .i64 x3, .int .i64 x4]) (by kernel_rfl) exts knowns names Tryd.func7 (by kernel_rfl) hrun w (hl F _) (fun φ => .cons (Go.Ev.num_vr .u32 0 rfl w0 φ) (.cons (Go.Ev.num_vr .u32 1 rfl w1 φ) (.cons (Go.Ev.num_vr .i64 2 rfl w2 φ) (.cons (Go.Ev.num_vr .i64 3 rfl w3 φ) (.cons (Go.Ev.num_vr .i64 4 rfl w4 φ) (.nil))))))).mono fun e w' ⟨⟨u, φ, r, h1, h2, h3⟩, hb⟩ => ⟨?_, hb⟩
    obtain ⟨b, rfl, hb'⟩ := Go.Ev.asBool_ok (show Go.Ev.asBool u (fun b => b) = true from h1)
    subst hb'
    cases h2
    exact h3
  have lo0 := (Go.Ev.wf_rng w0).1
  have hi0 := (Go.Ev.wf_rng w0).2
  have elo : IntKind.min .u32 = 0 := by decide
  have ehi : IntKind.max .u32 = 4294967295 := by decide
  have fd : Int.fdiv x0 67108864 = x0 / 67108864 := Go.Ev.fdiv_e x0 67108864 (by decide)
  rcases (by omega : x0 / 67108864 ≤ 15 ∨ (15 < x0 / 67108864 ∧ x0 / 67108864 ≤ 31) ∨ (31 < x0 / 67108864 ∧ x0 / 67108864 ≤ 47) ∨ 47 < x0 / 67108864) with hc | hc | hc | hc
  · refine Go.Ev.checkT_ok (v := v) step (r0.deads_no v) r0.ran ?_
    intro f hf
    simp only [r0.facts0, List.mem_cons, List.not_mem_nil, or_false] at hf
    rcases hf with rfl | rfl | rfl | rfl | rfl | rfl
    · exact (Go.Ev.wf_rng w0).2
    · show -1 < x0
      have := (Go.Ev.wf_rng w0).1
      have e : IntKind.min .u32 = 0 := by decide
      omega
    · exact (Go.Ev.wf_rng w1).2
    · show -1 < x1
      have := (Go.Ev.wf_rng w1).1
      have e : IntKind.min .u32 = 0 := by decide
      omega
    · show Int.fdiv x0 67108864 ≤ 15
      omega
    · show -1 < Int.fdiv x0 67108864
      omega
  · refine Go.Ev.checkT_ok (v := v) step (r16.deads_no v) r16.ran ?_
    intro f hf
    simp only [r16.facts0, List.mem_cons, List.not_mem_nil, or_false] at hf
    rcases hf with rfl | rfl | rfl | rfl | rfl | rfl
    · exact (Go.Ev.wf_rng w0).2
    · show -1 < x0
      have := (Go.Ev.wf_rng w0).1
      have e : IntKind.min .u32 = 0 := by decide
      omega
    · exact (Go.Ev.wf_rng w1).2
    · show -1 < x1
      have := (Go.Ev.wf_rng w1).1
      have e : IntKind.min .u32 = 0 := by decide
      omega
    · show Int.fdiv x0 67108864 ≤ 31
      omega
    · show 15 < Int.fdiv x0 67108864
      omega
  · refine Go.Ev.checkT_ok (v := v) step (r32.deads_no v) r32.ran ?_
    intro f hf
    simp only [r32.facts0, List.mem_cons, List.not_mem_nil, or_false] at hf
    rcases hf with rfl | rfl | rfl | rfl | rfl | rfl
    · exact (Go.Ev.wf_rng w0).2
    · show -1 < x0
      have := (Go.Ev.wf_rng w0).1
      have e : IntKind.min .u32 = 0 := by decide
      omega
    · exact (Go.Ev.wf_rng w1).2
    · show -1 < x1
      have := (Go.Ev.wf_rng w1).1
      have e : IntKind.min .u32 = 0 := by decide
      omega
    · show Int.fdiv x0 67108864 ≤ 47
      omega
    · show 31 < Int.fdiv x0 67108864
      omega
  · refine Go.Ev.checkT_ok (v := v) step (r48.deads_no v) r48.ran ?_
    intro f hf
    simp only [r48.facts0, List.mem_cons, List.not_mem_nil, or_false] at hf
    rcases hf with rfl | rfl | rfl | rfl | rfl | rfl
    · exact (Go.Ev.wf_rng w0).2
    · show -1 < x0
      have := (Go.Ev.wf_rng w0).1
      have e : IntKind.min .u32 = 0 := by decide
      omega
    · exact (Go.Ev.wf_rng w1).2
    · show -1 < x1
      have := (Go.Ev.wf_rng w1).1
      have e : IntKind.min .u32 = 0 := by decide
      omega
    · show Int.fdiv x0 67108864 ≤ 63
      omega
    · show 47 < Int.fdiv x0 67108864
      omega

set_option maxRecDepth 100000 in
theorem lifted (os : Os) (started : os.Started) (H : Type) (enc : TypeId × Value → H) :
    ReturnsInHanded {} Tryd.checked os 7 .any (fun w args => (Rows.angleTurnsSpec.pre enc Tryd.prog Tryd.f7 [] false w args ∧ laidMetH Tryd.prog Rows.angleTurnsRow.laid w) ∧ sizedMet enc Tryd.prog Tryd.f7 (OpenSpec.ofChange Rows.angleTurnsSpec) false w args)
      (Rows.angleTurnsSpec.post enc Tryd.prog Tryd.f7 false true false false) := by
  refine returnsInHanded_of_change_and (C := Tryd.checked) (X := fun w _ => laidMetH Tryd.prog Rows.angleTurnsRow.laid w) (fun _ _ _ hh h => h.of_heap hh) own started (by kernel_rfl) Tryd.func7
    (ChangeSpec.witness_shaped (enc := enc) (C := Tryd.checked) (os := os) (X := fun w _ => laidMetH Tryd.prog Rows.angleTurnsRow.laid w) false (World.laidAll Tryd.prog os Rows.angleTurnsRow.laid) #[.int .u32 0, .int .u32 0, .int .i64 0, .int .i64 0, .int .i64 0] 8 (World.laidAll_os _ _ _)
      (World.shaped_of_ZipB (by kernel_rfl) (by kernel_rfl)) (by kernel_rfl) (by kernel_rfl) (by kernel_rfl)
      (by rw [MakeChecks.laidMetH_plain _ _ _ (by kernel_rfl)]; exact laidMet_laidAll _ (by kernel_rfl) (by kernel_rfl))) ?_
  intro W base args ds gs before hval0 hW _ _ hL _
  have hval : ∀ (j : Nat) t v, Tryd.f7.params[j]? = some t → args[j]? = some v → Value.okWide Tryd.prog W .any base t v := hval0
  have hW' := hW
  obtain ⟨p, q, hA0, hV, rfl, _, _⟩ := hW
  have hA : DataW.TrodAll enc Tryd.prog W 0 (fun _ => true) true Tryd.f7.params.toList args.toList ds p := hA0
  rw [Tryd.params7] at hA hval
  obtain ⟨v0, vs0, d0, ds0, p0, q0, hargs, rfl, rfl, h0, r0⟩ := trodAll_cons hA
  obtain ⟨v1, vs1, d1, ds1, p1, q1, rfl, rfl, rfl, h1, r1⟩ := trodAll_cons r0
  obtain ⟨v2, vs2, d2, ds2, p2, q2, rfl, rfl, rfl, h2, r2⟩ := trodAll_cons r1
  obtain ⟨v3, vs3, d3, ds3, p3, q3, rfl, rfl, rfl, h3, r3⟩ := trodAll_cons r2
  obtain ⟨v4, vs4, d4, ds4, p4, q4, rfl, rfl, rfl, h4, r4⟩ := trodAll_cons r3
  obtain ⟨rfl, rfl, rfl⟩ := trodAll_nil r4
  obtain rfl : args = #[v0, v1, v2, v3, v4] := by cases args; simp_all
  obtain ⟨rfl, rfl⟩ := trodVars_none hV
  obtain ⟨x0, rfl, rfl, rfl, w0⟩ := open_int Tryd.underlying29 (hval 0 29 v0 rfl rfl) h0
  obtain ⟨x1, rfl, rfl, rfl, w1⟩ := open_int Tryd.underlying29 (hval 1 29 v1 rfl rfl) h1
  obtain ⟨x2, rfl, rfl, rfl, w2⟩ := open_int Tryd.underlying3 (hval 2 3 v2 rfl rfl) h2
  obtain ⟨x3, rfl, rfl, rfl, w3⟩ := open_int Tryd.underlying3 (hval 3 3 v3 rfl rfl) h3
  obtain ⟨x4, rfl, rfl, rfl, w4⟩ := open_int Tryd.underlying3 (hval 4 3 v4 rfl rfl) h4
  clear hA0 hval0
  simp only [List.append_nil, List.nil_append] at hW'
  rw [MakeChecks.laidMetH_plain _ _ _ (by kernel_rfl)] at hL
  have hl : ∀ (F : List Go.Ev.Fact) (E : @Go.Ev.Env ⟨F⟩), @Go.Ev.Laid ⟨F⟩ E [(0, tabled.map (Go.Ev.EV.int .i64))] W := fun F E => by
    letI : Go.Ev.FactsC := ⟨F⟩
    letI := E
    exact Go.Ev.laid_ints (name := "skyfix/angle.quarter") (n := 17) hL (by kernel_rfl) (by kernel_rfl) Tryd.underlying75 Tryd.underlying3 (by kernel_rfl) (by kernel_rfl) (by decide)
  refine (walk x0 x1 x2 x3 x4  w0 w1 w2 w3 w4 W hl).mono fun e W' ⟨he, hg⟩ => ?_
  subst he
  exact ⟨_, rfl, Go.Ev.post_below (pa := []) (pv := []) hW' (fun _ _ _ => (trodAll_cons_mk (shut_bool Tryd.underlying4 _) trodAll_mk0)) (fun sp _ => (trodAll_cons_mk (shut_int Tryd.underlying29 w0) (trodAll_cons_mk (shut_int Tryd.underlying29 w1) (trodAll_cons_mk (shut_int Tryd.underlying3 w2) (trodAll_cons_mk (shut_int Tryd.underlying3 w3) (trodAll_cons_mk (shut_int Tryd.underlying3 w4) trodAll_mk0)))))) (fun _ _ => rfl) rfl
    hg (ok_one (by kernel_rfl) rfl (okWide_bool_mk Tryd.underlying4 _))⟩

theorem over : Rows.angleTurnsRow.holds Tryd.pinned (OpenSpec.ofChange Rows.angleTurnsSpec) :=
  OpenClaim.holds_of_wide 7 Tryd.f7 rfl rfl rfl rfl rfl rfl rfl ⟨rfl, rfl, rfl, rfl, rfl⟩ rfl rfl rfl rfl rfl (by kernel_rfl) Tryd.func7 (by kernel_rfl)
    (of_decide_eq_true (by kernel_rfl)) (by unfold Func.isWrapper; first | (rw [if_pos (by decide +kernel)]; kernel_rfl) | (rw [if_neg (by decide +kernel)]; exact ⟨rfl, rfl⟩))
    (fun os started H enc _ => lifted os started H enc)

/-- the card -/
theorem proved : Rows.AngleTurnsCardSaid :=
  Claim7.holds_tied_plain_at .later [] [.data] true (true, "cbd52eed76410b6be231d78e2a41a7c93600cdde181f06c5db2ccdddbacbaf0a") false over (fun _ h => by cases h) (by kernel_rfl) (fun _ h => by cases h) angleTurns_row_tie rfl ⟨rfl, rfl⟩ (by kernel_rfl) rfl
    (fun f fn hf hfn => by
      obtain rfl : f = 7 := Option.some.inj ((show Tryd.prog.funcNamed "skyfix/skyfixlaw02.AngleTurns" = some 7 by kernel_rfl).symm.trans hf) |>.symm
      obtain rfl : fn = Tryd.f7 := (Option.some.inj (Tryd.func7.symm.trans hfn)).symm
      exact ⟨by kernel_rfl, fun j t ht => by
        rw [Tryd.params7] at ht
        have hm := List.mem_of_getElem? (by simpa using ht)
        simp only [List.mem_cons, List.not_mem_nil, or_false] at hm
        rcases hm with rfl | rfl | rfl | rfl | rfl <;> first | kernel_rfl | (show Go.Program.wantsStandIn _ _ = false; kernel_rfl)⟩)
    (by kernel_rfl)
#print axioms proved
end Go.Proofs.YtikcjpkocadfdaaDoor.angleTurns
