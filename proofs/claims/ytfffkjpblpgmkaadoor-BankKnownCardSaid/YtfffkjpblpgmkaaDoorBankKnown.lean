/- BankKnown takes no input: her one call, carried out by an evaluator of Go code that is proved sound over every world in which the table 'skyfix/angle.quarter' holds what the program's text lays, returns true, and what lay in the heap before the call lies there as it did; the card ties that table to the text. Conditions: none beyond the statement's own. -/
import Derived.Test.YtfffkjpblpgmkaaDoorRows
import Derived.WalkKit
import Derived.ProofKit
import Derived.OpenShut
import Derived.Lay
import Derived.SevenTiedAt
import Derived.Test.YtfffkjpblpgmkaaDoorTie
import Derived.Test.YtfffkjpblpgmkaaDoorCards
import Derived.Test.YtfffkjpblpgmkaaDoorEvG
namespace Go.Proofs.YtfffkjpblpgmkaaDoor.bankKnown
open Go.ChangeShapes Go.WideShapes Go.ChangeAt Go.RowKit
set_option linter.unusedVariables false
theorem own : ownKnob Tryd.prog.godebug = none := by kernel_rfl
def tabled : List Int := [127, 126, 125, 122, 117, 112, 106, 98, 90, 81, 71, 60, 49, 37, 25, 12, 0]
theorem ran : Go.Ev.run1 Tryd.prog [] [(0, tabled.map (Go.Ev.EV.int .i64))] 2000 3 = true := by kernel_rfl
theorem names : Go.Ev.namesB Tryd.prog = true := by kernel_rfl
theorem exts : ∀ p ∈ ([] : List (Nat × Go.Ev.Ext)), Go.Ev.ExtRow Tryd.prog p.1 p.2 := by
  intro p hp
  cases hp
theorem walk (w : World) (hl : Go.Ev.Laid [(0, tabled.map (Go.Ev.EV.int .i64))] w) :
    Calls Tryd.prog 3 #[] w fun e w' => e = .returned (.bool true) ∧ Below w.heap.size w w' :=
  Go.Ev.run1_sound (by kernel_rfl) exts names Tryd.func3 (by kernel_rfl) ran w hl

set_option maxRecDepth 100000 in
theorem lifted (os : Os) (started : os.Started) (H : Type) (enc : TypeId × Value → H) :
    ReturnsInHanded {} Tryd.checked os 3 .any (fun w args => (Rows.bankKnownSpec.pre enc Tryd.prog Tryd.f3 [] false w args ∧ laidMetH Tryd.prog Rows.bankKnownRow.laid w) ∧ sizedMet enc Tryd.prog Tryd.f3 (OpenSpec.ofChange Rows.bankKnownSpec) false w args)
      (Rows.bankKnownSpec.post enc Tryd.prog Tryd.f3 false true false false) := by
  refine returnsInHanded_of_change_and (C := Tryd.checked) (X := fun w _ => laidMetH Tryd.prog Rows.bankKnownRow.laid w) (fun _ _ _ hh h => h.of_heap hh) own started (by kernel_rfl) Tryd.func3
    (ChangeSpec.witness_shaped (enc := enc) (C := Tryd.checked) (os := os) (X := fun w _ => laidMetH Tryd.prog Rows.bankKnownRow.laid w) false (World.laidAll Tryd.prog os Rows.bankKnownRow.laid) #[] 8 (World.laidAll_os _ _ _)
      (World.shaped_of_ZipB (by kernel_rfl) (by kernel_rfl)) (by kernel_rfl) (by kernel_rfl) (by kernel_rfl)
      (by rw [MakeChecks.laidMetH_plain _ _ _ (by kernel_rfl)]; exact laidMet_laidAll _ (by kernel_rfl) (by kernel_rfl))) ?_
  intro W base args ds gs before hval0 hW _ _ hL _
  have hW' := hW
  obtain ⟨p, q, hA0, hV, rfl, _, _⟩ := hW
  have hA : DataW.TrodAll enc Tryd.prog W 0 (fun _ => true) true Tryd.f3.params.toList args.toList ds p := hA0
  rw [Tryd.params3] at hA
  obtain ⟨rfl, rfl, rfl⟩ := trodAll_none hA
  obtain ⟨rfl, rfl⟩ := trodVars_none hV
  clear hA0 hval0
  simp only [List.append_nil] at hW'
  rw [MakeChecks.laidMetH_plain _ _ _ (by kernel_rfl)] at hL
  have hl : Go.Ev.Laid [(0, tabled.map (Go.Ev.EV.int .i64))] W := Go.Ev.laid_ints (name := "skyfix/angle.quarter") (n := 17) hL (by kernel_rfl) (by kernel_rfl) Tryd.underlying129 Tryd.underlying3 (by kernel_rfl) (by kernel_rfl) (by decide)
  refine (walk W hl).mono fun e W' ⟨he, hg⟩ => ?_
  subst he
  exact ⟨_, rfl, Go.Ev.post_below (pa := []) (pv := []) hW' (fun _ _ _ => (trodAll_cons_mk (shut_bool Tryd.underlying4 _) trodAll_mk0)) (fun sp _ => rfl) (fun _ _ => rfl) rfl
    hg (ok_one (by kernel_rfl) rfl (okWide_bool_mk Tryd.underlying4 _))⟩

theorem over : Rows.bankKnownRow.holds Tryd.pinned (OpenSpec.ofChange Rows.bankKnownSpec) :=
  OpenClaim.holds_of_wide 3 Tryd.f3 rfl rfl rfl rfl rfl rfl rfl ⟨rfl, rfl, rfl, rfl, rfl⟩ rfl rfl rfl rfl rfl (by kernel_rfl) Tryd.func3 (by kernel_rfl)
    (of_decide_eq_true (by kernel_rfl)) (by unfold Func.isWrapper; first | (rw [if_pos (by decide +kernel)]; kernel_rfl) | (rw [if_neg (by decide +kernel)]; exact ⟨rfl, rfl⟩))
    (fun os started H enc _ => lifted os started H enc)

/-- the card -/
theorem proved : Rows.BankKnownCardSaid :=
  Claim7.holds_tied_plain_at .later [] [.data] true (true, "720af0734a13f72d19ce936ca146107eb49bd2324531a6810ecc0ad5b6469596") false over (fun _ h => by cases h) (by kernel_rfl) (fun _ h => by cases h) bankKnown_row_tie rfl ⟨rfl, rfl⟩ (by kernel_rfl) rfl
    (fun f fn hf hfn => by
      obtain rfl : f = 3 := Option.some.inj ((show Tryd.prog.funcNamed "skyfix/skyfixlaw14.BankKnown" = some 3 by kernel_rfl).symm.trans hf) |>.symm
      obtain rfl : fn = Tryd.f3 := (Option.some.inj (Tryd.func3.symm.trans hfn)).symm
      exact ⟨by kernel_rfl, fun j t ht => by
        rw [Tryd.params3] at ht
        simp at ht⟩)
    (by kernel_rfl)
#print axioms proved
end Go.Proofs.YtfffkjpblpgmkaaDoor.bankKnown
