import Derived.Test.YtlhcjklfcpbcaaaSpec
import Derived.Test.YtlhcjklfcpbcaaaRows
import Derived.Test.YtlhcjklfcpbcaaaFnames
import Derived.Test.YtlhcjklfcpbcaaaFrunL
namespace Go.Proofs.Ytlhcjklfcpbcaaa
open Go.Ev Go.Sp
set_option maxRecDepth 100000
theorem vc_stepL : vcFn Try.prog [(18, Ext.ctr (ctOf sigRun))] tab [] 100 9 sigStepL = (allB fun n0 : Int => 
impB ((-9223372036854775808 : Int) ≤ n0) (
impB (n0 ≤ (9223372036854775807 : Int)) (
allB fun n1 : Int => 
impB ((-9223372036854775808 : Int) ≤ n1) (
impB (n1 ≤ (9223372036854775807 : Int)) (
allB fun n2 : Int => 
impB ((-9223372036854775808 : Int) ≤ n2) (
impB (n2 ≤ (9223372036854775807 : Int)) (
allB fun n3 : Int => 
impB ((-9223372036854775808 : Int) ≤ n3) (
impB (n3 ≤ (9223372036854775807 : Int)) (
allB fun b4 : Bool => 
allB fun b5 : Bool => 
impB (sigStepL.pre [DV.n n0, DV.n n1, DV.n n2, DV.n n3, DV.b b4, DV.b b5]) (
reqB ((-9223372036854775808 : Int) ≤ n0) (
reqB (n0 ≤ (9223372036854775807 : Int)) (
reqB ((-9223372036854775808 : Int) ≤ n1) (
reqB (n1 ≤ (9223372036854775807 : Int)) (
reqB ((-9223372036854775808 : Int) ≤ n2) (
reqB (n2 ≤ (9223372036854775807 : Int)) (
reqB ((-9223372036854775808 : Int) ≤ n3) (
reqB (n3 ≤ (9223372036854775807 : Int)) (
reqB ((1 : Nat) ≤ (9223372036854775807 : Nat)) (
reqB ([b5].length = (1 : Nat)) (
reqB (sigRun.pre [DV.n n0, DV.n n1, DV.n n2, DV.n n3, DV.b b4, DV.lb [b5]]) (
allB fun n6 : Int => 
impB ((-9223372036854775808 : Int) ≤ n6) (
impB (n6 ≤ (9223372036854775807 : Int)) (
allB fun n7 : Int => 
impB ((-9223372036854775808 : Int) ≤ n7) (
impB (n7 ≤ (9223372036854775807 : Int)) (
allB fun n8 : Int => 
impB ((-9223372036854775808 : Int) ≤ n8) (
impB (n8 ≤ (9223372036854775807 : Int)) (
allB fun n9 : Int => 
impB ((-9223372036854775808 : Int) ≤ n9) (
impB (n9 ≤ (9223372036854775807 : Int)) (
allB fun b10 : Bool => 
allB fun l11 : List Bool => 
impB (l11.length ≤ (10000 : Nat)) (
allB fun n12 : Int => 
impB ((-9223372036854775808 : Int) ≤ n12) (
impB (n12 ≤ (9223372036854775807 : Int)) (
impB (sigRun.post [DV.n n0, DV.n n1, DV.n n2, DV.n n3, DV.b b4, DV.lb [b5]]
  [DV.n n6, DV.n n7, DV.n n8, DV.n n9, DV.b b10, DV.lb l11, DV.n n12]) (
reqB ((-9223372036854775808 : Int) ≤ n6) (
reqB (n6 ≤ (9223372036854775807 : Int)) (
reqB ((-9223372036854775808 : Int) ≤ n7) (
reqB (n7 ≤ (9223372036854775807 : Int)) (
reqB ((-9223372036854775808 : Int) ≤ n8) (
reqB (n8 ≤ (9223372036854775807 : Int)) (
reqB ((-9223372036854775808 : Int) ≤ n9) (
reqB (n9 ≤ (9223372036854775807 : Int)) (
reqB ((-9223372036854775808 : Int) ≤ n12) (
reqB (n12 ≤ (9223372036854775807 : Int)) (
reqB (sigStepL.post [DV.n n0, DV.n n1, DV.n n2, DV.n n3, DV.b b4, DV.b b5]
  [DV.n n6, DV.n n7, DV.n n8, DV.n n9, DV.b b10, DV.n n12]) (
true)))))))))))))))))))))))))))))))))))))))))))) := by kernel_rfl
set_option maxHeartbeats 8000000 in
theorem vt_stepL : vcFn Try.prog [(18, Ext.ctr (ctOf sigRun))] tab [] 100 9 sigStepL = true := by
  rw [vc_stepL]
  try simp only [bR_same, dec_same, bR_true, bR_false]
  simp only [allB_iff, impB_iff, reqB_iff, bR_iff, bR_iff_f, dec_iff, dec_f, reduceCtorEq, imp_false, Classical.not_not, implies_true, true_and, and_true]
  simp only [sigStepL, stepLPost, sigRun, runPost, List.drop_zero, List.take_length, Nat.add_eq, Nat.mul_eq, Nat.zero_add, Nat.mul_one]
  repeat' (first | intro _ | apply And.intro)
  all_goals first | omega | grind [runS, outS]
theorem ext_stepL : ∀ p ∈ ([(18, Ext.ctr (ctOf sigRun))] : List (Nat × Ext)), ExtRow Try.prog p.1 p.2 := by
  intro p hp
  simp only [List.mem_cons, List.not_mem_nil, or_false] at hp
  rcases hp with rfl <;> trivial
theorem cts_stepL : CtsOk Try.prog [(18, Ext.ctr (ctOf sigRun))] := ctsOk_of (cs := [(18, sigRun)])
  (fun p hp => by
    simp only [List.mem_cons, List.not_mem_nil, or_false] at hp
    rcases hp with rfl
    · exact fn_runL
)
  (fun f c h => by
    simp only [List.lookup_cons] at h
    repeat' split at h
    all_goals first | (cases h; done) | (rename_i e; have e := beq_iff_eq.1 e; subst e; cases h; exact ⟨_, by simp, rfl⟩))
theorem fn_stepL : FnOk Try.prog 9 sigStepL [] := fn_sound (by kernel_rfl) ext_stepL cts_stepL names vt_stepL
end Go.Proofs.Ytlhcjklfcpbcaaa
