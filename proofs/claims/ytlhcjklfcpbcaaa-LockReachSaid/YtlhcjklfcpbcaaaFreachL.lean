import Derived.Test.YtlhcjklfcpbcaaaSpec
import Derived.Test.YtlhcjklfcpbcaaaRows
import Derived.Test.YtlhcjklfcpbcaaaFnames
import Derived.Test.YtlhcjklfcpbcaaaFchkL
namespace Go.Proofs.Ytlhcjklfcpbcaaa
open Go.Ev Go.Sp
set_option maxRecDepth 100000
theorem vc_reachL : vcFn Try.prog [(15, Ext.ctr (ctOf sigChk))] tab [] 100 13 sigReach = (allB fun n0 : Int => 
impB ((1 : Int) ≤ n0) (
impB (n0 ≤ (100 : Int)) (
allB fun n1 : Int => 
impB ((1 : Int) ≤ n1) (
impB (n1 ≤ (100 : Int)) (
allB fun n2 : Int => 
impB ((0 : Int) ≤ n2) (
impB (n2 ≤ (100 : Int)) (
allB fun n3 : Int => 
impB ((0 : Int) ≤ n3) (
impB (n3 ≤ (100 : Int)) (
allB fun b4 : Bool => 
allB fun n5 : Int => 
impB ((1 : Int) ≤ n5) (
impB (n5 ≤ (8 : Int)) (
impB (sigReach.pre [DV.n n0, DV.n n1, DV.n n2, DV.n n3, DV.b b4, DV.n n5]) (
reqB ((-9223372036854775808 : Int) ≤ n0) (
reqB (n0 ≤ (9223372036854775807 : Int)) (
reqB ((-9223372036854775808 : Int) ≤ n1) (
reqB (n1 ≤ (9223372036854775807 : Int)) (
reqB ((-9223372036854775808 : Int) ≤ n2) (
reqB (n2 ≤ (9223372036854775807 : Int)) (
reqB ((-9223372036854775808 : Int) ≤ n3) (
reqB (n3 ≤ (9223372036854775807 : Int)) (
reqB (sigChk.pre [DV.n n0, DV.n n1, DV.n n2, DV.n n3, DV.b b4]) (
allB fun n6 : Int => 
impB ((-9223372036854775808 : Int) ≤ n6) (
impB (n6 ≤ (9223372036854775807 : Int)) (
impB (sigChk.post [DV.n n0, DV.n n1, DV.n n2, DV.n n3, DV.b b4] [DV.n n6]) (
bR (dec (n6 ≠ (0 : Int))) (
 reqB ((-9223372036854775808 : Int) ≤ n6) (
 reqB (n6 ≤ (9223372036854775807 : Int)) (
 reqB (sigReach.post [DV.n n0, DV.n n1, DV.n n2, DV.n n3, DV.b b4, DV.n n5]
  [DV.n (0 : Int), DV.n n6]) (
 true)))) (
 reqB ((0 : Int) ≤
  n5 - (1 : Int) + (n1 - (1 : Int)) +
    (((n1 - (1 : Int)) * (64 : Int) + (1024 : Int) - (1 : Int)).tdiv (1024 : Int) + (1 : Int))) (
 reqB (n5 - (1 : Int) + (n1 - (1 : Int)) +
    (((n1 - (1 : Int)) * (64 : Int) + (1024 : Int) - (1 : Int)).tdiv (1024 : Int) + (1 : Int)) ≤
  (1000 : Int)) (
 reqB (sigReach.post [DV.n n0, DV.n n1, DV.n n2, DV.n n3, DV.b b4, DV.n n5]
  [DV.n
      (n5 - (1 : Int) + (n1 - (1 : Int)) +
        (((n1 - (1 : Int)) * (64 : Int) + (1024 : Int) - (1 : Int)).tdiv (1024 : Int) + (1 : Int))),
    DV.n (0 : Int)]) (
 true)))))))))))))))))))))))))))) := by kernel_rfl
set_option maxHeartbeats 8000000 in
theorem vt_reachL : vcFn Try.prog [(15, Ext.ctr (ctOf sigChk))] tab [] 100 13 sigReach = true := by
  rw [vc_reachL]
  try simp only [bR_same, dec_same, bR_true, bR_false]
  simp only [allB_iff, impB_iff, reqB_iff, bR_iff, bR_iff_f, dec_iff, dec_f, reduceCtorEq, imp_false, Classical.not_not, implies_true, true_and, and_true]
  simp only [sigReach, reachPre, reachPost, sigChk, chkPost, wrap_i64]
  repeat' (first | intro _ | apply And.intro)
  all_goals first | omega | (rw [Int.tdiv_eq_ediv_of_nonneg (by omega)]; omega) | grind
theorem ext_reachL : ∀ p ∈ ([(15, Ext.ctr (ctOf sigChk))] : List (Nat × Ext)), ExtRow Try.prog p.1 p.2 := by
  intro p hp
  simp only [List.mem_cons, List.not_mem_nil, or_false] at hp
  rcases hp with rfl <;> trivial
theorem cts_reachL : CtsOk Try.prog [(15, Ext.ctr (ctOf sigChk))] := ctsOk_of (cs := [(15, sigChk)])
  (fun p hp => by
    simp only [List.mem_cons, List.not_mem_nil, or_false] at hp
    rcases hp with rfl
    · exact fn_chkL
)
  (fun f c h => by
    simp only [List.lookup_cons] at h
    repeat' split at h
    all_goals first | (cases h; done) | (rename_i e; have e := beq_iff_eq.1 e; subst e; cases h; exact ⟨_, by simp, rfl⟩))
theorem fn_reachL : FnOk Try.prog 13 sigReach [] := fn_sound (by kernel_rfl) ext_reachL cts_reachL names vt_reachL
end Go.Proofs.Ytlhcjklfcpbcaaa
