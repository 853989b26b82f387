import Derived.Test.YtlhcjklfcpbcaaaSpec
import Derived.Test.YtlhcjklfcpbcaaaRows
import Derived.Test.YtlhcjklfcpbcaaaFnames
import Derived.Test.YtlhcjklfcpbcaaaFrunL
import Derived.Test.YtlhcjklfcpbcaaaFrunR
import Derived.Test.YtlhcjklfcpbcaaaFsame
import Derived.Test.YtlhcjklfcpbcaaaFawake
namespace Go.Proofs.Ytlhcjklfcpbcaaa
open Go.Ev Go.Sp
set_option maxRecDepth 100000
theorem vc_LockRuns : vcFn Try.prog [(18, Ext.ctr (ctOf sigRun)), (19, Ext.ctr (ctOf sigRun)), (20, Ext.ctr (ctOf sigSame)), (17, Ext.ctr (ctOf sigTrue0))] tab [] 100 4 sigLockRuns = (allB fun n0 : Int => 
impB ((-9223372036854775808 : Int) ≤ n0) (
impB (n0 ≤ (9223372036854775807 : Int)) (
allB fun n1 : Int => 
impB ((-9223372036854775808 : Int) ≤ n1) (
impB (n1 ≤ (9223372036854775807 : Int)) (
allB fun n2 : Int => 
impB ((-9223372036854775808 : Int) ≤ n2) (
impB (n2 ≤ (9223372036854775807 : Int)) (
allB fun n3 : Int => 
impB ((-9223372036854775808 : Int) ≤ n3) (
impB (n3 ≤ (9223372036854775807 : Int)) (
allB fun b4 : Bool => 
allB fun l5 : List Bool => 
impB (l5.length ≤ (9223372036854775807 : Nat)) (
allB fun b6 : Bool => 
impB (sigLockRuns.pre
  [DV.n n0, DV.n n1, DV.n n2, DV.n n3, DV.b b4, DV.lb l5, DV.b b6]) (
bR (dec ((300 : Int) < (↑l5.length : Int))) (
 reqB (sigTrue0.pre []) (
 allB fun b7 : Bool => 
 impB (sigTrue0.post [] [DV.b b7]) (
 reqB (sigLockRuns.post
  [DV.n n0, DV.n n1, DV.n n2, DV.n n3, DV.b b4, DV.lb l5, DV.b b6]
  [DV.b b7]) (
 true)))) (
 bR (b6) (
  reqB ((10001 : Nat) ≤ (10001 : Nat)) (
  reqB ((10001 : Nat) ≤ (1000000 : Nat)) (
  reqB ((-9223372036854775808 : Int) ≤ n0) (
  reqB (n0 ≤ (9223372036854775807 : Int)) (
  reqB ((-9223372036854775808 : Int) ≤ n1) (
  reqB (n1 ≤ (9223372036854775807 : Int)) (
  reqB ((-9223372036854775808 : Int) ≤ n2) (
  reqB (n2 ≤ (9223372036854775807 : Int)) (
  reqB ((-9223372036854775808 : Int) ≤ n3) (
  reqB (n3 ≤ (9223372036854775807 : Int)) (
  reqB (((0 : Nat) + (10001 : Nat)) * (1 : Nat) ≤ (10001 : Nat)) (
  reqB ((10001 : Nat) ≤ (9223372036854775807 : Nat)) (
  reqB ((List.take (10001 : Nat) (List.drop (0 : Nat) (List.replicate (10001 : Nat) Bool.false))).length = (10001 : Nat)) (
  reqB (sigRun.pre
  [DV.n n0, DV.n n1, DV.n n2, DV.n n3, DV.b b4,
    DV.lb (List.take (10001 : Nat) (List.drop (0 : Nat) (List.replicate (10001 : Nat) Bool.false)))]) (
  allB fun n8 : Int => 
  impB ((-9223372036854775808 : Int) ≤ n8) (
  impB (n8 ≤ (9223372036854775807 : Int)) (
  allB fun n9 : Int => 
  impB ((-9223372036854775808 : Int) ≤ n9) (
  impB (n9 ≤ (9223372036854775807 : Int)) (
  allB fun n10 : Int => 
  impB ((-9223372036854775808 : Int) ≤ n10) (
  impB (n10 ≤ (9223372036854775807 : Int)) (
  allB fun n11 : Int => 
  impB ((-9223372036854775808 : Int) ≤ n11) (
  impB (n11 ≤ (9223372036854775807 : Int)) (
  allB fun b12 : Bool => 
  allB fun l13 : List Bool => 
  impB (l13.length ≤ (10000 : Nat)) (
  allB fun n14 : Int => 
  impB ((-9223372036854775808 : Int) ≤ n14) (
  impB (n14 ≤ (9223372036854775807 : Int)) (
  impB (sigRun.post
  [DV.n n0, DV.n n1, DV.n n2, DV.n n3, DV.b b4,
    DV.lb (List.take (10001 : Nat) (List.drop (0 : Nat) (List.replicate (10001 : Nat) Bool.false)))]
  [DV.n n8, DV.n n9, DV.n n10, DV.n n11, DV.b b12, DV.lb l13, DV.n n14]) (
  reqB ((-9223372036854775808 : Int) ≤ n0) (
  reqB (n0 ≤ (9223372036854775807 : Int)) (
  reqB ((-9223372036854775808 : Int) ≤ n1) (
  reqB (n1 ≤ (9223372036854775807 : Int)) (
  reqB ((-9223372036854775808 : Int) ≤ n2) (
  reqB (n2 ≤ (9223372036854775807 : Int)) (
  reqB ((-9223372036854775808 : Int) ≤ n3) (
  reqB (n3 ≤ (9223372036854775807 : Int)) (
  reqB (((0 : Nat) + (10001 : Nat)) * (1 : Nat) ≤ (10001 : Nat)) (
  reqB ((10001 : Nat) ≤ (9223372036854775807 : Nat)) (
  reqB ((List.take (10001 : Nat) (List.drop (0 : Nat) (List.replicate (10001 : Nat) Bool.false))).length = (10001 : Nat)) (
  reqB (sigRun.pre
  [DV.n n0, DV.n n1, DV.n n2, DV.n n3, DV.b b4,
    DV.lb (List.take (10001 : Nat) (List.drop (0 : Nat) (List.replicate (10001 : Nat) Bool.false)))]) (
  allB fun n15 : Int => 
  impB ((-9223372036854775808 : Int) ≤ n15) (
  impB (n15 ≤ (9223372036854775807 : Int)) (
  allB fun n16 : Int => 
  impB ((-9223372036854775808 : Int) ≤ n16) (
  impB (n16 ≤ (9223372036854775807 : Int)) (
  allB fun n17 : Int => 
  impB ((-9223372036854775808 : Int) ≤ n17) (
  impB (n17 ≤ (9223372036854775807 : Int)) (
  allB fun n18 : Int => 
  impB ((-9223372036854775808 : Int) ≤ n18) (
  impB (n18 ≤ (9223372036854775807 : Int)) (
  allB fun b19 : Bool => 
  allB fun l20 : List Bool => 
  impB (l20.length ≤ (10000 : Nat)) (
  allB fun n21 : Int => 
  impB ((-9223372036854775808 : Int) ≤ n21) (
  impB (n21 ≤ (9223372036854775807 : Int)) (
  impB (sigRun.post
  [DV.n n0, DV.n n1, DV.n n2, DV.n n3, DV.b b4,
    DV.lb (List.take (10001 : Nat) (List.drop (0 : Nat) (List.replicate (10001 : Nat) Bool.false)))]
  [DV.n n15, DV.n n16, DV.n n17, DV.n n18, DV.b b19, DV.lb l20, DV.n n21]) (
  bR (bR (dec (n8 = n15)) (
   bR (dec (n9 = n16)) (
    bR (dec (n10 = n17)) (
     bR (dec (n11 = n18)) (
      bR (bR (b12) (
       b19) (
       bR (b19) (
        false) (
        true))) (
       true) (
       false)) (
      false)) (
     false)) (
    false)) (
   false)) (
   reqB (((0 : Nat) + l13.length) * (1 : Nat) ≤ l13.length.mul (1 : Nat)) (
   reqB (l13.length ≤ (9223372036854775807 : Nat)) (
   reqB ((List.take l13.length (List.drop (0 : Nat) l13)).length = l13.length) (
   reqB (((0 : Nat) + l20.length) * (1 : Nat) ≤ l20.length.mul (1 : Nat)) (
   reqB (l20.length ≤ (9223372036854775807 : Nat)) (
   reqB ((List.take l20.length (List.drop (0 : Nat) l20)).length = l20.length) (
   reqB (sigSame.pre
  [DV.lb (List.take l13.length (List.drop (0 : Nat) l13)),
    DV.lb (List.take l20.length (List.drop (0 : Nat) l20))]) (
   allB fun b22 : Bool => 
   impB (sigSame.post
  [DV.lb (List.take l13.length (List.drop (0 : Nat) l13)),
    DV.lb (List.take l20.length (List.drop (0 : Nat) l20))]
  [DV.b b22]) (
   bR (b22) (
    bR (dec (n14 = n21)) (
     reqB (sigTrue0.pre []) (
     allB fun b23 : Bool => 
     impB (sigTrue0.post [] [DV.b b23]) (
     reqB (sigLockRuns.post
  [DV.n n0, DV.n n1, DV.n n2, DV.n n3, DV.b b4, DV.lb l5, DV.b b6]
  [DV.b b23]) (
     true)))) (
     reqB (sigLockRuns.post
  [DV.n n0, DV.n n1, DV.n n2, DV.n n3, DV.b b4, DV.lb l5, DV.b b6]
  [DV.b Bool.false]) (
     true))) (
    reqB (sigLockRuns.post
  [DV.n n0, DV.n n1, DV.n n2, DV.n n3, DV.b b4, DV.lb l5, DV.b b6]
  [DV.b Bool.false]) (
    true))))))))))) (
   reqB (sigLockRuns.post
  [DV.n n0, DV.n n1, DV.n n2, DV.n n3, DV.b b4, DV.lb l5, DV.b b6]
  [DV.b Bool.false]) (
   true))))))))))))))))))))))))))))))))))))))))))))))))))))) (
  reqB ((-9223372036854775808 : Int) ≤ n0) (
  reqB (n0 ≤ (9223372036854775807 : Int)) (
  reqB ((-9223372036854775808 : Int) ≤ n1) (
  reqB (n1 ≤ (9223372036854775807 : Int)) (
  reqB ((-9223372036854775808 : Int) ≤ n2) (
  reqB (n2 ≤ (9223372036854775807 : Int)) (
  reqB ((-9223372036854775808 : Int) ≤ n3) (
  reqB (n3 ≤ (9223372036854775807 : Int)) (
  reqB (((0 : Nat) + l5.length) * (1 : Nat) ≤ l5.length.mul (1 : Nat)) (
  reqB (l5.length ≤ (9223372036854775807 : Nat)) (
  reqB ((List.take l5.length (List.drop (0 : Nat) l5)).length = l5.length) (
  reqB (sigRun.pre
  [DV.n n0, DV.n n1, DV.n n2, DV.n n3, DV.b b4,
    DV.lb (List.take l5.length (List.drop (0 : Nat) l5))]) (
  allB fun n24 : Int => 
  impB ((-9223372036854775808 : Int) ≤ n24) (
  impB (n24 ≤ (9223372036854775807 : Int)) (
  allB fun n25 : Int => 
  impB ((-9223372036854775808 : Int) ≤ n25) (
  impB (n25 ≤ (9223372036854775807 : Int)) (
  allB fun n26 : Int => 
  impB ((-9223372036854775808 : Int) ≤ n26) (
  impB (n26 ≤ (9223372036854775807 : Int)) (
  allB fun n27 : Int => 
  impB ((-9223372036854775808 : Int) ≤ n27) (
  impB (n27 ≤ (9223372036854775807 : Int)) (
  allB fun b28 : Bool => 
  allB fun l29 : List Bool => 
  impB (l29.length ≤ (10000 : Nat)) (
  allB fun n30 : Int => 
  impB ((-9223372036854775808 : Int) ≤ n30) (
  impB (n30 ≤ (9223372036854775807 : Int)) (
  impB (sigRun.post
  [DV.n n0, DV.n n1, DV.n n2, DV.n n3, DV.b b4,
    DV.lb (List.take l5.length (List.drop (0 : Nat) l5))]
  [DV.n n24, DV.n n25, DV.n n26, DV.n n27, DV.b b28, DV.lb l29, DV.n n30]) (
  reqB ((-9223372036854775808 : Int) ≤ n0) (
  reqB (n0 ≤ (9223372036854775807 : Int)) (
  reqB ((-9223372036854775808 : Int) ≤ n1) (
  reqB (n1 ≤ (9223372036854775807 : Int)) (
  reqB ((-9223372036854775808 : Int) ≤ n2) (
  reqB (n2 ≤ (9223372036854775807 : Int)) (
  reqB ((-9223372036854775808 : Int) ≤ n3) (
  reqB (n3 ≤ (9223372036854775807 : Int)) (
  reqB (((0 : Nat) + l5.length) * (1 : Nat) ≤ l5.length.mul (1 : Nat)) (
  reqB (l5.length ≤ (9223372036854775807 : Nat)) (
  reqB ((List.take l5.length (List.drop (0 : Nat) l5)).length = l5.length) (
  reqB (sigRun.pre
  [DV.n n0, DV.n n1, DV.n n2, DV.n n3, DV.b b4,
    DV.lb (List.take l5.length (List.drop (0 : Nat) l5))]) (
  allB fun n31 : Int => 
  impB ((-9223372036854775808 : Int) ≤ n31) (
  impB (n31 ≤ (9223372036854775807 : Int)) (
  allB fun n32 : Int => 
  impB ((-9223372036854775808 : Int) ≤ n32) (
  impB (n32 ≤ (9223372036854775807 : Int)) (
  allB fun n33 : Int => 
  impB ((-9223372036854775808 : Int) ≤ n33) (
  impB (n33 ≤ (9223372036854775807 : Int)) (
  allB fun n34 : Int => 
  impB ((-9223372036854775808 : Int) ≤ n34) (
  impB (n34 ≤ (9223372036854775807 : Int)) (
  allB fun b35 : Bool => 
  allB fun l36 : List Bool => 
  impB (l36.length ≤ (10000 : Nat)) (
  allB fun n37 : Int => 
  impB ((-9223372036854775808 : Int) ≤ n37) (
  impB (n37 ≤ (9223372036854775807 : Int)) (
  impB (sigRun.post
  [DV.n n0, DV.n n1, DV.n n2, DV.n n3, DV.b b4,
    DV.lb (List.take l5.length (List.drop (0 : Nat) l5))]
  [DV.n n31, DV.n n32, DV.n n33, DV.n n34, DV.b b35, DV.lb l36, DV.n n37]) (
  bR (bR (dec (n24 = n31)) (
   bR (dec (n25 = n32)) (
    bR (dec (n26 = n33)) (
     bR (dec (n27 = n34)) (
      bR (bR (b28) (
       b35) (
       bR (b35) (
        false) (
        true))) (
       true) (
       false)) (
      false)) (
     false)) (
    false)) (
   false)) (
   reqB (((0 : Nat) + l29.length) * (1 : Nat) ≤ l29.length.mul (1 : Nat)) (
   reqB (l29.length ≤ (9223372036854775807 : Nat)) (
   reqB ((List.take l29.length (List.drop (0 : Nat) l29)).length = l29.length) (
   reqB (((0 : Nat) + l36.length) * (1 : Nat) ≤ l36.length.mul (1 : Nat)) (
   reqB (l36.length ≤ (9223372036854775807 : Nat)) (
   reqB ((List.take l36.length (List.drop (0 : Nat) l36)).length = l36.length) (
   reqB (sigSame.pre
  [DV.lb (List.take l29.length (List.drop (0 : Nat) l29)),
    DV.lb (List.take l36.length (List.drop (0 : Nat) l36))]) (
   allB fun b38 : Bool => 
   impB (sigSame.post
  [DV.lb (List.take l29.length (List.drop (0 : Nat) l29)),
    DV.lb (List.take l36.length (List.drop (0 : Nat) l36))]
  [DV.b b38]) (
   bR (b38) (
    bR (dec (n30 = n37)) (
     reqB (sigTrue0.pre []) (
     allB fun b39 : Bool => 
     impB (sigTrue0.post [] [DV.b b39]) (
     reqB (sigLockRuns.post
  [DV.n n0, DV.n n1, DV.n n2, DV.n n3, DV.b b4, DV.lb l5, DV.b b6]
  [DV.b b39]) (
     true)))) (
     reqB (sigLockRuns.post
  [DV.n n0, DV.n n1, DV.n n2, DV.n n3, DV.b b4, DV.lb l5, DV.b b6]
  [DV.b Bool.false]) (
     true))) (
    reqB (sigLockRuns.post
  [DV.n n0, DV.n n1, DV.n n2, DV.n n3, DV.b b4, DV.lb l5, DV.b b6]
  [DV.b Bool.false]) (
    true))))))))))) (
   reqB (sigLockRuns.post
  [DV.n n0, DV.n n1, DV.n n2, DV.n n3, DV.b b4, DV.lb l5, DV.b b6]
  [DV.b Bool.false]) (
   true))))))))))))))))))))))))))))))))))))))))))))))))))))))))))))))) := by kernel_rfl
set_option maxHeartbeats 8000000 in
theorem vt_LockRuns : vcFn Try.prog [(18, Ext.ctr (ctOf sigRun)), (19, Ext.ctr (ctOf sigRun)), (20, Ext.ctr (ctOf sigSame)), (17, Ext.ctr (ctOf sigTrue0))] tab [] 100 4 sigLockRuns = true := by
  rw [vc_LockRuns]
  try simp only [bR_same, dec_same, bR_true, bR_false]
  simp only [allB_iff, impB_iff, reqB_iff, bR_iff, bR_iff_f, dec_iff, dec_f, reduceCtorEq, imp_false, Classical.not_not, implies_true, true_and, and_true]
  simp only [sigLockRuns, sigRun, sigSame, samePost, sigTrue0, List.drop_zero, List.take_length, Nat.add_eq, Nat.mul_eq, Nat.zero_add, Nat.mul_one, List.length_replicate]
  repeat' (first | intro _ | apply And.intro)
  all_goals first
    | omega
    | rfl
    | (rename runPost _ _ => H2; revert H2; rename runPost _ _ => H1; intro H2
       obtain ⟨rfl, rfl, rfl, rfl, rfl, rfl, rfl⟩ := run_fun H1 H2
       clear H1 H2
       grind)
    | grind
theorem ext_LockRuns : ∀ p ∈ ([(18, Ext.ctr (ctOf sigRun)), (19, Ext.ctr (ctOf sigRun)), (20, Ext.ctr (ctOf sigSame)), (17, Ext.ctr (ctOf sigTrue0))] : List (Nat × Ext)), ExtRow Try.prog p.1 p.2 := by
  intro p hp
  simp only [List.mem_cons, List.not_mem_nil, or_false] at hp
  rcases hp with rfl | rfl | rfl | rfl <;> trivial
theorem cts_LockRuns : CtsOk Try.prog [(18, Ext.ctr (ctOf sigRun)), (19, Ext.ctr (ctOf sigRun)), (20, Ext.ctr (ctOf sigSame)), (17, Ext.ctr (ctOf sigTrue0))] := ctsOk_of (cs := [(18, sigRun), (19, sigRun), (20, sigSame), (17, sigTrue0)])
  (fun p hp => by
    simp only [List.mem_cons, List.not_mem_nil, or_false] at hp
    rcases hp with rfl | rfl | rfl | rfl
    · exact fn_runL
    · exact fn_runR
    · exact fn_same
    · exact fn_awake
)
  (fun f c h => by
    simp only [List.lookup_cons] at h
    repeat' split at h
    all_goals first | (cases h; done) | (rename_i e; have e := beq_iff_eq.1 e; subst e; cases h; exact ⟨_, by simp, rfl⟩))
theorem fn_LockRuns : FnOk Try.prog 4 sigLockRuns [] := fn_sound (by kernel_rfl) ext_LockRuns cts_LockRuns names vt_LockRuns
end Go.Proofs.Ytlhcjklfcpbcaaa
