import Derived.Test.YtlhcjklfcpbcaaaSpec
import Derived.Test.YtlhcjklfcpbcaaaRows
import Derived.Test.YtlhcjklfcpbcaaaFnames
namespace Go.Proofs.Ytlhcjklfcpbcaaa
open Go.Ev Go.Sp
set_option maxRecDepth 100000
theorem vc_chkL : vcFn Try.prog [] tab [] 100 15 sigChk = (allB fun n0 : Int => 
impB ((-9223372036854775808 : Int) ≤ n0) (
impB (n0 ≤ (9223372036854775807 : Int)) (
allB fun n1 : Int => 
impB ((-9223372036854775808 : Int) ≤ n1) (
impB (n1 ≤ (9223372036854775807 : Int)) (
allB fun n2 : Int => 
impB ((-9223372036854775808 : Int) ≤ n2) (
impB (n2 ≤ (9223372036854775807 : Int)) (
allB fun n3 : Int => 
impB ((-9223372036854775808 : Int) ≤ n3) (
impB (n3 ≤ (9223372036854775807 : Int)) (
allB fun b4 : Bool => 
impB (sigChk.pre [DV.n n0, DV.n n1, DV.n n2, DV.n n3, DV.b b4]) (
bR (dec (n0 < (1 : Int))) (
 reqB (sigChk.post [DV.n n0, DV.n n1, DV.n n2, DV.n n3, DV.b b4] [DV.n (2 : Int)]) (
 true)) (
 bR (dec ((100 : Int) < n0)) (
  reqB (sigChk.post [DV.n n0, DV.n n1, DV.n n2, DV.n n3, DV.b b4] [DV.n (2 : Int)]) (
  true)) (
  bR (dec (n1 < (1 : Int))) (
   reqB (sigChk.post [DV.n n0, DV.n n1, DV.n n2, DV.n n3, DV.b b4] [DV.n (2 : Int)]) (
   true)) (
   bR (dec ((100 : Int) < n1)) (
    reqB (sigChk.post [DV.n n0, DV.n n1, DV.n n2, DV.n n3, DV.b b4] [DV.n (2 : Int)]) (
    true)) (
    bR (bR (dec (n2 = (0 : Int))) (
     bR (dec (n3 = (0 : Int))) (
      true) (
      false)) (
     false)) (
     bR (bR (bR (b4) (
      false) (
      true)) (
      false) (
      true)) (
      reqB (sigChk.post [DV.n n0, DV.n n1, DV.n n2, DV.n n3, DV.b b4] [DV.n (3 : Int)]) (
      true)) (
      reqB (sigChk.post [DV.n n0, DV.n n1, DV.n n2, DV.n n3, DV.b b4] [DV.n (0 : Int)]) (
      true))) (
     bR (bR (dec (n2 = n0)) (
      bR (dec (n3 = (0 : Int))) (
       true) (
       false)) (
      false)) (
      bR (bR (b4) (
       false) (
       true)) (
       reqB (sigChk.post [DV.n n0, DV.n n1, DV.n n2, DV.n n3, DV.b b4] [DV.n (3 : Int)]) (
       true)) (
       reqB (sigChk.post [DV.n n0, DV.n n1, DV.n n2, DV.n n3, DV.b b4] [DV.n (0 : Int)]) (
       true))) (
      bR (bR (dec (n2 = (0 : Int))) (
       bR (dec (n3 = n1)) (
        true) (
        false)) (
       false)) (
       bR (bR (bR (b4) (
        false) (
        true)) (
        false) (
        true)) (
        reqB (sigChk.post [DV.n n0, DV.n n1, DV.n n2, DV.n n3, DV.b b4] [DV.n (3 : Int)]) (
        true)) (
        reqB (sigChk.post [DV.n n0, DV.n n1, DV.n n2, DV.n n3, DV.b b4] [DV.n (0 : Int)]) (
        true))) (
       bR (dec (n3 = (0 : Int))) (
        bR (dec ((0 : Int) < n2)) (
         bR (dec (n2 < n0)) (
          bR (bR (b4) (
           false) (
           true)) (
           reqB (sigChk.post [DV.n n0, DV.n n1, DV.n n2, DV.n n3, DV.b b4] [DV.n (0 : Int)]) (
           true)) (
           bR (bR (dec ((1 : Int) < n1)) (
            false) (
            true)) (
            reqB (sigChk.post [DV.n n0, DV.n n1, DV.n n2, DV.n n3, DV.b b4] [DV.n (3 : Int)]) (
            true)) (
            reqB (sigChk.post [DV.n n0, DV.n n1, DV.n n2, DV.n n3, DV.b b4] [DV.n (0 : Int)]) (
            true)))) (
          reqB (sigChk.post [DV.n n0, DV.n n1, DV.n n2, DV.n n3, DV.b b4] [DV.n (3 : Int)]) (
          true))) (
         reqB (sigChk.post [DV.n n0, DV.n n1, DV.n n2, DV.n n3, DV.b b4] [DV.n (3 : Int)]) (
         true))) (
        bR (dec (n2 = (0 : Int))) (
         bR (dec ((0 : Int) < n3)) (
          bR (bR (dec (n3 < n1)) (
           false) (
           true)) (
           reqB (sigChk.post [DV.n n0, DV.n n1, DV.n n2, DV.n n3, DV.b b4] [DV.n (3 : Int)]) (
           true)) (
           reqB (sigChk.post [DV.n n0, DV.n n1, DV.n n2, DV.n n3, DV.b b4] [DV.n (0 : Int)]) (
           true))) (
          reqB (sigChk.post [DV.n n0, DV.n n1, DV.n n2, DV.n n3, DV.b b4] [DV.n (3 : Int)]) (
          true))) (
         reqB (sigChk.post [DV.n n0, DV.n n1, DV.n n2, DV.n n3, DV.b b4] [DV.n (3 : Int)]) (
         true)))))))))))))))))))) := by kernel_rfl
set_option maxHeartbeats 8000000 in
theorem vt_chkL : vcFn Try.prog [] tab [] 100 15 sigChk = true := by
  rw [vc_chkL]
  try simp only [bR_same, dec_same, bR_true, bR_false]
  simp only [allB_iff, impB_iff, reqB_iff, bR_iff, bR_iff_f, dec_iff, dec_f, reduceCtorEq, imp_false, Classical.not_not, implies_true, true_and, and_true]
  simp only [sigChk, chkPost]
  intro a _ _ b _ _ c _ _ d _ _ e _
  cases e
  all_goals
    simp only [bR_false, bR_true, Bool.false_eq_true, Bool.true_eq_false, reduceCtorEq, forall_const, false_implies, and_true, true_and, true_implies]
    repeat' (first | intro _ | apply And.intro)
    all_goals first | omega | (simp [chk, *]; done) | (simp [chk, *]; omega) | (simp only [chk]; grind)
theorem ext_chkL : ∀ p ∈ ([] : List (Nat × Ext)), ExtRow Try.prog p.1 p.2 := by
  intro p hp
  cases hp
theorem cts_chkL : CtsOk Try.prog [] := fun f c h => by cases h
theorem fn_chkL : FnOk Try.prog 15 sigChk [] := fn_sound (by kernel_rfl) ext_chkL cts_chkL names vt_chkL
end Go.Proofs.Ytlhcjklfcpbcaaa
