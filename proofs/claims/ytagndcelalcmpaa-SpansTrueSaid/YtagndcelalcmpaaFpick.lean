import Derived.Test.YtagndcelalcmpaaSpec29e
import Derived.Test.YtagndcelalcmpaaRows
import Derived.Test.YtagndcelalcmpaaFnames
namespace Go.Proofs.Ytagndcelalcmpaa
open Go.Ev Go.Sp
set_option maxRecDepth 100000
theorem vc_pick : vcFn Try.prog [] tab [] 100 26 (sigPickN 1000000000000) = (allB fun n0 : Int => 
impB ((-9223372036854775808 : Int) ≤ n0) (
impB (n0 ≤ (9223372036854775807 : Int)) (
allB fun n1 : Int => 
impB ((1 : Int) ≤ n1) (
impB (n1 ≤ (1000000000000 : Int)) (
impB ((sigPickN (1000000000000 : Int)).pre [DV.n n0, DV.n n1]) (
bR (dec (n0.tmod n1 < (0 : Int))) (
 reqB ((0 : Int) ≤ n0.tmod n1 + n1) (
 reqB (n0.tmod n1 + n1 ≤ (1000000000000 : Int)) (
 reqB ((sigPickN (1000000000000 : Int)).post [DV.n n0, DV.n n1] [DV.n (n0.tmod n1 + n1)]) (
 true)))) (
 reqB ((0 : Int) ≤ n0.tmod n1) (
 reqB (n0.tmod n1 ≤ (1000000000000 : Int)) (
 reqB ((sigPickN (1000000000000 : Int)).post [DV.n n0, DV.n n1] [DV.n (n0.tmod n1)]) (
 true)))))))))) := by kernel_rfl
set_option maxHeartbeats 8000000 in
theorem vt_pick : vcFn Try.prog [] tab [] 100 26 (sigPickN 1000000000000) = true := by
  rw [vc_pick]
  refine all_i fun n0 => ?_
  refine imp_i fun h0 => ?_
  refine imp_i fun h1 => ?_
  refine all_i fun n1 => ?_
  refine imp_i fun h2 => ?_
  refine imp_i fun h3 => ?_
  have T := tmod_of (x := n0) (n := n1) (by omega)
  have T2 := Int.emod_lt_of_pos n0 (b := n1) (by omega)
  refine imp_i fun h4 => ?_
  try simp only [sigRnd0, sigRnd, rndPost0, sigRnd1, rndPost1, rndPost, sigLen, lenPost, sigBnd, bndPost, sigL5, sigPickN, pickPost, sigTrue0, List.cons.injEq, DV.b.injEq, and_true] at h4
  refine bR_dec (fun h5 => ?_) (fun h5 => ?_)
  ·
    refine req_i ?_ ?_
    · -- r0
      first | omega | (simp only [sigPickN, pickPost]; omega)
    refine req_i ?_ ?_
    · -- r1
      first | omega | (simp only [sigPickN, pickPost]; omega)
    refine req_i ?_ ?_
    · -- r2
      first | omega | (simp only [sigPickN, pickPost]; omega)
    rfl
  ·
    refine req_i ?_ ?_
    · -- r3
      first | omega | (simp only [sigPickN, pickPost]; omega)
    refine req_i ?_ ?_
    · -- r4
      first | omega | (simp only [sigPickN, pickPost]; omega)
    refine req_i ?_ ?_
    · -- r5
      first | omega | (simp only [sigPickN, pickPost]; omega)
    rfl
theorem ext_pick : ∀ p ∈ ([] : List (Nat × Ext)), ExtRow Try.prog p.1 p.2 := by
  intro p hp
  cases hp
theorem cts_pick : CtsOk Try.prog [] := fun f c h => by cases h
theorem fn_pick : FnOk Try.prog 26 (sigPickN 1000000000000) [] := fn_sound (by kernel_rfl) ext_pick cts_pick names vt_pick
end Go.Proofs.Ytagndcelalcmpaa
