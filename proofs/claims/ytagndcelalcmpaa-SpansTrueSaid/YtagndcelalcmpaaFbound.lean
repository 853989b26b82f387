import Derived.Test.YtagndcelalcmpaaSpec29e
import Derived.Test.YtagndcelalcmpaaRows
import Derived.Test.YtagndcelalcmpaaFnames
namespace Go.Proofs.Ytagndcelalcmpaa
open Go.Ev Go.Sp
set_option maxRecDepth 100000
theorem vc_bound : vcFn Try.prog [] tab [] 100 17 sigBnd = (allB fun n0 : Int => 
impB ((1 : Int) ≤ n0) (
impB (n0 ≤ (8192 : Int)) (
allB fun n1 : Int => 
impB ((1 : Int) ≤ n1) (
impB (n1 ≤ (8 : Int)) (
impB (sigBnd.pre [DV.n n0, DV.n n1]) (
reqB ((-9223372036854775808 : Int) ≤ (n1 * (299792458 : Int) + n0 - (1 : Int)).tdiv n0 + (1 : Int)) (
reqB ((n1 * (299792458 : Int) + n0 - (1 : Int)).tdiv n0 + (1 : Int) ≤ (9223372036854775807 : Int)) (
reqB (sigBnd.post [DV.n n0, DV.n n1]
  [DV.n ((n1 * (299792458 : Int) + n0 - (1 : Int)).tdiv n0 + (1 : Int)), DV.n (0 : Int)]) (
true))))))))) := by kernel_rfl
set_option maxHeartbeats 8000000 in
theorem vt_bound : vcFn Try.prog [] tab [] 100 17 sigBnd = true := by
  rw [vc_bound]
  refine all_i fun n0 => ?_
  refine imp_i fun h0 => ?_
  refine imp_i fun h1 => ?_
  refine all_i fun n1 => ?_
  refine imp_i fun h2 => ?_
  refine imp_i fun h3 => ?_
  refine imp_i fun h4 => ?_
  try simp only [sigRnd0, sigRnd, rndPost0, sigRnd1, rndPost1, rndPost, sigLen, lenPost, sigBnd, bndPost, sigL5, sigPickN, pickPost, sigTrue0, List.cons.injEq, DV.b.injEq, and_true] at h4
  rw [tdiv_nn (by omega)]
  have b1 := Int.ediv_nonneg (a := n1 * 299792458 + n0 - 1) (b := n0) (by omega) (by omega)
  have b2 := Int.ediv_le_self (a := n1 * 299792458 + n0 - 1) n0 (by omega)
  refine req_i ?_ ?_
  · -- r0
    first | omega | trivial | (simp only [sigRnd0, sigRnd, rndPost0, sigRnd1, rndPost1, rndPost, sigLen, lenPost, sigBnd, bndPost, sigL5, sigPickN, pickPost, sigTrue0, List.cons.injEq, DV.b.injEq, and_true]; omega) | (simp only [sigRnd0, sigRnd, rndPost0, sigRnd1, rndPost1, rndPost, sigLen, lenPost, sigBnd, bndPost, sigL5, sigPickN, pickPost, sigTrue0, List.cons.injEq, DV.b.injEq, and_true]; trivial) | (simp only [sigRnd0, sigRnd, rndPost0, sigRnd1, rndPost1, rndPost, sigLen, lenPost, sigBnd, bndPost, sigL5, sigPickN, pickPost, sigTrue0, List.cons.injEq, DV.b.injEq, and_true]; grind)
  refine req_i ?_ ?_
  · -- r1
    first | omega | trivial | (simp only [sigRnd0, sigRnd, rndPost0, sigRnd1, rndPost1, rndPost, sigLen, lenPost, sigBnd, bndPost, sigL5, sigPickN, pickPost, sigTrue0, List.cons.injEq, DV.b.injEq, and_true]; omega) | (simp only [sigRnd0, sigRnd, rndPost0, sigRnd1, rndPost1, rndPost, sigLen, lenPost, sigBnd, bndPost, sigL5, sigPickN, pickPost, sigTrue0, List.cons.injEq, DV.b.injEq, and_true]; trivial) | (simp only [sigRnd0, sigRnd, rndPost0, sigRnd1, rndPost1, rndPost, sigLen, lenPost, sigBnd, bndPost, sigL5, sigPickN, pickPost, sigTrue0, List.cons.injEq, DV.b.injEq, and_true]; grind)
  refine req_i ?_ ?_
  · -- r2
    first | omega | trivial | (simp only [sigRnd0, sigRnd, rndPost0, sigRnd1, rndPost1, rndPost, sigLen, lenPost, sigBnd, bndPost, sigL5, sigPickN, pickPost, sigTrue0, List.cons.injEq, DV.b.injEq, and_true]; omega) | (simp only [sigRnd0, sigRnd, rndPost0, sigRnd1, rndPost1, rndPost, sigLen, lenPost, sigBnd, bndPost, sigL5, sigPickN, pickPost, sigTrue0, List.cons.injEq, DV.b.injEq, and_true]; trivial) | (simp only [sigRnd0, sigRnd, rndPost0, sigRnd1, rndPost1, rndPost, sigLen, lenPost, sigBnd, bndPost, sigL5, sigPickN, pickPost, sigTrue0, List.cons.injEq, DV.b.injEq, and_true]; grind)
  rfl
theorem ext_bound : ∀ p ∈ ([] : List (Nat × Ext)), ExtRow Try.prog p.1 p.2 := by
  intro p hp
  cases hp
theorem cts_bound : CtsOk Try.prog [] := fun f c h => by cases h
theorem fn_bound : FnOk Try.prog 17 sigBnd [] := fn_sound (by kernel_rfl) ext_bound cts_bound names vt_bound
end Go.Proofs.Ytagndcelalcmpaa
