import Derived.Test.YtagndcelalcmpaaSpec29e
import Derived.Test.YtagndcelalcmpaaRows
import Derived.Test.YtagndcelalcmpaaFnames
namespace Go.Proofs.Ytagndcelalcmpaa
open Go.Ev Go.Sp
set_option maxRecDepth 100000
theorem vc_rnd1 : vcFn Try.prog [] tab [] 100 31 sigRnd1 = (allB fun n0 : Int => 
impB ((-200000000000000000 : Int) ≤ n0) (
impB (n0 ≤ (-1 : Int)) (
allB fun n1 : Int => 
impB ((1 : Int) ≤ n1) (
impB (n1 ≤ (8192 : Int)) (
impB (sigRnd1.pre [DV.n n0, DV.n n1]) (
reqB ((-500000000000000000 : Int) ≤ (0 : Int) - ((2 : Int) * ((0 : Int) - n0) + n1).tdiv ((2 : Int) * n1)) (
reqB ((0 : Int) - ((2 : Int) * ((0 : Int) - n0) + n1).tdiv ((2 : Int) * n1) ≤ (500000000000000000 : Int)) (
reqB (sigRnd1.post [DV.n n0, DV.n n1]
  [DV.n ((0 : Int) - ((2 : Int) * ((0 : Int) - n0) + n1).tdiv ((2 : Int) * n1))]) (
true))))))))) := by kernel_rfl
set_option maxHeartbeats 8000000 in
theorem vt_rnd1 : vcFn Try.prog [] tab [] 100 31 sigRnd1 = true := by
  rw [vc_rnd1]
  refine all_i fun n0 => ?_
  refine imp_i fun h0 => ?_
  refine imp_i fun h1 => ?_
  refine all_i fun n1 => ?_
  refine imp_i fun h2 => ?_
  refine imp_i fun h3 => ?_
  refine imp_i fun h4 => ?_
  try simp only [sigRnd0, sigRnd, rndPost0, sigRnd1, rndPost1, rndPost, sigLen, lenPost, sigBnd, bndPost, sigL5, sigPickN, pickPost, sigTrue0, List.cons.injEq, DV.b.injEq, and_true] at h4
  rw [tdiv_nn (by omega)]
  rw [show (0 : Int) - n0 = -n0 by omega]
  have b1 := Int.ediv_nonneg (a := 2 * (-n0) + n1) (b := 2 * n1) (by omega) (by omega)
  have b2 := Int.ediv_le_self (a := 2 * (-n0) + n1) (2 * n1) (by omega)
  refine req_i ?_ ?_
  · -- r0
    first | omega | trivial | (simp only [sigRnd0, sigRnd, rndPost0, sigRnd1, rndPost1, rndPost, sigLen, lenPost, sigBnd, bndPost, sigL5, sigPickN, pickPost, sigTrue0, List.cons.injEq, DV.b.injEq, and_true]; omega) | (simp only [sigRnd0, sigRnd, rndPost0, sigRnd1, rndPost1, rndPost, sigLen, lenPost, sigBnd, bndPost, sigL5, sigPickN, pickPost, sigTrue0, List.cons.injEq, DV.b.injEq, and_true]; trivial) | (simp only [sigRnd0, sigRnd, rndPost0, sigRnd1, rndPost1, rndPost, sigLen, lenPost, sigBnd, bndPost, sigL5, sigPickN, pickPost, sigTrue0, List.cons.injEq, DV.b.injEq, and_true]; grind)
  refine req_i ?_ ?_
  · -- r1
    first | omega | trivial | (simp only [sigRnd0, sigRnd, rndPost0, sigRnd1, rndPost1, rndPost, sigLen, lenPost, sigBnd, bndPost, sigL5, sigPickN, pickPost, sigTrue0, List.cons.injEq, DV.b.injEq, and_true]; omega) | (simp only [sigRnd0, sigRnd, rndPost0, sigRnd1, rndPost1, rndPost, sigLen, lenPost, sigBnd, bndPost, sigL5, sigPickN, pickPost, sigTrue0, List.cons.injEq, DV.b.injEq, and_true]; trivial) | (simp only [sigRnd0, sigRnd, rndPost0, sigRnd1, rndPost1, rndPost, sigLen, lenPost, sigBnd, bndPost, sigL5, sigPickN, pickPost, sigTrue0, List.cons.injEq, DV.b.injEq, and_true]; grind)
  refine req_i ?_ ?_
  · -- r2
    first | omega | trivial | (simp only [sigRnd0, sigRnd, rndPost0, sigRnd1, rndPost1, rndPost, sigLen, lenPost, sigBnd, bndPost, sigL5, sigPickN, pickPost, sigTrue0, List.cons.injEq, DV.b.injEq, and_true]; omega) | (simp only [sigRnd0, sigRnd, rndPost0, sigRnd1, rndPost1, rndPost, sigLen, lenPost, sigBnd, bndPost, sigL5, sigPickN, pickPost, sigTrue0, List.cons.injEq, DV.b.injEq, and_true]; trivial) | (simp only [sigRnd0, sigRnd, rndPost0, sigRnd1, rndPost1, rndPost, sigLen, lenPost, sigBnd, bndPost, sigL5, sigPickN, pickPost, sigTrue0, List.cons.injEq, DV.b.injEq, and_true]; grind)
  rfl
theorem ext_rnd1 : ∀ p ∈ ([] : List (Nat × Ext)), ExtRow Try.prog p.1 p.2 := by
  intro p hp
  cases hp
theorem cts_rnd1 : CtsOk Try.prog [] := fun f c h => by cases h
theorem fn_rnd1 : FnOk Try.prog 31 sigRnd1 [] := fn_sound (by kernel_rfl) ext_rnd1 cts_rnd1 names vt_rnd1
end Go.Proofs.Ytagndcelalcmpaa
