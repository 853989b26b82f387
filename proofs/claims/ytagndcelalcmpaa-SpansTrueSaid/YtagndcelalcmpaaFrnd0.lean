import Derived.Test.YtagndcelalcmpaaSpec29e
import Derived.Test.YtagndcelalcmpaaRows
import Derived.Test.YtagndcelalcmpaaFnames
namespace Go.Proofs.Ytagndcelalcmpaa
open Go.Ev Go.Sp
set_option maxRecDepth 100000
theorem vc_rnd0 : vcFn Try.prog [] tab [] 100 31 sigRnd0 = (allB fun n0 : Int => 
impB ((0 : Int) ≤ n0) (
impB (n0 ≤ (200000000000000000 : Int)) (
allB fun n1 : Int => 
impB ((1 : Int) ≤ n1) (
impB (n1 ≤ (8192 : Int)) (
impB (sigRnd0.pre [DV.n n0, DV.n n1]) (
reqB ((-500000000000000000 : Int) ≤ ((2 : Int) * n0 + n1).tdiv ((2 : Int) * n1)) (
reqB (((2 : Int) * n0 + n1).tdiv ((2 : Int) * n1) ≤ (500000000000000000 : Int)) (
reqB (sigRnd0.post [DV.n n0, DV.n n1] [DV.n (((2 : Int) * n0 + n1).tdiv ((2 : Int) * n1))]) (
true))))))))) := by kernel_rfl
set_option maxHeartbeats 8000000 in
theorem vt_rnd0 : vcFn Try.prog [] tab [] 100 31 sigRnd0 = true := by
  rw [vc_rnd0]
  refine all_i fun n0 => ?_
  refine imp_i fun h0 => ?_
  refine imp_i fun h1 => ?_
  refine all_i fun n1 => ?_
  refine imp_i fun h2 => ?_
  refine imp_i fun h3 => ?_
  refine imp_i fun h4 => ?_
  try simp only [sigRnd0, sigRnd, rndPost0, sigRnd1, rndPost1, rndPost, sigLen, lenPost, sigBnd, bndPost, sigL5, sigPickN, pickPost, sigTrue0, List.cons.injEq, DV.b.injEq, and_true] at h4
  rw [tdiv_nn (by omega)]
  have b1 := Int.ediv_nonneg (a := 2 * n0 + n1) (b := 2 * n1) (by omega) (by omega)
  have b2 := Int.ediv_le_self (a := 2 * n0 + n1) (2 * n1) (by omega)
  refine req_i ?_ ?_
  · -- r0
    first | omega | trivial | (simp only [sigRnd0, sigRnd, rndPost0, sigRnd1, rndPost1, rndPost, sigLen, lenPost, sigBnd, bndPost, sigL5, sigPickN, pickPost, sigTrue0, List.cons.injEq, DV.b.injEq, and_true]; omega) | (simp only [sigRnd0, sigRnd, rndPost0, sigRnd1, rndPost1, rndPost, sigLen, lenPost, sigBnd, bndPost, sigL5, sigPickN, pickPost, sigTrue0, List.cons.injEq, DV.b.injEq, and_true]; trivial) | (simp only [sigRnd0, sigRnd, rndPost0, sigRnd1, rndPost1, rndPost, sigLen, lenPost, sigBnd, bndPost, sigL5, sigPickN, pickPost, sigTrue0, List.cons.injEq, DV.b.injEq, and_true]; grind)
  refine req_i ?_ ?_
  · -- r1
    first | omega | trivial | (simp only [sigRnd0, sigRnd, rndPost0, sigRnd1, rndPost1, rndPost, sigLen, lenPost, sigBnd, bndPost, sigL5, sigPickN, pickPost, sigTrue0, List.cons.injEq, DV.b.injEq, and_true]; omega) | (simp only [sigRnd0, sigRnd, rndPost0, sigRnd1, rndPost1, rndPost, sigLen, lenPost, sigBnd, bndPost, sigL5, sigPickN, pickPost, sigTrue0, List.cons.injEq, DV.b.injEq, and_true]; trivial) | (simp only [sigRnd0, sigRnd, rndPost0, sigRnd1, rndPost1, rndPost, sigLen, lenPost, sigBnd, bndPost, sigL5, sigPickN, pickPost, sigTrue0, List.cons.injEq, DV.b.injEq, and_true]; grind)
  refine req_i ?_ ?_
  · -- r2
    first | omega | trivial | (simp only [sigRnd0, sigRnd, rndPost0, sigRnd1, rndPost1, rndPost, sigLen, lenPost, sigBnd, bndPost, sigL5, sigPickN, pickPost, sigTrue0, List.cons.injEq, DV.b.injEq, and_true]; omega) | (simp only [sigRnd0, sigRnd, rndPost0, sigRnd1, rndPost1, rndPost, sigLen, lenPost, sigBnd, bndPost, sigL5, sigPickN, pickPost, sigTrue0, List.cons.injEq, DV.b.injEq, and_true]; trivial) | (simp only [sigRnd0, sigRnd, rndPost0, sigRnd1, rndPost1, rndPost, sigLen, lenPost, sigBnd, bndPost, sigL5, sigPickN, pickPost, sigTrue0, List.cons.injEq, DV.b.injEq, and_true]; grind)
  rfl
theorem ext_rnd0 : ∀ p ∈ ([] : List (Nat × Ext)), ExtRow Try.prog p.1 p.2 := by
  intro p hp
  cases hp
theorem cts_rnd0 : CtsOk Try.prog [] := fun f c h => by cases h
theorem fn_rnd0 : FnOk Try.prog 31 sigRnd0 [] := fn_sound (by kernel_rfl) ext_rnd0 cts_rnd0 names vt_rnd0
end Go.Proofs.Ytagndcelalcmpaa
