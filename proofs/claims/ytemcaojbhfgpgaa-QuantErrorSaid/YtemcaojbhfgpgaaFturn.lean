import Derived.Test.YtemcaojbhfgpgaaSpec13e
import Derived.Test.YtemcaojbhfgpgaaRows
import Derived.Test.YtemcaojbhfgpgaaFnames
namespace Go.Proofs.Ytemcaojbhfgpgaa
open Go.Ev Go.Sp
set_option maxRecDepth 100000
theorem vc_turn : vcFn Try.prog [] tab [] 100 29 (sigPickN 4398046511104) = (allB fun n0 : Int => 
impB ((-9223372036854775808 : Int) ≤ n0) (
impB (n0 ≤ (9223372036854775807 : Int)) (
allB fun n1 : Int => 
impB ((1 : Int) ≤ n1) (
impB (n1 ≤ (4398046511104 : Int)) (
impB ((sigPickN (4398046511104 : Int)).pre [DV.n n0, DV.n n1]) (
bR (dec (n0.tmod n1 < (0 : Int))) (
 reqB ((0 : Int) ≤ n0.tmod n1 + n1) (
 reqB (n0.tmod n1 + n1 ≤ (4398046511104 : Int)) (
 reqB ((sigPickN (4398046511104 : Int)).post [DV.n n0, DV.n n1] [DV.n (n0.tmod n1 + n1)]) (
 true)))) (
 reqB ((0 : Int) ≤ n0.tmod n1) (
 reqB (n0.tmod n1 ≤ (4398046511104 : Int)) (
 reqB ((sigPickN (4398046511104 : Int)).post [DV.n n0, DV.n n1] [DV.n (n0.tmod n1)]) (
 true)))))))))) := by kernel_rfl
set_option maxHeartbeats 8000000 in
theorem vt_turn : vcFn Try.prog [] tab [] 100 29 (sigPickN 4398046511104) = true := by
  rw [vc_turn]
  try simp only [Int.toNat_natCast, List.length_set, List.length_replicate, List.length_take, List.length_drop, List.length_append, List.length_cons, List.length_nil, Nat.min_self, List.take_take, lenCols_i, lenCols_b, List.drop_zero, List.take_length, Nat.add_eq, Nat.mul_eq, Nat.sub_eq, Nat.zero_add, Nat.sub_zero, Nat.mul_one]
  refine all_i fun n0 => ?_
  refine imp_i fun h0 => ?_
  refine imp_i fun h1 => ?_
  refine all_i fun n1 => ?_
  refine imp_i fun h2 => ?_
  refine imp_i fun h3 => ?_
  have T := tmod_of (x := n0) (n := n1) (by omega)
  have T2 := Int.emod_lt_of_pos n0 (b := n1) (by omega)
  refine imp_i fun h4 => ?_
  try simp only [sigPickN, pickPost, List.cons.injEq, DV.b.injEq, and_true, List.length_cons, List.length_nil] at h4
  refine bR_dec (fun h5 => ?_) (fun h5 => ?_)
  ·
    refine req_i ?_ ?_
    · -- r0
      first | omega | assumption | grind
    refine req_i ?_ ?_
    · -- r1
      first | omega | assumption | grind
    refine req_i ?_ ?_
    · -- r2
      first | omega | ((try simp only [sigPickN, pickPost, List.cons.injEq, DV.b.injEq, and_true, List.length_cons, List.length_nil]); first | done | omega | assumption | grind [getD_set, getD_rep, toNat_succ, cntN_yes, cntN_no])
    rfl
  ·
    refine req_i ?_ ?_
    · -- r3
      first | omega | assumption | grind
    refine req_i ?_ ?_
    · -- r4
      first | omega | assumption | grind
    refine req_i ?_ ?_
    · -- r5
      first | omega | ((try simp only [sigPickN, pickPost, List.cons.injEq, DV.b.injEq, and_true, List.length_cons, List.length_nil]); first | done | omega | assumption | grind [getD_set, getD_rep, toNat_succ, cntN_yes, cntN_no])
    rfl
theorem ext_turn : ∀ p ∈ ([] : List (Nat × Ext)), ExtRow Try.prog p.1 p.2 := by
  intro p hp
  cases hp
theorem cts_turn : CtsOk Try.prog [] := fun f c h => by cases h
theorem fn_turn : FnOk Try.prog 29 (sigPickN 4398046511104) [] := fn_sound (by kernel_rfl) ext_turn cts_turn names vt_turn
end Go.Proofs.Ytemcaojbhfgpgaa
