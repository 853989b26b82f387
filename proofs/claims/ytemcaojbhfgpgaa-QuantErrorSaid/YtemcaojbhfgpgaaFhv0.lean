import Derived.Test.YtemcaojbhfgpgaaSpec13e
import Derived.Test.YtemcaojbhfgpgaaRows
import Derived.Test.YtemcaojbhfgpgaaFnames
namespace Go.Proofs.Ytemcaojbhfgpgaa
open Go.Ev Go.Sp
set_option maxRecDepth 100000
theorem vc_hv0 : vcFn Try.prog [] tab [] 100 47 (sigHv 0 70368744177664) = (allB fun n0 : Int => 
impB ((0 : Int) ≤ n0) (
impB (n0 ≤ (70368744177664 : Int)) (
allB fun n1 : Int => 
impB ((0 : Int) ≤ n1) (
impB (n1 ≤ (30 : Int)) (
impB ((sigHv (0 : Int) (70368744177664 : Int)).pre [DV.n n0, DV.n n1]) (
reqB ((-70368744177664 : Int) ≤
  opI (SO.shr Go.IntKind.i64)
    (n0 + opI (SO.shl Go.IntKind.i64) (1 : Int) n1 / Int.ofNat (2 : Nat)) n1) (
reqB (opI (SO.shr Go.IntKind.i64)
    (n0 + opI (SO.shl Go.IntKind.i64) (1 : Int) n1 / Int.ofNat (2 : Nat)) n1 ≤
  (70368744177664 : Int)) (
reqB ((sigHv (0 : Int) (70368744177664 : Int)).post [DV.n n0, DV.n n1]
  [DV.n
      (opI (SO.shr Go.IntKind.i64)
        (n0 + opI (SO.shl Go.IntKind.i64) (1 : Int) n1 / Int.ofNat (2 : Nat)) n1)]) (
true))))))))) := by kernel_rfl
set_option maxHeartbeats 8000000 in
theorem vt_hv0 : vcFn Try.prog [] tab [] 100 47 (sigHv 0 70368744177664) = true := by
  rw [vc_hv0]
  try simp only [Int.toNat_natCast, List.length_set, List.length_replicate, List.length_take, List.length_drop, List.length_append, List.length_cons, List.length_nil, Nat.min_self, List.take_take, lenCols_i, lenCols_b, List.drop_zero, List.take_length, Nat.add_eq, Nat.mul_eq, Nat.sub_eq, Nat.zero_add, Nat.sub_zero, Nat.mul_one]
  refine all_i fun n0 => ?_
  refine imp_i fun h0 => ?_
  refine imp_i fun h1 => ?_
  refine all_i fun n1 => ?_
  refine imp_i fun h2 => ?_
  refine imp_i fun h3 => ?_
  refine imp_i fun h4 => ?_
  try simp only [sigHv, hvPost, List.cons.injEq, DV.b.injEq, and_true, List.length_cons, List.length_nil] at h4
  rw [shr_eq (by omega) (by omega), shl_one (by omega) (by omega), show (Int.ofNat 2) = 2 from rfl]
  have b1 := hv_bd (x := n0) (n := n1) (M := 70368744177664) (by omega) (by omega)
  have e1 : (n0 + p2 n1 / 2) / p2 n1 = hv n0 n1 := by rw [hv, if_neg (by omega)]
  rw [e1]
  refine req_i ?_ ?_
  · -- r0
    first | omega | assumption | grind
  refine req_i ?_ ?_
  · -- r1
    first | omega | assumption | grind
  refine req_i ?_ ?_
  · -- r2
    first | omega | ((try simp only [sigHv, hvPost, List.cons.injEq, DV.b.injEq, and_true, List.length_cons, List.length_nil]); first | done | omega | assumption | grind [getD_set, getD_rep, toNat_succ, cntN_yes, cntN_no])
  rfl
theorem ext_hv0 : ∀ p ∈ ([] : List (Nat × Ext)), ExtRow Try.prog p.1 p.2 := by
  intro p hp
  cases hp
theorem cts_hv0 : CtsOk Try.prog [] := fun f c h => by cases h
theorem fn_hv0 : FnOk Try.prog 47 (sigHv 0 70368744177664) [] := fn_sound (by kernel_rfl) ext_hv0 cts_hv0 names vt_hv0
end Go.Proofs.Ytemcaojbhfgpgaa
