import Derived.Test.YtemcaojbhfgpgaaSpec13e
import Derived.Test.YtemcaojbhfgpgaaRows
import Derived.Test.YtemcaojbhfgpgaaFnames
namespace Go.Proofs.Ytemcaojbhfgpgaa
open Go.Ev Go.Sp
set_option maxRecDepth 100000
theorem vc_coarse : vcFn Try.prog [] tab [] 100 12 sigCoarse = (allB fun n0 : Int => 
impB ((2 : Int) ≤ n0) (
impB (n0 ≤ (8 : Int)) (
allB fun n1 : Int => 
impB ((0 : Int) ≤ n1) (
impB (n1 ≤ (30 : Int)) (
impB (sigCoarse.pre [DV.n n0, DV.n n1]) (
reqB ((0 : Int) ≤ opI (SO.shl Go.IntKind.i64) (1 : Int) n1 / Int.ofNat (2 : Nat)) (
reqB (opI (SO.shl Go.IntKind.i64) (1 : Int) n1 / Int.ofNat (2 : Nat) ≤ (536870912 : Int)) (
reqB (sigCoarse.post [DV.n n0, DV.n n1]
  [DV.n (opI (SO.shl Go.IntKind.i64) (1 : Int) n1 / Int.ofNat (2 : Nat)), DV.n (0 : Int)]) (
true))))))))) := by kernel_rfl
set_option maxHeartbeats 8000000 in
theorem vt_coarse : vcFn Try.prog [] tab [] 100 12 sigCoarse = true := by
  rw [vc_coarse]
  try simp only [Int.toNat_natCast, List.length_set, List.length_replicate, List.length_take, List.length_drop, List.length_append, List.length_cons, List.length_nil, Nat.min_self, List.take_take, lenCols_i, lenCols_b, List.drop_zero, List.take_length, Nat.add_eq, Nat.mul_eq, Nat.sub_eq, Nat.zero_add, Nat.sub_zero, Nat.mul_one]
  refine all_i fun n0 => ?_
  refine imp_i fun h0 => ?_
  refine imp_i fun h1 => ?_
  refine all_i fun n1 => ?_
  refine imp_i fun h2 => ?_
  refine imp_i fun h3 => ?_
  refine imp_i fun h4 => ?_
  try simp only [sigCoarse, coarsePost, List.cons.injEq, DV.b.injEq, and_true, List.length_cons, List.length_nil] at h4
  rw [shl_one (by omega) (by omega), show (Int.ofNat 2) = 2 from rfl]
  have q1 : p2 n1 ≤ p2 30 := p2_mono (by omega)
  rw [show p2 30 = 1073741824 by decide] at q1
  have q2 := p2_pos n1
  refine req_i ?_ ?_
  · -- r0
    first | omega | assumption | grind
  refine req_i ?_ ?_
  · -- r1
    first | omega | assumption | grind
  refine req_i ?_ ?_
  · -- r2
    first | omega | ((try simp only [sigCoarse, coarsePost, List.cons.injEq, DV.b.injEq, and_true, List.length_cons, List.length_nil]); first | done | omega | assumption | grind [getD_set, getD_rep, toNat_succ, cntN_yes, cntN_no])
  rfl
theorem ext_coarse : ∀ p ∈ ([] : List (Nat × Ext)), ExtRow Try.prog p.1 p.2 := by
  intro p hp
  cases hp
theorem cts_coarse : CtsOk Try.prog [] := fun f c h => by cases h
theorem fn_coarse : FnOk Try.prog 12 sigCoarse [] := fn_sound (by kernel_rfl) ext_coarse cts_coarse names vt_coarse
end Go.Proofs.Ytemcaojbhfgpgaa
