import Derived.Test.YtemcaojbhfgpgaaSpec13e
import Derived.Test.YtemcaojbhfgpgaaRows
import Derived.Test.YtemcaojbhfgpgaaFnames
namespace Go.Proofs.Ytemcaojbhfgpgaa
open Go.Ev Go.Sp
set_option maxRecDepth 100000
theorem vc_gr : vcFn Try.prog [] tab [] 100 35 sigGr = (allB fun n0 : Int => 
impB ((2 : Int) ≤ n0) (
impB (n0 ≤ (8 : Int)) (
allB fun n1 : Int => 
impB ((0 : Int) ≤ n1) (
impB (n1 ≤ (30 : Int)) (
impB (sigGr.pre [DV.n n0, DV.n n1]) (
reqB ((1 : Int) ≤ opI (SO.shl Go.IntKind.i64) (1 : Int) (n0 - (1 : Int)) - (1 : Int)) (
reqB (opI (SO.shl Go.IntKind.i64) (1 : Int) (n0 - (1 : Int)) - (1 : Int) ≤ (127 : Int)) (
reqB (sigGr.post [DV.n n0, DV.n n1]
  [DV.n (opI (SO.shl Go.IntKind.i64) (1 : Int) (n0 - (1 : Int)) - (1 : Int))]) (
true))))))))) := by kernel_rfl
set_option maxHeartbeats 8000000 in
theorem vt_gr : vcFn Try.prog [] tab [] 100 35 sigGr = true := by
  rw [vc_gr]
  try simp only [Int.toNat_natCast, List.length_set, List.length_replicate, List.length_take, List.length_drop, List.length_append, List.length_cons, List.length_nil, Nat.min_self, List.take_take, lenCols_i, lenCols_b, List.drop_zero, List.take_length, Nat.add_eq, Nat.mul_eq, Nat.sub_eq, Nat.zero_add, Nat.sub_zero, Nat.mul_one]
  refine all_i fun n0 => ?_
  refine imp_i fun h0 => ?_
  refine imp_i fun h1 => ?_
  refine all_i fun n1 => ?_
  refine imp_i fun h2 => ?_
  refine imp_i fun h3 => ?_
  refine imp_i fun h4 => ?_
  try simp only [sigGr, grPost, List.cons.injEq, DV.b.injEq, and_true, List.length_cons, List.length_nil] at h4
  rw [shl_one (by omega) (by omega)]
  have b1 := qq_bd (b := n0) (by omega) (by omega)
  rw [show p2 (n0 - 1) - 1 = qq n0 from rfl]
  refine req_i ?_ ?_
  · -- r0
    first | omega | assumption | grind
  refine req_i ?_ ?_
  · -- r1
    first | omega | assumption | grind
  refine req_i ?_ ?_
  · -- r2
    first | omega | ((try simp only [sigGr, grPost, List.cons.injEq, DV.b.injEq, and_true, List.length_cons, List.length_nil]); first | done | omega | assumption | grind [getD_set, getD_rep, toNat_succ, cntN_yes, cntN_no])
  rfl
theorem ext_gr : ∀ p ∈ ([] : List (Nat × Ext)), ExtRow Try.prog p.1 p.2 := by
  intro p hp
  cases hp
theorem cts_gr : CtsOk Try.prog [] := fun f c h => by cases h
theorem fn_gr : FnOk Try.prog 35 sigGr [] := fn_sound (by kernel_rfl) ext_gr cts_gr names vt_gr
end Go.Proofs.Ytemcaojbhfgpgaa
