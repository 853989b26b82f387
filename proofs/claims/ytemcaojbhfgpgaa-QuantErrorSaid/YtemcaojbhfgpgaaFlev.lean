import Derived.Test.YtemcaojbhfgpgaaSpec13e
import Derived.Test.YtemcaojbhfgpgaaRows
import Derived.Test.YtemcaojbhfgpgaaFnames
import Derived.Test.YtemcaojbhfgpgaaFgr
import Derived.Test.YtemcaojbhfgpgaaFhv
namespace Go.Proofs.Ytemcaojbhfgpgaa
open Go.Ev Go.Sp
set_option maxRecDepth 100000
theorem vc_lev : vcFn Try.prog [(35, Ext.ctr (ctOf sigGr)), (47, Ext.ctr (ctOf (sigHv (-70368744177664) 70368744177664)))] tab [] 100 32 sigLev = (allB fun n0 : Int => 
impB ((2 : Int) ≤ n0) (
impB (n0 ≤ (8 : Int)) (
allB fun n1 : Int => 
impB ((0 : Int) ≤ n1) (
impB (n1 ≤ (30 : Int)) (
allB fun n2 : Int => 
impB ((-70368744177664 : Int) ≤ n2) (
impB (n2 ≤ (70368744177664 : Int)) (
impB (sigLev.pre [DV.n n0, DV.n n1, DV.n n2]) (
reqB ((2 : Int) ≤ n0) (
reqB (n0 ≤ (8 : Int)) (
reqB ((0 : Int) ≤ n1) (
reqB (n1 ≤ (30 : Int)) (
reqB (sigGr.pre [DV.n n0, DV.n n1]) (
allB fun n3 : Int => 
impB ((1 : Int) ≤ n3) (
impB (n3 ≤ (127 : Int)) (
impB (sigGr.post [DV.n n0, DV.n n1] [DV.n n3]) (
reqB ((-70368744177664 : Int) ≤ n2) (
reqB (n2 ≤ (70368744177664 : Int)) (
reqB ((0 : Int) ≤ n1) (
reqB (n1 ≤ (30 : Int)) (
reqB ((sigHv (-70368744177664 : Int) (70368744177664 : Int)).pre [DV.n n2, DV.n n1]) (
allB fun n4 : Int => 
impB ((-70368744177664 : Int) ≤ n4) (
impB (n4 ≤ (70368744177664 : Int)) (
impB ((sigHv (-70368744177664 : Int) (70368744177664 : Int)).post [DV.n n2, DV.n n1] [DV.n n4]) (
reqB ((-127 : Int) ≤ Min.min (Max.max n4 ((0 : Int) - n3)) n3) (
reqB (Min.min (Max.max n4 ((0 : Int) - n3)) n3 ≤ (127 : Int)) (
reqB (sigLev.post [DV.n n0, DV.n n1, DV.n n2] [DV.n (Min.min (Max.max n4 ((0 : Int) - n3)) n3)]) (
true))))))))))))))))))))))))))) := by kernel_rfl
set_option maxHeartbeats 8000000 in
theorem vt_lev : vcFn Try.prog [(35, Ext.ctr (ctOf sigGr)), (47, Ext.ctr (ctOf (sigHv (-70368744177664) 70368744177664)))] tab [] 100 32 sigLev = true := by
  rw [vc_lev]
  try simp only [Int.toNat_natCast, List.length_set, List.length_replicate, List.length_take, List.length_drop, List.length_append, List.length_cons, List.length_nil, Nat.min_self, List.take_take, lenCols_i, lenCols_b, List.drop_zero, List.take_length, Nat.add_eq, Nat.mul_eq, Nat.sub_eq, Nat.zero_add, Nat.sub_zero, Nat.mul_one]
  refine all_i fun n0 => ?_
  refine imp_i fun h0 => ?_
  refine imp_i fun h1 => ?_
  refine all_i fun n1 => ?_
  refine imp_i fun h2 => ?_
  refine imp_i fun h3 => ?_
  refine all_i fun n2 => ?_
  refine imp_i fun h4 => ?_
  refine imp_i fun h5 => ?_
  refine imp_i fun h6 => ?_
  try simp only [sigLev, levPost, List.cons.injEq, DV.b.injEq, and_true, List.length_cons, List.length_nil] at h6
  refine req_i ?_ ?_
  · -- r0
    first | omega | assumption | grind
  refine req_i ?_ ?_
  · -- r1
    first | omega | assumption | grind
  refine req_i ?_ ?_
  · -- r2
    first | omega | assumption | grind
  refine req_i ?_ ?_
  · -- r3
    first | omega | assumption | grind
  refine req_i ?_ ?_
  · -- r4
    first | trivial | assumption | (simp only [sigGr, grPost, List.cons.injEq, DV.b.injEq, and_true, List.length_cons, List.length_nil]; done) | ((try simp only [sigGr, grPost, List.cons.injEq, DV.b.injEq, and_true, List.length_cons, List.length_nil]); first | omega | assumption | grind)
  refine all_i fun n3 => ?_
  refine imp_i fun h7 => ?_
  refine imp_i fun h8 => ?_
  refine imp_i fun h9 => ?_
  try simp only [sigGr, grPost, List.cons.injEq, DV.b.injEq, and_true, List.length_cons, List.length_nil] at h9
  refine req_i ?_ ?_
  · -- r5
    first | omega | assumption | grind
  refine req_i ?_ ?_
  · -- r6
    first | omega | assumption | grind
  refine req_i ?_ ?_
  · -- r7
    first | omega | assumption | grind
  refine req_i ?_ ?_
  · -- r8
    first | omega | assumption | grind
  refine req_i ?_ ?_
  · -- r9
    first | trivial | assumption | (simp only [sigHv, hvPost, List.cons.injEq, DV.b.injEq, and_true, List.length_cons, List.length_nil]; done) | ((try simp only [sigHv, hvPost, List.cons.injEq, DV.b.injEq, and_true, List.length_cons, List.length_nil]); first | omega | assumption | grind)
  refine all_i fun n4 => ?_
  refine imp_i fun h10 => ?_
  refine imp_i fun h11 => ?_
  refine imp_i fun h12 => ?_
  try simp only [sigHv, hvPost, List.cons.injEq, DV.b.injEq, and_true, List.length_cons, List.length_nil] at h12
  refine req_i ?_ ?_
  · -- r10
    first | omega | assumption | grind
  refine req_i ?_ ?_
  · -- r11
    first | omega | assumption | grind
  refine req_i ?_ ?_
  · -- r12
    simp only [sigLev, levPost, lev]; rw [← h9, ← h12]; omega
  rfl
theorem ext_lev : ∀ p ∈ ([(35, Ext.ctr (ctOf sigGr)), (47, Ext.ctr (ctOf (sigHv (-70368744177664) 70368744177664)))] : List (Nat × Ext)), ExtRow Try.prog p.1 p.2 := by
  intro p hp
  simp only [List.mem_cons, List.not_mem_nil, or_false] at hp
  rcases hp with rfl | rfl <;> trivial
theorem cts_lev : CtsOk Try.prog [(35, Ext.ctr (ctOf sigGr)), (47, Ext.ctr (ctOf (sigHv (-70368744177664) 70368744177664)))] := ctsOk_of (cs := [(35, sigGr), (47, (sigHv (-70368744177664) 70368744177664))])
  (fun p hp => by
    simp only [List.mem_cons, List.not_mem_nil, or_false] at hp
    rcases hp with rfl | rfl
    · exact fn_gr
    · exact fn_hv
)
  (fun f c h => by
    simp only [List.lookup_cons] at h
    repeat' split at h
    all_goals first | (cases h; done) | (rename_i e; have e := beq_iff_eq.1 e; subst e; cases h; exact ⟨_, by simp, rfl⟩))
theorem fn_lev : FnOk Try.prog 32 sigLev [] := fn_sound (by kernel_rfl) ext_lev cts_lev names vt_lev
end Go.Proofs.Ytemcaojbhfgpgaa
