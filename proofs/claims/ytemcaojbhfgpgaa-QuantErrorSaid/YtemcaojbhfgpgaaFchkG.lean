import Derived.Test.YtemcaojbhfgpgaaSpec13e
import Derived.Test.YtemcaojbhfgpgaaRows
import Derived.Test.YtemcaojbhfgpgaaFnames
namespace Go.Proofs.Ytemcaojbhfgpgaa
open Go.Ev Go.Sp
set_option maxRecDepth 100000
theorem vc_chkG : vcFn Try.prog [] tab [] 100 21 sigChkG = (allB fun n0 : Int => 
impB ((-9223372036854775808 : Int) ≤ n0) (
impB (n0 ≤ (9223372036854775807 : Int)) (
allB fun n1 : Int => 
impB ((-9223372036854775808 : Int) ≤ n1) (
impB (n1 ≤ (9223372036854775807 : Int)) (
impB (sigChkG.pre [DV.n n0, DV.n n1]) (
bR (dec (n0 < (2 : Int))) (
 reqB (sigChkG.post [DV.n n0, DV.n n1] [DV.n (2 : Int)]) (
 true)) (
 bR (dec ((8 : Int) < n0)) (
  reqB (sigChkG.post [DV.n n0, DV.n n1] [DV.n (2 : Int)]) (
  true)) (
  bR (dec (n1 < (0 : Int))) (
   reqB (sigChkG.post [DV.n n0, DV.n n1] [DV.n (2 : Int)]) (
   true)) (
   bR (dec ((30 : Int) < n1)) (
    reqB (sigChkG.post [DV.n n0, DV.n n1] [DV.n (2 : Int)]) (
    true)) (
    reqB (sigChkG.post [DV.n n0, DV.n n1] [DV.n (0 : Int)]) (
    true))))))))))) := by kernel_rfl
set_option maxHeartbeats 8000000 in
theorem vt_chkG : vcFn Try.prog [] tab [] 100 21 sigChkG = true := by
  rw [vc_chkG]
  try simp only [Int.toNat_natCast, List.length_set, List.length_replicate, List.length_take, List.length_drop, List.length_append, List.length_cons, List.length_nil, Nat.min_self, List.take_take, lenCols_i, lenCols_b, List.drop_zero, List.take_length, Nat.add_eq, Nat.mul_eq, Nat.sub_eq, Nat.zero_add, Nat.sub_zero, Nat.mul_one]
  refine all_i fun n0 => ?_
  refine imp_i fun h0 => ?_
  refine imp_i fun h1 => ?_
  refine all_i fun n1 => ?_
  refine imp_i fun h2 => ?_
  refine imp_i fun h3 => ?_
  refine imp_i fun h4 => ?_
  try simp only [sigChkG, chkGPost, List.cons.injEq, DV.b.injEq, and_true, List.length_cons, List.length_nil] at h4
  refine bR_dec (fun h5 => ?_) (fun h5 => ?_)
  ·
    refine req_i ?_ ?_
    · -- r0
      first | omega | (simp only [sigChkG, chkGPost, errG]; split <;> omega) | ((try simp only [sigChkG, chkGPost, List.cons.injEq, DV.b.injEq, and_true, List.length_cons, List.length_nil]); first | done | omega | assumption | grind [getD_set, getD_rep, toNat_succ, cntN_yes, cntN_no])
    rfl
  ·
    refine bR_dec (fun h6 => ?_) (fun h6 => ?_)
    ·
      refine req_i ?_ ?_
      · -- r1
        first | omega | (simp only [sigChkG, chkGPost, errG]; split <;> omega) | ((try simp only [sigChkG, chkGPost, List.cons.injEq, DV.b.injEq, and_true, List.length_cons, List.length_nil]); first | done | omega | assumption | grind [getD_set, getD_rep, toNat_succ, cntN_yes, cntN_no])
      rfl
    ·
      refine bR_dec (fun h7 => ?_) (fun h7 => ?_)
      ·
        refine req_i ?_ ?_
        · -- r2
          first | omega | (simp only [sigChkG, chkGPost, errG]; split <;> omega) | ((try simp only [sigChkG, chkGPost, List.cons.injEq, DV.b.injEq, and_true, List.length_cons, List.length_nil]); first | done | omega | assumption | grind [getD_set, getD_rep, toNat_succ, cntN_yes, cntN_no])
        rfl
      ·
        refine bR_dec (fun h8 => ?_) (fun h8 => ?_)
        ·
          refine req_i ?_ ?_
          · -- r3
            first | omega | (simp only [sigChkG, chkGPost, errG]; split <;> omega) | ((try simp only [sigChkG, chkGPost, List.cons.injEq, DV.b.injEq, and_true, List.length_cons, List.length_nil]); first | done | omega | assumption | grind [getD_set, getD_rep, toNat_succ, cntN_yes, cntN_no])
          rfl
        ·
          refine req_i ?_ ?_
          · -- r4
            first | omega | (simp only [sigChkG, chkGPost, errG]; split <;> omega) | ((try simp only [sigChkG, chkGPost, List.cons.injEq, DV.b.injEq, and_true, List.length_cons, List.length_nil]); first | done | omega | assumption | grind [getD_set, getD_rep, toNat_succ, cntN_yes, cntN_no])
          rfl
theorem ext_chkG : ∀ p ∈ ([] : List (Nat × Ext)), ExtRow Try.prog p.1 p.2 := by
  intro p hp
  cases hp
theorem cts_chkG : CtsOk Try.prog [] := fun f c h => by cases h
theorem fn_chkG : FnOk Try.prog 21 sigChkG [] := fn_sound (by kernel_rfl) ext_chkG cts_chkG names vt_chkG
end Go.Proofs.Ytemcaojbhfgpgaa
