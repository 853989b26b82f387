import Derived.Test.YtcddopooofdgcaaSpec01e
import Derived.Test.YtcddopooofdgcaaRows
import Derived.Test.YtcddopooofdgcaaFaFixedGrows
namespace Go.Proofs.Ytcddopooofdgcaa
open Go.Ev Go.Sp
set_option maxRecDepth 100000
theorem vc_Ratio : vcFn Try.prog [(51, Ext.ctr (ctOf sigTimes)), (46, Ext.ctr (ctOf sigSize)), (53, Ext.ctr (ctOf sigOver)), (44, Ext.ctr (ctOf sigSat))] noA [] 100 19 sigRatF = (allB fun n0 : Int => 
impB ((-9223372036854775808 : Int) ≤ n0) (
impB (n0 ≤ (9223372036854775807 : Int)) (
allB fun n1 : Int => 
impB ((-9223372036854775808 : Int) ≤ n1) (
impB (n1 ≤ (9223372036854775807 : Int)) (
allB fun n2 : Int => 
impB ((-9223372036854775808 : Int) ≤ n2) (
impB (n2 ≤ (9223372036854775807 : Int)) (
impB (sigRatF.pre [DV.n n0, DV.n n1, DV.n n2]) (
bR (dec (n2 = (0 : Int))) (
 reqB (sigRatF.post [DV.n n0, DV.n n1, DV.n n2] [DV.n (0 : Int), DV.n (6 : Int)]) (
 true)) (
 reqB ((-9223372036854775808 : Int) ≤ n0) (
 reqB (n0 ≤ (9223372036854775807 : Int)) (
 reqB ((-9223372036854775808 : Int) ≤ n1) (
 reqB (n1 ≤ (9223372036854775807 : Int)) (
 reqB (sigTimes.pre [DV.n n0, DV.n n1]) (
 allB fun n3 : Int => 
 impB ((0 : Int) ≤ n3) (
 impB (n3 ≤ (18446744073709551615 : Int)) (
 allB fun n4 : Int => 
 impB ((0 : Int) ≤ n4) (
 impB (n4 ≤ (18446744073709551615 : Int)) (
 impB (sigTimes.post [DV.n n0, DV.n n1] [DV.n n3, DV.n n4]) (
 reqB ((-9223372036854775808 : Int) ≤ n2) (
 reqB (n2 ≤ (9223372036854775807 : Int)) (
 reqB (sigSize.pre [DV.n n2]) (
 allB fun n5 : Int => 
 impB ((0 : Int) ≤ n5) (
 impB (n5 ≤ (9223372036854775808 : Int)) (
 impB (sigSize.post [DV.n n2] [DV.n n5]) (
 reqB ((0 : Int) ≤ n3) (
 reqB (n3 ≤ (18446744073709551615 : Int)) (
 reqB ((0 : Int) ≤ n4) (
 reqB (n4 ≤ (18446744073709551615 : Int)) (
 reqB ((0 : Int) ≤ n5) (
 reqB (n5 ≤ (9223372036854775808 : Int)) (
 reqB (sigOver.pre [DV.n n3, DV.n n4, DV.n n5]) (
 allB fun n6 : Int => 
 impB ((0 : Int) ≤ n6) (
 impB (n6 ≤ (18446744073709551615 : Int)) (
 allB fun n7 : Int => 
 impB ((0 : Int) ≤ n7) (
 impB (n7 ≤ (18446744073709551615 : Int)) (
 impB (sigOver.post [DV.n n3, DV.n n4, DV.n n5] [DV.n n6, DV.n n7]) (
 reqB ((0 : Int) ≤ n6) (
 reqB (n6 ≤ (18446744073709551615 : Int)) (
 reqB ((0 : Int) ≤ n7) (
 reqB (n7 ≤ (18446744073709551615 : Int)) (
 reqB (sigSat.pre
 [DV.b
 !beqB (!beqB (dec (n0 < (0 : Int))) (dec (n1 < (0 : Int)))) (dec (n2 < (0 : Int))),
 DV.n n6, DV.n n7]) (
 allB fun n8 : Int => 
 impB ((-9223372036854775808 : Int) ≤ n8) (
 impB (n8 ≤ (9223372036854775807 : Int)) (
 impB (sigSat.post
 [DV.b
 !beqB (!beqB (dec (n0 < (0 : Int))) (dec (n1 < (0 : Int)))) (dec (n2 < (0 : Int))),
 DV.n n6, DV.n n7]
 [DV.n n8]) (
 reqB ((-9223372036854775808 : Int) ≤ n8) (
 reqB (n8 ≤ (9223372036854775807 : Int)) (
 reqB (sigRatF.post [DV.n n0, DV.n n1, DV.n n2] [DV.n n8, DV.n (0 : Int)]) (
 true)))))))))))))))))))))))))))))))))))))))))))))))) := by kernel_rfl
set_option maxHeartbeats 8000000 in
theorem vt_Ratio : vcFn Try.prog [(51, Ext.ctr (ctOf sigTimes)), (46, Ext.ctr (ctOf sigSize)), (53, Ext.ctr (ctOf sigOver)), (44, Ext.ctr (ctOf sigSat))] noA [] 100 19 sigRatF = true := by
  rw [vc_Ratio]
  try simp only [Int.toNat_natCast, List.length_set, List.length_replicate, List.length_take, List.length_drop, List.length_append, List.length_cons, List.length_nil, Nat.min_self, List.take_take, lenCols_i, lenCols_b, List.drop_zero, List.take_length, Nat.add_eq, Nat.mul_eq, Nat.sub_eq, Nat.zero_add, Nat.sub_zero, Nat.mul_one]
  refine all_i fun n0 => ?_
  refine imp_i fun h0 => ?_
  refine imp_i fun h1 => ?_
  refine all_i fun n1 => ?_
  refine imp_i fun h2 => ?_
  refine imp_i fun h3 => ?_
  refine all_i fun n2 => ?_
  refine imp_i fun h4 => ?_
  refine imp_i fun h5 => ?_
  refine imp_i fun h6 => ?_
  try simp only [sigRatF, ratPost, List.cons.injEq, DV.b.injEq, and_true, List.length_cons, List.length_nil] at h6
  refine bR_dec (fun h7 => ?_) (fun h7 => ?_)
  ·
   refine req_i ?_ ?_
   · -- r0
    exact .inl ⟨by omega, rfl, rfl⟩
   rfl
  ·
   refine req_i ?_ ?_
   · -- r1
    first | omega | assumption | grind
   refine req_i ?_ ?_
   · -- r2
    first | omega | assumption | grind
   refine req_i ?_ ?_
   · -- r3
    first | omega | assumption | grind
   refine req_i ?_ ?_
   · -- r4
    first | omega | assumption | grind
   refine req_i ?_ ?_
   · -- r5
    first | trivial | assumption | (simp only [sigTimes, timesPost, List.cons.injEq, DV.b.injEq, and_true, List.length_cons, List.length_nil]; done) | ((try simp only [sigTimes, timesPost, List.cons.injEq, DV.b.injEq, and_true, List.length_cons, List.length_nil]); first | omega | assumption | grind)
   refine all_i fun n3 => ?_
   refine imp_i fun h8 => ?_
   refine imp_i fun h9 => ?_
   refine all_i fun n4 => ?_
   refine imp_i fun h10 => ?_
   refine imp_i fun h11 => ?_
   refine imp_i fun h12 => ?_
   try simp only [sigTimes, timesPost, List.cons.injEq, DV.b.injEq, and_true, List.length_cons, List.length_nil] at h12
   refine req_i ?_ ?_
   · -- r6
    first | omega | assumption | grind
   refine req_i ?_ ?_
   · -- r7
    first | omega | assumption | grind
   refine req_i ?_ ?_
   · -- r8
    first | trivial | assumption | (simp only [sigSize, sizePost, List.cons.injEq, DV.b.injEq, and_true, List.length_cons, List.length_nil]; done) | ((try simp only [sigSize, sizePost, List.cons.injEq, DV.b.injEq, and_true, List.length_cons, List.length_nil]); first | omega | assumption | grind)
   refine all_i fun n5 => ?_
   refine imp_i fun h13 => ?_
   refine imp_i fun h14 => ?_
   refine imp_i fun h15 => ?_
   try simp only [sigSize, sizePost, List.cons.injEq, DV.b.injEq, and_true, List.length_cons, List.length_nil] at h15
   have ah15 := abs_bd n2 (by omega) (by omega)
   refine req_i ?_ ?_
   · -- r9
    first | omega | assumption | grind
   refine req_i ?_ ?_
   · -- r10
    first | omega | assumption | grind
   refine req_i ?_ ?_
   · -- r11
    first | omega | assumption | grind
   refine req_i ?_ ?_
   · -- r12
    first | omega | assumption | grind
   refine req_i ?_ ?_
   · -- r13
    first | omega | assumption | grind
   refine req_i ?_ ?_
   · -- r14
    first | omega | assumption | grind
   refine req_i ?_ ?_
   · -- r15
    first | trivial | assumption | (simp only [sigOver, overPre, overPost, List.cons.injEq, DV.b.injEq, and_true, List.length_cons, List.length_nil]; done) | ((try simp only [sigOver, overPre, overPost, List.cons.injEq, DV.b.injEq, and_true, List.length_cons, List.length_nil]); first | omega | assumption | grind)
   refine all_i fun n6 => ?_
   refine imp_i fun h16 => ?_
   refine imp_i fun h17 => ?_
   refine all_i fun n7 => ?_
   refine imp_i fun h18 => ?_
   refine imp_i fun h19 => ?_
   refine imp_i fun h20 => ?_
   try simp only [sigOver, overPre, overPost, List.cons.injEq, DV.b.injEq, and_true, List.length_cons, List.length_nil] at h20
   refine req_i ?_ ?_
   · -- r16
    first | omega | assumption | grind
   refine req_i ?_ ?_
   · -- r17
    first | omega | assumption | grind
   refine req_i ?_ ?_
   · -- r18
    first | omega | assumption | grind
   refine req_i ?_ ?_
   · -- r19
    first | omega | assumption | grind
   refine req_i ?_ ?_
   · -- r20
    first | omega | ((try simp only [sigSat, satPost, sat, List.cons.injEq, DV.b.injEq, and_true, List.length_cons, List.length_nil, dec_iff]); first | done | omega | assumption | grind [getD_set, getD_rep, toNat_succ, cntN_yes, cntN_no])
   refine all_i fun n8 => ?_
   refine imp_i fun h21 => ?_
   refine imp_i fun h22 => ?_
   refine imp_i fun h23 => ?_
   try simp only [Int.toNat_natCast, List.length_set, List.length_replicate, List.length_take, List.length_drop, List.length_append, List.length_cons, List.length_nil, Nat.min_self, List.take_take, lenCols_i, lenCols_b, List.drop_zero, List.take_length, Nat.add_eq, Nat.mul_eq, Nat.sub_eq, Nat.zero_add, Nat.sub_zero, Nat.mul_one] at h23
   have k := sg_sat xor_dec3 h23
   rw [h20, h12, h15] at k
   refine req_i ?_ ?_
   · -- r21
    first | omega | assumption | grind
   refine req_i ?_ ?_
   · -- r22
    first | omega | assumption | grind
   refine req_i ?_ ?_
   · -- r23
    exact .inr ⟨by omega, rfl, k⟩
   rfl
theorem ext_Ratio : ∀ p ∈ ([(51, Ext.ctr (ctOf sigTimes)), (46, Ext.ctr (ctOf sigSize)), (53, Ext.ctr (ctOf sigOver)), (44, Ext.ctr (ctOf sigSat))] : List (Nat × Ext)), ExtRow Try.prog p.1 p.2 := by
  intro p hp
  simp only [List.mem_cons, List.not_mem_nil, or_false] at hp
  rcases hp with rfl | rfl | rfl | rfl
  · trivial
  · trivial
  · trivial
  · trivial
theorem cts_Ratio : CtsOk Try.prog [(51, Ext.ctr (ctOf sigTimes)), (46, Ext.ctr (ctOf sigSize)), (53, Ext.ctr (ctOf sigOver)), (44, Ext.ctr (ctOf sigSat))] := ctsOk_of (cs := [(51, sigTimes), (46, sigSize), (53, sigOver), (44, sigSat)])
  (fun p hp => by
    simp only [List.mem_cons, List.not_mem_nil, or_false] at hp
    rcases hp with rfl | rfl | rfl | rfl
    · exact fn_times
    · exact fn_size
    · exact fn_over
    · exact fn_sat
)
  (fun f c h => by
    simp only [List.lookup_cons] at h
    repeat' split at h
    all_goals first | (cases h; done) | (rename_i e; have e := beq_iff_eq.1 e; subst e; cases h; refine ⟨_, ?_, rfl⟩; simp))
theorem fn_Ratio : FnOk Try.prog 19 sigRatF [] := fn_sound (by kernel_rfl) ext_Ratio cts_Ratio names vt_Ratio
end Go.Proofs.Ytcddopooofdgcaa

namespace Go.Proofs.Ytcddopooofdgcaa
open Go.Ev Go.Sp
set_option maxRecDepth 100000
theorem vc_FixedGrows : vcFn Try.prog [(10, Ext.ctr (ctOf sigTrue0)), (42, Ext.ctr (ctOf (sigPickN 4611686018427387904))), (13, Ext.ctr (ctOf sigAdd)), (11, Ext.ctr (ctOf sigSub)), (12, Ext.ctr (ctOf sigNeg)), (14, Ext.ctr (ctOf sigShift)), (15, Ext.ctr (ctOf sigMulF)), (18, Ext.ctr (ctOf sigDivF)), (19, Ext.ctr (ctOf sigRatF))] tab [] 100 8 sigL4 = (allB fun n0 : Int => 
impB ((-9223372036854775808 : Int) ≤ n0) (
impB (n0 ≤ (9223372036854775807 : Int)) (
allB fun n1 : Int => 
impB ((-9223372036854775808 : Int) ≤ n1) (
impB (n1 ≤ (9223372036854775807 : Int)) (
allB fun n2 : Int => 
impB ((-9223372036854775808 : Int) ≤ n2) (
impB (n2 ≤ (9223372036854775807 : Int)) (
allB fun n3 : Int => 
impB ((-9223372036854775808 : Int) ≤ n3) (
impB (n3 ≤ (9223372036854775807 : Int)) (
impB (sigL4.pre [DV.n n0, DV.n n1, DV.n n2, DV.n n3]) (
bR (dec (n1 < n0)) (
 reqB ((-9223372036854775808 : Int) ≤ n3) (
 reqB (n3 ≤ (9223372036854775807 : Int)) (
 reqB ((sigPickN (4611686018427387904 : Int)).pre [DV.n n3, DV.n (63 : Int)]) (
 allB fun n4 : Int => 
 impB ((0 : Int) ≤ n4) (
 impB (n4 ≤ (4611686018427387904 : Int)) (
 impB ((sigPickN (4611686018427387904 : Int)).post [DV.n n3, DV.n (63 : Int)] [DV.n n4]) (
 reqB ((-9223372036854775808 : Int) ≤ n1) (
 reqB (n1 ≤ (9223372036854775807 : Int)) (
 reqB ((-9223372036854775808 : Int) ≤ Max.max n2 (1 : Int)) (
 reqB (Max.max n2 (1 : Int) ≤ (9223372036854775807 : Int)) (
 reqB ((-9223372036854775808 : Int) ≤ n4) (
 reqB (n4 ≤ (9223372036854775807 : Int)) (
 reqB (sigMulF.pre [DV.n n1, DV.n (Max.max n2 (1 : Int)), DV.n n4]) (
 allB fun n5 : Int => 
 impB ((-9223372036854775808 : Int) ≤ n5) (
 impB (n5 ≤ (9223372036854775807 : Int)) (
 allB fun n6 : Int => 
 impB ((0 : Int) ≤ n6) (
 impB (n6 ≤ (18 : Int)) (
 impB (sigMulF.post [DV.n n1, DV.n (Max.max n2 (1 : Int)), DV.n n4] [DV.n n5, DV.n n6]) (
 reqB ((-9223372036854775808 : Int) ≤ n0) (
 reqB (n0 ≤ (9223372036854775807 : Int)) (
 reqB ((-9223372036854775808 : Int) ≤ Max.max n2 (1 : Int)) (
 reqB (Max.max n2 (1 : Int) ≤ (9223372036854775807 : Int)) (
 reqB ((-9223372036854775808 : Int) ≤ n4) (
 reqB (n4 ≤ (9223372036854775807 : Int)) (
 reqB (sigMulF.pre [DV.n n0, DV.n (Max.max n2 (1 : Int)), DV.n n4]) (
 allB fun n7 : Int => 
 impB ((-9223372036854775808 : Int) ≤ n7) (
 impB (n7 ≤ (9223372036854775807 : Int)) (
 allB fun n8 : Int => 
 impB ((0 : Int) ≤ n8) (
 impB (n8 ≤ (18 : Int)) (
 impB (sigMulF.post [DV.n n0, DV.n (Max.max n2 (1 : Int)), DV.n n4] [DV.n n7, DV.n n8]) (
 reqB ((-9223372036854775808 : Int) ≤ n1) (
 reqB (n1 ≤ (9223372036854775807 : Int)) (
 reqB ((-9223372036854775808 : Int) ≤ Max.max n2 (1 : Int)) (
 reqB (Max.max n2 (1 : Int) ≤ (9223372036854775807 : Int)) (
 reqB ((-9223372036854775808 : Int) ≤ n4) (
 reqB (n4 ≤ (9223372036854775807 : Int)) (
 reqB (sigDivF.pre [DV.n n1, DV.n (Max.max n2 (1 : Int)), DV.n n4]) (
 allB fun n9 : Int => 
 impB ((-9223372036854775808 : Int) ≤ n9) (
 impB (n9 ≤ (9223372036854775807 : Int)) (
 allB fun n10 : Int => 
 impB ((0 : Int) ≤ n10) (
 impB (n10 ≤ (18 : Int)) (
 impB (sigDivF.post [DV.n n1, DV.n (Max.max n2 (1 : Int)), DV.n n4] [DV.n n9, DV.n n10]) (
 reqB ((-9223372036854775808 : Int) ≤ n0) (
 reqB (n0 ≤ (9223372036854775807 : Int)) (
 reqB ((-9223372036854775808 : Int) ≤ Max.max n2 (1 : Int)) (
 reqB (Max.max n2 (1 : Int) ≤ (9223372036854775807 : Int)) (
 reqB ((-9223372036854775808 : Int) ≤ n4) (
 reqB (n4 ≤ (9223372036854775807 : Int)) (
 reqB (sigDivF.pre [DV.n n0, DV.n (Max.max n2 (1 : Int)), DV.n n4]) (
 allB fun n11 : Int => 
 impB ((-9223372036854775808 : Int) ≤ n11) (
 impB (n11 ≤ (9223372036854775807 : Int)) (
 allB fun n12 : Int => 
 impB ((0 : Int) ≤ n12) (
 impB (n12 ≤ (18 : Int)) (
 impB (sigDivF.post [DV.n n0, DV.n (Max.max n2 (1 : Int)), DV.n n4] [DV.n n11, DV.n n12]) (
 reqB ((-9223372036854775808 : Int) ≤ n1) (
 reqB (n1 ≤ (9223372036854775807 : Int)) (
 reqB ((-9223372036854775808 : Int) ≤ Max.max n2 (1 : Int)) (
 reqB (Max.max n2 (1 : Int) ≤ (9223372036854775807 : Int)) (
 reqB (sigRatF.pre [DV.n n1, DV.n (7 : Int), DV.n (Max.max n2 (1 : Int))]) (
 allB fun n13 : Int => 
 impB ((-9223372036854775808 : Int) ≤ n13) (
 impB (n13 ≤ (9223372036854775807 : Int)) (
 allB fun n14 : Int => 
 impB ((0 : Int) ≤ n14) (
 impB (n14 ≤ (18 : Int)) (
 impB (sigRatF.post [DV.n n1, DV.n (7 : Int), DV.n (Max.max n2 (1 : Int))]
 [DV.n n13, DV.n n14]) (
 reqB ((-9223372036854775808 : Int) ≤ n0) (
 reqB (n0 ≤ (9223372036854775807 : Int)) (
 reqB ((-9223372036854775808 : Int) ≤ Max.max n2 (1 : Int)) (
 reqB (Max.max n2 (1 : Int) ≤ (9223372036854775807 : Int)) (
 reqB (sigRatF.pre [DV.n n0, DV.n (7 : Int), DV.n (Max.max n2 (1 : Int))]) (
 allB fun n15 : Int => 
 impB ((-9223372036854775808 : Int) ≤ n15) (
 impB (n15 ≤ (9223372036854775807 : Int)) (
 allB fun n16 : Int => 
 impB ((0 : Int) ≤ n16) (
 impB (n16 ≤ (18 : Int)) (
 impB (sigRatF.post [DV.n n0, DV.n (7 : Int), DV.n (Max.max n2 (1 : Int))]
 [DV.n n15, DV.n n16]) (
 bR (dec (n6 ≠ (0 : Int))) (
 reqB (sigTrue0.pre []) (
 allB fun b17 : Bool => 
 impB (sigTrue0.post [] [DV.b b17]) (
 bR (b17) (
 reqB (sigL4.post [DV.n n0, DV.n n1, DV.n n2, DV.n n3] [DV.b Bool.false]) (
 true)) (
 reqB (sigL4.post [DV.n n0, DV.n n1, DV.n n2, DV.n n3] [DV.b Bool.false]) (
 true))))) (
 bR (dec (n8 ≠ (0 : Int))) (
 reqB (sigTrue0.pre []) (
 allB fun b18 : Bool => 
 impB (sigTrue0.post [] [DV.b b18]) (
 bR (b18) (
 reqB (sigL4.post [DV.n n0, DV.n n1, DV.n n2, DV.n n3] [DV.b Bool.false]) (
 true)) (
 reqB (sigL4.post [DV.n n0, DV.n n1, DV.n n2, DV.n n3] [DV.b Bool.false]) (
 true))))) (
 bR (dec (n10 ≠ (0 : Int))) (
 reqB (sigTrue0.pre []) (
 allB fun b19 : Bool => 
 impB (sigTrue0.post [] [DV.b b19]) (
 bR (b19) (
 reqB (sigL4.post [DV.n n0, DV.n n1, DV.n n2, DV.n n3] [DV.b Bool.false]) (
 true)) (
 reqB (sigL4.post [DV.n n0, DV.n n1, DV.n n2, DV.n n3] [DV.b Bool.false]) (
 true))))) (
 bR (dec (n12 ≠ (0 : Int))) (
 reqB (sigTrue0.pre []) (
 allB fun b20 : Bool => 
 impB (sigTrue0.post [] [DV.b b20]) (
 bR (b20) (
 reqB (sigL4.post [DV.n n0, DV.n n1, DV.n n2, DV.n n3] [DV.b Bool.false]) (
 true)) (
 reqB (sigL4.post [DV.n n0, DV.n n1, DV.n n2, DV.n n3] [DV.b Bool.false]) (
 true))))) (
 bR (dec (n14 ≠ (0 : Int))) (
 reqB (sigTrue0.pre []) (
 allB fun b21 : Bool => 
 impB (sigTrue0.post [] [DV.b b21]) (
 bR (b21) (
 reqB (sigL4.post [DV.n n0, DV.n n1, DV.n n2, DV.n n3] [DV.b Bool.false]) (
 true)) (
 reqB (sigL4.post [DV.n n0, DV.n n1, DV.n n2, DV.n n3] [DV.b Bool.false]) (
 true))))) (
 reqB (sigTrue0.pre []) (
 allB fun b22 : Bool => 
 impB (sigTrue0.post [] [DV.b b22]) (
 bR (b22) (
 bR (bR (dec (n16 ≠ (0 : Int))) (
 false) (
 true)) (
 bR (dec (n5 ≤ n7)) (
 bR (dec (n9 ≤ n11)) (
 bR (dec (n13 ≤ n15)) (
 reqB ((-9223372036854775808 : Int) ≤ n1) (
 reqB (n1 ≤ (9223372036854775807 : Int)) (
 reqB ((-9223372036854775808 : Int) ≤ n3) (
 reqB (n3 ≤ (9223372036854775807 : Int)) (
 reqB (sigAdd.pre [DV.n n1, DV.n n3]) (
 allB fun n23 : Int => 
 impB ((-9223372036854775808 : Int) ≤ n23) (
 impB (n23 ≤ (9223372036854775807 : Int)) (
 impB (sigAdd.post [DV.n n1, DV.n n3] [DV.n n23]) (
 reqB ((-9223372036854775808 : Int) ≤ n0) (
 reqB (n0 ≤ (9223372036854775807 : Int)) (
 reqB ((-9223372036854775808 : Int) ≤ n3) (
 reqB (n3 ≤ (9223372036854775807 : Int)) (
 reqB (sigAdd.pre [DV.n n0, DV.n n3]) (
 allB fun n24 : Int => 
 impB ((-9223372036854775808 : Int) ≤ n24) (
 impB (n24 ≤ (9223372036854775807 : Int)) (
 impB (sigAdd.post [DV.n n0, DV.n n3] [DV.n n24]) (
 bR (dec (n23 ≤ n24)) (
 reqB ((-9223372036854775808 : Int) ≤ n1) (
 reqB (n1 ≤ (9223372036854775807 : Int)) (
 reqB ((-9223372036854775808 : Int) ≤ n3) (
 reqB (n3 ≤ (9223372036854775807 : Int)) (
 reqB (sigSub.pre [DV.n n1, DV.n n3]) (
 allB fun n25 : Int => 
 impB ((-9223372036854775808 : Int) ≤ n25) (
 impB (n25 ≤ (9223372036854775807 : Int)) (
 impB (sigSub.post [DV.n n1, DV.n n3] [DV.n n25]) (
 reqB ((-9223372036854775808 : Int) ≤ n0) (
 reqB (n0 ≤ (9223372036854775807 : Int)) (
 reqB ((-9223372036854775808 : Int) ≤ n3) (
 reqB (n3 ≤ (9223372036854775807 : Int)) (
 reqB (sigSub.pre [DV.n n0, DV.n n3]) (
 allB fun n26 : Int => 
 impB ((-9223372036854775808 : Int) ≤ n26) (
 impB (n26 ≤ (9223372036854775807 : Int)) (
 impB (sigSub.post [DV.n n0, DV.n n3] [DV.n n26]) (
 bR (dec (n25 ≤ n26)) (
 reqB ((-9223372036854775808 : Int) ≤ n3) (
 reqB (n3 ≤ (9223372036854775807 : Int)) (
 reqB ((-9223372036854775808 : Int) ≤ n1) (
 reqB (n1 ≤ (9223372036854775807 : Int)) (
 reqB (sigSub.pre [DV.n n3, DV.n n1]) (
 allB fun n27 : Int => 
 impB ((-9223372036854775808 : Int) ≤ n27) (
 impB (n27 ≤ (9223372036854775807 : Int)) (
 impB (sigSub.post [DV.n n3, DV.n n1] [DV.n n27]) (
 reqB ((-9223372036854775808 : Int) ≤ n3) (
 reqB (n3 ≤ (9223372036854775807 : Int)) (
 reqB ((-9223372036854775808 : Int) ≤ n0) (
 reqB (n0 ≤ (9223372036854775807 : Int)) (
 reqB (sigSub.pre [DV.n n3, DV.n n0]) (
 allB fun n28 : Int => 
 impB ((-9223372036854775808 : Int) ≤ n28) (
 impB (n28 ≤ (9223372036854775807 : Int)) (
 impB (sigSub.post [DV.n n3, DV.n n0] [DV.n n28]) (
 bR (dec (n28 ≤ n27)) (
 reqB ((-9223372036854775808 : Int) ≤ n1) (
 reqB (n1 ≤ (9223372036854775807 : Int)) (
 reqB ((-9223372036854775808 : Int) ≤ n3) (
 reqB (n3 ≤ (9223372036854775807 : Int)) (
 reqB (sigShift.pre [DV.n n1, DV.n n3]) (
 allB fun n29 : Int => 
 impB ((-9223372036854775808 : Int) ≤ n29) (
 impB (n29 ≤ (9223372036854775807 : Int)) (
 impB (sigShift.post [DV.n n1, DV.n n3] [DV.n n29]) (
 reqB ((-9223372036854775808 : Int) ≤ n0) (
 reqB (n0 ≤ (9223372036854775807 : Int)) (
 reqB ((-9223372036854775808 : Int) ≤ n3) (
 reqB (n3 ≤ (9223372036854775807 : Int)) (
 reqB (sigShift.pre [DV.n n0, DV.n n3]) (
 allB fun n30 : Int => 
 impB ((-9223372036854775808 : Int) ≤ n30) (
 impB (n30 ≤ (9223372036854775807 : Int)) (
 impB (sigShift.post [DV.n n0, DV.n n3] [DV.n n30]) (
 bR (dec (n29 ≤ n30)) (
 reqB ((-9223372036854775808 : Int) ≤ n1) (
 reqB (n1 ≤ (9223372036854775807 : Int)) (
 reqB (sigNeg.pre [DV.n n1]) (
 allB fun n31 : Int => 
 impB ((-9223372036854775808 : Int) ≤ n31) (
 impB (n31 ≤ (9223372036854775807 : Int)) (
 impB (sigNeg.post [DV.n n1] [DV.n n31]) (
 reqB ((-9223372036854775808 : Int) ≤ n0) (
 reqB (n0 ≤ (9223372036854775807 : Int)) (
 reqB (sigNeg.pre [DV.n n0]) (
 allB fun n32 : Int => 
 impB ((-9223372036854775808 : Int) ≤ n32) (
 impB (n32 ≤ (9223372036854775807 : Int)) (
 impB (sigNeg.post [DV.n n0] [DV.n n32]) (
 reqB (sigL4.post [DV.n n0, DV.n n1, DV.n n2, DV.n n3] [DV.b (dec (n32 ≤ n31))]) (
 true)))))))))))))) (
 reqB (sigL4.post [DV.n n0, DV.n n1, DV.n n2, DV.n n3] [DV.b Bool.false]) (
 true))))))))))))))))))) (
 reqB (sigL4.post [DV.n n0, DV.n n1, DV.n n2, DV.n n3] [DV.b Bool.false]) (
 true))))))))))))))))))) (
 reqB (sigL4.post [DV.n n0, DV.n n1, DV.n n2, DV.n n3] [DV.b Bool.false]) (
 true))))))))))))))))))) (
 reqB (sigL4.post [DV.n n0, DV.n n1, DV.n n2, DV.n n3] [DV.b Bool.false]) (
 true))))))))))))))))))) (
 reqB (sigL4.post [DV.n n0, DV.n n1, DV.n n2, DV.n n3] [DV.b Bool.false]) (
 true))) (
 reqB (sigL4.post [DV.n n0, DV.n n1, DV.n n2, DV.n n3] [DV.b Bool.false]) (
 true))) (
 reqB (sigL4.post [DV.n n0, DV.n n1, DV.n n2, DV.n n3] [DV.b Bool.false]) (
 true))) (
 reqB (sigL4.post [DV.n n0, DV.n n1, DV.n n2, DV.n n3] [DV.b Bool.false]) (
 true))) (
 reqB (sigL4.post [DV.n n0, DV.n n1, DV.n n2, DV.n n3] [DV.b Bool.false]) (
 true)))))))))))))))))))))))))))))))))))))))))))))))))))))))))))))))))))))))))))))))))))) (
 reqB ((-9223372036854775808 : Int) ≤ n3) (
 reqB (n3 ≤ (9223372036854775807 : Int)) (
 reqB ((sigPickN (4611686018427387904 : Int)).pre [DV.n n3, DV.n (63 : Int)]) (
 allB fun n33 : Int => 
 impB ((0 : Int) ≤ n33) (
 impB (n33 ≤ (4611686018427387904 : Int)) (
 impB ((sigPickN (4611686018427387904 : Int)).post [DV.n n3, DV.n (63 : Int)] [DV.n n33]) (
 reqB ((-9223372036854775808 : Int) ≤ n0) (
 reqB (n0 ≤ (9223372036854775807 : Int)) (
 reqB ((-9223372036854775808 : Int) ≤ Max.max n2 (1 : Int)) (
 reqB (Max.max n2 (1 : Int) ≤ (9223372036854775807 : Int)) (
 reqB ((-9223372036854775808 : Int) ≤ n33) (
 reqB (n33 ≤ (9223372036854775807 : Int)) (
 reqB (sigMulF.pre [DV.n n0, DV.n (Max.max n2 (1 : Int)), DV.n n33]) (
 allB fun n34 : Int => 
 impB ((-9223372036854775808 : Int) ≤ n34) (
 impB (n34 ≤ (9223372036854775807 : Int)) (
 allB fun n35 : Int => 
 impB ((0 : Int) ≤ n35) (
 impB (n35 ≤ (18 : Int)) (
 impB (sigMulF.post [DV.n n0, DV.n (Max.max n2 (1 : Int)), DV.n n33] [DV.n n34, DV.n n35]) (
 reqB ((-9223372036854775808 : Int) ≤ n1) (
 reqB (n1 ≤ (9223372036854775807 : Int)) (
 reqB ((-9223372036854775808 : Int) ≤ Max.max n2 (1 : Int)) (
 reqB (Max.max n2 (1 : Int) ≤ (9223372036854775807 : Int)) (
 reqB ((-9223372036854775808 : Int) ≤ n33) (
 reqB (n33 ≤ (9223372036854775807 : Int)) (
 reqB (sigMulF.pre [DV.n n1, DV.n (Max.max n2 (1 : Int)), DV.n n33]) (
 allB fun n36 : Int => 
 impB ((-9223372036854775808 : Int) ≤ n36) (
 impB (n36 ≤ (9223372036854775807 : Int)) (
 allB fun n37 : Int => 
 impB ((0 : Int) ≤ n37) (
 impB (n37 ≤ (18 : Int)) (
 impB (sigMulF.post [DV.n n1, DV.n (Max.max n2 (1 : Int)), DV.n n33] [DV.n n36, DV.n n37]) (
 reqB ((-9223372036854775808 : Int) ≤ n0) (
 reqB (n0 ≤ (9223372036854775807 : Int)) (
 reqB ((-9223372036854775808 : Int) ≤ Max.max n2 (1 : Int)) (
 reqB (Max.max n2 (1 : Int) ≤ (9223372036854775807 : Int)) (
 reqB ((-9223372036854775808 : Int) ≤ n33) (
 reqB (n33 ≤ (9223372036854775807 : Int)) (
 reqB (sigDivF.pre [DV.n n0, DV.n (Max.max n2 (1 : Int)), DV.n n33]) (
 allB fun n38 : Int => 
 impB ((-9223372036854775808 : Int) ≤ n38) (
 impB (n38 ≤ (9223372036854775807 : Int)) (
 allB fun n39 : Int => 
 impB ((0 : Int) ≤ n39) (
 impB (n39 ≤ (18 : Int)) (
 impB (sigDivF.post [DV.n n0, DV.n (Max.max n2 (1 : Int)), DV.n n33] [DV.n n38, DV.n n39]) (
 reqB ((-9223372036854775808 : Int) ≤ n1) (
 reqB (n1 ≤ (9223372036854775807 : Int)) (
 reqB ((-9223372036854775808 : Int) ≤ Max.max n2 (1 : Int)) (
 reqB (Max.max n2 (1 : Int) ≤ (9223372036854775807 : Int)) (
 reqB ((-9223372036854775808 : Int) ≤ n33) (
 reqB (n33 ≤ (9223372036854775807 : Int)) (
 reqB (sigDivF.pre [DV.n n1, DV.n (Max.max n2 (1 : Int)), DV.n n33]) (
 allB fun n40 : Int => 
 impB ((-9223372036854775808 : Int) ≤ n40) (
 impB (n40 ≤ (9223372036854775807 : Int)) (
 allB fun n41 : Int => 
 impB ((0 : Int) ≤ n41) (
 impB (n41 ≤ (18 : Int)) (
 impB (sigDivF.post [DV.n n1, DV.n (Max.max n2 (1 : Int)), DV.n n33] [DV.n n40, DV.n n41]) (
 reqB ((-9223372036854775808 : Int) ≤ n0) (
 reqB (n0 ≤ (9223372036854775807 : Int)) (
 reqB ((-9223372036854775808 : Int) ≤ Max.max n2 (1 : Int)) (
 reqB (Max.max n2 (1 : Int) ≤ (9223372036854775807 : Int)) (
 reqB (sigRatF.pre [DV.n n0, DV.n (7 : Int), DV.n (Max.max n2 (1 : Int))]) (
 allB fun n42 : Int => 
 impB ((-9223372036854775808 : Int) ≤ n42) (
 impB (n42 ≤ (9223372036854775807 : Int)) (
 allB fun n43 : Int => 
 impB ((0 : Int) ≤ n43) (
 impB (n43 ≤ (18 : Int)) (
 impB (sigRatF.post [DV.n n0, DV.n (7 : Int), DV.n (Max.max n2 (1 : Int))]
 [DV.n n42, DV.n n43]) (
 reqB ((-9223372036854775808 : Int) ≤ n1) (
 reqB (n1 ≤ (9223372036854775807 : Int)) (
 reqB ((-9223372036854775808 : Int) ≤ Max.max n2 (1 : Int)) (
 reqB (Max.max n2 (1 : Int) ≤ (9223372036854775807 : Int)) (
 reqB (sigRatF.pre [DV.n n1, DV.n (7 : Int), DV.n (Max.max n2 (1 : Int))]) (
 allB fun n44 : Int => 
 impB ((-9223372036854775808 : Int) ≤ n44) (
 impB (n44 ≤ (9223372036854775807 : Int)) (
 allB fun n45 : Int => 
 impB ((0 : Int) ≤ n45) (
 impB (n45 ≤ (18 : Int)) (
 impB (sigRatF.post [DV.n n1, DV.n (7 : Int), DV.n (Max.max n2 (1 : Int))]
 [DV.n n44, DV.n n45]) (
 bR (dec (n35 ≠ (0 : Int))) (
 reqB (sigTrue0.pre []) (
 allB fun b46 : Bool => 
 impB (sigTrue0.post [] [DV.b b46]) (
 bR (b46) (
 reqB (sigL4.post [DV.n n0, DV.n n1, DV.n n2, DV.n n3] [DV.b Bool.false]) (
 true)) (
 reqB (sigL4.post [DV.n n0, DV.n n1, DV.n n2, DV.n n3] [DV.b Bool.false]) (
 true))))) (
 bR (dec (n37 ≠ (0 : Int))) (
 reqB (sigTrue0.pre []) (
 allB fun b47 : Bool => 
 impB (sigTrue0.post [] [DV.b b47]) (
 bR (b47) (
 reqB (sigL4.post [DV.n n0, DV.n n1, DV.n n2, DV.n n3] [DV.b Bool.false]) (
 true)) (
 reqB (sigL4.post [DV.n n0, DV.n n1, DV.n n2, DV.n n3] [DV.b Bool.false]) (
 true))))) (
 bR (dec (n39 ≠ (0 : Int))) (
 reqB (sigTrue0.pre []) (
 allB fun b48 : Bool => 
 impB (sigTrue0.post [] [DV.b b48]) (
 bR (b48) (
 reqB (sigL4.post [DV.n n0, DV.n n1, DV.n n2, DV.n n3] [DV.b Bool.false]) (
 true)) (
 reqB (sigL4.post [DV.n n0, DV.n n1, DV.n n2, DV.n n3] [DV.b Bool.false]) (
 true))))) (
 bR (dec (n41 ≠ (0 : Int))) (
 reqB (sigTrue0.pre []) (
 allB fun b49 : Bool => 
 impB (sigTrue0.post [] [DV.b b49]) (
 bR (b49) (
 reqB (sigL4.post [DV.n n0, DV.n n1, DV.n n2, DV.n n3] [DV.b Bool.false]) (
 true)) (
 reqB (sigL4.post [DV.n n0, DV.n n1, DV.n n2, DV.n n3] [DV.b Bool.false]) (
 true))))) (
 bR (dec (n43 ≠ (0 : Int))) (
 reqB (sigTrue0.pre []) (
 allB fun b50 : Bool => 
 impB (sigTrue0.post [] [DV.b b50]) (
 bR (b50) (
 reqB (sigL4.post [DV.n n0, DV.n n1, DV.n n2, DV.n n3] [DV.b Bool.false]) (
 true)) (
 reqB (sigL4.post [DV.n n0, DV.n n1, DV.n n2, DV.n n3] [DV.b Bool.false]) (
 true))))) (
 reqB (sigTrue0.pre []) (
 allB fun b51 : Bool => 
 impB (sigTrue0.post [] [DV.b b51]) (
 bR (b51) (
 bR (bR (dec (n45 ≠ (0 : Int))) (
 false) (
 true)) (
 bR (dec (n34 ≤ n36)) (
 bR (dec (n38 ≤ n40)) (
 bR (dec (n42 ≤ n44)) (
 reqB ((-9223372036854775808 : Int) ≤ n0) (
 reqB (n0 ≤ (9223372036854775807 : Int)) (
 reqB ((-9223372036854775808 : Int) ≤ n3) (
 reqB (n3 ≤ (9223372036854775807 : Int)) (
 reqB (sigAdd.pre [DV.n n0, DV.n n3]) (
 allB fun n52 : Int => 
 impB ((-9223372036854775808 : Int) ≤ n52) (
 impB (n52 ≤ (9223372036854775807 : Int)) (
 impB (sigAdd.post [DV.n n0, DV.n n3] [DV.n n52]) (
 reqB ((-9223372036854775808 : Int) ≤ n1) (
 reqB (n1 ≤ (9223372036854775807 : Int)) (
 reqB ((-9223372036854775808 : Int) ≤ n3) (
 reqB (n3 ≤ (9223372036854775807 : Int)) (
 reqB (sigAdd.pre [DV.n n1, DV.n n3]) (
 allB fun n53 : Int => 
 impB ((-9223372036854775808 : Int) ≤ n53) (
 impB (n53 ≤ (9223372036854775807 : Int)) (
 impB (sigAdd.post [DV.n n1, DV.n n3] [DV.n n53]) (
 bR (dec (n52 ≤ n53)) (
 reqB ((-9223372036854775808 : Int) ≤ n0) (
 reqB (n0 ≤ (9223372036854775807 : Int)) (
 reqB ((-9223372036854775808 : Int) ≤ n3) (
 reqB (n3 ≤ (9223372036854775807 : Int)) (
 reqB (sigSub.pre [DV.n n0, DV.n n3]) (
 allB fun n54 : Int => 
 impB ((-9223372036854775808 : Int) ≤ n54) (
 impB (n54 ≤ (9223372036854775807 : Int)) (
 impB (sigSub.post [DV.n n0, DV.n n3] [DV.n n54]) (
 reqB ((-9223372036854775808 : Int) ≤ n1) (
 reqB (n1 ≤ (9223372036854775807 : Int)) (
 reqB ((-9223372036854775808 : Int) ≤ n3) (
 reqB (n3 ≤ (9223372036854775807 : Int)) (
 reqB (sigSub.pre [DV.n n1, DV.n n3]) (
 allB fun n55 : Int => 
 impB ((-9223372036854775808 : Int) ≤ n55) (
 impB (n55 ≤ (9223372036854775807 : Int)) (
 impB (sigSub.post [DV.n n1, DV.n n3] [DV.n n55]) (
 bR (dec (n54 ≤ n55)) (
 reqB ((-9223372036854775808 : Int) ≤ n3) (
 reqB (n3 ≤ (9223372036854775807 : Int)) (
 reqB ((-9223372036854775808 : Int) ≤ n0) (
 reqB (n0 ≤ (9223372036854775807 : Int)) (
 reqB (sigSub.pre [DV.n n3, DV.n n0]) (
 allB fun n56 : Int => 
 impB ((-9223372036854775808 : Int) ≤ n56) (
 impB (n56 ≤ (9223372036854775807 : Int)) (
 impB (sigSub.post [DV.n n3, DV.n n0] [DV.n n56]) (
 reqB ((-9223372036854775808 : Int) ≤ n3) (
 reqB (n3 ≤ (9223372036854775807 : Int)) (
 reqB ((-9223372036854775808 : Int) ≤ n1) (
 reqB (n1 ≤ (9223372036854775807 : Int)) (
 reqB (sigSub.pre [DV.n n3, DV.n n1]) (
 allB fun n57 : Int => 
 impB ((-9223372036854775808 : Int) ≤ n57) (
 impB (n57 ≤ (9223372036854775807 : Int)) (
 impB (sigSub.post [DV.n n3, DV.n n1] [DV.n n57]) (
 bR (dec (n57 ≤ n56)) (
 reqB ((-9223372036854775808 : Int) ≤ n0) (
 reqB (n0 ≤ (9223372036854775807 : Int)) (
 reqB ((-9223372036854775808 : Int) ≤ n3) (
 reqB (n3 ≤ (9223372036854775807 : Int)) (
 reqB (sigShift.pre [DV.n n0, DV.n n3]) (
 allB fun n58 : Int => 
 impB ((-9223372036854775808 : Int) ≤ n58) (
 impB (n58 ≤ (9223372036854775807 : Int)) (
 impB (sigShift.post [DV.n n0, DV.n n3] [DV.n n58]) (
 reqB ((-9223372036854775808 : Int) ≤ n1) (
 reqB (n1 ≤ (9223372036854775807 : Int)) (
 reqB ((-9223372036854775808 : Int) ≤ n3) (
 reqB (n3 ≤ (9223372036854775807 : Int)) (
 reqB (sigShift.pre [DV.n n1, DV.n n3]) (
 allB fun n59 : Int => 
 impB ((-9223372036854775808 : Int) ≤ n59) (
 impB (n59 ≤ (9223372036854775807 : Int)) (
 impB (sigShift.post [DV.n n1, DV.n n3] [DV.n n59]) (
 bR (dec (n58 ≤ n59)) (
 reqB ((-9223372036854775808 : Int) ≤ n0) (
 reqB (n0 ≤ (9223372036854775807 : Int)) (
 reqB (sigNeg.pre [DV.n n0]) (
 allB fun n60 : Int => 
 impB ((-9223372036854775808 : Int) ≤ n60) (
 impB (n60 ≤ (9223372036854775807 : Int)) (
 impB (sigNeg.post [DV.n n0] [DV.n n60]) (
 reqB ((-9223372036854775808 : Int) ≤ n1) (
 reqB (n1 ≤ (9223372036854775807 : Int)) (
 reqB (sigNeg.pre [DV.n n1]) (
 allB fun n61 : Int => 
 impB ((-9223372036854775808 : Int) ≤ n61) (
 impB (n61 ≤ (9223372036854775807 : Int)) (
 impB (sigNeg.post [DV.n n1] [DV.n n61]) (
 reqB (sigL4.post [DV.n n0, DV.n n1, DV.n n2, DV.n n3] [DV.b (dec (n61 ≤ n60))]) (
 true)))))))))))))) (
 reqB (sigL4.post [DV.n n0, DV.n n1, DV.n n2, DV.n n3] [DV.b Bool.false]) (
 true))))))))))))))))))) (
 reqB (sigL4.post [DV.n n0, DV.n n1, DV.n n2, DV.n n3] [DV.b Bool.false]) (
 true))))))))))))))))))) (
 reqB (sigL4.post [DV.n n0, DV.n n1, DV.n n2, DV.n n3] [DV.b Bool.false]) (
 true))))))))))))))))))) (
 reqB (sigL4.post [DV.n n0, DV.n n1, DV.n n2, DV.n n3] [DV.b Bool.false]) (
 true))))))))))))))))))) (
 reqB (sigL4.post [DV.n n0, DV.n n1, DV.n n2, DV.n n3] [DV.b Bool.false]) (
 true))) (
 reqB (sigL4.post [DV.n n0, DV.n n1, DV.n n2, DV.n n3] [DV.b Bool.false]) (
 true))) (
 reqB (sigL4.post [DV.n n0, DV.n n1, DV.n n2, DV.n n3] [DV.b Bool.false]) (
 true))) (
 reqB (sigL4.post [DV.n n0, DV.n n1, DV.n n2, DV.n n3] [DV.b Bool.false]) (
 true))) (
 reqB (sigL4.post [DV.n n0, DV.n n1, DV.n n2, DV.n n3] [DV.b Bool.false]) (
 true)))))))))))))))))))))))))))))))))))))))))))))))))))))))))))))))))))))))))))))))))))))))))))))) := by kernel_rfl
set_option maxHeartbeats 8000000 in
theorem vt_FixedGrows : vcFn Try.prog [(10, Ext.ctr (ctOf sigTrue0)), (42, Ext.ctr (ctOf (sigPickN 4611686018427387904))), (13, Ext.ctr (ctOf sigAdd)), (11, Ext.ctr (ctOf sigSub)), (12, Ext.ctr (ctOf sigNeg)), (14, Ext.ctr (ctOf sigShift)), (15, Ext.ctr (ctOf sigMulF)), (18, Ext.ctr (ctOf sigDivF)), (19, Ext.ctr (ctOf sigRatF))] tab [] 100 8 sigL4 = true := by
  rw [vc_FixedGrows]
  try simp only [Int.toNat_natCast, List.length_set, List.length_replicate, List.length_take, List.length_drop, List.length_append, List.length_cons, List.length_nil, Nat.min_self, List.take_take, lenCols_i, lenCols_b, List.drop_zero, List.take_length, Nat.add_eq, Nat.mul_eq, Nat.sub_eq, Nat.zero_add, Nat.sub_zero, Nat.mul_one]
  refine all_i fun n0 => ?_
  refine imp_i fun h0 => ?_
  refine imp_i fun h1 => ?_
  refine all_i fun n1 => ?_
  refine imp_i fun h2 => ?_
  refine imp_i fun h3 => ?_
  refine all_i fun n2 => ?_
  refine imp_i fun h4 => ?_
  refine imp_i fun h5 => ?_
  refine all_i fun n3 => ?_
  refine imp_i fun h6 => ?_
  refine imp_i fun h7 => ?_
  refine imp_i fun h8 => ?_
  try simp only [sigL4, List.cons.injEq, DV.b.injEq, and_true, List.length_cons, List.length_nil] at h8
  refine bR_dec (fun h9 => ?_) (fun h9 => ?_)
  ·
   refine req_i ?_ ?_
   · -- r0
    first | omega | assumption | grind
   refine req_i ?_ ?_
   · -- r1
    first | omega | assumption | grind
   refine req_i ?_ ?_
   · -- r2
    first | trivial | assumption | (simp only [sigPickN, pickPost, List.cons.injEq, DV.b.injEq, and_true, List.length_cons, List.length_nil]; done) | ((try simp only [sigPickN, pickPost, List.cons.injEq, DV.b.injEq, and_true, List.length_cons, List.length_nil]); first | omega | assumption | grind)
   refine all_i fun n4 => ?_
   refine imp_i fun h10 => ?_
   refine imp_i fun h11 => ?_
   refine imp_i fun h12 => ?_
   try simp only [sigPickN, pickPost, List.cons.injEq, DV.b.injEq, and_true, List.length_cons, List.length_nil] at h12
   refine req_i ?_ ?_
   · -- r3
    first | omega | assumption | grind
   refine req_i ?_ ?_
   · -- r4
    first | omega | assumption | grind
   refine req_i ?_ ?_
   · -- r5
    first | omega | assumption | grind
   refine req_i ?_ ?_
   · -- r6
    first | omega | assumption | grind
   refine req_i ?_ ?_
   · -- r7
    first | omega | assumption | grind
   refine req_i ?_ ?_
   · -- r8
    first | omega | assumption | grind
   refine req_i ?_ ?_
   · -- r9
    first | trivial | assumption | (simp only [sigMulF, mulFPost, List.cons.injEq, DV.b.injEq, and_true, List.length_cons, List.length_nil]; done) | ((try simp only [sigMulF, mulFPost, List.cons.injEq, DV.b.injEq, and_true, List.length_cons, List.length_nil]); first | omega | assumption | grind)
   refine all_i fun n5 => ?_
   refine imp_i fun h13 => ?_
   refine imp_i fun h14 => ?_
   refine all_i fun n6 => ?_
   refine imp_i fun h15 => ?_
   refine imp_i fun h16 => ?_
   refine imp_i fun h17 => ?_
   try simp only [Int.toNat_natCast, List.length_set, List.length_replicate, List.length_take, List.length_drop, List.length_append, List.length_cons, List.length_nil, Nat.min_self, List.take_take, lenCols_i, lenCols_b, List.drop_zero, List.take_length, Nat.add_eq, Nat.mul_eq, Nat.sub_eq, Nat.zero_add, Nat.sub_zero, Nat.mul_one] at h17
   refine req_i ?_ ?_
   · -- r10
    first | omega | assumption | grind
   refine req_i ?_ ?_
   · -- r11
    first | omega | assumption | grind
   refine req_i ?_ ?_
   · -- r12
    first | omega | assumption | grind
   refine req_i ?_ ?_
   · -- r13
    first | omega | assumption | grind
   refine req_i ?_ ?_
   · -- r14
    first | omega | assumption | grind
   refine req_i ?_ ?_
   · -- r15
    first | omega | assumption | grind
   refine req_i ?_ ?_
   · -- r16
    first | trivial | assumption | (simp only [sigMulF, mulFPost, List.cons.injEq, DV.b.injEq, and_true, List.length_cons, List.length_nil]; done) | ((try simp only [sigMulF, mulFPost, List.cons.injEq, DV.b.injEq, and_true, List.length_cons, List.length_nil]); first | omega | assumption | grind)
   refine all_i fun n7 => ?_
   refine imp_i fun h18 => ?_
   refine imp_i fun h19 => ?_
   refine all_i fun n8 => ?_
   refine imp_i fun h20 => ?_
   refine imp_i fun h21 => ?_
   refine imp_i fun h22 => ?_
   try simp only [Int.toNat_natCast, List.length_set, List.length_replicate, List.length_take, List.length_drop, List.length_append, List.length_cons, List.length_nil, Nat.min_self, List.take_take, lenCols_i, lenCols_b, List.drop_zero, List.take_length, Nat.add_eq, Nat.mul_eq, Nat.sub_eq, Nat.zero_add, Nat.sub_zero, Nat.mul_one] at h22
   obtain ⟨M1, M2, M3⟩ := mul_mono h17 h22 (by omega) (by omega) (by omega) (by omega)
   refine req_i ?_ ?_
   · -- r17
    first | omega | assumption | grind
   refine req_i ?_ ?_
   · -- r18
    first | omega | assumption | grind
   refine req_i ?_ ?_
   · -- r19
    first | omega | assumption | grind
   refine req_i ?_ ?_
   · -- r20
    first | omega | assumption | grind
   refine req_i ?_ ?_
   · -- r21
    first | omega | assumption | grind
   refine req_i ?_ ?_
   · -- r22
    first | omega | assumption | grind
   refine req_i ?_ ?_
   · -- r23
    first | trivial | assumption | (simp only [sigDivF, divFPost, List.cons.injEq, DV.b.injEq, and_true, List.length_cons, List.length_nil]; done) | ((try simp only [sigDivF, divFPost, List.cons.injEq, DV.b.injEq, and_true, List.length_cons, List.length_nil]); first | omega | assumption | grind)
   refine all_i fun n9 => ?_
   refine imp_i fun h23 => ?_
   refine imp_i fun h24 => ?_
   refine all_i fun n10 => ?_
   refine imp_i fun h25 => ?_
   refine imp_i fun h26 => ?_
   refine imp_i fun h27 => ?_
   try simp only [Int.toNat_natCast, List.length_set, List.length_replicate, List.length_take, List.length_drop, List.length_append, List.length_cons, List.length_nil, Nat.min_self, List.take_take, lenCols_i, lenCols_b, List.drop_zero, List.take_length, Nat.add_eq, Nat.mul_eq, Nat.sub_eq, Nat.zero_add, Nat.sub_zero, Nat.mul_one] at h27
   refine req_i ?_ ?_
   · -- r24
    first | omega | assumption | grind
   refine req_i ?_ ?_
   · -- r25
    first | omega | assumption | grind
   refine req_i ?_ ?_
   · -- r26
    first | omega | assumption | grind
   refine req_i ?_ ?_
   · -- r27
    first | omega | assumption | grind
   refine req_i ?_ ?_
   · -- r28
    first | omega | assumption | grind
   refine req_i ?_ ?_
   · -- r29
    first | omega | assumption | grind
   refine req_i ?_ ?_
   · -- r30
    first | trivial | assumption | (simp only [sigDivF, divFPost, List.cons.injEq, DV.b.injEq, and_true, List.length_cons, List.length_nil]; done) | ((try simp only [sigDivF, divFPost, List.cons.injEq, DV.b.injEq, and_true, List.length_cons, List.length_nil]); first | omega | assumption | grind)
   refine all_i fun n11 => ?_
   refine imp_i fun h28 => ?_
   refine imp_i fun h29 => ?_
   refine all_i fun n12 => ?_
   refine imp_i fun h30 => ?_
   refine imp_i fun h31 => ?_
   refine imp_i fun h32 => ?_
   try simp only [Int.toNat_natCast, List.length_set, List.length_replicate, List.length_take, List.length_drop, List.length_append, List.length_cons, List.length_nil, Nat.min_self, List.take_take, lenCols_i, lenCols_b, List.drop_zero, List.take_length, Nat.add_eq, Nat.mul_eq, Nat.sub_eq, Nat.zero_add, Nat.sub_zero, Nat.mul_one] at h32
   obtain ⟨D1, D2, D3⟩ := div_mono h27 h32 (by omega) (by omega) (by omega) (by omega)
   refine req_i ?_ ?_
   · -- r31
    first | omega | assumption | grind
   refine req_i ?_ ?_
   · -- r32
    first | omega | assumption | grind
   refine req_i ?_ ?_
   · -- r33
    first | omega | assumption | grind
   refine req_i ?_ ?_
   · -- r34
    first | omega | assumption | grind
   refine req_i ?_ ?_
   · -- r35
    first | trivial | assumption | (simp only [sigRatF, ratPost, List.cons.injEq, DV.b.injEq, and_true, List.length_cons, List.length_nil]; done) | ((try simp only [sigRatF, ratPost, List.cons.injEq, DV.b.injEq, and_true, List.length_cons, List.length_nil]); first | omega | assumption | grind)
   refine all_i fun n13 => ?_
   refine imp_i fun h33 => ?_
   refine imp_i fun h34 => ?_
   refine all_i fun n14 => ?_
   refine imp_i fun h35 => ?_
   refine imp_i fun h36 => ?_
   refine imp_i fun h37 => ?_
   try simp only [Int.toNat_natCast, List.length_set, List.length_replicate, List.length_take, List.length_drop, List.length_append, List.length_cons, List.length_nil, Nat.min_self, List.take_take, lenCols_i, lenCols_b, List.drop_zero, List.take_length, Nat.add_eq, Nat.mul_eq, Nat.sub_eq, Nat.zero_add, Nat.sub_zero, Nat.mul_one] at h37
   refine req_i ?_ ?_
   · -- r36
    first | omega | assumption | grind
   refine req_i ?_ ?_
   · -- r37
    first | omega | assumption | grind
   refine req_i ?_ ?_
   · -- r38
    first | omega | assumption | grind
   refine req_i ?_ ?_
   · -- r39
    first | omega | assumption | grind
   refine req_i ?_ ?_
   · -- r40
    first | trivial | assumption | (simp only [sigRatF, ratPost, List.cons.injEq, DV.b.injEq, and_true, List.length_cons, List.length_nil]; done) | ((try simp only [sigRatF, ratPost, List.cons.injEq, DV.b.injEq, and_true, List.length_cons, List.length_nil]); first | omega | assumption | grind)
   refine all_i fun n15 => ?_
   refine imp_i fun h38 => ?_
   refine imp_i fun h39 => ?_
   refine all_i fun n16 => ?_
   refine imp_i fun h40 => ?_
   refine imp_i fun h41 => ?_
   refine imp_i fun h42 => ?_
   try simp only [Int.toNat_natCast, List.length_set, List.length_replicate, List.length_take, List.length_drop, List.length_append, List.length_cons, List.length_nil, Nat.min_self, List.take_take, lenCols_i, lenCols_b, List.drop_zero, List.take_length, Nat.add_eq, Nat.mul_eq, Nat.sub_eq, Nat.zero_add, Nat.sub_zero, Nat.mul_one] at h42
   obtain ⟨R1, R2, R3⟩ := rat_mono h37 h42 (by omega) (by omega) (by omega)
   refine bR_dec (fun h43 => ?_) (fun h43 => ?_)
   ·
    refine req_i ?_ ?_
    · -- r41
     first | omega | assumption | grind
    refine all_i fun b17 => ?_
    refine imp_i fun h44 => ?_
    try simp only [sigTrue0, List.cons.injEq, DV.b.injEq, and_true, List.length_cons, List.length_nil] at h44
    refine bR_i (fun h45 => ?_) (fun h45 => ?_)
    ·
     refine req_i ?_ ?_
     · -- r42
      first | omega | ((try simp only [sigL4, List.cons.injEq, DV.b.injEq, and_true, List.length_cons, List.length_nil]); first | done | omega | assumption | grind [getD_set, getD_rep, toNat_succ, cntN_yes, cntN_no])
     rfl
    ·
     refine req_i ?_ ?_
     · -- r43
      first | omega | ((try simp only [sigL4, List.cons.injEq, DV.b.injEq, and_true, List.length_cons, List.length_nil]); first | done | omega | assumption | grind [getD_set, getD_rep, toNat_succ, cntN_yes, cntN_no])
     rfl
   ·
    refine bR_dec (fun h46 => ?_) (fun h46 => ?_)
    ·
     refine req_i ?_ ?_
     · -- r44
      first | omega | assumption | grind
     refine all_i fun b18 => ?_
     refine imp_i fun h47 => ?_
     try simp only [sigTrue0, List.cons.injEq, DV.b.injEq, and_true, List.length_cons, List.length_nil] at h47
     refine bR_i (fun h48 => ?_) (fun h48 => ?_)
     ·
      refine req_i ?_ ?_
      · -- r45
       first | omega | ((try simp only [sigL4, List.cons.injEq, DV.b.injEq, and_true, List.length_cons, List.length_nil]); first | done | omega | assumption | grind [getD_set, getD_rep, toNat_succ, cntN_yes, cntN_no])
      rfl
     ·
      refine req_i ?_ ?_
      · -- r46
       first | omega | ((try simp only [sigL4, List.cons.injEq, DV.b.injEq, and_true, List.length_cons, List.length_nil]); first | done | omega | assumption | grind [getD_set, getD_rep, toNat_succ, cntN_yes, cntN_no])
      rfl
    ·
     refine bR_dec (fun h49 => ?_) (fun h49 => ?_)
     ·
      refine req_i ?_ ?_
      · -- r47
       first | omega | assumption | grind
      refine all_i fun b19 => ?_
      refine imp_i fun h50 => ?_
      try simp only [sigTrue0, List.cons.injEq, DV.b.injEq, and_true, List.length_cons, List.length_nil] at h50
      refine bR_i (fun h51 => ?_) (fun h51 => ?_)
      ·
       refine req_i ?_ ?_
       · -- r48
        first | omega | ((try simp only [sigL4, List.cons.injEq, DV.b.injEq, and_true, List.length_cons, List.length_nil]); first | done | omega | assumption | grind [getD_set, getD_rep, toNat_succ, cntN_yes, cntN_no])
       rfl
      ·
       refine req_i ?_ ?_
       · -- r49
        first | omega | ((try simp only [sigL4, List.cons.injEq, DV.b.injEq, and_true, List.length_cons, List.length_nil]); first | done | omega | assumption | grind [getD_set, getD_rep, toNat_succ, cntN_yes, cntN_no])
       rfl
     ·
      refine bR_dec (fun h52 => ?_) (fun h52 => ?_)
      ·
       refine req_i ?_ ?_
       · -- r50
        first | omega | assumption | grind
       refine all_i fun b20 => ?_
       refine imp_i fun h53 => ?_
       try simp only [sigTrue0, List.cons.injEq, DV.b.injEq, and_true, List.length_cons, List.length_nil] at h53
       refine bR_i (fun h54 => ?_) (fun h54 => ?_)
       ·
        refine req_i ?_ ?_
        · -- r51
         first | omega | ((try simp only [sigL4, List.cons.injEq, DV.b.injEq, and_true, List.length_cons, List.length_nil]); first | done | omega | assumption | grind [getD_set, getD_rep, toNat_succ, cntN_yes, cntN_no])
        rfl
       ·
        refine req_i ?_ ?_
        · -- r52
         first | omega | ((try simp only [sigL4, List.cons.injEq, DV.b.injEq, and_true, List.length_cons, List.length_nil]); first | done | omega | assumption | grind [getD_set, getD_rep, toNat_succ, cntN_yes, cntN_no])
        rfl
      ·
       refine bR_dec (fun h55 => ?_) (fun h55 => ?_)
       ·
        refine req_i ?_ ?_
        · -- r53
         first | omega | assumption | grind
        refine all_i fun b21 => ?_
        refine imp_i fun h56 => ?_
        try simp only [sigTrue0, List.cons.injEq, DV.b.injEq, and_true, List.length_cons, List.length_nil] at h56
        refine bR_i (fun h57 => ?_) (fun h57 => ?_)
        ·
         refine req_i ?_ ?_
         · -- r54
          first | omega | ((try simp only [sigL4, List.cons.injEq, DV.b.injEq, and_true, List.length_cons, List.length_nil]); first | done | omega | assumption | grind [getD_set, getD_rep, toNat_succ, cntN_yes, cntN_no])
         rfl
        ·
         refine req_i ?_ ?_
         · -- r55
          first | omega | ((try simp only [sigL4, List.cons.injEq, DV.b.injEq, and_true, List.length_cons, List.length_nil]); first | done | omega | assumption | grind [getD_set, getD_rep, toNat_succ, cntN_yes, cntN_no])
         rfl
       ·
        refine req_i ?_ ?_
        · -- r56
         first | omega | assumption | grind
        refine all_i fun b22 => ?_
        refine imp_i fun h58 => ?_
        try simp only [sigTrue0, List.cons.injEq, DV.b.injEq, and_true, List.length_cons, List.length_nil] at h58
        refine bR_i (fun h59 => ?_) (fun h59 => ?_)
        ·
         refine bR_i (fun h60 => ?_) (fun h60 => ?_)
         ·
          simp only [bR_iff, bR_iff_f, dec_iff, dec_f, Bool.false_eq_true, Bool.true_eq_false, false_implies, imp_false, and_true, true_and, implies_true, Classical.not_not] at h60
          refine bR_dec (fun h61 => ?_) (fun h61 => ?_)
          ·
           refine bR_dec (fun h62 => ?_) (fun h62 => ?_)
           ·
            refine bR_dec (fun h63 => ?_) (fun h63 => ?_)
            ·
             refine req_i ?_ ?_
             · -- r57
              first | omega | assumption | grind
             refine req_i ?_ ?_
             · -- r58
              first | omega | assumption | grind
             refine req_i ?_ ?_
             · -- r59
              first | omega | assumption | grind
             refine req_i ?_ ?_
             · -- r60
              first | omega | assumption | grind
             refine req_i ?_ ?_
             · -- r61
              first | trivial | assumption | (simp only [sigAdd, addP, sat, List.cons.injEq, DV.b.injEq, and_true, List.length_cons, List.length_nil]; done) | ((try simp only [sigAdd, addP, sat, List.cons.injEq, DV.b.injEq, and_true, List.length_cons, List.length_nil]); first | omega | assumption | grind)
             refine all_i fun n23 => ?_
             refine imp_i fun h64 => ?_
             refine imp_i fun h65 => ?_
             refine imp_i fun h66 => ?_
             try simp only [sigAdd, addP, sat, List.cons.injEq, DV.b.injEq, and_true, List.length_cons, List.length_nil] at h66
             refine req_i ?_ ?_
             · -- r62
              first | omega | assumption | grind
             refine req_i ?_ ?_
             · -- r63
              first | omega | assumption | grind
             refine req_i ?_ ?_
             · -- r64
              first | omega | assumption | grind
             refine req_i ?_ ?_
             · -- r65
              first | omega | assumption | grind
             refine req_i ?_ ?_
             · -- r66
              first | trivial | assumption | (simp only [sigAdd, addP, sat, List.cons.injEq, DV.b.injEq, and_true, List.length_cons, List.length_nil]; done) | ((try simp only [sigAdd, addP, sat, List.cons.injEq, DV.b.injEq, and_true, List.length_cons, List.length_nil]); first | omega | assumption | grind)
             refine all_i fun n24 => ?_
             refine imp_i fun h67 => ?_
             refine imp_i fun h68 => ?_
             refine imp_i fun h69 => ?_
             try simp only [sigAdd, addP, sat, List.cons.injEq, DV.b.injEq, and_true, List.length_cons, List.length_nil] at h69
             have A := sat_le (a := n1 + n3) (b := n0 + n3) (by omega)
             replace A : n23 ≤ n24 := by rw [h66, h69]; exact A
             refine bR_dec (fun h70 => ?_) (fun h70 => ?_)
             ·
              refine req_i ?_ ?_
              · -- r67
               first | omega | assumption | grind
              refine req_i ?_ ?_
              · -- r68
               first | omega | assumption | grind
              refine req_i ?_ ?_
              · -- r69
               first | omega | assumption | grind
              refine req_i ?_ ?_
              · -- r70
               first | omega | assumption | grind
              refine req_i ?_ ?_
              · -- r71
               first | trivial | assumption | (simp only [sigSub, subP, sat, List.cons.injEq, DV.b.injEq, and_true, List.length_cons, List.length_nil]; done) | ((try simp only [sigSub, subP, sat, List.cons.injEq, DV.b.injEq, and_true, List.length_cons, List.length_nil]); first | omega | assumption | grind)
              refine all_i fun n25 => ?_
              refine imp_i fun h71 => ?_
              refine imp_i fun h72 => ?_
              refine imp_i fun h73 => ?_
              try simp only [sigSub, subP, sat, List.cons.injEq, DV.b.injEq, and_true, List.length_cons, List.length_nil] at h73
              refine req_i ?_ ?_
              · -- r72
               first | omega | assumption | grind
              refine req_i ?_ ?_
              · -- r73
               first | omega | assumption | grind
              refine req_i ?_ ?_
              · -- r74
               first | omega | assumption | grind
              refine req_i ?_ ?_
              · -- r75
               first | omega | assumption | grind
              refine req_i ?_ ?_
              · -- r76
               first | trivial | assumption | (simp only [sigSub, subP, sat, List.cons.injEq, DV.b.injEq, and_true, List.length_cons, List.length_nil]; done) | ((try simp only [sigSub, subP, sat, List.cons.injEq, DV.b.injEq, and_true, List.length_cons, List.length_nil]); first | omega | assumption | grind)
              refine all_i fun n26 => ?_
              refine imp_i fun h74 => ?_
              refine imp_i fun h75 => ?_
              refine imp_i fun h76 => ?_
              try simp only [sigSub, subP, sat, List.cons.injEq, DV.b.injEq, and_true, List.length_cons, List.length_nil] at h76
              have A := sat_le (a := n1 - n3) (b := n0 - n3) (by omega)
              replace A : n25 ≤ n26 := by rw [h73, h76]; exact A
              refine bR_dec (fun h77 => ?_) (fun h77 => ?_)
              ·
               refine req_i ?_ ?_
               · -- r77
                first | omega | assumption | grind
               refine req_i ?_ ?_
               · -- r78
                first | omega | assumption | grind
               refine req_i ?_ ?_
               · -- r79
                first | omega | assumption | grind
               refine req_i ?_ ?_
               · -- r80
                first | omega | assumption | grind
               refine req_i ?_ ?_
               · -- r81
                first | trivial | assumption | (simp only [sigSub, subP, sat, List.cons.injEq, DV.b.injEq, and_true, List.length_cons, List.length_nil]; done) | ((try simp only [sigSub, subP, sat, List.cons.injEq, DV.b.injEq, and_true, List.length_cons, List.length_nil]); first | omega | assumption | grind)
               refine all_i fun n27 => ?_
               refine imp_i fun h78 => ?_
               refine imp_i fun h79 => ?_
               refine imp_i fun h80 => ?_
               try simp only [sigSub, subP, sat, List.cons.injEq, DV.b.injEq, and_true, List.length_cons, List.length_nil] at h80
               refine req_i ?_ ?_
               · -- r82
                first | omega | assumption | grind
               refine req_i ?_ ?_
               · -- r83
                first | omega | assumption | grind
               refine req_i ?_ ?_
               · -- r84
                first | omega | assumption | grind
               refine req_i ?_ ?_
               · -- r85
                first | omega | assumption | grind
               refine req_i ?_ ?_
               · -- r86
                first | trivial | assumption | (simp only [sigSub, subP, sat, List.cons.injEq, DV.b.injEq, and_true, List.length_cons, List.length_nil]; done) | ((try simp only [sigSub, subP, sat, List.cons.injEq, DV.b.injEq, and_true, List.length_cons, List.length_nil]); first | omega | assumption | grind)
               refine all_i fun n28 => ?_
               refine imp_i fun h81 => ?_
               refine imp_i fun h82 => ?_
               refine imp_i fun h83 => ?_
               try simp only [sigSub, subP, sat, List.cons.injEq, DV.b.injEq, and_true, List.length_cons, List.length_nil] at h83
               have A := sat_le (a := n3 - n0) (b := n3 - n1) (by omega)
               replace A : n28 ≤ n27 := by rw [h80, h83]; exact A
               refine bR_dec (fun h84 => ?_) (fun h84 => ?_)
               ·
                refine req_i ?_ ?_
                · -- r87
                 first | omega | assumption | grind
                refine req_i ?_ ?_
                · -- r88
                 first | omega | assumption | grind
                refine req_i ?_ ?_
                · -- r89
                 first | omega | assumption | grind
                refine req_i ?_ ?_
                · -- r90
                 first | omega | assumption | grind
                refine req_i ?_ ?_
                · -- r91
                 first | trivial | assumption | (simp only [sigShift, shiftPost, List.cons.injEq, DV.b.injEq, and_true, List.length_cons, List.length_nil]; done) | ((try simp only [sigShift, shiftPost, List.cons.injEq, DV.b.injEq, and_true, List.length_cons, List.length_nil]); first | omega | assumption | grind)
                refine all_i fun n29 => ?_
                refine imp_i fun h85 => ?_
                refine imp_i fun h86 => ?_
                refine imp_i fun h87 => ?_
                try simp only [Int.toNat_natCast, List.length_set, List.length_replicate, List.length_take, List.length_drop, List.length_append, List.length_cons, List.length_nil, Nat.min_self, List.take_take, lenCols_i, lenCols_b, List.drop_zero, List.take_length, Nat.add_eq, Nat.mul_eq, Nat.sub_eq, Nat.zero_add, Nat.sub_zero, Nat.mul_one] at h87
                refine req_i ?_ ?_
                · -- r92
                 first | omega | assumption | grind
                refine req_i ?_ ?_
                · -- r93
                 first | omega | assumption | grind
                refine req_i ?_ ?_
                · -- r94
                 first | omega | assumption | grind
                refine req_i ?_ ?_
                · -- r95
                 first | omega | assumption | grind
                refine req_i ?_ ?_
                · -- r96
                 first | trivial | assumption | (simp only [sigShift, shiftPost, List.cons.injEq, DV.b.injEq, and_true, List.length_cons, List.length_nil]; done) | ((try simp only [sigShift, shiftPost, List.cons.injEq, DV.b.injEq, and_true, List.length_cons, List.length_nil]); first | omega | assumption | grind)
                refine all_i fun n30 => ?_
                refine imp_i fun h88 => ?_
                refine imp_i fun h89 => ?_
                refine imp_i fun h90 => ?_
                try simp only [Int.toNat_natCast, List.length_set, List.length_replicate, List.length_take, List.length_drop, List.length_append, List.length_cons, List.length_nil, Nat.min_self, List.take_take, lenCols_i, lenCols_b, List.drop_zero, List.take_length, Nat.add_eq, Nat.mul_eq, Nat.sub_eq, Nat.zero_add, Nat.sub_zero, Nat.mul_one] at h90
                have S := shift_mono h87 h90 (by omega)
                refine bR_dec (fun h91 => ?_) (fun h91 => ?_)
                ·
                 refine req_i ?_ ?_
                 · -- r97
                  first | omega | assumption | grind
                 refine req_i ?_ ?_
                 · -- r98
                  first | omega | assumption | grind
                 refine req_i ?_ ?_
                 · -- r99
                  first | trivial | assumption | (simp only [sigNeg, negP, sat, List.cons.injEq, DV.b.injEq, and_true, List.length_cons, List.length_nil]; done) | ((try simp only [sigNeg, negP, sat, List.cons.injEq, DV.b.injEq, and_true, List.length_cons, List.length_nil]); first | omega | assumption | grind)
                 refine all_i fun n31 => ?_
                 refine imp_i fun h92 => ?_
                 refine imp_i fun h93 => ?_
                 refine imp_i fun h94 => ?_
                 try simp only [sigNeg, negP, sat, List.cons.injEq, DV.b.injEq, and_true, List.length_cons, List.length_nil] at h94
                 refine req_i ?_ ?_
                 · -- r100
                  first | omega | assumption | grind
                 refine req_i ?_ ?_
                 · -- r101
                  first | omega | assumption | grind
                 refine req_i ?_ ?_
                 · -- r102
                  first | trivial | assumption | (simp only [sigNeg, negP, sat, List.cons.injEq, DV.b.injEq, and_true, List.length_cons, List.length_nil]; done) | ((try simp only [sigNeg, negP, sat, List.cons.injEq, DV.b.injEq, and_true, List.length_cons, List.length_nil]); first | omega | assumption | grind)
                 refine all_i fun n32 => ?_
                 refine imp_i fun h95 => ?_
                 refine imp_i fun h96 => ?_
                 refine imp_i fun h97 => ?_
                 try simp only [sigNeg, negP, sat, List.cons.injEq, DV.b.injEq, and_true, List.length_cons, List.length_nil] at h97
                 have A := sat_le (a := -n0) (b := -n1) (by omega)
                 replace A : n32 ≤ n31 := by rw [h94, h97]; exact A
                 refine req_i ?_ ?_
                 · -- r103
                  simp only [sigL4]; rw [dec_iff.2 A]
                 rfl
                ·
                 refine req_i ?_ ?_
                 · -- r104
                  first | omega | ((try simp only [sigL4, List.cons.injEq, DV.b.injEq, and_true, List.length_cons, List.length_nil]); first | done | omega | assumption | grind [getD_set, getD_rep, toNat_succ, cntN_yes, cntN_no])
                 rfl
               ·
                refine req_i ?_ ?_
                · -- r105
                 first | omega | ((try simp only [sigL4, List.cons.injEq, DV.b.injEq, and_true, List.length_cons, List.length_nil]); first | done | omega | assumption | grind [getD_set, getD_rep, toNat_succ, cntN_yes, cntN_no])
                rfl
              ·
               refine req_i ?_ ?_
               · -- r106
                first | omega | ((try simp only [sigL4, List.cons.injEq, DV.b.injEq, and_true, List.length_cons, List.length_nil]); first | done | omega | assumption | grind [getD_set, getD_rep, toNat_succ, cntN_yes, cntN_no])
               rfl
             ·
              refine req_i ?_ ?_
              · -- r107
               first | omega | ((try simp only [sigL4, List.cons.injEq, DV.b.injEq, and_true, List.length_cons, List.length_nil]); first | done | omega | assumption | grind [getD_set, getD_rep, toNat_succ, cntN_yes, cntN_no])
              rfl
            ·
             refine req_i ?_ ?_
             · -- r108
              first | omega | ((try simp only [sigL4, List.cons.injEq, DV.b.injEq, and_true, List.length_cons, List.length_nil]); first | done | omega | assumption | grind [getD_set, getD_rep, toNat_succ, cntN_yes, cntN_no])
             rfl
           ·
            refine req_i ?_ ?_
            · -- r109
             first | omega | ((try simp only [sigL4, List.cons.injEq, DV.b.injEq, and_true, List.length_cons, List.length_nil]); first | done | omega | assumption | grind [getD_set, getD_rep, toNat_succ, cntN_yes, cntN_no])
            rfl
          ·
           refine req_i ?_ ?_
           · -- r110
            first | omega | ((try simp only [sigL4, List.cons.injEq, DV.b.injEq, and_true, List.length_cons, List.length_nil]); first | done | omega | assumption | grind [getD_set, getD_rep, toNat_succ, cntN_yes, cntN_no])
           rfl
         ·
          simp only [bR_iff, bR_iff_f, dec_iff, dec_f, Bool.false_eq_true, Bool.true_eq_false, false_implies, imp_false, and_true, true_and, implies_true, Classical.not_not] at h60
          refine req_i ?_ ?_
          · -- r111
           first | omega | ((try simp only [sigL4, List.cons.injEq, DV.b.injEq, and_true, List.length_cons, List.length_nil]); first | done | omega | assumption | grind [getD_set, getD_rep, toNat_succ, cntN_yes, cntN_no])
          rfl
        ·
         refine req_i ?_ ?_
         · -- r112
          first | omega | ((try simp only [sigL4, List.cons.injEq, DV.b.injEq, and_true, List.length_cons, List.length_nil]); first | done | omega | assumption | grind [getD_set, getD_rep, toNat_succ, cntN_yes, cntN_no])
         rfl
  ·
   refine req_i ?_ ?_
   · -- r113
    first | omega | assumption | grind
   refine req_i ?_ ?_
   · -- r114
    first | omega | assumption | grind
   refine req_i ?_ ?_
   · -- r115
    first | trivial | assumption | (simp only [sigPickN, pickPost, List.cons.injEq, DV.b.injEq, and_true, List.length_cons, List.length_nil]; done) | ((try simp only [sigPickN, pickPost, List.cons.injEq, DV.b.injEq, and_true, List.length_cons, List.length_nil]); first | omega | assumption | grind)
   refine all_i fun n33 => ?_
   refine imp_i fun h98 => ?_
   refine imp_i fun h99 => ?_
   refine imp_i fun h100 => ?_
   try simp only [sigPickN, pickPost, List.cons.injEq, DV.b.injEq, and_true, List.length_cons, List.length_nil] at h100
   refine req_i ?_ ?_
   · -- r116
    first | omega | assumption | grind
   refine req_i ?_ ?_
   · -- r117
    first | omega | assumption | grind
   refine req_i ?_ ?_
   · -- r118
    first | omega | assumption | grind
   refine req_i ?_ ?_
   · -- r119
    first | omega | assumption | grind
   refine req_i ?_ ?_
   · -- r120
    first | omega | assumption | grind
   refine req_i ?_ ?_
   · -- r121
    first | omega | assumption | grind
   refine req_i ?_ ?_
   · -- r122
    first | trivial | assumption | (simp only [sigMulF, mulFPost, List.cons.injEq, DV.b.injEq, and_true, List.length_cons, List.length_nil]; done) | ((try simp only [sigMulF, mulFPost, List.cons.injEq, DV.b.injEq, and_true, List.length_cons, List.length_nil]); first | omega | assumption | grind)
   refine all_i fun n34 => ?_
   refine imp_i fun h101 => ?_
   refine imp_i fun h102 => ?_
   refine all_i fun n35 => ?_
   refine imp_i fun h103 => ?_
   refine imp_i fun h104 => ?_
   refine imp_i fun h105 => ?_
   try simp only [Int.toNat_natCast, List.length_set, List.length_replicate, List.length_take, List.length_drop, List.length_append, List.length_cons, List.length_nil, Nat.min_self, List.take_take, lenCols_i, lenCols_b, List.drop_zero, List.take_length, Nat.add_eq, Nat.mul_eq, Nat.sub_eq, Nat.zero_add, Nat.sub_zero, Nat.mul_one] at h105
   refine req_i ?_ ?_
   · -- r123
    first | omega | assumption | grind
   refine req_i ?_ ?_
   · -- r124
    first | omega | assumption | grind
   refine req_i ?_ ?_
   · -- r125
    first | omega | assumption | grind
   refine req_i ?_ ?_
   · -- r126
    first | omega | assumption | grind
   refine req_i ?_ ?_
   · -- r127
    first | omega | assumption | grind
   refine req_i ?_ ?_
   · -- r128
    first | omega | assumption | grind
   refine req_i ?_ ?_
   · -- r129
    first | trivial | assumption | (simp only [sigMulF, mulFPost, List.cons.injEq, DV.b.injEq, and_true, List.length_cons, List.length_nil]; done) | ((try simp only [sigMulF, mulFPost, List.cons.injEq, DV.b.injEq, and_true, List.length_cons, List.length_nil]); first | omega | assumption | grind)
   refine all_i fun n36 => ?_
   refine imp_i fun h106 => ?_
   refine imp_i fun h107 => ?_
   refine all_i fun n37 => ?_
   refine imp_i fun h108 => ?_
   refine imp_i fun h109 => ?_
   refine imp_i fun h110 => ?_
   try simp only [Int.toNat_natCast, List.length_set, List.length_replicate, List.length_take, List.length_drop, List.length_append, List.length_cons, List.length_nil, Nat.min_self, List.take_take, lenCols_i, lenCols_b, List.drop_zero, List.take_length, Nat.add_eq, Nat.mul_eq, Nat.sub_eq, Nat.zero_add, Nat.sub_zero, Nat.mul_one] at h110
   obtain ⟨M1, M2, M3⟩ := mul_mono h105 h110 (by omega) (by omega) (by omega) (by omega)
   refine req_i ?_ ?_
   · -- r130
    first | omega | assumption | grind
   refine req_i ?_ ?_
   · -- r131
    first | omega | assumption | grind
   refine req_i ?_ ?_
   · -- r132
    first | omega | assumption | grind
   refine req_i ?_ ?_
   · -- r133
    first | omega | assumption | grind
   refine req_i ?_ ?_
   · -- r134
    first | omega | assumption | grind
   refine req_i ?_ ?_
   · -- r135
    first | omega | assumption | grind
   refine req_i ?_ ?_
   · -- r136
    first | trivial | assumption | (simp only [sigDivF, divFPost, List.cons.injEq, DV.b.injEq, and_true, List.length_cons, List.length_nil]; done) | ((try simp only [sigDivF, divFPost, List.cons.injEq, DV.b.injEq, and_true, List.length_cons, List.length_nil]); first | omega | assumption | grind)
   refine all_i fun n38 => ?_
   refine imp_i fun h111 => ?_
   refine imp_i fun h112 => ?_
   refine all_i fun n39 => ?_
   refine imp_i fun h113 => ?_
   refine imp_i fun h114 => ?_
   refine imp_i fun h115 => ?_
   try simp only [Int.toNat_natCast, List.length_set, List.length_replicate, List.length_take, List.length_drop, List.length_append, List.length_cons, List.length_nil, Nat.min_self, List.take_take, lenCols_i, lenCols_b, List.drop_zero, List.take_length, Nat.add_eq, Nat.mul_eq, Nat.sub_eq, Nat.zero_add, Nat.sub_zero, Nat.mul_one] at h115
   refine req_i ?_ ?_
   · -- r137
    first | omega | assumption | grind
   refine req_i ?_ ?_
   · -- r138
    first | omega | assumption | grind
   refine req_i ?_ ?_
   · -- r139
    first | omega | assumption | grind
   refine req_i ?_ ?_
   · -- r140
    first | omega | assumption | grind
   refine req_i ?_ ?_
   · -- r141
    first | omega | assumption | grind
   refine req_i ?_ ?_
   · -- r142
    first | omega | assumption | grind
   refine req_i ?_ ?_
   · -- r143
    first | trivial | assumption | (simp only [sigDivF, divFPost, List.cons.injEq, DV.b.injEq, and_true, List.length_cons, List.length_nil]; done) | ((try simp only [sigDivF, divFPost, List.cons.injEq, DV.b.injEq, and_true, List.length_cons, List.length_nil]); first | omega | assumption | grind)
   refine all_i fun n40 => ?_
   refine imp_i fun h116 => ?_
   refine imp_i fun h117 => ?_
   refine all_i fun n41 => ?_
   refine imp_i fun h118 => ?_
   refine imp_i fun h119 => ?_
   refine imp_i fun h120 => ?_
   try simp only [Int.toNat_natCast, List.length_set, List.length_replicate, List.length_take, List.length_drop, List.length_append, List.length_cons, List.length_nil, Nat.min_self, List.take_take, lenCols_i, lenCols_b, List.drop_zero, List.take_length, Nat.add_eq, Nat.mul_eq, Nat.sub_eq, Nat.zero_add, Nat.sub_zero, Nat.mul_one] at h120
   obtain ⟨D1, D2, D3⟩ := div_mono h115 h120 (by omega) (by omega) (by omega) (by omega)
   refine req_i ?_ ?_
   · -- r144
    first | omega | assumption | grind
   refine req_i ?_ ?_
   · -- r145
    first | omega | assumption | grind
   refine req_i ?_ ?_
   · -- r146
    first | omega | assumption | grind
   refine req_i ?_ ?_
   · -- r147
    first | omega | assumption | grind
   refine req_i ?_ ?_
   · -- r148
    first | trivial | assumption | (simp only [sigRatF, ratPost, List.cons.injEq, DV.b.injEq, and_true, List.length_cons, List.length_nil]; done) | ((try simp only [sigRatF, ratPost, List.cons.injEq, DV.b.injEq, and_true, List.length_cons, List.length_nil]); first | omega | assumption | grind)
   refine all_i fun n42 => ?_
   refine imp_i fun h121 => ?_
   refine imp_i fun h122 => ?_
   refine all_i fun n43 => ?_
   refine imp_i fun h123 => ?_
   refine imp_i fun h124 => ?_
   refine imp_i fun h125 => ?_
   try simp only [Int.toNat_natCast, List.length_set, List.length_replicate, List.length_take, List.length_drop, List.length_append, List.length_cons, List.length_nil, Nat.min_self, List.take_take, lenCols_i, lenCols_b, List.drop_zero, List.take_length, Nat.add_eq, Nat.mul_eq, Nat.sub_eq, Nat.zero_add, Nat.sub_zero, Nat.mul_one] at h125
   refine req_i ?_ ?_
   · -- r149
    first | omega | assumption | grind
   refine req_i ?_ ?_
   · -- r150
    first | omega | assumption | grind
   refine req_i ?_ ?_
   · -- r151
    first | omega | assumption | grind
   refine req_i ?_ ?_
   · -- r152
    first | omega | assumption | grind
   refine req_i ?_ ?_
   · -- r153
    first | trivial | assumption | (simp only [sigRatF, ratPost, List.cons.injEq, DV.b.injEq, and_true, List.length_cons, List.length_nil]; done) | ((try simp only [sigRatF, ratPost, List.cons.injEq, DV.b.injEq, and_true, List.length_cons, List.length_nil]); first | omega | assumption | grind)
   refine all_i fun n44 => ?_
   refine imp_i fun h126 => ?_
   refine imp_i fun h127 => ?_
   refine all_i fun n45 => ?_
   refine imp_i fun h128 => ?_
   refine imp_i fun h129 => ?_
   refine imp_i fun h130 => ?_
   try simp only [Int.toNat_natCast, List.length_set, List.length_replicate, List.length_take, List.length_drop, List.length_append, List.length_cons, List.length_nil, Nat.min_self, List.take_take, lenCols_i, lenCols_b, List.drop_zero, List.take_length, Nat.add_eq, Nat.mul_eq, Nat.sub_eq, Nat.zero_add, Nat.sub_zero, Nat.mul_one] at h130
   obtain ⟨R1, R2, R3⟩ := rat_mono h125 h130 (by omega) (by omega) (by omega)
   refine bR_dec (fun h131 => ?_) (fun h131 => ?_)
   ·
    refine req_i ?_ ?_
    · -- r154
     first | omega | assumption | grind
    refine all_i fun b46 => ?_
    refine imp_i fun h132 => ?_
    try simp only [sigTrue0, List.cons.injEq, DV.b.injEq, and_true, List.length_cons, List.length_nil] at h132
    refine bR_i (fun h133 => ?_) (fun h133 => ?_)
    ·
     refine req_i ?_ ?_
     · -- r155
      first | omega | ((try simp only [sigL4, List.cons.injEq, DV.b.injEq, and_true, List.length_cons, List.length_nil]); first | done | omega | assumption | grind [getD_set, getD_rep, toNat_succ, cntN_yes, cntN_no])
     rfl
    ·
     refine req_i ?_ ?_
     · -- r156
      first | omega | ((try simp only [sigL4, List.cons.injEq, DV.b.injEq, and_true, List.length_cons, List.length_nil]); first | done | omega | assumption | grind [getD_set, getD_rep, toNat_succ, cntN_yes, cntN_no])
     rfl
   ·
    refine bR_dec (fun h134 => ?_) (fun h134 => ?_)
    ·
     refine req_i ?_ ?_
     · -- r157
      first | omega | assumption | grind
     refine all_i fun b47 => ?_
     refine imp_i fun h135 => ?_
     try simp only [sigTrue0, List.cons.injEq, DV.b.injEq, and_true, List.length_cons, List.length_nil] at h135
     refine bR_i (fun h136 => ?_) (fun h136 => ?_)
     ·
      refine req_i ?_ ?_
      · -- r158
       first | omega | ((try simp only [sigL4, List.cons.injEq, DV.b.injEq, and_true, List.length_cons, List.length_nil]); first | done | omega | assumption | grind [getD_set, getD_rep, toNat_succ, cntN_yes, cntN_no])
      rfl
     ·
      refine req_i ?_ ?_
      · -- r159
       first | omega | ((try simp only [sigL4, List.cons.injEq, DV.b.injEq, and_true, List.length_cons, List.length_nil]); first | done | omega | assumption | grind [getD_set, getD_rep, toNat_succ, cntN_yes, cntN_no])
      rfl
    ·
     refine bR_dec (fun h137 => ?_) (fun h137 => ?_)
     ·
      refine req_i ?_ ?_
      · -- r160
       first | omega | assumption | grind
      refine all_i fun b48 => ?_
      refine imp_i fun h138 => ?_
      try simp only [sigTrue0, List.cons.injEq, DV.b.injEq, and_true, List.length_cons, List.length_nil] at h138
      refine bR_i (fun h139 => ?_) (fun h139 => ?_)
      ·
       refine req_i ?_ ?_
       · -- r161
        first | omega | ((try simp only [sigL4, List.cons.injEq, DV.b.injEq, and_true, List.length_cons, List.length_nil]); first | done | omega | assumption | grind [getD_set, getD_rep, toNat_succ, cntN_yes, cntN_no])
       rfl
      ·
       refine req_i ?_ ?_
       · -- r162
        first | omega | ((try simp only [sigL4, List.cons.injEq, DV.b.injEq, and_true, List.length_cons, List.length_nil]); first | done | omega | assumption | grind [getD_set, getD_rep, toNat_succ, cntN_yes, cntN_no])
       rfl
     ·
      refine bR_dec (fun h140 => ?_) (fun h140 => ?_)
      ·
       refine req_i ?_ ?_
       · -- r163
        first | omega | assumption | grind
       refine all_i fun b49 => ?_
       refine imp_i fun h141 => ?_
       try simp only [sigTrue0, List.cons.injEq, DV.b.injEq, and_true, List.length_cons, List.length_nil] at h141
       refine bR_i (fun h142 => ?_) (fun h142 => ?_)
       ·
        refine req_i ?_ ?_
        · -- r164
         first | omega | ((try simp only [sigL4, List.cons.injEq, DV.b.injEq, and_true, List.length_cons, List.length_nil]); first | done | omega | assumption | grind [getD_set, getD_rep, toNat_succ, cntN_yes, cntN_no])
        rfl
       ·
        refine req_i ?_ ?_
        · -- r165
         first | omega | ((try simp only [sigL4, List.cons.injEq, DV.b.injEq, and_true, List.length_cons, List.length_nil]); first | done | omega | assumption | grind [getD_set, getD_rep, toNat_succ, cntN_yes, cntN_no])
        rfl
      ·
       refine bR_dec (fun h143 => ?_) (fun h143 => ?_)
       ·
        refine req_i ?_ ?_
        · -- r166
         first | omega | assumption | grind
        refine all_i fun b50 => ?_
        refine imp_i fun h144 => ?_
        try simp only [sigTrue0, List.cons.injEq, DV.b.injEq, and_true, List.length_cons, List.length_nil] at h144
        refine bR_i (fun h145 => ?_) (fun h145 => ?_)
        ·
         refine req_i ?_ ?_
         · -- r167
          first | omega | ((try simp only [sigL4, List.cons.injEq, DV.b.injEq, and_true, List.length_cons, List.length_nil]); first | done | omega | assumption | grind [getD_set, getD_rep, toNat_succ, cntN_yes, cntN_no])
         rfl
        ·
         refine req_i ?_ ?_
         · -- r168
          first | omega | ((try simp only [sigL4, List.cons.injEq, DV.b.injEq, and_true, List.length_cons, List.length_nil]); first | done | omega | assumption | grind [getD_set, getD_rep, toNat_succ, cntN_yes, cntN_no])
         rfl
       ·
        refine req_i ?_ ?_
        · -- r169
         first | omega | assumption | grind
        refine all_i fun b51 => ?_
        refine imp_i fun h146 => ?_
        try simp only [sigTrue0, List.cons.injEq, DV.b.injEq, and_true, List.length_cons, List.length_nil] at h146
        refine bR_i (fun h147 => ?_) (fun h147 => ?_)
        ·
         refine bR_i (fun h148 => ?_) (fun h148 => ?_)
         ·
          simp only [bR_iff, bR_iff_f, dec_iff, dec_f, Bool.false_eq_true, Bool.true_eq_false, false_implies, imp_false, and_true, true_and, implies_true, Classical.not_not] at h148
          refine bR_dec (fun h149 => ?_) (fun h149 => ?_)
          ·
           refine bR_dec (fun h150 => ?_) (fun h150 => ?_)
           ·
            refine bR_dec (fun h151 => ?_) (fun h151 => ?_)
            ·
             refine req_i ?_ ?_
             · -- r170
              first | omega | assumption | grind
             refine req_i ?_ ?_
             · -- r171
              first | omega | assumption | grind
             refine req_i ?_ ?_
             · -- r172
              first | omega | assumption | grind
             refine req_i ?_ ?_
             · -- r173
              first | omega | assumption | grind
             refine req_i ?_ ?_
             · -- r174
              first | trivial | assumption | (simp only [sigAdd, addP, sat, List.cons.injEq, DV.b.injEq, and_true, List.length_cons, List.length_nil]; done) | ((try simp only [sigAdd, addP, sat, List.cons.injEq, DV.b.injEq, and_true, List.length_cons, List.length_nil]); first | omega | assumption | grind)
             refine all_i fun n52 => ?_
             refine imp_i fun h152 => ?_
             refine imp_i fun h153 => ?_
             refine imp_i fun h154 => ?_
             try simp only [sigAdd, addP, sat, List.cons.injEq, DV.b.injEq, and_true, List.length_cons, List.length_nil] at h154
             refine req_i ?_ ?_
             · -- r175
              first | omega | assumption | grind
             refine req_i ?_ ?_
             · -- r176
              first | omega | assumption | grind
             refine req_i ?_ ?_
             · -- r177
              first | omega | assumption | grind
             refine req_i ?_ ?_
             · -- r178
              first | omega | assumption | grind
             refine req_i ?_ ?_
             · -- r179
              first | trivial | assumption | (simp only [sigAdd, addP, sat, List.cons.injEq, DV.b.injEq, and_true, List.length_cons, List.length_nil]; done) | ((try simp only [sigAdd, addP, sat, List.cons.injEq, DV.b.injEq, and_true, List.length_cons, List.length_nil]); first | omega | assumption | grind)
             refine all_i fun n53 => ?_
             refine imp_i fun h155 => ?_
             refine imp_i fun h156 => ?_
             refine imp_i fun h157 => ?_
             try simp only [sigAdd, addP, sat, List.cons.injEq, DV.b.injEq, and_true, List.length_cons, List.length_nil] at h157
             have A := sat_le (a := n0 + n3) (b := n1 + n3) (by omega)
             replace A : n52 ≤ n53 := by rw [h154, h157]; exact A
             refine bR_dec (fun h158 => ?_) (fun h158 => ?_)
             ·
              refine req_i ?_ ?_
              · -- r180
               first | omega | assumption | grind
              refine req_i ?_ ?_
              · -- r181
               first | omega | assumption | grind
              refine req_i ?_ ?_
              · -- r182
               first | omega | assumption | grind
              refine req_i ?_ ?_
              · -- r183
               first | omega | assumption | grind
              refine req_i ?_ ?_
              · -- r184
               first | trivial | assumption | (simp only [sigSub, subP, sat, List.cons.injEq, DV.b.injEq, and_true, List.length_cons, List.length_nil]; done) | ((try simp only [sigSub, subP, sat, List.cons.injEq, DV.b.injEq, and_true, List.length_cons, List.length_nil]); first | omega | assumption | grind)
              refine all_i fun n54 => ?_
              refine imp_i fun h159 => ?_
              refine imp_i fun h160 => ?_
              refine imp_i fun h161 => ?_
              try simp only [sigSub, subP, sat, List.cons.injEq, DV.b.injEq, and_true, List.length_cons, List.length_nil] at h161
              refine req_i ?_ ?_
              · -- r185
               first | omega | assumption | grind
              refine req_i ?_ ?_
              · -- r186
               first | omega | assumption | grind
              refine req_i ?_ ?_
              · -- r187
               first | omega | assumption | grind
              refine req_i ?_ ?_
              · -- r188
               first | omega | assumption | grind
              refine req_i ?_ ?_
              · -- r189
               first | trivial | assumption | (simp only [sigSub, subP, sat, List.cons.injEq, DV.b.injEq, and_true, List.length_cons, List.length_nil]; done) | ((try simp only [sigSub, subP, sat, List.cons.injEq, DV.b.injEq, and_true, List.length_cons, List.length_nil]); first | omega | assumption | grind)
              refine all_i fun n55 => ?_
              refine imp_i fun h162 => ?_
              refine imp_i fun h163 => ?_
              refine imp_i fun h164 => ?_
              try simp only [sigSub, subP, sat, List.cons.injEq, DV.b.injEq, and_true, List.length_cons, List.length_nil] at h164
              have A := sat_le (a := n0 - n3) (b := n1 - n3) (by omega)
              replace A : n54 ≤ n55 := by rw [h161, h164]; exact A
              refine bR_dec (fun h165 => ?_) (fun h165 => ?_)
              ·
               refine req_i ?_ ?_
               · -- r190
                first | omega | assumption | grind
               refine req_i ?_ ?_
               · -- r191
                first | omega | assumption | grind
               refine req_i ?_ ?_
               · -- r192
                first | omega | assumption | grind
               refine req_i ?_ ?_
               · -- r193
                first | omega | assumption | grind
               refine req_i ?_ ?_
               · -- r194
                first | trivial | assumption | (simp only [sigSub, subP, sat, List.cons.injEq, DV.b.injEq, and_true, List.length_cons, List.length_nil]; done) | ((try simp only [sigSub, subP, sat, List.cons.injEq, DV.b.injEq, and_true, List.length_cons, List.length_nil]); first | omega | assumption | grind)
               refine all_i fun n56 => ?_
               refine imp_i fun h166 => ?_
               refine imp_i fun h167 => ?_
               refine imp_i fun h168 => ?_
               try simp only [sigSub, subP, sat, List.cons.injEq, DV.b.injEq, and_true, List.length_cons, List.length_nil] at h168
               refine req_i ?_ ?_
               · -- r195
                first | omega | assumption | grind
               refine req_i ?_ ?_
               · -- r196
                first | omega | assumption | grind
               refine req_i ?_ ?_
               · -- r197
                first | omega | assumption | grind
               refine req_i ?_ ?_
               · -- r198
                first | omega | assumption | grind
               refine req_i ?_ ?_
               · -- r199
                first | trivial | assumption | (simp only [sigSub, subP, sat, List.cons.injEq, DV.b.injEq, and_true, List.length_cons, List.length_nil]; done) | ((try simp only [sigSub, subP, sat, List.cons.injEq, DV.b.injEq, and_true, List.length_cons, List.length_nil]); first | omega | assumption | grind)
               refine all_i fun n57 => ?_
               refine imp_i fun h169 => ?_
               refine imp_i fun h170 => ?_
               refine imp_i fun h171 => ?_
               try simp only [sigSub, subP, sat, List.cons.injEq, DV.b.injEq, and_true, List.length_cons, List.length_nil] at h171
               have A := sat_le (a := n3 - n1) (b := n3 - n0) (by omega)
               replace A : n57 ≤ n56 := by rw [h168, h171]; exact A
               refine bR_dec (fun h172 => ?_) (fun h172 => ?_)
               ·
                refine req_i ?_ ?_
                · -- r200
                 first | omega | assumption | grind
                refine req_i ?_ ?_
                · -- r201
                 first | omega | assumption | grind
                refine req_i ?_ ?_
                · -- r202
                 first | omega | assumption | grind
                refine req_i ?_ ?_
                · -- r203
                 first | omega | assumption | grind
                refine req_i ?_ ?_
                · -- r204
                 first | trivial | assumption | (simp only [sigShift, shiftPost, List.cons.injEq, DV.b.injEq, and_true, List.length_cons, List.length_nil]; done) | ((try simp only [sigShift, shiftPost, List.cons.injEq, DV.b.injEq, and_true, List.length_cons, List.length_nil]); first | omega | assumption | grind)
                refine all_i fun n58 => ?_
                refine imp_i fun h173 => ?_
                refine imp_i fun h174 => ?_
                refine imp_i fun h175 => ?_
                try simp only [Int.toNat_natCast, List.length_set, List.length_replicate, List.length_take, List.length_drop, List.length_append, List.length_cons, List.length_nil, Nat.min_self, List.take_take, lenCols_i, lenCols_b, List.drop_zero, List.take_length, Nat.add_eq, Nat.mul_eq, Nat.sub_eq, Nat.zero_add, Nat.sub_zero, Nat.mul_one] at h175
                refine req_i ?_ ?_
                · -- r205
                 first | omega | assumption | grind
                refine req_i ?_ ?_
                · -- r206
                 first | omega | assumption | grind
                refine req_i ?_ ?_
                · -- r207
                 first | omega | assumption | grind
                refine req_i ?_ ?_
                · -- r208
                 first | omega | assumption | grind
                refine req_i ?_ ?_
                · -- r209
                 first | trivial | assumption | (simp only [sigShift, shiftPost, List.cons.injEq, DV.b.injEq, and_true, List.length_cons, List.length_nil]; done) | ((try simp only [sigShift, shiftPost, List.cons.injEq, DV.b.injEq, and_true, List.length_cons, List.length_nil]); first | omega | assumption | grind)
                refine all_i fun n59 => ?_
                refine imp_i fun h176 => ?_
                refine imp_i fun h177 => ?_
                refine imp_i fun h178 => ?_
                try simp only [Int.toNat_natCast, List.length_set, List.length_replicate, List.length_take, List.length_drop, List.length_append, List.length_cons, List.length_nil, Nat.min_self, List.take_take, lenCols_i, lenCols_b, List.drop_zero, List.take_length, Nat.add_eq, Nat.mul_eq, Nat.sub_eq, Nat.zero_add, Nat.sub_zero, Nat.mul_one] at h178
                have S := shift_mono h175 h178 (by omega)
                refine bR_dec (fun h179 => ?_) (fun h179 => ?_)
                ·
                 refine req_i ?_ ?_
                 · -- r210
                  first | omega | assumption | grind
                 refine req_i ?_ ?_
                 · -- r211
                  first | omega | assumption | grind
                 refine req_i ?_ ?_
                 · -- r212
                  first | trivial | assumption | (simp only [sigNeg, negP, sat, List.cons.injEq, DV.b.injEq, and_true, List.length_cons, List.length_nil]; done) | ((try simp only [sigNeg, negP, sat, List.cons.injEq, DV.b.injEq, and_true, List.length_cons, List.length_nil]); first | omega | assumption | grind)
                 refine all_i fun n60 => ?_
                 refine imp_i fun h180 => ?_
                 refine imp_i fun h181 => ?_
                 refine imp_i fun h182 => ?_
                 try simp only [sigNeg, negP, sat, List.cons.injEq, DV.b.injEq, and_true, List.length_cons, List.length_nil] at h182
                 refine req_i ?_ ?_
                 · -- r213
                  first | omega | assumption | grind
                 refine req_i ?_ ?_
                 · -- r214
                  first | omega | assumption | grind
                 refine req_i ?_ ?_
                 · -- r215
                  first | trivial | assumption | (simp only [sigNeg, negP, sat, List.cons.injEq, DV.b.injEq, and_true, List.length_cons, List.length_nil]; done) | ((try simp only [sigNeg, negP, sat, List.cons.injEq, DV.b.injEq, and_true, List.length_cons, List.length_nil]); first | omega | assumption | grind)
                 refine all_i fun n61 => ?_
                 refine imp_i fun h183 => ?_
                 refine imp_i fun h184 => ?_
                 refine imp_i fun h185 => ?_
                 try simp only [sigNeg, negP, sat, List.cons.injEq, DV.b.injEq, and_true, List.length_cons, List.length_nil] at h185
                 have A := sat_le (a := -n1) (b := -n0) (by omega)
                 replace A : n61 ≤ n60 := by rw [h182, h185]; exact A
                 refine req_i ?_ ?_
                 · -- r216
                  simp only [sigL4]; rw [dec_iff.2 A]
                 rfl
                ·
                 refine req_i ?_ ?_
                 · -- r217
                  first | omega | ((try simp only [sigL4, List.cons.injEq, DV.b.injEq, and_true, List.length_cons, List.length_nil]); first | done | omega | assumption | grind [getD_set, getD_rep, toNat_succ, cntN_yes, cntN_no])
                 rfl
               ·
                refine req_i ?_ ?_
                · -- r218
                 first | omega | ((try simp only [sigL4, List.cons.injEq, DV.b.injEq, and_true, List.length_cons, List.length_nil]); first | done | omega | assumption | grind [getD_set, getD_rep, toNat_succ, cntN_yes, cntN_no])
                rfl
              ·
               refine req_i ?_ ?_
               · -- r219
                first | omega | ((try simp only [sigL4, List.cons.injEq, DV.b.injEq, and_true, List.length_cons, List.length_nil]); first | done | omega | assumption | grind [getD_set, getD_rep, toNat_succ, cntN_yes, cntN_no])
               rfl
             ·
              refine req_i ?_ ?_
              · -- r220
               first | omega | ((try simp only [sigL4, List.cons.injEq, DV.b.injEq, and_true, List.length_cons, List.length_nil]); first | done | omega | assumption | grind [getD_set, getD_rep, toNat_succ, cntN_yes, cntN_no])
              rfl
            ·
             refine req_i ?_ ?_
             · -- r221
              first | omega | ((try simp only [sigL4, List.cons.injEq, DV.b.injEq, and_true, List.length_cons, List.length_nil]); first | done | omega | assumption | grind [getD_set, getD_rep, toNat_succ, cntN_yes, cntN_no])
             rfl
           ·
            refine req_i ?_ ?_
            · -- r222
             first | omega | ((try simp only [sigL4, List.cons.injEq, DV.b.injEq, and_true, List.length_cons, List.length_nil]); first | done | omega | assumption | grind [getD_set, getD_rep, toNat_succ, cntN_yes, cntN_no])
            rfl
          ·
           refine req_i ?_ ?_
           · -- r223
            first | omega | ((try simp only [sigL4, List.cons.injEq, DV.b.injEq, and_true, List.length_cons, List.length_nil]); first | done | omega | assumption | grind [getD_set, getD_rep, toNat_succ, cntN_yes, cntN_no])
           rfl
         ·
          simp only [bR_iff, bR_iff_f, dec_iff, dec_f, Bool.false_eq_true, Bool.true_eq_false, false_implies, imp_false, and_true, true_and, implies_true, Classical.not_not] at h148
          refine req_i ?_ ?_
          · -- r224
           first | omega | ((try simp only [sigL4, List.cons.injEq, DV.b.injEq, and_true, List.length_cons, List.length_nil]); first | done | omega | assumption | grind [getD_set, getD_rep, toNat_succ, cntN_yes, cntN_no])
          rfl
        ·
         refine req_i ?_ ?_
         · -- r225
          first | omega | ((try simp only [sigL4, List.cons.injEq, DV.b.injEq, and_true, List.length_cons, List.length_nil]); first | done | omega | assumption | grind [getD_set, getD_rep, toNat_succ, cntN_yes, cntN_no])
         rfl
theorem ext_FixedGrows : ∀ p ∈ ([(10, Ext.ctr (ctOf sigTrue0)), (42, Ext.ctr (ctOf (sigPickN 4611686018427387904))), (13, Ext.ctr (ctOf sigAdd)), (11, Ext.ctr (ctOf sigSub)), (12, Ext.ctr (ctOf sigNeg)), (14, Ext.ctr (ctOf sigShift)), (15, Ext.ctr (ctOf sigMulF)), (18, Ext.ctr (ctOf sigDivF)), (19, Ext.ctr (ctOf sigRatF))] : List (Nat × Ext)), ExtRow Try.prog p.1 p.2 := by
  intro p hp
  simp only [List.mem_cons, List.not_mem_nil, or_false] at hp
  rcases hp with rfl | rfl | rfl | rfl | rfl | rfl | rfl | rfl | rfl
  · trivial
  · trivial
  · trivial
  · trivial
  · trivial
  · trivial
  · trivial
  · trivial
  · trivial
theorem cts_FixedGrows : CtsOk Try.prog [(10, Ext.ctr (ctOf sigTrue0)), (42, Ext.ctr (ctOf (sigPickN 4611686018427387904))), (13, Ext.ctr (ctOf sigAdd)), (11, Ext.ctr (ctOf sigSub)), (12, Ext.ctr (ctOf sigNeg)), (14, Ext.ctr (ctOf sigShift)), (15, Ext.ctr (ctOf sigMulF)), (18, Ext.ctr (ctOf sigDivF)), (19, Ext.ctr (ctOf sigRatF))] := ctsOk_of (cs := [(10, sigTrue0), (42, (sigPickN 4611686018427387904)), (13, sigAdd), (11, sigSub), (12, sigNeg), (14, sigShift), (15, sigMulF), (18, sigDivF), (19, sigRatF)])
  (fun p hp => by
    simp only [List.mem_cons, List.not_mem_nil, or_false] at hp
    rcases hp with rfl | rfl | rfl | rfl | rfl | rfl | rfl | rfl | rfl
    · exact fn_lives
    · exact fn_pick
    · exact fn_add
    · exact fn_sub
    · exact fn_neg
    · exact fn_shift
    · exact fn_Mul
    · exact fn_Div
    · exact fn_Ratio
)
  (fun f c h => by
    simp only [List.lookup_cons] at h
    repeat' split at h
    all_goals first | (cases h; done) | (rename_i e; have e := beq_iff_eq.1 e; subst e; cases h; refine ⟨_, ?_, rfl⟩; simp))
theorem fn_FixedGrows : FnOk Try.prog 8 sigL4 [] := fn_sound (by kernel_rfl) ext_FixedGrows cts_FixedGrows names vt_FixedGrows
end Go.Proofs.Ytcddopooofdgcaa

