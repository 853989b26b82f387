import Derived.Test.YtcddopooofdgcaaSpec01e
import Derived.Test.YtcddopooofdgcaaRows
import Derived.Test.YtcddopooofdgcaaFaFixedProducts
namespace Go.Proofs.Ytcddopooofdgcaa
open Go.Ev Go.Sp
set_option maxRecDepth 100000
theorem vc_DivR : vcFn Try.prog [(62, Ext.ctr (ctOf sigMul)), (60, Ext.ctr (ctOf sigSize)), (63, Ext.ctr (ctOf sigDvd)), (61, Ext.ctr (ctOf sigSgn))] noA [] 100 32 sigDivF = (allB fun n0 : Int => 
impB ((-9223372036854775808 : Int) ≤ n0) (
impB (n0 ≤ (9223372036854775807 : Int)) (
allB fun n1 : Int => 
impB ((-9223372036854775808 : Int) ≤ n1) (
impB (n1 ≤ (9223372036854775807 : Int)) (
allB fun n2 : Int => 
impB ((-9223372036854775808 : Int) ≤ n2) (
impB (n2 ≤ (9223372036854775807 : Int)) (
impB (sigDivF.pre [DV.n n0, DV.n n1, DV.n n2]) (
bR (dec (n2 < (0 : Int))) (
 reqB (sigDivF.post [DV.n n0, DV.n n1, DV.n n2] [DV.n (0 : Int), DV.n (2 : Int)]) (
 true)) (
 bR (dec ((62 : Int) < n2)) (
 reqB (sigDivF.post [DV.n n0, DV.n n1, DV.n n2] [DV.n (0 : Int), DV.n (2 : Int)]) (
 true)) (
 bR (dec (n1 = (0 : Int))) (
 reqB (sigDivF.post [DV.n n0, DV.n n1, DV.n n2] [DV.n (0 : Int), DV.n (6 : Int)]) (
 true)) (
 reqB ((-9223372036854775808 : Int) ≤ n0) (
 reqB (n0 ≤ (9223372036854775807 : Int)) (
 reqB (sigSize.pre [DV.n n0]) (
 allB fun n3 : Int => 
 impB ((0 : Int) ≤ n3) (
 impB (n3 ≤ (9223372036854775808 : Int)) (
 impB (sigSize.post [DV.n n0] [DV.n n3]) (
 reqB ((0 : Int) ≤ n2) (
 reqB ((0 : Int) ≤ n3) (
 reqB (n3 ≤ (18446744073709551615 : Int)) (
 reqB ((0 : Int) ≤ opI (SO.shl Go.IntKind.u64) (1 : Int) n2) (
 reqB (opI (SO.shl Go.IntKind.u64) (1 : Int) n2 ≤ (18446744073709551615 : Int)) (
 reqB (sigMul.pre [DV.n n3, DV.n (opI (SO.shl Go.IntKind.u64) (1 : Int) n2)]) (
 allB fun n4 : Int => 
 impB ((0 : Int) ≤ n4) (
 impB (n4 ≤ (18446744073709551615 : Int)) (
 allB fun n5 : Int => 
 impB ((0 : Int) ≤ n5) (
 impB (n5 ≤ (18446744073709551615 : Int)) (
 impB (sigMul.post [DV.n n3, DV.n (opI (SO.shl Go.IntKind.u64) (1 : Int) n2)]
 [DV.n n4, DV.n n5]) (
 reqB ((-9223372036854775808 : Int) ≤ n1) (
 reqB (n1 ≤ (9223372036854775807 : Int)) (
 reqB (sigSize.pre [DV.n n1]) (
 allB fun n6 : Int => 
 impB ((0 : Int) ≤ n6) (
 impB (n6 ≤ (9223372036854775808 : Int)) (
 impB (sigSize.post [DV.n n1] [DV.n n6]) (
 reqB ((0 : Int) ≤ n4) (
 reqB (n4 ≤ (18446744073709551615 : Int)) (
 reqB ((0 : Int) ≤ n5) (
 reqB (n5 ≤ (18446744073709551615 : Int)) (
 reqB ((0 : Int) ≤ n6) (
 reqB (n6 ≤ (9223372036854775808 : Int)) (
 reqB (sigDvd.pre [DV.n n4, DV.n n5, DV.n n6]) (
 allB fun n7 : Int => 
 impB ((0 : Int) ≤ n7) (
 impB (n7 ≤ (18446744073709551615 : Int)) (
 allB fun b8 : Bool => 
 impB (sigDvd.post [DV.n n4, DV.n n5, DV.n n6] [DV.n n7, DV.b b8]) (
 reqB ((0 : Int) ≤ n7) (
 reqB (n7 ≤ (18446744073709551615 : Int)) (
 reqB (sigSgn.pre
 [DV.n n7, DV.b b8, DV.b !beqB (dec (n0 < (0 : Int))) (dec (n1 < (0 : Int)))]) (
 allB fun n9 : Int => 
 impB ((-9223372036854775808 : Int) ≤ n9) (
 impB (n9 ≤ (9223372036854775807 : Int)) (
 impB (sigSgn.post
 [DV.n n7, DV.b b8, DV.b !beqB (dec (n0 < (0 : Int))) (dec (n1 < (0 : Int)))]
 [DV.n n9]) (
 reqB ((-9223372036854775808 : Int) ≤ n9) (
 reqB (n9 ≤ (9223372036854775807 : Int)) (
 reqB (sigDivF.post [DV.n n0, DV.n n1, DV.n n2] [DV.n n9, DV.n (0 : Int)]) (
 true))))))))))))))))))))))))))))))))))))))))))))))))))))) := by kernel_rfl
set_option maxHeartbeats 8000000 in
theorem vt_DivR : vcFn Try.prog [(62, Ext.ctr (ctOf sigMul)), (60, Ext.ctr (ctOf sigSize)), (63, Ext.ctr (ctOf sigDvd)), (61, Ext.ctr (ctOf sigSgn))] noA [] 100 32 sigDivF = true := by
  rw [vc_DivR]
  try simp only [Int.toNat_natCast, List.length_set, List.length_replicate, List.length_take, List.length_drop, List.length_append, List.length_cons, List.length_nil, Nat.min_self, List.take_take, lenCols_i, lenCols_b, List.drop_zero, List.take_length, Nat.add_eq, Nat.mul_eq, Nat.sub_eq, Nat.zero_add, Nat.sub_zero, Nat.mul_one]
  refine all_i fun n0 => ?_
  refine imp_i fun h0 => ?_
  refine imp_i fun h1 => ?_
  refine all_i fun n1 => ?_
  refine imp_i fun h2 => ?_
  refine imp_i fun h3 => ?_
  refine all_i fun n2 => ?_
  refine imp_i fun h4 => ?_
  refine imp_i fun h5 => ?_
  refine imp_i fun h6 => ?_
  try simp only [sigDivF, divFPost, List.cons.injEq, DV.b.injEq, and_true, List.length_cons, List.length_nil] at h6
  refine bR_dec (fun h7 => ?_) (fun h7 => ?_)
  ·
   refine req_i ?_ ?_
   · -- r0
    exact .inl ⟨by omega, rfl, rfl⟩
   rfl
  ·
   refine bR_dec (fun h8 => ?_) (fun h8 => ?_)
   ·
    refine req_i ?_ ?_
    · -- r1
     exact .inl ⟨by omega, rfl, rfl⟩
    rfl
   ·
    refine bR_dec (fun h9 => ?_) (fun h9 => ?_)
    ·
     refine req_i ?_ ?_
     · -- r2
      exact .inr (.inl ⟨by omega, by omega, by omega, rfl, rfl⟩)
     rfl
    ·
     refine req_i ?_ ?_
     · -- r3
      first | omega | assumption | grind
     refine req_i ?_ ?_
     · -- r4
      first | omega | assumption | grind
     refine req_i ?_ ?_
     · -- r5
      first | trivial | assumption | (simp only [sigSize, sizePost, List.cons.injEq, DV.b.injEq, and_true, List.length_cons, List.length_nil]; done) | ((try simp only [sigSize, sizePost, List.cons.injEq, DV.b.injEq, and_true, List.length_cons, List.length_nil]); first | omega | assumption | grind)
     refine all_i fun n3 => ?_
     refine imp_i fun h10 => ?_
     refine imp_i fun h11 => ?_
     refine imp_i fun h12 => ?_
     try simp only [sigSize, sizePost, List.cons.injEq, DV.b.injEq, and_true, List.length_cons, List.length_nil] at h12
     have ah12 := abs_bd n0 (by omega) (by omega)
     rw [shlU_one (by omega) (by omega)]
     have pp := p2_pos n2
     have pm : p2 n2 ≤ p2 62 := p2_mono (by omega)
     rw [show p2 62 = 4611686018427387904 by decide] at pm
     refine req_i ?_ ?_
     · -- r6
      first | omega | assumption | grind
     refine req_i ?_ ?_
     · -- r7
      first | omega | assumption | grind
     refine req_i ?_ ?_
     · -- r8
      first | omega | assumption | grind
     refine req_i ?_ ?_
     · -- r9
      first | omega | assumption | grind
     refine req_i ?_ ?_
     · -- r10
      first | omega | assumption | grind
     refine req_i ?_ ?_
     · -- r11
      first | trivial | assumption | (simp only [sigMul, mulPost, List.cons.injEq, DV.b.injEq, and_true, List.length_cons, List.length_nil]; done) | ((try simp only [sigMul, mulPost, List.cons.injEq, DV.b.injEq, and_true, List.length_cons, List.length_nil]); first | omega | assumption | grind)
     refine all_i fun n4 => ?_
     refine imp_i fun h13 => ?_
     refine imp_i fun h14 => ?_
     refine all_i fun n5 => ?_
     refine imp_i fun h15 => ?_
     refine imp_i fun h16 => ?_
     refine imp_i fun h17 => ?_
     try simp only [sigMul, mulPost, List.cons.injEq, DV.b.injEq, and_true, List.length_cons, List.length_nil] at h17
     refine req_i ?_ ?_
     · -- r12
      first | omega | assumption | grind
     refine req_i ?_ ?_
     · -- r13
      first | omega | assumption | grind
     refine req_i ?_ ?_
     · -- r14
      first | trivial | assumption | (simp only [sigSize, sizePost, List.cons.injEq, DV.b.injEq, and_true, List.length_cons, List.length_nil]; done) | ((try simp only [sigSize, sizePost, List.cons.injEq, DV.b.injEq, and_true, List.length_cons, List.length_nil]); first | omega | assumption | grind)
     refine all_i fun n6 => ?_
     refine imp_i fun h18 => ?_
     refine imp_i fun h19 => ?_
     refine imp_i fun h20 => ?_
     try simp only [sigSize, sizePost, List.cons.injEq, DV.b.injEq, and_true, List.length_cons, List.length_nil] at h20
     have ah20 := abs_bd n1 (by omega) (by omega)
     refine req_i ?_ ?_
     · -- r15
      first | omega | assumption | grind
     refine req_i ?_ ?_
     · -- r16
      first | omega | assumption | grind
     refine req_i ?_ ?_
     · -- r17
      first | omega | assumption | grind
     refine req_i ?_ ?_
     · -- r18
      first | omega | assumption | grind
     refine req_i ?_ ?_
     · -- r19
      first | omega | assumption | grind
     refine req_i ?_ ?_
     · -- r20
      first | omega | assumption | grind
     refine req_i ?_ ?_
     · -- r21
      first | trivial | assumption | (simp only [sigDvd, overPre, dvdPost, List.cons.injEq, DV.b.injEq, and_true, List.length_cons, List.length_nil]; done) | ((try simp only [sigDvd, overPre, dvdPost, List.cons.injEq, DV.b.injEq, and_true, List.length_cons, List.length_nil]); first | omega | assumption | grind)
     refine all_i fun n7 => ?_
     refine imp_i fun h21 => ?_
     refine imp_i fun h22 => ?_
     refine all_i fun b8 => ?_
     refine imp_i fun h23 => ?_
     try simp only [Int.toNat_natCast, List.length_set, List.length_replicate, List.length_take, List.length_drop, List.length_append, List.length_cons, List.length_nil, Nat.min_self, List.take_take, lenCols_i, lenCols_b, List.drop_zero, List.take_length, Nat.add_eq, Nat.mul_eq, Nat.sub_eq, Nat.zero_add, Nat.sub_zero, Nat.mul_one] at h23
     refine req_i ?_ ?_
     · -- r22
      first | omega | assumption | grind
     refine req_i ?_ ?_
     · -- r23
      first | omega | assumption | grind
     refine req_i ?_ ?_
     · -- r24
      first | omega | ((try simp only [sigSgn, sgnPost, sat, List.cons.injEq, DV.b.injEq, and_true, List.length_cons, List.length_nil, dec_iff]); first | done | omega | assumption | grind [getD_set, getD_rep, toNat_succ, cntN_yes, cntN_no])
     refine all_i fun n9 => ?_
     refine imp_i fun h24 => ?_
     refine imp_i fun h25 => ?_
     refine imp_i fun h26 => ?_
     try simp only [Int.toNat_natCast, List.length_set, List.length_replicate, List.length_take, List.length_drop, List.length_append, List.length_cons, List.length_nil, Nat.min_self, List.take_take, lenCols_i, lenCols_b, List.drop_zero, List.take_length, Nat.add_eq, Nat.mul_eq, Nat.sub_eq, Nat.zero_add, Nat.sub_zero, Nat.mul_one] at h26
     have k := sg_sgn (w := rnd (n4 * 18446744073709551616 + n5) n6) xor_dec h26 (fun g => by rcases h23 with h | h; exact h.2.2; rw [g] at h; cases h.1) (fun g => by rcases h23 with h | h; rw [g] at h; cases h.1; exact h.2.1)
     rw [h17, h12, h20] at k
     refine req_i ?_ ?_
     · -- r25
      first | omega | assumption | grind
     refine req_i ?_ ?_
     · -- r26
      first | omega | assumption | grind
     refine req_i ?_ ?_
     · -- r27
      exact .inr (.inr ⟨by omega, by omega, by omega, rfl, k⟩)
     rfl
theorem ext_DivR : ∀ p ∈ ([(62, Ext.ctr (ctOf sigMul)), (60, Ext.ctr (ctOf sigSize)), (63, Ext.ctr (ctOf sigDvd)), (61, Ext.ctr (ctOf sigSgn))] : List (Nat × Ext)), ExtRow Try.prog p.1 p.2 := by
  intro p hp
  simp only [List.mem_cons, List.not_mem_nil, or_false] at hp
  rcases hp with rfl | rfl | rfl | rfl
  · trivial
  · trivial
  · trivial
  · trivial
theorem cts_DivR : CtsOk Try.prog [(62, Ext.ctr (ctOf sigMul)), (60, Ext.ctr (ctOf sigSize)), (63, Ext.ctr (ctOf sigDvd)), (61, Ext.ctr (ctOf sigSgn))] := ctsOk_of (cs := [(62, sigMul), (60, sigSize), (63, sigDvd), (61, sigSgn)])
  (fun p hp => by
    simp only [List.mem_cons, List.not_mem_nil, or_false] at hp
    rcases hp with rfl | rfl | rfl | rfl
    · exact fn_mul64
    · exact fn_sizeR
    · exact fn_dvd
    · exact fn_sgn
)
  (fun f c h => by
    simp only [List.lookup_cons] at h
    repeat' split at h
    all_goals first | (cases h; done) | (rename_i e; have e := beq_iff_eq.1 e; subst e; cases h; refine ⟨_, ?_, rfl⟩; simp))
theorem fn_DivR : FnOk Try.prog 32 sigDivF [] := fn_sound (by kernel_rfl) ext_DivR cts_DivR names vt_DivR
end Go.Proofs.Ytcddopooofdgcaa

namespace Go.Proofs.Ytcddopooofdgcaa
open Go.Ev Go.Sp
set_option maxRecDepth 100000
theorem vc_Ratio : vcFn Try.prog [(51, Ext.ctr (ctOf sigTimes)), (46, Ext.ctr (ctOf sigSize)), (53, Ext.ctr (ctOf sigOver)), (44, Ext.ctr (ctOf sigSat))] noA [] 100 19 sigRatF = (allB fun n0 : Int => 
impB ((-9223372036854775808 : Int) ≤ n0) (
impB (n0 ≤ (9223372036854775807 : Int)) (
allB fun n1 : Int => 
impB ((-9223372036854775808 : Int) ≤ n1) (
impB (n1 ≤ (9223372036854775807 : Int)) (
allB fun n2 : Int => 
impB ((-9223372036854775808 : Int) ≤ n2) (
impB (n2 ≤ (9223372036854775807 : Int)) (
impB (sigRatF.pre [DV.n n0, DV.n n1, DV.n n2]) (
bR (dec (n2 = (0 : Int))) (
 reqB (sigRatF.post [DV.n n0, DV.n n1, DV.n n2] [DV.n (0 : Int), DV.n (6 : Int)]) (
 true)) (
 reqB ((-9223372036854775808 : Int) ≤ n0) (
 reqB (n0 ≤ (9223372036854775807 : Int)) (
 reqB ((-9223372036854775808 : Int) ≤ n1) (
 reqB (n1 ≤ (9223372036854775807 : Int)) (
 reqB (sigTimes.pre [DV.n n0, DV.n n1]) (
 allB fun n3 : Int => 
 impB ((0 : Int) ≤ n3) (
 impB (n3 ≤ (18446744073709551615 : Int)) (
 allB fun n4 : Int => 
 impB ((0 : Int) ≤ n4) (
 impB (n4 ≤ (18446744073709551615 : Int)) (
 impB (sigTimes.post [DV.n n0, DV.n n1] [DV.n n3, DV.n n4]) (
 reqB ((-9223372036854775808 : Int) ≤ n2) (
 reqB (n2 ≤ (9223372036854775807 : Int)) (
 reqB (sigSize.pre [DV.n n2]) (
 allB fun n5 : Int => 
 impB ((0 : Int) ≤ n5) (
 impB (n5 ≤ (9223372036854775808 : Int)) (
 impB (sigSize.post [DV.n n2] [DV.n n5]) (
 reqB ((0 : Int) ≤ n3) (
 reqB (n3 ≤ (18446744073709551615 : Int)) (
 reqB ((0 : Int) ≤ n4) (
 reqB (n4 ≤ (18446744073709551615 : Int)) (
 reqB ((0 : Int) ≤ n5) (
 reqB (n5 ≤ (9223372036854775808 : Int)) (
 reqB (sigOver.pre [DV.n n3, DV.n n4, DV.n n5]) (
 allB fun n6 : Int => 
 impB ((0 : Int) ≤ n6) (
 impB (n6 ≤ (18446744073709551615 : Int)) (
 allB fun n7 : Int => 
 impB ((0 : Int) ≤ n7) (
 impB (n7 ≤ (18446744073709551615 : Int)) (
 impB (sigOver.post [DV.n n3, DV.n n4, DV.n n5] [DV.n n6, DV.n n7]) (
 reqB ((0 : Int) ≤ n6) (
 reqB (n6 ≤ (18446744073709551615 : Int)) (
 reqB ((0 : Int) ≤ n7) (
 reqB (n7 ≤ (18446744073709551615 : Int)) (
 reqB (sigSat.pre
 [DV.b
 !beqB (!beqB (dec (n0 < (0 : Int))) (dec (n1 < (0 : Int)))) (dec (n2 < (0 : Int))),
 DV.n n6, DV.n n7]) (
 allB fun n8 : Int => 
 impB ((-9223372036854775808 : Int) ≤ n8) (
 impB (n8 ≤ (9223372036854775807 : Int)) (
 impB (sigSat.post
 [DV.b
 !beqB (!beqB (dec (n0 < (0 : Int))) (dec (n1 < (0 : Int)))) (dec (n2 < (0 : Int))),
 DV.n n6, DV.n n7]
 [DV.n n8]) (
 reqB ((-9223372036854775808 : Int) ≤ n8) (
 reqB (n8 ≤ (9223372036854775807 : Int)) (
 reqB (sigRatF.post [DV.n n0, DV.n n1, DV.n n2] [DV.n n8, DV.n (0 : Int)]) (
 true)))))))))))))))))))))))))))))))))))))))))))))))) := by kernel_rfl
set_option maxHeartbeats 8000000 in
theorem vt_Ratio : vcFn Try.prog [(51, Ext.ctr (ctOf sigTimes)), (46, Ext.ctr (ctOf sigSize)), (53, Ext.ctr (ctOf sigOver)), (44, Ext.ctr (ctOf sigSat))] noA [] 100 19 sigRatF = true := by
  rw [vc_Ratio]
  try simp only [Int.toNat_natCast, List.length_set, List.length_replicate, List.length_take, List.length_drop, List.length_append, List.length_cons, List.length_nil, Nat.min_self, List.take_take, lenCols_i, lenCols_b, List.drop_zero, List.take_length, Nat.add_eq, Nat.mul_eq, Nat.sub_eq, Nat.zero_add, Nat.sub_zero, Nat.mul_one]
  refine all_i fun n0 => ?_
  refine imp_i fun h0 => ?_
  refine imp_i fun h1 => ?_
  refine all_i fun n1 => ?_
  refine imp_i fun h2 => ?_
  refine imp_i fun h3 => ?_
  refine all_i fun n2 => ?_
  refine imp_i fun h4 => ?_
  refine imp_i fun h5 => ?_
  refine imp_i fun h6 => ?_
  try simp only [sigRatF, ratPost, List.cons.injEq, DV.b.injEq, and_true, List.length_cons, List.length_nil] at h6
  refine bR_dec (fun h7 => ?_) (fun h7 => ?_)
  ·
   refine req_i ?_ ?_
   · -- r0
    exact .inl ⟨by omega, rfl, rfl⟩
   rfl
  ·
   refine req_i ?_ ?_
   · -- r1
    first | omega | assumption | grind
   refine req_i ?_ ?_
   · -- r2
    first | omega | assumption | grind
   refine req_i ?_ ?_
   · -- r3
    first | omega | assumption | grind
   refine req_i ?_ ?_
   · -- r4
    first | omega | assumption | grind
   refine req_i ?_ ?_
   · -- r5
    first | trivial | assumption | (simp only [sigTimes, timesPost, List.cons.injEq, DV.b.injEq, and_true, List.length_cons, List.length_nil]; done) | ((try simp only [sigTimes, timesPost, List.cons.injEq, DV.b.injEq, and_true, List.length_cons, List.length_nil]); first | omega | assumption | grind)
   refine all_i fun n3 => ?_
   refine imp_i fun h8 => ?_
   refine imp_i fun h9 => ?_
   refine all_i fun n4 => ?_
   refine imp_i fun h10 => ?_
   refine imp_i fun h11 => ?_
   refine imp_i fun h12 => ?_
   try simp only [sigTimes, timesPost, List.cons.injEq, DV.b.injEq, and_true, List.length_cons, List.length_nil] at h12
   refine req_i ?_ ?_
   · -- r6
    first | omega | assumption | grind
   refine req_i ?_ ?_
   · -- r7
    first | omega | assumption | grind
   refine req_i ?_ ?_
   · -- r8
    first | trivial | assumption | (simp only [sigSize, sizePost, List.cons.injEq, DV.b.injEq, and_true, List.length_cons, List.length_nil]; done) | ((try simp only [sigSize, sizePost, List.cons.injEq, DV.b.injEq, and_true, List.length_cons, List.length_nil]); first | omega | assumption | grind)
   refine all_i fun n5 => ?_
   refine imp_i fun h13 => ?_
   refine imp_i fun h14 => ?_
   refine imp_i fun h15 => ?_
   try simp only [sigSize, sizePost, List.cons.injEq, DV.b.injEq, and_true, List.length_cons, List.length_nil] at h15
   have ah15 := abs_bd n2 (by omega) (by omega)
   refine req_i ?_ ?_
   · -- r9
    first | omega | assumption | grind
   refine req_i ?_ ?_
   · -- r10
    first | omega | assumption | grind
   refine req_i ?_ ?_
   · -- r11
    first | omega | assumption | grind
   refine req_i ?_ ?_
   · -- r12
    first | omega | assumption | grind
   refine req_i ?_ ?_
   · -- r13
    first | omega | assumption | grind
   refine req_i ?_ ?_
   · -- r14
    first | omega | assumption | grind
   refine req_i ?_ ?_
   · -- r15
    first | trivial | assumption | (simp only [sigOver, overPre, overPost, List.cons.injEq, DV.b.injEq, and_true, List.length_cons, List.length_nil]; done) | ((try simp only [sigOver, overPre, overPost, List.cons.injEq, DV.b.injEq, and_true, List.length_cons, List.length_nil]); first | omega | assumption | grind)
   refine all_i fun n6 => ?_
   refine imp_i fun h16 => ?_
   refine imp_i fun h17 => ?_
   refine all_i fun n7 => ?_
   refine imp_i fun h18 => ?_
   refine imp_i fun h19 => ?_
   refine imp_i fun h20 => ?_
   try simp only [sigOver, overPre, overPost, List.cons.injEq, DV.b.injEq, and_true, List.length_cons, List.length_nil] at h20
   refine req_i ?_ ?_
   · -- r16
    first | omega | assumption | grind
   refine req_i ?_ ?_
   · -- r17
    first | omega | assumption | grind
   refine req_i ?_ ?_
   · -- r18
    first | omega | assumption | grind
   refine req_i ?_ ?_
   · -- r19
    first | omega | assumption | grind
   refine req_i ?_ ?_
   · -- r20
    first | omega | ((try simp only [sigSat, satPost, sat, List.cons.injEq, DV.b.injEq, and_true, List.length_cons, List.length_nil, dec_iff]); first | done | omega | assumption | grind [getD_set, getD_rep, toNat_succ, cntN_yes, cntN_no])
   refine all_i fun n8 => ?_
   refine imp_i fun h21 => ?_
   refine imp_i fun h22 => ?_
   refine imp_i fun h23 => ?_
   try simp only [Int.toNat_natCast, List.length_set, List.length_replicate, List.length_take, List.length_drop, List.length_append, List.length_cons, List.length_nil, Nat.min_self, List.take_take, lenCols_i, lenCols_b, List.drop_zero, List.take_length, Nat.add_eq, Nat.mul_eq, Nat.sub_eq, Nat.zero_add, Nat.sub_zero, Nat.mul_one] at h23
   have k := sg_sat xor_dec3 h23
   rw [h20, h12, h15] at k
   refine req_i ?_ ?_
   · -- r21
    first | omega | assumption | grind
   refine req_i ?_ ?_
   · -- r22
    first | omega | assumption | grind
   refine req_i ?_ ?_
   · -- r23
    exact .inr ⟨by omega, rfl, k⟩
   rfl
theorem ext_Ratio : ∀ p ∈ ([(51, Ext.ctr (ctOf sigTimes)), (46, Ext.ctr (ctOf sigSize)), (53, Ext.ctr (ctOf sigOver)), (44, Ext.ctr (ctOf sigSat))] : List (Nat × Ext)), ExtRow Try.prog p.1 p.2 := by
  intro p hp
  simp only [List.mem_cons, List.not_mem_nil, or_false] at hp
  rcases hp with rfl | rfl | rfl | rfl
  · trivial
  · trivial
  · trivial
  · trivial
theorem cts_Ratio : CtsOk Try.prog [(51, Ext.ctr (ctOf sigTimes)), (46, Ext.ctr (ctOf sigSize)), (53, Ext.ctr (ctOf sigOver)), (44, Ext.ctr (ctOf sigSat))] := ctsOk_of (cs := [(51, sigTimes), (46, sigSize), (53, sigOver), (44, sigSat)])
  (fun p hp => by
    simp only [List.mem_cons, List.not_mem_nil, or_false] at hp
    rcases hp with rfl | rfl | rfl | rfl
    · exact fn_times
    · exact fn_size
    · exact fn_over
    · exact fn_sat
)
  (fun f c h => by
    simp only [List.lookup_cons] at h
    repeat' split at h
    all_goals first | (cases h; done) | (rename_i e; have e := beq_iff_eq.1 e; subst e; cases h; refine ⟨_, ?_, rfl⟩; simp))
theorem fn_Ratio : FnOk Try.prog 19 sigRatF [] := fn_sound (by kernel_rfl) ext_Ratio cts_Ratio names vt_Ratio
end Go.Proofs.Ytcddopooofdgcaa

namespace Go.Proofs.Ytcddopooofdgcaa
open Go.Ev Go.Sp
set_option maxRecDepth 100000
theorem vc_RatioR : vcFn Try.prog [(62, Ext.ctr (ctOf sigMul)), (60, Ext.ctr (ctOf sigSize)), (63, Ext.ctr (ctOf sigDvd)), (61, Ext.ctr (ctOf sigSgn))] noA [] 100 33 sigRatF = (allB fun n0 : Int => 
impB ((-9223372036854775808 : Int) ≤ n0) (
impB (n0 ≤ (9223372036854775807 : Int)) (
allB fun n1 : Int => 
impB ((-9223372036854775808 : Int) ≤ n1) (
impB (n1 ≤ (9223372036854775807 : Int)) (
allB fun n2 : Int => 
impB ((-9223372036854775808 : Int) ≤ n2) (
impB (n2 ≤ (9223372036854775807 : Int)) (
impB (sigRatF.pre [DV.n n0, DV.n n1, DV.n n2]) (
bR (dec (n2 = (0 : Int))) (
 reqB (sigRatF.post [DV.n n0, DV.n n1, DV.n n2] [DV.n (0 : Int), DV.n (6 : Int)]) (
 true)) (
 reqB ((-9223372036854775808 : Int) ≤ n0) (
 reqB (n0 ≤ (9223372036854775807 : Int)) (
 reqB (sigSize.pre [DV.n n0]) (
 allB fun n3 : Int => 
 impB ((0 : Int) ≤ n3) (
 impB (n3 ≤ (9223372036854775808 : Int)) (
 impB (sigSize.post [DV.n n0] [DV.n n3]) (
 reqB ((-9223372036854775808 : Int) ≤ n1) (
 reqB (n1 ≤ (9223372036854775807 : Int)) (
 reqB (sigSize.pre [DV.n n1]) (
 allB fun n4 : Int => 
 impB ((0 : Int) ≤ n4) (
 impB (n4 ≤ (9223372036854775808 : Int)) (
 impB (sigSize.post [DV.n n1] [DV.n n4]) (
 reqB ((0 : Int) ≤ n3) (
 reqB (n3 ≤ (18446744073709551615 : Int)) (
 reqB ((0 : Int) ≤ n4) (
 reqB (n4 ≤ (18446744073709551615 : Int)) (
 reqB (sigMul.pre [DV.n n3, DV.n n4]) (
 allB fun n5 : Int => 
 impB ((0 : Int) ≤ n5) (
 impB (n5 ≤ (18446744073709551615 : Int)) (
 allB fun n6 : Int => 
 impB ((0 : Int) ≤ n6) (
 impB (n6 ≤ (18446744073709551615 : Int)) (
 impB (sigMul.post [DV.n n3, DV.n n4] [DV.n n5, DV.n n6]) (
 reqB ((-9223372036854775808 : Int) ≤ n2) (
 reqB (n2 ≤ (9223372036854775807 : Int)) (
 reqB (sigSize.pre [DV.n n2]) (
 allB fun n7 : Int => 
 impB ((0 : Int) ≤ n7) (
 impB (n7 ≤ (9223372036854775808 : Int)) (
 impB (sigSize.post [DV.n n2] [DV.n n7]) (
 reqB ((0 : Int) ≤ n5) (
 reqB (n5 ≤ (18446744073709551615 : Int)) (
 reqB ((0 : Int) ≤ n6) (
 reqB (n6 ≤ (18446744073709551615 : Int)) (
 reqB ((0 : Int) ≤ n7) (
 reqB (n7 ≤ (9223372036854775808 : Int)) (
 reqB (sigDvd.pre [DV.n n5, DV.n n6, DV.n n7]) (
 allB fun n8 : Int => 
 impB ((0 : Int) ≤ n8) (
 impB (n8 ≤ (18446744073709551615 : Int)) (
 allB fun b9 : Bool => 
 impB (sigDvd.post [DV.n n5, DV.n n6, DV.n n7] [DV.n n8, DV.b b9]) (
 reqB ((0 : Int) ≤ n8) (
 reqB (n8 ≤ (18446744073709551615 : Int)) (
 reqB (sigSgn.pre
 [DV.n n8, DV.b b9,
 DV.b
 !beqB (!beqB (dec (n0 < (0 : Int))) (dec (n1 < (0 : Int)))) (dec (n2 < (0 : Int)))]) (
 allB fun n10 : Int => 
 impB ((-9223372036854775808 : Int) ≤ n10) (
 impB (n10 ≤ (9223372036854775807 : Int)) (
 impB (sigSgn.post
 [DV.n n8, DV.b b9,
 DV.b
 !beqB (!beqB (dec (n0 < (0 : Int))) (dec (n1 < (0 : Int)))) (dec (n2 < (0 : Int)))]
 [DV.n n10]) (
 reqB ((-9223372036854775808 : Int) ≤ n10) (
 reqB (n10 ≤ (9223372036854775807 : Int)) (
 reqB (sigRatF.post [DV.n n0, DV.n n1, DV.n n2] [DV.n n10, DV.n (0 : Int)]) (
 true)))))))))))))))))))))))))))))))))))))))))))))))))))))))) := by kernel_rfl
set_option maxHeartbeats 8000000 in
theorem vt_RatioR : vcFn Try.prog [(62, Ext.ctr (ctOf sigMul)), (60, Ext.ctr (ctOf sigSize)), (63, Ext.ctr (ctOf sigDvd)), (61, Ext.ctr (ctOf sigSgn))] noA [] 100 33 sigRatF = true := by
  rw [vc_RatioR]
  try simp only [Int.toNat_natCast, List.length_set, List.length_replicate, List.length_take, List.length_drop, List.length_append, List.length_cons, List.length_nil, Nat.min_self, List.take_take, lenCols_i, lenCols_b, List.drop_zero, List.take_length, Nat.add_eq, Nat.mul_eq, Nat.sub_eq, Nat.zero_add, Nat.sub_zero, Nat.mul_one]
  refine all_i fun n0 => ?_
  refine imp_i fun h0 => ?_
  refine imp_i fun h1 => ?_
  refine all_i fun n1 => ?_
  refine imp_i fun h2 => ?_
  refine imp_i fun h3 => ?_
  refine all_i fun n2 => ?_
  refine imp_i fun h4 => ?_
  refine imp_i fun h5 => ?_
  refine imp_i fun h6 => ?_
  try simp only [sigRatF, ratPost, List.cons.injEq, DV.b.injEq, and_true, List.length_cons, List.length_nil] at h6
  refine bR_dec (fun h7 => ?_) (fun h7 => ?_)
  ·
   refine req_i ?_ ?_
   · -- r0
    exact .inl ⟨by omega, rfl, rfl⟩
   rfl
  ·
   refine req_i ?_ ?_
   · -- r1
    first | omega | assumption | grind
   refine req_i ?_ ?_
   · -- r2
    first | omega | assumption | grind
   refine req_i ?_ ?_
   · -- r3
    first | trivial | assumption | (simp only [sigSize, sizePost, List.cons.injEq, DV.b.injEq, and_true, List.length_cons, List.length_nil]; done) | ((try simp only [sigSize, sizePost, List.cons.injEq, DV.b.injEq, and_true, List.length_cons, List.length_nil]); first | omega | assumption | grind)
   refine all_i fun n3 => ?_
   refine imp_i fun h8 => ?_
   refine imp_i fun h9 => ?_
   refine imp_i fun h10 => ?_
   try simp only [sigSize, sizePost, List.cons.injEq, DV.b.injEq, and_true, List.length_cons, List.length_nil] at h10
   have ah10 := abs_bd n0 (by omega) (by omega)
   refine req_i ?_ ?_
   · -- r4
    first | omega | assumption | grind
   refine req_i ?_ ?_
   · -- r5
    first | omega | assumption | grind
   refine req_i ?_ ?_
   · -- r6
    first | trivial | assumption | (simp only [sigSize, sizePost, List.cons.injEq, DV.b.injEq, and_true, List.length_cons, List.length_nil]; done) | ((try simp only [sigSize, sizePost, List.cons.injEq, DV.b.injEq, and_true, List.length_cons, List.length_nil]); first | omega | assumption | grind)
   refine all_i fun n4 => ?_
   refine imp_i fun h11 => ?_
   refine imp_i fun h12 => ?_
   refine imp_i fun h13 => ?_
   try simp only [sigSize, sizePost, List.cons.injEq, DV.b.injEq, and_true, List.length_cons, List.length_nil] at h13
   have ah13 := abs_bd n1 (by omega) (by omega)
   refine req_i ?_ ?_
   · -- r7
    first | omega | assumption | grind
   refine req_i ?_ ?_
   · -- r8
    first | omega | assumption | grind
   refine req_i ?_ ?_
   · -- r9
    first | omega | assumption | grind
   refine req_i ?_ ?_
   · -- r10
    first | omega | assumption | grind
   refine req_i ?_ ?_
   · -- r11
    first | trivial | assumption | (simp only [sigMul, mulPost, List.cons.injEq, DV.b.injEq, and_true, List.length_cons, List.length_nil]; done) | ((try simp only [sigMul, mulPost, List.cons.injEq, DV.b.injEq, and_true, List.length_cons, List.length_nil]); first | omega | assumption | grind)
   refine all_i fun n5 => ?_
   refine imp_i fun h14 => ?_
   refine imp_i fun h15 => ?_
   refine all_i fun n6 => ?_
   refine imp_i fun h16 => ?_
   refine imp_i fun h17 => ?_
   refine imp_i fun h18 => ?_
   try simp only [sigMul, mulPost, List.cons.injEq, DV.b.injEq, and_true, List.length_cons, List.length_nil] at h18
   refine req_i ?_ ?_
   · -- r12
    first | omega | assumption | grind
   refine req_i ?_ ?_
   · -- r13
    first | omega | assumption | grind
   refine req_i ?_ ?_
   · -- r14
    first | trivial | assumption | (simp only [sigSize, sizePost, List.cons.injEq, DV.b.injEq, and_true, List.length_cons, List.length_nil]; done) | ((try simp only [sigSize, sizePost, List.cons.injEq, DV.b.injEq, and_true, List.length_cons, List.length_nil]); first | omega | assumption | grind)
   refine all_i fun n7 => ?_
   refine imp_i fun h19 => ?_
   refine imp_i fun h20 => ?_
   refine imp_i fun h21 => ?_
   try simp only [sigSize, sizePost, List.cons.injEq, DV.b.injEq, and_true, List.length_cons, List.length_nil] at h21
   have ah21 := abs_bd n2 (by omega) (by omega)
   refine req_i ?_ ?_
   · -- r15
    first | omega | assumption | grind
   refine req_i ?_ ?_
   · -- r16
    first | omega | assumption | grind
   refine req_i ?_ ?_
   · -- r17
    first | omega | assumption | grind
   refine req_i ?_ ?_
   · -- r18
    first | omega | assumption | grind
   refine req_i ?_ ?_
   · -- r19
    first | omega | assumption | grind
   refine req_i ?_ ?_
   · -- r20
    first | omega | assumption | grind
   refine req_i ?_ ?_
   · -- r21
    first | trivial | assumption | (simp only [sigDvd, overPre, dvdPost, List.cons.injEq, DV.b.injEq, and_true, List.length_cons, List.length_nil]; done) | ((try simp only [sigDvd, overPre, dvdPost, List.cons.injEq, DV.b.injEq, and_true, List.length_cons, List.length_nil]); first | omega | assumption | grind)
   refine all_i fun n8 => ?_
   refine imp_i fun h22 => ?_
   refine imp_i fun h23 => ?_
   refine all_i fun b9 => ?_
   refine imp_i fun h24 => ?_
   try simp only [Int.toNat_natCast, List.length_set, List.length_replicate, List.length_take, List.length_drop, List.length_append, List.length_cons, List.length_nil, Nat.min_self, List.take_take, lenCols_i, lenCols_b, List.drop_zero, List.take_length, Nat.add_eq, Nat.mul_eq, Nat.sub_eq, Nat.zero_add, Nat.sub_zero, Nat.mul_one] at h24
   refine req_i ?_ ?_
   · -- r22
    first | omega | assumption | grind
   refine req_i ?_ ?_
   · -- r23
    first | omega | assumption | grind
   refine req_i ?_ ?_
   · -- r24
    first | omega | ((try simp only [sigSgn, sgnPost, sat, List.cons.injEq, DV.b.injEq, and_true, List.length_cons, List.length_nil, dec_iff]); first | done | omega | assumption | grind [getD_set, getD_rep, toNat_succ, cntN_yes, cntN_no])
   refine all_i fun n10 => ?_
   refine imp_i fun h25 => ?_
   refine imp_i fun h26 => ?_
   refine imp_i fun h27 => ?_
   try simp only [Int.toNat_natCast, List.length_set, List.length_replicate, List.length_take, List.length_drop, List.length_append, List.length_cons, List.length_nil, Nat.min_self, List.take_take, lenCols_i, lenCols_b, List.drop_zero, List.take_length, Nat.add_eq, Nat.mul_eq, Nat.sub_eq, Nat.zero_add, Nat.sub_zero, Nat.mul_one] at h27
   have k := sg_sgn (w := rnd (n5 * 18446744073709551616 + n6) n7) xor_dec3 h27 (fun g => by rcases h24 with h | h; exact h.2.2; rw [g] at h; cases h.1) (fun g => by rcases h24 with h | h; rw [g] at h; cases h.1; exact h.2.1)
   rw [h18, h10, h13, h21] at k
   refine req_i ?_ ?_
   · -- r25
    first | omega | assumption | grind
   refine req_i ?_ ?_
   · -- r26
    first | omega | assumption | grind
   refine req_i ?_ ?_
   · -- r27
    exact .inr ⟨by omega, rfl, k⟩
   rfl
theorem ext_RatioR : ∀ p ∈ ([(62, Ext.ctr (ctOf sigMul)), (60, Ext.ctr (ctOf sigSize)), (63, Ext.ctr (ctOf sigDvd)), (61, Ext.ctr (ctOf sigSgn))] : List (Nat × Ext)), ExtRow Try.prog p.1 p.2 := by
  intro p hp
  simp only [List.mem_cons, List.not_mem_nil, or_false] at hp
  rcases hp with rfl | rfl | rfl | rfl
  · trivial
  · trivial
  · trivial
  · trivial
theorem cts_RatioR : CtsOk Try.prog [(62, Ext.ctr (ctOf sigMul)), (60, Ext.ctr (ctOf sigSize)), (63, Ext.ctr (ctOf sigDvd)), (61, Ext.ctr (ctOf sigSgn))] := ctsOk_of (cs := [(62, sigMul), (60, sigSize), (63, sigDvd), (61, sigSgn)])
  (fun p hp => by
    simp only [List.mem_cons, List.not_mem_nil, or_false] at hp
    rcases hp with rfl | rfl | rfl | rfl
    · exact fn_mul64
    · exact fn_sizeR
    · exact fn_dvd
    · exact fn_sgn
)
  (fun f c h => by
    simp only [List.lookup_cons] at h
    repeat' split at h
    all_goals first | (cases h; done) | (rename_i e; have e := beq_iff_eq.1 e; subst e; cases h; refine ⟨_, ?_, rfl⟩; simp))
theorem fn_RatioR : FnOk Try.prog 33 sigRatF [] := fn_sound (by kernel_rfl) ext_RatioR cts_RatioR names vt_RatioR
end Go.Proofs.Ytcddopooofdgcaa

namespace Go.Proofs.Ytcddopooofdgcaa
open Go.Ev Go.Sp
set_option maxRecDepth 100000
theorem vc_FixedProducts : vcFn Try.prog [(10, Ext.ctr (ctOf sigTrue0)), (15, Ext.ctr (ctOf sigMulF)), (31, Ext.ctr (ctOf sigMulF)), (18, Ext.ctr (ctOf sigDivF)), (32, Ext.ctr (ctOf sigDivF)), (19, Ext.ctr (ctOf sigRatF)), (33, Ext.ctr (ctOf sigRatF))] tab [] 100 5 sigL4 = (allB fun n0 : Int => 
impB ((-9223372036854775808 : Int) ≤ n0) (
impB (n0 ≤ (9223372036854775807 : Int)) (
allB fun n1 : Int => 
impB ((-9223372036854775808 : Int) ≤ n1) (
impB (n1 ≤ (9223372036854775807 : Int)) (
allB fun n2 : Int => 
impB ((-9223372036854775808 : Int) ≤ n2) (
impB (n2 ≤ (9223372036854775807 : Int)) (
allB fun n3 : Int => 
impB ((-9223372036854775808 : Int) ≤ n3) (
impB (n3 ≤ (9223372036854775807 : Int)) (
impB (sigL4.pre [DV.n n0, DV.n n1, DV.n n2, DV.n n3]) (
reqB ((-9223372036854775808 : Int) ≤ n0) (
reqB (n0 ≤ (9223372036854775807 : Int)) (
reqB ((-9223372036854775808 : Int) ≤ n1) (
reqB (n1 ≤ (9223372036854775807 : Int)) (
reqB ((-9223372036854775808 : Int) ≤ n2) (
reqB (n2 ≤ (9223372036854775807 : Int)) (
reqB (sigMulF.pre [DV.n n0, DV.n n1, DV.n n2]) (
allB fun n4 : Int => 
impB ((-9223372036854775808 : Int) ≤ n4) (
impB (n4 ≤ (9223372036854775807 : Int)) (
allB fun n5 : Int => 
impB ((0 : Int) ≤ n5) (
impB (n5 ≤ (18 : Int)) (
impB (sigMulF.post [DV.n n0, DV.n n1, DV.n n2] [DV.n n4, DV.n n5]) (
reqB ((-9223372036854775808 : Int) ≤ n0) (
reqB (n0 ≤ (9223372036854775807 : Int)) (
reqB ((-9223372036854775808 : Int) ≤ n1) (
reqB (n1 ≤ (9223372036854775807 : Int)) (
reqB ((-9223372036854775808 : Int) ≤ n2) (
reqB (n2 ≤ (9223372036854775807 : Int)) (
reqB (sigMulF.pre [DV.n n0, DV.n n1, DV.n n2]) (
allB fun n6 : Int => 
impB ((-9223372036854775808 : Int) ≤ n6) (
impB (n6 ≤ (9223372036854775807 : Int)) (
allB fun n7 : Int => 
impB ((0 : Int) ≤ n7) (
impB (n7 ≤ (18 : Int)) (
impB (sigMulF.post [DV.n n0, DV.n n1, DV.n n2] [DV.n n6, DV.n n7]) (
reqB ((-9223372036854775808 : Int) ≤ n0) (
reqB (n0 ≤ (9223372036854775807 : Int)) (
reqB ((-9223372036854775808 : Int) ≤ n1) (
reqB (n1 ≤ (9223372036854775807 : Int)) (
reqB ((-9223372036854775808 : Int) ≤ n2) (
reqB (n2 ≤ (9223372036854775807 : Int)) (
reqB (sigDivF.pre [DV.n n0, DV.n n1, DV.n n2]) (
allB fun n8 : Int => 
impB ((-9223372036854775808 : Int) ≤ n8) (
impB (n8 ≤ (9223372036854775807 : Int)) (
allB fun n9 : Int => 
impB ((0 : Int) ≤ n9) (
impB (n9 ≤ (18 : Int)) (
impB (sigDivF.post [DV.n n0, DV.n n1, DV.n n2] [DV.n n8, DV.n n9]) (
reqB ((-9223372036854775808 : Int) ≤ n0) (
reqB (n0 ≤ (9223372036854775807 : Int)) (
reqB ((-9223372036854775808 : Int) ≤ n1) (
reqB (n1 ≤ (9223372036854775807 : Int)) (
reqB ((-9223372036854775808 : Int) ≤ n2) (
reqB (n2 ≤ (9223372036854775807 : Int)) (
reqB (sigDivF.pre [DV.n n0, DV.n n1, DV.n n2]) (
allB fun n10 : Int => 
impB ((-9223372036854775808 : Int) ≤ n10) (
impB (n10 ≤ (9223372036854775807 : Int)) (
allB fun n11 : Int => 
impB ((0 : Int) ≤ n11) (
impB (n11 ≤ (18 : Int)) (
impB (sigDivF.post [DV.n n0, DV.n n1, DV.n n2] [DV.n n10, DV.n n11]) (
reqB ((-9223372036854775808 : Int) ≤ n0) (
reqB (n0 ≤ (9223372036854775807 : Int)) (
reqB ((-9223372036854775808 : Int) ≤ n1) (
reqB (n1 ≤ (9223372036854775807 : Int)) (
reqB ((-9223372036854775808 : Int) ≤ n3) (
reqB (n3 ≤ (9223372036854775807 : Int)) (
reqB (sigRatF.pre [DV.n n0, DV.n n1, DV.n n3]) (
allB fun n12 : Int => 
impB ((-9223372036854775808 : Int) ≤ n12) (
impB (n12 ≤ (9223372036854775807 : Int)) (
allB fun n13 : Int => 
impB ((0 : Int) ≤ n13) (
impB (n13 ≤ (18 : Int)) (
impB (sigRatF.post [DV.n n0, DV.n n1, DV.n n3] [DV.n n12, DV.n n13]) (
reqB ((-9223372036854775808 : Int) ≤ n0) (
reqB (n0 ≤ (9223372036854775807 : Int)) (
reqB ((-9223372036854775808 : Int) ≤ n1) (
reqB (n1 ≤ (9223372036854775807 : Int)) (
reqB ((-9223372036854775808 : Int) ≤ n3) (
reqB (n3 ≤ (9223372036854775807 : Int)) (
reqB (sigRatF.pre [DV.n n0, DV.n n1, DV.n n3]) (
allB fun n14 : Int => 
impB ((-9223372036854775808 : Int) ≤ n14) (
impB (n14 ≤ (9223372036854775807 : Int)) (
allB fun n15 : Int => 
impB ((0 : Int) ≤ n15) (
impB (n15 ≤ (18 : Int)) (
impB (sigRatF.post [DV.n n0, DV.n n1, DV.n n3] [DV.n n14, DV.n n15]) (
reqB (sigTrue0.pre []) (
allB fun b16 : Bool => 
impB (sigTrue0.post [] [DV.b b16]) (
bR (b16) (
 bR (dec (n4 = n6)) (
 bR (dec (n5 = n7)) (
 bR (dec (n8 = n10)) (
 bR (dec (n9 = n11)) (
 bR (dec (n12 = n14)) (
 reqB (sigL4.post [DV.n n0, DV.n n1, DV.n n2, DV.n n3] [DV.b (dec (n13 = n15))]) (
 true)) (
 reqB (sigL4.post [DV.n n0, DV.n n1, DV.n n2, DV.n n3] [DV.b Bool.false]) (
 true))) (
 reqB (sigL4.post [DV.n n0, DV.n n1, DV.n n2, DV.n n3] [DV.b Bool.false]) (
 true))) (
 reqB (sigL4.post [DV.n n0, DV.n n1, DV.n n2, DV.n n3] [DV.b Bool.false]) (
 true))) (
 reqB (sigL4.post [DV.n n0, DV.n n1, DV.n n2, DV.n n3] [DV.b Bool.false]) (
 true))) (
 reqB (sigL4.post [DV.n n0, DV.n n1, DV.n n2, DV.n n3] [DV.b Bool.false]) (
 true))) (
 reqB (sigL4.post [DV.n n0, DV.n n1, DV.n n2, DV.n n3] [DV.b Bool.false]) (
 true)))))))))))))))))))))))))))))))))))))))))))))))))))))))))))))))))))))))))))))))))))))) := by kernel_rfl
set_option maxHeartbeats 8000000 in
theorem vt_FixedProducts : vcFn Try.prog [(10, Ext.ctr (ctOf sigTrue0)), (15, Ext.ctr (ctOf sigMulF)), (31, Ext.ctr (ctOf sigMulF)), (18, Ext.ctr (ctOf sigDivF)), (32, Ext.ctr (ctOf sigDivF)), (19, Ext.ctr (ctOf sigRatF)), (33, Ext.ctr (ctOf sigRatF))] tab [] 100 5 sigL4 = true := by
  rw [vc_FixedProducts]
  try simp only [Int.toNat_natCast, List.length_set, List.length_replicate, List.length_take, List.length_drop, List.length_append, List.length_cons, List.length_nil, Nat.min_self, List.take_take, lenCols_i, lenCols_b, List.drop_zero, List.take_length, Nat.add_eq, Nat.mul_eq, Nat.sub_eq, Nat.zero_add, Nat.sub_zero, Nat.mul_one]
  refine all_i fun n0 => ?_
  refine imp_i fun h0 => ?_
  refine imp_i fun h1 => ?_
  refine all_i fun n1 => ?_
  refine imp_i fun h2 => ?_
  refine imp_i fun h3 => ?_
  refine all_i fun n2 => ?_
  refine imp_i fun h4 => ?_
  refine imp_i fun h5 => ?_
  refine all_i fun n3 => ?_
  refine imp_i fun h6 => ?_
  refine imp_i fun h7 => ?_
  refine imp_i fun h8 => ?_
  try simp only [sigL4, List.cons.injEq, DV.b.injEq, and_true, List.length_cons, List.length_nil] at h8
  refine req_i ?_ ?_
  · -- r0
   first | omega | assumption | grind
  refine req_i ?_ ?_
  · -- r1
   first | omega | assumption | grind
  refine req_i ?_ ?_
  · -- r2
   first | omega | assumption | grind
  refine req_i ?_ ?_
  · -- r3
   first | omega | assumption | grind
  refine req_i ?_ ?_
  · -- r4
   first | omega | assumption | grind
  refine req_i ?_ ?_
  · -- r5
   first | omega | assumption | grind
  refine req_i ?_ ?_
  · -- r6
   first | trivial | assumption | (simp only [sigMulF, mulFPost, List.cons.injEq, DV.b.injEq, and_true, List.length_cons, List.length_nil]; done) | ((try simp only [sigMulF, mulFPost, List.cons.injEq, DV.b.injEq, and_true, List.length_cons, List.length_nil]); first | omega | assumption | grind)
  refine all_i fun n4 => ?_
  refine imp_i fun h9 => ?_
  refine imp_i fun h10 => ?_
  refine all_i fun n5 => ?_
  refine imp_i fun h11 => ?_
  refine imp_i fun h12 => ?_
  refine imp_i fun h13 => ?_
  try simp only [Int.toNat_natCast, List.length_set, List.length_replicate, List.length_take, List.length_drop, List.length_append, List.length_cons, List.length_nil, Nat.min_self, List.take_take, lenCols_i, lenCols_b, List.drop_zero, List.take_length, Nat.add_eq, Nat.mul_eq, Nat.sub_eq, Nat.zero_add, Nat.sub_zero, Nat.mul_one] at h13
  refine req_i ?_ ?_
  · -- r7
   first | omega | assumption | grind
  refine req_i ?_ ?_
  · -- r8
   first | omega | assumption | grind
  refine req_i ?_ ?_
  · -- r9
   first | omega | assumption | grind
  refine req_i ?_ ?_
  · -- r10
   first | omega | assumption | grind
  refine req_i ?_ ?_
  · -- r11
   first | omega | assumption | grind
  refine req_i ?_ ?_
  · -- r12
   first | omega | assumption | grind
  refine req_i ?_ ?_
  · -- r13
   first | trivial | assumption | (simp only [sigMulF, mulFPost, List.cons.injEq, DV.b.injEq, and_true, List.length_cons, List.length_nil]; done) | ((try simp only [sigMulF, mulFPost, List.cons.injEq, DV.b.injEq, and_true, List.length_cons, List.length_nil]); first | omega | assumption | grind)
  refine all_i fun n6 => ?_
  refine imp_i fun h14 => ?_
  refine imp_i fun h15 => ?_
  refine all_i fun n7 => ?_
  refine imp_i fun h16 => ?_
  refine imp_i fun h17 => ?_
  refine imp_i fun h18 => ?_
  try simp only [Int.toNat_natCast, List.length_set, List.length_replicate, List.length_take, List.length_drop, List.length_append, List.length_cons, List.length_nil, Nat.min_self, List.take_take, lenCols_i, lenCols_b, List.drop_zero, List.take_length, Nat.add_eq, Nat.mul_eq, Nat.sub_eq, Nat.zero_add, Nat.sub_zero, Nat.mul_one] at h18
  have s1 := mul_same h13 h18
  refine req_i ?_ ?_
  · -- r14
   first | omega | assumption | grind
  refine req_i ?_ ?_
  · -- r15
   first | omega | assumption | grind
  refine req_i ?_ ?_
  · -- r16
   first | omega | assumption | grind
  refine req_i ?_ ?_
  · -- r17
   first | omega | assumption | grind
  refine req_i ?_ ?_
  · -- r18
   first | omega | assumption | grind
  refine req_i ?_ ?_
  · -- r19
   first | omega | assumption | grind
  refine req_i ?_ ?_
  · -- r20
   first | trivial | assumption | (simp only [sigDivF, divFPost, List.cons.injEq, DV.b.injEq, and_true, List.length_cons, List.length_nil]; done) | ((try simp only [sigDivF, divFPost, List.cons.injEq, DV.b.injEq, and_true, List.length_cons, List.length_nil]); first | omega | assumption | grind)
  refine all_i fun n8 => ?_
  refine imp_i fun h19 => ?_
  refine imp_i fun h20 => ?_
  refine all_i fun n9 => ?_
  refine imp_i fun h21 => ?_
  refine imp_i fun h22 => ?_
  refine imp_i fun h23 => ?_
  try simp only [Int.toNat_natCast, List.length_set, List.length_replicate, List.length_take, List.length_drop, List.length_append, List.length_cons, List.length_nil, Nat.min_self, List.take_take, lenCols_i, lenCols_b, List.drop_zero, List.take_length, Nat.add_eq, Nat.mul_eq, Nat.sub_eq, Nat.zero_add, Nat.sub_zero, Nat.mul_one] at h23
  refine req_i ?_ ?_
  · -- r21
   first | omega | assumption | grind
  refine req_i ?_ ?_
  · -- r22
   first | omega | assumption | grind
  refine req_i ?_ ?_
  · -- r23
   first | omega | assumption | grind
  refine req_i ?_ ?_
  · -- r24
   first | omega | assumption | grind
  refine req_i ?_ ?_
  · -- r25
   first | omega | assumption | grind
  refine req_i ?_ ?_
  · -- r26
   first | omega | assumption | grind
  refine req_i ?_ ?_
  · -- r27
   first | trivial | assumption | (simp only [sigDivF, divFPost, List.cons.injEq, DV.b.injEq, and_true, List.length_cons, List.length_nil]; done) | ((try simp only [sigDivF, divFPost, List.cons.injEq, DV.b.injEq, and_true, List.length_cons, List.length_nil]); first | omega | assumption | grind)
  refine all_i fun n10 => ?_
  refine imp_i fun h24 => ?_
  refine imp_i fun h25 => ?_
  refine all_i fun n11 => ?_
  refine imp_i fun h26 => ?_
  refine imp_i fun h27 => ?_
  refine imp_i fun h28 => ?_
  try simp only [Int.toNat_natCast, List.length_set, List.length_replicate, List.length_take, List.length_drop, List.length_append, List.length_cons, List.length_nil, Nat.min_self, List.take_take, lenCols_i, lenCols_b, List.drop_zero, List.take_length, Nat.add_eq, Nat.mul_eq, Nat.sub_eq, Nat.zero_add, Nat.sub_zero, Nat.mul_one] at h28
  have s2 := div_same h23 h28
  refine req_i ?_ ?_
  · -- r28
   first | omega | assumption | grind
  refine req_i ?_ ?_
  · -- r29
   first | omega | assumption | grind
  refine req_i ?_ ?_
  · -- r30
   first | omega | assumption | grind
  refine req_i ?_ ?_
  · -- r31
   first | omega | assumption | grind
  refine req_i ?_ ?_
  · -- r32
   first | omega | assumption | grind
  refine req_i ?_ ?_
  · -- r33
   first | omega | assumption | grind
  refine req_i ?_ ?_
  · -- r34
   first | trivial | assumption | (simp only [sigRatF, ratPost, List.cons.injEq, DV.b.injEq, and_true, List.length_cons, List.length_nil]; done) | ((try simp only [sigRatF, ratPost, List.cons.injEq, DV.b.injEq, and_true, List.length_cons, List.length_nil]); first | omega | assumption | grind)
  refine all_i fun n12 => ?_
  refine imp_i fun h29 => ?_
  refine imp_i fun h30 => ?_
  refine all_i fun n13 => ?_
  refine imp_i fun h31 => ?_
  refine imp_i fun h32 => ?_
  refine imp_i fun h33 => ?_
  try simp only [Int.toNat_natCast, List.length_set, List.length_replicate, List.length_take, List.length_drop, List.length_append, List.length_cons, List.length_nil, Nat.min_self, List.take_take, lenCols_i, lenCols_b, List.drop_zero, List.take_length, Nat.add_eq, Nat.mul_eq, Nat.sub_eq, Nat.zero_add, Nat.sub_zero, Nat.mul_one] at h33
  refine req_i ?_ ?_
  · -- r35
   first | omega | assumption | grind
  refine req_i ?_ ?_
  · -- r36
   first | omega | assumption | grind
  refine req_i ?_ ?_
  · -- r37
   first | omega | assumption | grind
  refine req_i ?_ ?_
  · -- r38
   first | omega | assumption | grind
  refine req_i ?_ ?_
  · -- r39
   first | omega | assumption | grind
  refine req_i ?_ ?_
  · -- r40
   first | omega | assumption | grind
  refine req_i ?_ ?_
  · -- r41
   first | trivial | assumption | (simp only [sigRatF, ratPost, List.cons.injEq, DV.b.injEq, and_true, List.length_cons, List.length_nil]; done) | ((try simp only [sigRatF, ratPost, List.cons.injEq, DV.b.injEq, and_true, List.length_cons, List.length_nil]); first | omega | assumption | grind)
  refine all_i fun n14 => ?_
  refine imp_i fun h34 => ?_
  refine imp_i fun h35 => ?_
  refine all_i fun n15 => ?_
  refine imp_i fun h36 => ?_
  refine imp_i fun h37 => ?_
  refine imp_i fun h38 => ?_
  try simp only [Int.toNat_natCast, List.length_set, List.length_replicate, List.length_take, List.length_drop, List.length_append, List.length_cons, List.length_nil, Nat.min_self, List.take_take, lenCols_i, lenCols_b, List.drop_zero, List.take_length, Nat.add_eq, Nat.mul_eq, Nat.sub_eq, Nat.zero_add, Nat.sub_zero, Nat.mul_one] at h38
  have s3 := rat_same h33 h38
  refine req_i ?_ ?_
  · -- r42
   first | omega | assumption | grind
  refine all_i fun b16 => ?_
  refine imp_i fun h39 => ?_
  try simp only [sigTrue0, List.cons.injEq, DV.b.injEq, and_true, List.length_cons, List.length_nil] at h39
  refine bR_i (fun h40 => ?_) (fun h40 => ?_)
  ·
   refine bR_dec (fun h41 => ?_) (fun h41 => ?_)
   ·
    refine bR_dec (fun h42 => ?_) (fun h42 => ?_)
    ·
     refine bR_dec (fun h43 => ?_) (fun h43 => ?_)
     ·
      refine bR_dec (fun h44 => ?_) (fun h44 => ?_)
      ·
       refine bR_dec (fun h45 => ?_) (fun h45 => ?_)
       ·
        refine req_i ?_ ?_
        · -- r43
         simp only [sigL4]; rw [dec_iff.2 s3.2]
        rfl
       ·
        refine req_i ?_ ?_
        · -- r44
         exact absurd s3.1 h45
        rfl
      ·
       refine req_i ?_ ?_
       · -- r45
        exact absurd s2.2 h44
       rfl
     ·
      refine req_i ?_ ?_
      · -- r46
       exact absurd s2.1 h43
      rfl
    ·
     refine req_i ?_ ?_
     · -- r47
      exact absurd s1.2 h42
     rfl
   ·
    refine req_i ?_ ?_
    · -- r48
     exact absurd s1.1 h41
    rfl
  ·
   refine req_i ?_ ?_
   · -- r49
    first | omega | ((try simp only [sigL4, List.cons.injEq, DV.b.injEq, and_true, List.length_cons, List.length_nil]); first | done | omega | assumption | grind [getD_set, getD_rep, toNat_succ, cntN_yes, cntN_no])
   rfl
theorem ext_FixedProducts : ∀ p ∈ ([(10, Ext.ctr (ctOf sigTrue0)), (15, Ext.ctr (ctOf sigMulF)), (31, Ext.ctr (ctOf sigMulF)), (18, Ext.ctr (ctOf sigDivF)), (32, Ext.ctr (ctOf sigDivF)), (19, Ext.ctr (ctOf sigRatF)), (33, Ext.ctr (ctOf sigRatF))] : List (Nat × Ext)), ExtRow Try.prog p.1 p.2 := by
  intro p hp
  simp only [List.mem_cons, List.not_mem_nil, or_false] at hp
  rcases hp with rfl | rfl | rfl | rfl | rfl | rfl | rfl
  · trivial
  · trivial
  · trivial
  · trivial
  · trivial
  · trivial
  · trivial
theorem cts_FixedProducts : CtsOk Try.prog [(10, Ext.ctr (ctOf sigTrue0)), (15, Ext.ctr (ctOf sigMulF)), (31, Ext.ctr (ctOf sigMulF)), (18, Ext.ctr (ctOf sigDivF)), (32, Ext.ctr (ctOf sigDivF)), (19, Ext.ctr (ctOf sigRatF)), (33, Ext.ctr (ctOf sigRatF))] := ctsOk_of (cs := [(10, sigTrue0), (15, sigMulF), (31, sigMulF), (18, sigDivF), (32, sigDivF), (19, sigRatF), (33, sigRatF)])
  (fun p hp => by
    simp only [List.mem_cons, List.not_mem_nil, or_false] at hp
    rcases hp with rfl | rfl | rfl | rfl | rfl | rfl | rfl
    · exact fn_lives
    · exact fn_Mul
    · exact fn_MulR
    · exact fn_Div
    · exact fn_DivR
    · exact fn_Ratio
    · exact fn_RatioR
)
  (fun f c h => by
    simp only [List.lookup_cons] at h
    repeat' split at h
    all_goals first | (cases h; done) | (rename_i e; have e := beq_iff_eq.1 e; subst e; cases h; refine ⟨_, ?_, rfl⟩; simp))
theorem fn_FixedProducts : FnOk Try.prog 5 sigL4 [] := fn_sound (by kernel_rfl) ext_FixedProducts cts_FixedProducts names vt_FixedProducts
end Go.Proofs.Ytcddopooofdgcaa

