import Derived.Test.YtofeleohcpaclaaDoorSpec17e
import Derived.Test.YtofeleohcpaclaaDoorRows
import Derived.Test.YtofeleohcpaclaaDoorFaDiscrRates
namespace Go.Proofs.YtofeleohcpaclaaDoor
open Go.Ev Go.Sp
set_option maxRecDepth 100000
theorem vc_DiscrRates : vcFn Tryd.prog [(12, Ext.ctr (ctOfG gl11 sigTurnD)), (24, Ext.ctr (ctOfG gl11 sigTurnD)), (13, Ext.ctr (ctOfG gl11 sigRate)), (25, Ext.ctr (ctOfG gl11 sigRate)), (14, Ext.ctr (ctOfG gl11 sigHRate)), (26, Ext.ctr (ctOfG gl11 sigHRate)), (16, Ext.ctr (ctOfG gl11 sigTrue0))] noA gl11 100 5 sigRates = (allB fun n0 : Int => 
impB ((-9223372036854775808 : Int) ≤ n0) (
impB (n0 ≤ (9223372036854775807 : Int)) (
allB fun n1 : Int => 
impB ((-9223372036854775808 : Int) ≤ n1) (
impB (n1 ≤ (9223372036854775807 : Int)) (
allB fun n2 : Int => 
impB ((-9223372036854775808 : Int) ≤ n2) (
impB (n2 ≤ (9223372036854775807 : Int)) (
allB fun n3 : Int => 
impB ((-9223372036854775808 : Int) ≤ n3) (
impB (n3 ≤ (9223372036854775807 : Int)) (
impB (sigRates.pre [DV.n n0, DV.n n1, DV.n n2, DV.n n3]) (
reqB ((-9223372036854775808 : Int) ≤ n0) (
reqB (n0 ≤ (9223372036854775807 : Int)) (
reqB ((-9223372036854775808 : Int) ≤ n1) (
reqB (n1 ≤ (9223372036854775807 : Int)) (
reqB ((-9223372036854775808 : Int) ≤ n2) (
reqB (n2 ≤ (9223372036854775807 : Int)) (
reqB ((-9223372036854775808 : Int) ≤ n3) (
reqB (n3 ≤ (9223372036854775807 : Int)) (
reqB (sigTurnD.pre [DV.n n0, DV.n n1, DV.n n2, DV.n n3]) (
allB fun n4 : Int => 
impB ((-2199023255552 : Int) ≤ n4) (
impB (n4 ≤ (2199023255552 : Int)) (
allB fun n5 : Int => 
impB ((-2199023255552 : Int) ≤ n5) (
impB (n5 ≤ (2199023255552 : Int)) (
allB fun n6 : Int => 
impB ((0 : Int) ≤ n6) (
impB (n6 ≤ (18 : Int)) (
impB (sigTurnD.post [DV.n n0, DV.n n1, DV.n n2, DV.n n3]
 [DV.n n4, DV.n n5, DV.n n6]) (
reqB ((-9223372036854775808 : Int) ≤ n0) (
reqB (n0 ≤ (9223372036854775807 : Int)) (
reqB ((-9223372036854775808 : Int) ≤ n1) (
reqB (n1 ≤ (9223372036854775807 : Int)) (
reqB ((-9223372036854775808 : Int) ≤ n2) (
reqB (n2 ≤ (9223372036854775807 : Int)) (
reqB ((-9223372036854775808 : Int) ≤ n3) (
reqB (n3 ≤ (9223372036854775807 : Int)) (
reqB (sigTurnD.pre [DV.n n0, DV.n n1, DV.n n2, DV.n n3]) (
allB fun n7 : Int => 
impB ((-2199023255552 : Int) ≤ n7) (
impB (n7 ≤ (2199023255552 : Int)) (
allB fun n8 : Int => 
impB ((-2199023255552 : Int) ≤ n8) (
impB (n8 ≤ (2199023255552 : Int)) (
allB fun n9 : Int => 
impB ((0 : Int) ≤ n9) (
impB (n9 ≤ (18 : Int)) (
impB (sigTurnD.post [DV.n n0, DV.n n1, DV.n n2, DV.n n3]
 [DV.n n7, DV.n n8, DV.n n9]) (
reqB ((-9223372036854775808 : Int) ≤ n0) (
reqB (n0 ≤ (9223372036854775807 : Int)) (
reqB ((-9223372036854775808 : Int) ≤ n1) (
reqB (n1 ≤ (9223372036854775807 : Int)) (
reqB ((-9223372036854775808 : Int) ≤ n2) (
reqB (n2 ≤ (9223372036854775807 : Int)) (
reqB ((-9223372036854775808 : Int) ≤ n3) (
reqB (n3 ≤ (9223372036854775807 : Int)) (
reqB (sigRate.pre [DV.n n0, DV.n n1, DV.n n2, DV.n n3]) (
allB fun n10 : Int => 
impB ((-2048 : Int) ≤ n10) (
impB (n10 ≤ (2047 : Int)) (
allB fun n11 : Int => 
impB ((0 : Int) ≤ n11) (
impB (n11 ≤ (18 : Int)) (
impB (sigRate.post [DV.n n0, DV.n n1, DV.n n2, DV.n n3] [DV.n n10, DV.n n11]) (
reqB ((-9223372036854775808 : Int) ≤ n0) (
reqB (n0 ≤ (9223372036854775807 : Int)) (
reqB ((-9223372036854775808 : Int) ≤ n1) (
reqB (n1 ≤ (9223372036854775807 : Int)) (
reqB ((-9223372036854775808 : Int) ≤ n2) (
reqB (n2 ≤ (9223372036854775807 : Int)) (
reqB ((-9223372036854775808 : Int) ≤ n3) (
reqB (n3 ≤ (9223372036854775807 : Int)) (
reqB (sigRate.pre [DV.n n0, DV.n n1, DV.n n2, DV.n n3]) (
allB fun n12 : Int => 
impB ((-2048 : Int) ≤ n12) (
impB (n12 ≤ (2047 : Int)) (
allB fun n13 : Int => 
impB ((0 : Int) ≤ n13) (
impB (n13 ≤ (18 : Int)) (
impB (sigRate.post [DV.n n0, DV.n n1, DV.n n2, DV.n n3] [DV.n n12, DV.n n13]) (
reqB ((-9223372036854775808 : Int) ≤ n0) (
reqB (n0 ≤ (9223372036854775807 : Int)) (
reqB ((-9223372036854775808 : Int) ≤ n1) (
reqB (n1 ≤ (9223372036854775807 : Int)) (
reqB ((-9223372036854775808 : Int) ≤ n2) (
reqB (n2 ≤ (9223372036854775807 : Int)) (
reqB ((-9223372036854775808 : Int) ≤ n3) (
reqB (n3 ≤ (9223372036854775807 : Int)) (
reqB (sigHRate.pre [DV.n n0, DV.n n1, DV.n n2, DV.n n3]) (
allB fun n14 : Int => 
impB ((-1024 : Int) ≤ n14) (
impB (n14 ≤ (1023 : Int)) (
allB fun n15 : Int => 
impB ((0 : Int) ≤ n15) (
impB (n15 ≤ (18 : Int)) (
impB (sigHRate.post [DV.n n0, DV.n n1, DV.n n2, DV.n n3] [DV.n n14, DV.n n15]) (
reqB ((-9223372036854775808 : Int) ≤ n0) (
reqB (n0 ≤ (9223372036854775807 : Int)) (
reqB ((-9223372036854775808 : Int) ≤ n1) (
reqB (n1 ≤ (9223372036854775807 : Int)) (
reqB ((-9223372036854775808 : Int) ≤ n2) (
reqB (n2 ≤ (9223372036854775807 : Int)) (
reqB ((-9223372036854775808 : Int) ≤ n3) (
reqB (n3 ≤ (9223372036854775807 : Int)) (
reqB (sigHRate.pre [DV.n n0, DV.n n1, DV.n n2, DV.n n3]) (
allB fun n16 : Int => 
impB ((-1024 : Int) ≤ n16) (
impB (n16 ≤ (1023 : Int)) (
allB fun n17 : Int => 
impB ((0 : Int) ≤ n17) (
impB (n17 ≤ (18 : Int)) (
impB (sigHRate.post [DV.n n0, DV.n n1, DV.n n2, DV.n n3] [DV.n n16, DV.n n17]) (
bR (bR (dec (n4 = n7)) (
 bR (dec (n5 = n8)) (
 true) (
 false)) (
 false)) (
 bR (dec (n6 = n9)) (
 bR (dec (n10 = n12)) (
 bR (dec (n11 = n13)) (
 bR (dec (n14 = n16)) (
 bR (dec (n15 = n17)) (
 reqB (sigTrue0.pre []) (
 allB fun b18 : Bool => 
 impB (sigTrue0.post [] [DV.b b18]) (
 reqB (sigRates.post [DV.n n0, DV.n n1, DV.n n2, DV.n n3] [DV.b b18]) (
 true)))) (
 reqB (sigRates.post [DV.n n0, DV.n n1, DV.n n2, DV.n n3] [DV.b Bool.false]) (
 true))) (
 reqB (sigRates.post [DV.n n0, DV.n n1, DV.n n2, DV.n n3] [DV.b Bool.false]) (
 true))) (
 reqB (sigRates.post [DV.n n0, DV.n n1, DV.n n2, DV.n n3] [DV.b Bool.false]) (
 true))) (
 reqB (sigRates.post [DV.n n0, DV.n n1, DV.n n2, DV.n n3] [DV.b Bool.false]) (
 true))) (
 reqB (sigRates.post [DV.n n0, DV.n n1, DV.n n2, DV.n n3] [DV.b Bool.false]) (
 true))) (
 reqB (sigRates.post [DV.n n0, DV.n n1, DV.n n2, DV.n n3] [DV.b Bool.false]) (
 true)))))))))))))))))))))))))))))))))))))))))))))))))))))))))))))))))))))))))))))))))))))))))))))))))))) := by kernel_rfl
set_option maxHeartbeats 8000000 in
theorem vt_DiscrRates : vcFn Tryd.prog [(12, Ext.ctr (ctOfG gl11 sigTurnD)), (24, Ext.ctr (ctOfG gl11 sigTurnD)), (13, Ext.ctr (ctOfG gl11 sigRate)), (25, Ext.ctr (ctOfG gl11 sigRate)), (14, Ext.ctr (ctOfG gl11 sigHRate)), (26, Ext.ctr (ctOfG gl11 sigHRate)), (16, Ext.ctr (ctOfG gl11 sigTrue0))] noA gl11 100 5 sigRates = true := by
  rw [vc_DiscrRates]
  try simp only [Int.toNat_natCast, List.length_set, List.length_replicate, List.length_take, List.length_drop, List.length_append, List.length_cons, List.length_nil, Nat.min_self, List.take_take, lenCols_i, lenCols_b, List.drop_zero, List.take_length, Nat.add_eq, Nat.mul_eq, Nat.sub_eq, Nat.zero_add, Nat.sub_zero, Nat.mul_one]
  refine all_i fun n0 => ?_
  refine imp_i fun h0 => ?_
  refine imp_i fun h1 => ?_
  refine all_i fun n1 => ?_
  refine imp_i fun h2 => ?_
  refine imp_i fun h3 => ?_
  refine all_i fun n2 => ?_
  refine imp_i fun h4 => ?_
  refine imp_i fun h5 => ?_
  refine all_i fun n3 => ?_
  refine imp_i fun h6 => ?_
  refine imp_i fun h7 => ?_
  refine imp_i fun h8 => ?_
  try simp only [sigRates, smpV, List.cons.injEq, DV.b.injEq, and_true, List.length_cons, List.length_nil] at h8
  refine req_i ?_ ?_
  · -- r0
   first | omega | assumption | grind
  refine req_i ?_ ?_
  · -- r1
   first | omega | assumption | grind
  refine req_i ?_ ?_
  · -- r2
   first | omega | assumption | grind
  refine req_i ?_ ?_
  · -- r3
   first | omega | assumption | grind
  refine req_i ?_ ?_
  · -- r4
   first | omega | assumption | grind
  refine req_i ?_ ?_
  · -- r5
   first | omega | assumption | grind
  refine req_i ?_ ?_
  · -- r6
   first | omega | assumption | grind
  refine req_i ?_ ?_
  · -- r7
   first | omega | assumption | grind
  refine req_i ?_ ?_
  · -- r8
   first | trivial | assumption | (simp only [sigTurnD, smpV, t41, turnPost, insd, tI, tQ, List.cons.injEq, DV.b.injEq, and_true, List.length_cons, List.length_nil]; done) | ((try simp only [sigTurnD, smpV, t41, turnPost, insd, tI, tQ, List.cons.injEq, DV.b.injEq, and_true, List.length_cons, List.length_nil]); first | omega | assumption | grind)
  refine all_i fun n4 => ?_
  refine imp_i fun h9 => ?_
  refine imp_i fun h10 => ?_
  refine all_i fun n5 => ?_
  refine imp_i fun h11 => ?_
  refine imp_i fun h12 => ?_
  refine all_i fun n6 => ?_
  refine imp_i fun h13 => ?_
  refine imp_i fun h14 => ?_
  refine imp_i fun h15 => ?_
  try simp only [Int.toNat_natCast, List.length_set, List.length_replicate, List.length_take, List.length_drop, List.length_append, List.length_cons, List.length_nil, Nat.min_self, List.take_take, lenCols_i, lenCols_b, List.drop_zero, List.take_length, Nat.add_eq, Nat.mul_eq, Nat.sub_eq, Nat.zero_add, Nat.sub_zero, Nat.mul_one] at h15
  refine req_i ?_ ?_
  · -- r9
   first | omega | assumption | grind
  refine req_i ?_ ?_
  · -- r10
   first | omega | assumption | grind
  refine req_i ?_ ?_
  · -- r11
   first | omega | assumption | grind
  refine req_i ?_ ?_
  · -- r12
   first | omega | assumption | grind
  refine req_i ?_ ?_
  · -- r13
   first | omega | assumption | grind
  refine req_i ?_ ?_
  · -- r14
   first | omega | assumption | grind
  refine req_i ?_ ?_
  · -- r15
   first | omega | assumption | grind
  refine req_i ?_ ?_
  · -- r16
   first | omega | assumption | grind
  refine req_i ?_ ?_
  · -- r17
   first | trivial | assumption | (simp only [sigTurnD, smpV, t41, turnPost, insd, tI, tQ, List.cons.injEq, DV.b.injEq, and_true, List.length_cons, List.length_nil]; done) | ((try simp only [sigTurnD, smpV, t41, turnPost, insd, tI, tQ, List.cons.injEq, DV.b.injEq, and_true, List.length_cons, List.length_nil]); first | omega | assumption | grind)
  refine all_i fun n7 => ?_
  refine imp_i fun h16 => ?_
  refine imp_i fun h17 => ?_
  refine all_i fun n8 => ?_
  refine imp_i fun h18 => ?_
  refine imp_i fun h19 => ?_
  refine all_i fun n9 => ?_
  refine imp_i fun h20 => ?_
  refine imp_i fun h21 => ?_
  refine imp_i fun h22 => ?_
  try simp only [Int.toNat_natCast, List.length_set, List.length_replicate, List.length_take, List.length_drop, List.length_append, List.length_cons, List.length_nil, Nat.min_self, List.take_take, lenCols_i, lenCols_b, List.drop_zero, List.take_length, Nat.add_eq, Nat.mul_eq, Nat.sub_eq, Nat.zero_add, Nat.sub_zero, Nat.mul_one] at h22
  have q1 := det2 h15 h22
  refine req_i ?_ ?_
  · -- r18
   first | omega | assumption | grind
  refine req_i ?_ ?_
  · -- r19
   first | omega | assumption | grind
  refine req_i ?_ ?_
  · -- r20
   first | omega | assumption | grind
  refine req_i ?_ ?_
  · -- r21
   first | omega | assumption | grind
  refine req_i ?_ ?_
  · -- r22
   first | omega | assumption | grind
  refine req_i ?_ ?_
  · -- r23
   first | omega | assumption | grind
  refine req_i ?_ ?_
  · -- r24
   first | omega | assumption | grind
  refine req_i ?_ ?_
  · -- r25
   first | omega | assumption | grind
  refine req_i ?_ ?_
  · -- r26
   first | trivial | assumption | (simp only [sigRate, smpV, ratePost, insd, cen, tI, tQ, List.cons.injEq, DV.b.injEq, and_true, List.length_cons, List.length_nil]; done) | ((try simp only [sigRate, smpV, ratePost, insd, cen, tI, tQ, List.cons.injEq, DV.b.injEq, and_true, List.length_cons, List.length_nil]); first | omega | assumption | grind)
  refine all_i fun n10 => ?_
  refine imp_i fun h23 => ?_
  refine imp_i fun h24 => ?_
  refine all_i fun n11 => ?_
  refine imp_i fun h25 => ?_
  refine imp_i fun h26 => ?_
  refine imp_i fun h27 => ?_
  try simp only [Int.toNat_natCast, List.length_set, List.length_replicate, List.length_take, List.length_drop, List.length_append, List.length_cons, List.length_nil, Nat.min_self, List.take_take, lenCols_i, lenCols_b, List.drop_zero, List.take_length, Nat.add_eq, Nat.mul_eq, Nat.sub_eq, Nat.zero_add, Nat.sub_zero, Nat.mul_one] at h27
  refine req_i ?_ ?_
  · -- r27
   first | omega | assumption | grind
  refine req_i ?_ ?_
  · -- r28
   first | omega | assumption | grind
  refine req_i ?_ ?_
  · -- r29
   first | omega | assumption | grind
  refine req_i ?_ ?_
  · -- r30
   first | omega | assumption | grind
  refine req_i ?_ ?_
  · -- r31
   first | omega | assumption | grind
  refine req_i ?_ ?_
  · -- r32
   first | omega | assumption | grind
  refine req_i ?_ ?_
  · -- r33
   first | omega | assumption | grind
  refine req_i ?_ ?_
  · -- r34
   first | omega | assumption | grind
  refine req_i ?_ ?_
  · -- r35
   first | trivial | assumption | (simp only [sigRate, smpV, ratePost, insd, cen, tI, tQ, List.cons.injEq, DV.b.injEq, and_true, List.length_cons, List.length_nil]; done) | ((try simp only [sigRate, smpV, ratePost, insd, cen, tI, tQ, List.cons.injEq, DV.b.injEq, and_true, List.length_cons, List.length_nil]); first | omega | assumption | grind)
  refine all_i fun n12 => ?_
  refine imp_i fun h28 => ?_
  refine imp_i fun h29 => ?_
  refine all_i fun n13 => ?_
  refine imp_i fun h30 => ?_
  refine imp_i fun h31 => ?_
  refine imp_i fun h32 => ?_
  try simp only [Int.toNat_natCast, List.length_set, List.length_replicate, List.length_take, List.length_drop, List.length_append, List.length_cons, List.length_nil, Nat.min_self, List.take_take, lenCols_i, lenCols_b, List.drop_zero, List.take_length, Nat.add_eq, Nat.mul_eq, Nat.sub_eq, Nat.zero_add, Nat.sub_zero, Nat.mul_one] at h32
  have q2 := det1 h27 h32
  refine req_i ?_ ?_
  · -- r36
   first | omega | assumption | grind
  refine req_i ?_ ?_
  · -- r37
   first | omega | assumption | grind
  refine req_i ?_ ?_
  · -- r38
   first | omega | assumption | grind
  refine req_i ?_ ?_
  · -- r39
   first | omega | assumption | grind
  refine req_i ?_ ?_
  · -- r40
   first | omega | assumption | grind
  refine req_i ?_ ?_
  · -- r41
   first | omega | assumption | grind
  refine req_i ?_ ?_
  · -- r42
   first | omega | assumption | grind
  refine req_i ?_ ?_
  · -- r43
   first | omega | assumption | grind
  refine req_i ?_ ?_
  · -- r44
   first | trivial | assumption | (simp only [sigHRate, smpV, hratePost, insd, cen, tI, tQ, List.cons.injEq, DV.b.injEq, and_true, List.length_cons, List.length_nil]; done) | ((try simp only [sigHRate, smpV, hratePost, insd, cen, tI, tQ, List.cons.injEq, DV.b.injEq, and_true, List.length_cons, List.length_nil]); first | omega | assumption | grind)
  refine all_i fun n14 => ?_
  refine imp_i fun h33 => ?_
  refine imp_i fun h34 => ?_
  refine all_i fun n15 => ?_
  refine imp_i fun h35 => ?_
  refine imp_i fun h36 => ?_
  refine imp_i fun h37 => ?_
  try simp only [Int.toNat_natCast, List.length_set, List.length_replicate, List.length_take, List.length_drop, List.length_append, List.length_cons, List.length_nil, Nat.min_self, List.take_take, lenCols_i, lenCols_b, List.drop_zero, List.take_length, Nat.add_eq, Nat.mul_eq, Nat.sub_eq, Nat.zero_add, Nat.sub_zero, Nat.mul_one] at h37
  refine req_i ?_ ?_
  · -- r45
   first | omega | assumption | grind
  refine req_i ?_ ?_
  · -- r46
   first | omega | assumption | grind
  refine req_i ?_ ?_
  · -- r47
   first | omega | assumption | grind
  refine req_i ?_ ?_
  · -- r48
   first | omega | assumption | grind
  refine req_i ?_ ?_
  · -- r49
   first | omega | assumption | grind
  refine req_i ?_ ?_
  · -- r50
   first | omega | assumption | grind
  refine req_i ?_ ?_
  · -- r51
   first | omega | assumption | grind
  refine req_i ?_ ?_
  · -- r52
   first | omega | assumption | grind
  refine req_i ?_ ?_
  · -- r53
   first | trivial | assumption | (simp only [sigHRate, smpV, hratePost, insd, cen, tI, tQ, List.cons.injEq, DV.b.injEq, and_true, List.length_cons, List.length_nil]; done) | ((try simp only [sigHRate, smpV, hratePost, insd, cen, tI, tQ, List.cons.injEq, DV.b.injEq, and_true, List.length_cons, List.length_nil]); first | omega | assumption | grind)
  refine all_i fun n16 => ?_
  refine imp_i fun h38 => ?_
  refine imp_i fun h39 => ?_
  refine all_i fun n17 => ?_
  refine imp_i fun h40 => ?_
  refine imp_i fun h41 => ?_
  refine imp_i fun h42 => ?_
  try simp only [Int.toNat_natCast, List.length_set, List.length_replicate, List.length_take, List.length_drop, List.length_append, List.length_cons, List.length_nil, Nat.min_self, List.take_take, lenCols_i, lenCols_b, List.drop_zero, List.take_length, Nat.add_eq, Nat.mul_eq, Nat.sub_eq, Nat.zero_add, Nat.sub_zero, Nat.mul_one] at h42
  have q3 := det1 h37 h42
  refine bR_i (fun h43 => ?_) (fun h43 => ?_)
  ·
   simp only [bR_iff, bR_iff_f, dec_iff, dec_f, Bool.false_eq_true, Bool.true_eq_false, false_implies, imp_false, and_true, true_and, implies_true, Classical.not_not] at h43
   refine bR_dec (fun h44 => ?_) (fun h44 => ?_)
   ·
    refine bR_dec (fun h45 => ?_) (fun h45 => ?_)
    ·
     refine bR_dec (fun h46 => ?_) (fun h46 => ?_)
     ·
      refine bR_dec (fun h47 => ?_) (fun h47 => ?_)
      ·
       refine bR_dec (fun h48 => ?_) (fun h48 => ?_)
       ·
        refine req_i ?_ ?_
        · -- r54
         first | omega | assumption | grind
        refine all_i fun b18 => ?_
        refine imp_i fun h49 => ?_
        try simp only [sigTrue0, List.cons.injEq, DV.b.injEq, and_true, List.length_cons, List.length_nil] at h49
        refine req_i ?_ ?_
        · -- r55
         first | omega | ((try simp only [sigRates, smpV, List.cons.injEq, DV.b.injEq, and_true, List.length_cons, List.length_nil]); first | done | omega | assumption | grind [getD_set, getD_rep, toNat_succ, cntN_yes, cntN_no])
        rfl
       ·
        refine req_i ?_ ?_
        · -- r56
         first | omega | ((try simp only [sigRates, smpV, List.cons.injEq, DV.b.injEq, and_true, List.length_cons, List.length_nil]); first | done | omega | assumption | grind [getD_set, getD_rep, toNat_succ, cntN_yes, cntN_no])
        rfl
      ·
       refine req_i ?_ ?_
       · -- r57
        first | omega | ((try simp only [sigRates, smpV, List.cons.injEq, DV.b.injEq, and_true, List.length_cons, List.length_nil]); first | done | omega | assumption | grind [getD_set, getD_rep, toNat_succ, cntN_yes, cntN_no])
       rfl
     ·
      refine req_i ?_ ?_
      · -- r58
       first | omega | ((try simp only [sigRates, smpV, List.cons.injEq, DV.b.injEq, and_true, List.length_cons, List.length_nil]); first | done | omega | assumption | grind [getD_set, getD_rep, toNat_succ, cntN_yes, cntN_no])
      rfl
    ·
     refine req_i ?_ ?_
     · -- r59
      first | omega | ((try simp only [sigRates, smpV, List.cons.injEq, DV.b.injEq, and_true, List.length_cons, List.length_nil]); first | done | omega | assumption | grind [getD_set, getD_rep, toNat_succ, cntN_yes, cntN_no])
     rfl
   ·
    refine req_i ?_ ?_
    · -- r60
     first | omega | ((try simp only [sigRates, smpV, List.cons.injEq, DV.b.injEq, and_true, List.length_cons, List.length_nil]); first | done | omega | assumption | grind [getD_set, getD_rep, toNat_succ, cntN_yes, cntN_no])
    rfl
  ·
   simp only [bR_iff, bR_iff_f, dec_iff, dec_f, Bool.false_eq_true, Bool.true_eq_false, false_implies, imp_false, and_true, true_and, implies_true, Classical.not_not] at h43
   refine req_i ?_ ?_
   · -- r61
    first | omega | ((try simp only [sigRates, smpV, List.cons.injEq, DV.b.injEq, and_true, List.length_cons, List.length_nil]); first | done | omega | assumption | grind [getD_set, getD_rep, toNat_succ, cntN_yes, cntN_no])
   rfl
theorem ext_DiscrRates : ∀ p ∈ ([(12, Ext.ctr (ctOfG gl11 sigTurnD)), (24, Ext.ctr (ctOfG gl11 sigTurnD)), (13, Ext.ctr (ctOfG gl11 sigRate)), (25, Ext.ctr (ctOfG gl11 sigRate)), (14, Ext.ctr (ctOfG gl11 sigHRate)), (26, Ext.ctr (ctOfG gl11 sigHRate)), (16, Ext.ctr (ctOfG gl11 sigTrue0))] : List (Nat × Ext)), ExtRow Tryd.prog p.1 p.2 := by
  intro p hp
  simp only [List.mem_cons, List.not_mem_nil, or_false] at hp
  rcases hp with rfl | rfl | rfl | rfl | rfl | rfl | rfl
  · trivial
  · trivial
  · trivial
  · trivial
  · trivial
  · trivial
  · trivial
theorem cts_DiscrRates : CtsOk Tryd.prog [(12, Ext.ctr (ctOfG gl11 sigTurnD)), (24, Ext.ctr (ctOfG gl11 sigTurnD)), (13, Ext.ctr (ctOfG gl11 sigRate)), (25, Ext.ctr (ctOfG gl11 sigRate)), (14, Ext.ctr (ctOfG gl11 sigHRate)), (26, Ext.ctr (ctOfG gl11 sigHRate)), (16, Ext.ctr (ctOfG gl11 sigTrue0))] := ctsOk_ofG (cs := [(12, sigTurnD), (24, sigTurnD), (13, sigRate), (25, sigRate), (14, sigHRate), (26, sigHRate), (16, sigTrue0)])
  (fun p hp => by
    simp only [List.mem_cons, List.not_mem_nil, or_false] at hp
    rcases hp with rfl | rfl | rfl | rfl | rfl | rfl | rfl
    · exact fn_Turn
    · exact fn_TurnR
    · exact fn_Rate
    · exact fn_RateR
    · exact fn_HRate
    · exact fn_HRateR
    · exact fn_awake
)
  (fun f c h => by
    simp only [List.lookup_cons] at h
    repeat' split at h
    all_goals first | (cases h; done) | (rename_i e; have e := beq_iff_eq.1 e; subst e; cases h; refine ⟨_, ?_, rfl⟩; simp))
theorem fn_DiscrRates : FnOk Tryd.prog 5 sigRates gl11 := fn_sound (by kernel_rfl) ext_DiscrRates cts_DiscrRates names vt_DiscrRates
end Go.Proofs.YtofeleohcpaclaaDoor

