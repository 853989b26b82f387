import Derived.Test.YtofeleohcpaclaaDoorSpec17e
import Derived.Test.YtofeleohcpaclaaDoorRows
import Derived.Test.YtofeleohcpaclaaDoorFaDiscrSums
namespace Go.Proofs.YtofeleohcpaclaaDoor
open Go.Ev Go.Sp
set_option maxRecDepth 100000
theorem vc_DiscrSums : vcFn Tryd.prog [(9, Ext.ctr (ctOfG gl11 sigCode)), (17, Ext.ctr (ctOfG gl11 sigCode)), (18, Ext.ctr (ctOfG gl11 sigFull)), (19, Ext.ctr (ctOfG gl11 sigFull)), (20, Ext.ctr (ctOfG gl11 sigHalf)), (21, Ext.ctr (ctOfG gl11 sigHalf)), (22, Ext.ctr (ctOfG gl11 sigLock)), (23, Ext.ctr (ctOfG gl11 sigLock)), (16, Ext.ctr (ctOfG gl11 sigTrue0))] noA gl11 100 4 sigSums = (allB fun n0 : Int => 
impB ((-9223372036854775808 : Int) ≤ n0) (
impB (n0 ≤ (9223372036854775807 : Int)) (
allB fun n1 : Int => 
impB ((-9223372036854775808 : Int) ≤ n1) (
impB (n1 ≤ (9223372036854775807 : Int)) (
allB fun n2 : Int => 
impB ((-9223372036854775808 : Int) ≤ n2) (
impB (n2 ≤ (9223372036854775807 : Int)) (
allB fun n3 : Int => 
impB ((-9223372036854775808 : Int) ≤ n3) (
impB (n3 ≤ (9223372036854775807 : Int)) (
allB fun n4 : Int => 
impB ((-9223372036854775808 : Int) ≤ n4) (
impB (n4 ≤ (9223372036854775807 : Int)) (
allB fun n5 : Int => 
impB ((-9223372036854775808 : Int) ≤ n5) (
impB (n5 ≤ (9223372036854775807 : Int)) (
impB (sigSums.pre [DV.n n0, DV.n n1, DV.n n2, DV.n n3, DV.n n4, DV.n n5]) (
reqB ((-9223372036854775808 : Int) ≤ n0) (
reqB (n0 ≤ (9223372036854775807 : Int)) (
reqB ((-9223372036854775808 : Int) ≤ n1) (
reqB (n1 ≤ (9223372036854775807 : Int)) (
reqB ((-9223372036854775808 : Int) ≤ n2) (
reqB (n2 ≤ (9223372036854775807 : Int)) (
reqB ((-9223372036854775808 : Int) ≤ n3) (
reqB (n3 ≤ (9223372036854775807 : Int)) (
reqB ((-9223372036854775808 : Int) ≤ n4) (
reqB (n4 ≤ (9223372036854775807 : Int)) (
reqB ((-9223372036854775808 : Int) ≤ n5) (
reqB (n5 ≤ (9223372036854775807 : Int)) (
reqB (sigCode.pre [DV.n n0, DV.n n1, DV.n n2, DV.n n3, DV.n n4, DV.n n5]) (
allB fun n6 : Int => 
impB ((-1024 : Int) ≤ n6) (
impB (n6 ≤ (1024 : Int)) (
allB fun n7 : Int => 
impB ((0 : Int) ≤ n7) (
impB (n7 ≤ (18 : Int)) (
impB (sigCode.post [DV.n n0, DV.n n1, DV.n n2, DV.n n3, DV.n n4, DV.n n5]
 [DV.n n6, DV.n n7]) (
reqB ((-9223372036854775808 : Int) ≤ n0) (
reqB (n0 ≤ (9223372036854775807 : Int)) (
reqB ((-9223372036854775808 : Int) ≤ n1) (
reqB (n1 ≤ (9223372036854775807 : Int)) (
reqB ((-9223372036854775808 : Int) ≤ n2) (
reqB (n2 ≤ (9223372036854775807 : Int)) (
reqB ((-9223372036854775808 : Int) ≤ n3) (
reqB (n3 ≤ (9223372036854775807 : Int)) (
reqB ((-9223372036854775808 : Int) ≤ n4) (
reqB (n4 ≤ (9223372036854775807 : Int)) (
reqB ((-9223372036854775808 : Int) ≤ n5) (
reqB (n5 ≤ (9223372036854775807 : Int)) (
reqB (sigCode.pre [DV.n n0, DV.n n1, DV.n n2, DV.n n3, DV.n n4, DV.n n5]) (
allB fun n8 : Int => 
impB ((-1024 : Int) ≤ n8) (
impB (n8 ≤ (1024 : Int)) (
allB fun n9 : Int => 
impB ((0 : Int) ≤ n9) (
impB (n9 ≤ (18 : Int)) (
impB (sigCode.post [DV.n n0, DV.n n1, DV.n n2, DV.n n3, DV.n n4, DV.n n5]
 [DV.n n8, DV.n n9]) (
bR (dec (n6 ≠ n8)) (
 reqB (sigSums.post [DV.n n0, DV.n n1, DV.n n2, DV.n n3, DV.n n4, DV.n n5]
 [DV.b Bool.false]) (
 true)) (
 bR (dec (n7 ≠ n9)) (
 reqB (sigSums.post [DV.n n0, DV.n n1, DV.n n2, DV.n n3, DV.n n4, DV.n n5]
 [DV.b Bool.false]) (
 true)) (
 reqB ((-9223372036854775808 : Int) ≤ n2) (
 reqB (n2 ≤ (9223372036854775807 : Int)) (
 reqB ((-9223372036854775808 : Int) ≤ n3) (
 reqB (n3 ≤ (9223372036854775807 : Int)) (
 reqB (sigFull.pre [DV.n n2, DV.n n3]) (
 allB fun n10 : Int => 
 impB ((-2048 : Int) ≤ n10) (
 impB (n10 ≤ (2047 : Int)) (
 allB fun n11 : Int => 
 impB ((0 : Int) ≤ n11) (
 impB (n11 ≤ (18 : Int)) (
 impB (sigFull.post [DV.n n2, DV.n n3] [DV.n n10, DV.n n11]) (
 reqB ((-9223372036854775808 : Int) ≤ n2) (
 reqB (n2 ≤ (9223372036854775807 : Int)) (
 reqB ((-9223372036854775808 : Int) ≤ n3) (
 reqB (n3 ≤ (9223372036854775807 : Int)) (
 reqB (sigFull.pre [DV.n n2, DV.n n3]) (
 allB fun n12 : Int => 
 impB ((-2048 : Int) ≤ n12) (
 impB (n12 ≤ (2047 : Int)) (
 allB fun n13 : Int => 
 impB ((0 : Int) ≤ n13) (
 impB (n13 ≤ (18 : Int)) (
 impB (sigFull.post [DV.n n2, DV.n n3] [DV.n n12, DV.n n13]) (
 reqB ((-9223372036854775808 : Int) ≤ n2) (
 reqB (n2 ≤ (9223372036854775807 : Int)) (
 reqB ((-9223372036854775808 : Int) ≤ n3) (
 reqB (n3 ≤ (9223372036854775807 : Int)) (
 reqB (sigHalf.pre [DV.n n2, DV.n n3]) (
 allB fun n14 : Int => 
 impB ((-1024 : Int) ≤ n14) (
 impB (n14 ≤ (1023 : Int)) (
 allB fun n15 : Int => 
 impB ((0 : Int) ≤ n15) (
 impB (n15 ≤ (18 : Int)) (
 impB (sigHalf.post [DV.n n2, DV.n n3] [DV.n n14, DV.n n15]) (
 reqB ((-9223372036854775808 : Int) ≤ n2) (
 reqB (n2 ≤ (9223372036854775807 : Int)) (
 reqB ((-9223372036854775808 : Int) ≤ n3) (
 reqB (n3 ≤ (9223372036854775807 : Int)) (
 reqB (sigHalf.pre [DV.n n2, DV.n n3]) (
 allB fun n16 : Int => 
 impB ((-1024 : Int) ≤ n16) (
 impB (n16 ≤ (1023 : Int)) (
 allB fun n17 : Int => 
 impB ((0 : Int) ≤ n17) (
 impB (n17 ≤ (18 : Int)) (
 impB (sigHalf.post [DV.n n2, DV.n n3] [DV.n n16, DV.n n17]) (
 reqB ((-9223372036854775808 : Int) ≤ n2) (
 reqB (n2 ≤ (9223372036854775807 : Int)) (
 reqB ((-9223372036854775808 : Int) ≤ n3) (
 reqB (n3 ≤ (9223372036854775807 : Int)) (
 reqB (sigLock.pre [DV.n n2, DV.n n3]) (
 allB fun n18 : Int => 
 impB ((-1024 : Int) ≤ n18) (
 impB (n18 ≤ (1024 : Int)) (
 allB fun n19 : Int => 
 impB ((0 : Int) ≤ n19) (
 impB (n19 ≤ (18 : Int)) (
 impB (sigLock.post [DV.n n2, DV.n n3] [DV.n n18, DV.n n19]) (
 reqB ((-9223372036854775808 : Int) ≤ n2) (
 reqB (n2 ≤ (9223372036854775807 : Int)) (
 reqB ((-9223372036854775808 : Int) ≤ n3) (
 reqB (n3 ≤ (9223372036854775807 : Int)) (
 reqB (sigLock.pre [DV.n n2, DV.n n3]) (
 allB fun n20 : Int => 
 impB ((-1024 : Int) ≤ n20) (
 impB (n20 ≤ (1024 : Int)) (
 allB fun n21 : Int => 
 impB ((0 : Int) ≤ n21) (
 impB (n21 ≤ (18 : Int)) (
 impB (sigLock.post [DV.n n2, DV.n n3] [DV.n n20, DV.n n21]) (
 bR (dec (n10 = n12)) (
 bR (dec (n11 = n13)) (
 bR (dec (n14 = n16)) (
 bR (dec (n15 = n17)) (
 bR (dec (n18 = n20)) (
 bR (dec (n19 = n21)) (
 reqB (sigTrue0.pre []) (
 allB fun b22 : Bool => 
 impB (sigTrue0.post [] [DV.b b22]) (
 reqB (sigSums.post [DV.n n0, DV.n n1, DV.n n2, DV.n n3, DV.n n4, DV.n n5]
 [DV.b b22]) (
 true)))) (
 reqB (sigSums.post [DV.n n0, DV.n n1, DV.n n2, DV.n n3, DV.n n4, DV.n n5]
 [DV.b Bool.false]) (
 true))) (
 reqB (sigSums.post [DV.n n0, DV.n n1, DV.n n2, DV.n n3, DV.n n4, DV.n n5]
 [DV.b Bool.false]) (
 true))) (
 reqB (sigSums.post [DV.n n0, DV.n n1, DV.n n2, DV.n n3, DV.n n4, DV.n n5]
 [DV.b Bool.false]) (
 true))) (
 reqB (sigSums.post [DV.n n0, DV.n n1, DV.n n2, DV.n n3, DV.n n4, DV.n n5]
 [DV.b Bool.false]) (
 true))) (
 reqB (sigSums.post [DV.n n0, DV.n n1, DV.n n2, DV.n n3, DV.n n4, DV.n n5]
 [DV.b Bool.false]) (
 true))) (
 reqB (sigSums.post [DV.n n0, DV.n n1, DV.n n2, DV.n n3, DV.n n4, DV.n n5]
 [DV.b Bool.false]) (
 true)))))))))))))))))))))))))))))))))))))))))))))))))))))))))))))))))))))))))))))))))))))))))))))))))))))))))))))))))) := by kernel_rfl
set_option maxHeartbeats 8000000 in
theorem vt_DiscrSums : vcFn Tryd.prog [(9, Ext.ctr (ctOfG gl11 sigCode)), (17, Ext.ctr (ctOfG gl11 sigCode)), (18, Ext.ctr (ctOfG gl11 sigFull)), (19, Ext.ctr (ctOfG gl11 sigFull)), (20, Ext.ctr (ctOfG gl11 sigHalf)), (21, Ext.ctr (ctOfG gl11 sigHalf)), (22, Ext.ctr (ctOfG gl11 sigLock)), (23, Ext.ctr (ctOfG gl11 sigLock)), (16, Ext.ctr (ctOfG gl11 sigTrue0))] noA gl11 100 4 sigSums = true := by
  rw [vc_DiscrSums]
  try simp only [Int.toNat_natCast, List.length_set, List.length_replicate, List.length_take, List.length_drop, List.length_append, List.length_cons, List.length_nil, Nat.min_self, List.take_take, lenCols_i, lenCols_b, List.drop_zero, List.take_length, Nat.add_eq, Nat.mul_eq, Nat.sub_eq, Nat.zero_add, Nat.sub_zero, Nat.mul_one]
  refine all_i fun n0 => ?_
  refine imp_i fun h0 => ?_
  refine imp_i fun h1 => ?_
  refine all_i fun n1 => ?_
  refine imp_i fun h2 => ?_
  refine imp_i fun h3 => ?_
  refine all_i fun n2 => ?_
  refine imp_i fun h4 => ?_
  refine imp_i fun h5 => ?_
  refine all_i fun n3 => ?_
  refine imp_i fun h6 => ?_
  refine imp_i fun h7 => ?_
  refine all_i fun n4 => ?_
  refine imp_i fun h8 => ?_
  refine imp_i fun h9 => ?_
  refine all_i fun n5 => ?_
  refine imp_i fun h10 => ?_
  refine imp_i fun h11 => ?_
  refine imp_i fun h12 => ?_
  try simp only [sigSums, List.cons.injEq, DV.b.injEq, and_true, List.length_cons, List.length_nil] at h12
  refine req_i ?_ ?_
  · -- r0
   first | omega | assumption | grind
  refine req_i ?_ ?_
  · -- r1
   first | omega | assumption | grind
  refine req_i ?_ ?_
  · -- r2
   first | omega | assumption | grind
  refine req_i ?_ ?_
  · -- r3
   first | omega | assumption | grind
  refine req_i ?_ ?_
  · -- r4
   first | omega | assumption | grind
  refine req_i ?_ ?_
  · -- r5
   first | omega | assumption | grind
  refine req_i ?_ ?_
  · -- r6
   first | omega | assumption | grind
  refine req_i ?_ ?_
  · -- r7
   first | omega | assumption | grind
  refine req_i ?_ ?_
  · -- r8
   first | omega | assumption | grind
  refine req_i ?_ ?_
  · -- r9
   first | omega | assumption | grind
  refine req_i ?_ ?_
  · -- r10
   first | omega | assumption | grind
  refine req_i ?_ ?_
  · -- r11
   first | omega | assumption | grind
  refine req_i ?_ ?_
  · -- r12
   first | trivial | assumption | (simp only [sigCode, codePost, insd, powr, List.cons.injEq, DV.b.injEq, and_true, List.length_cons, List.length_nil]; done) | ((try simp only [sigCode, codePost, insd, powr, List.cons.injEq, DV.b.injEq, and_true, List.length_cons, List.length_nil]); first | omega | assumption | grind)
  refine all_i fun n6 => ?_
  refine imp_i fun h13 => ?_
  refine imp_i fun h14 => ?_
  refine all_i fun n7 => ?_
  refine imp_i fun h15 => ?_
  refine imp_i fun h16 => ?_
  refine imp_i fun h17 => ?_
  try simp only [sigCode, codePost, insd, powr, List.cons.injEq, DV.b.injEq, and_true, List.length_cons, List.length_nil] at h17
  refine req_i ?_ ?_
  · -- r13
   first | omega | assumption | grind
  refine req_i ?_ ?_
  · -- r14
   first | omega | assumption | grind
  refine req_i ?_ ?_
  · -- r15
   first | omega | assumption | grind
  refine req_i ?_ ?_
  · -- r16
   first | omega | assumption | grind
  refine req_i ?_ ?_
  · -- r17
   first | omega | assumption | grind
  refine req_i ?_ ?_
  · -- r18
   first | omega | assumption | grind
  refine req_i ?_ ?_
  · -- r19
   first | omega | assumption | grind
  refine req_i ?_ ?_
  · -- r20
   first | omega | assumption | grind
  refine req_i ?_ ?_
  · -- r21
   first | omega | assumption | grind
  refine req_i ?_ ?_
  · -- r22
   first | omega | assumption | grind
  refine req_i ?_ ?_
  · -- r23
   first | omega | assumption | grind
  refine req_i ?_ ?_
  · -- r24
   first | omega | assumption | grind
  refine req_i ?_ ?_
  · -- r25
   first | trivial | assumption | (simp only [sigCode, codePost, insd, powr, List.cons.injEq, DV.b.injEq, and_true, List.length_cons, List.length_nil]; done) | ((try simp only [sigCode, codePost, insd, powr, List.cons.injEq, DV.b.injEq, and_true, List.length_cons, List.length_nil]); first | omega | assumption | grind)
  refine all_i fun n8 => ?_
  refine imp_i fun h18 => ?_
  refine imp_i fun h19 => ?_
  refine all_i fun n9 => ?_
  refine imp_i fun h20 => ?_
  refine imp_i fun h21 => ?_
  refine imp_i fun h22 => ?_
  try simp only [sigCode, codePost, insd, powr, List.cons.injEq, DV.b.injEq, and_true, List.length_cons, List.length_nil] at h22
  refine bR_dec (fun h23 => ?_) (fun h23 => ?_)
  ·
   refine req_i ?_ ?_
   · -- r26
    first | omega | ((try simp only [sigSums, List.cons.injEq, DV.b.injEq, and_true, List.length_cons, List.length_nil]); first | done | omega | assumption | grind [getD_set, getD_rep, toNat_succ, cntN_yes, cntN_no])
   rfl
  ·
   refine bR_dec (fun h24 => ?_) (fun h24 => ?_)
   ·
    refine req_i ?_ ?_
    · -- r27
     first | omega | ((try simp only [sigSums, List.cons.injEq, DV.b.injEq, and_true, List.length_cons, List.length_nil]); first | done | omega | assumption | grind [getD_set, getD_rep, toNat_succ, cntN_yes, cntN_no])
    rfl
   ·
    refine req_i ?_ ?_
    · -- r28
     first | omega | assumption | grind
    refine req_i ?_ ?_
    · -- r29
     first | omega | assumption | grind
    refine req_i ?_ ?_
    · -- r30
     first | omega | assumption | grind
    refine req_i ?_ ?_
    · -- r31
     first | omega | assumption | grind
    refine req_i ?_ ?_
    · -- r32
     first | trivial | assumption | (simp only [sigFull, smpV, fullPost, insd, cen, List.cons.injEq, DV.b.injEq, and_true, List.length_cons, List.length_nil]; done) | ((try simp only [sigFull, smpV, fullPost, insd, cen, List.cons.injEq, DV.b.injEq, and_true, List.length_cons, List.length_nil]); first | omega | assumption | grind)
    refine all_i fun n10 => ?_
    refine imp_i fun h25 => ?_
    refine imp_i fun h26 => ?_
    refine all_i fun n11 => ?_
    refine imp_i fun h27 => ?_
    refine imp_i fun h28 => ?_
    refine imp_i fun h29 => ?_
    try simp only [sigFull, smpV, fullPost, insd, cen, List.cons.injEq, DV.b.injEq, and_true, List.length_cons, List.length_nil] at h29
    refine req_i ?_ ?_
    · -- r33
     first | omega | assumption | grind
    refine req_i ?_ ?_
    · -- r34
     first | omega | assumption | grind
    refine req_i ?_ ?_
    · -- r35
     first | omega | assumption | grind
    refine req_i ?_ ?_
    · -- r36
     first | omega | assumption | grind
    refine req_i ?_ ?_
    · -- r37
     first | trivial | assumption | (simp only [sigFull, smpV, fullPost, insd, cen, List.cons.injEq, DV.b.injEq, and_true, List.length_cons, List.length_nil]; done) | ((try simp only [sigFull, smpV, fullPost, insd, cen, List.cons.injEq, DV.b.injEq, and_true, List.length_cons, List.length_nil]); first | omega | assumption | grind)
    refine all_i fun n12 => ?_
    refine imp_i fun h30 => ?_
    refine imp_i fun h31 => ?_
    refine all_i fun n13 => ?_
    refine imp_i fun h32 => ?_
    refine imp_i fun h33 => ?_
    refine imp_i fun h34 => ?_
    try simp only [sigFull, smpV, fullPost, insd, cen, List.cons.injEq, DV.b.injEq, and_true, List.length_cons, List.length_nil] at h34
    refine req_i ?_ ?_
    · -- r38
     first | omega | assumption | grind
    refine req_i ?_ ?_
    · -- r39
     first | omega | assumption | grind
    refine req_i ?_ ?_
    · -- r40
     first | omega | assumption | grind
    refine req_i ?_ ?_
    · -- r41
     first | omega | assumption | grind
    refine req_i ?_ ?_
    · -- r42
     first | trivial | assumption | (simp only [sigHalf, smpV, halfPost, insd, cen, List.cons.injEq, DV.b.injEq, and_true, List.length_cons, List.length_nil]; done) | ((try simp only [sigHalf, smpV, halfPost, insd, cen, List.cons.injEq, DV.b.injEq, and_true, List.length_cons, List.length_nil]); first | omega | assumption | grind)
    refine all_i fun n14 => ?_
    refine imp_i fun h35 => ?_
    refine imp_i fun h36 => ?_
    refine all_i fun n15 => ?_
    refine imp_i fun h37 => ?_
    refine imp_i fun h38 => ?_
    refine imp_i fun h39 => ?_
    try simp only [sigHalf, smpV, halfPost, insd, cen, List.cons.injEq, DV.b.injEq, and_true, List.length_cons, List.length_nil] at h39
    refine req_i ?_ ?_
    · -- r43
     first | omega | assumption | grind
    refine req_i ?_ ?_
    · -- r44
     first | omega | assumption | grind
    refine req_i ?_ ?_
    · -- r45
     first | omega | assumption | grind
    refine req_i ?_ ?_
    · -- r46
     first | omega | assumption | grind
    refine req_i ?_ ?_
    · -- r47
     first | trivial | assumption | (simp only [sigHalf, smpV, halfPost, insd, cen, List.cons.injEq, DV.b.injEq, and_true, List.length_cons, List.length_nil]; done) | ((try simp only [sigHalf, smpV, halfPost, insd, cen, List.cons.injEq, DV.b.injEq, and_true, List.length_cons, List.length_nil]); first | omega | assumption | grind)
    refine all_i fun n16 => ?_
    refine imp_i fun h40 => ?_
    refine imp_i fun h41 => ?_
    refine all_i fun n17 => ?_
    refine imp_i fun h42 => ?_
    refine imp_i fun h43 => ?_
    refine imp_i fun h44 => ?_
    try simp only [sigHalf, smpV, halfPost, insd, cen, List.cons.injEq, DV.b.injEq, and_true, List.length_cons, List.length_nil] at h44
    refine req_i ?_ ?_
    · -- r48
     first | omega | assumption | grind
    refine req_i ?_ ?_
    · -- r49
     first | omega | assumption | grind
    refine req_i ?_ ?_
    · -- r50
     first | omega | assumption | grind
    refine req_i ?_ ?_
    · -- r51
     first | omega | assumption | grind
    refine req_i ?_ ?_
    · -- r52
     first | trivial | assumption | (simp only [sigLock, smpV, lockPost, insd, powr, List.cons.injEq, DV.b.injEq, and_true, List.length_cons, List.length_nil]; done) | ((try simp only [sigLock, smpV, lockPost, insd, powr, List.cons.injEq, DV.b.injEq, and_true, List.length_cons, List.length_nil]); first | omega | assumption | grind)
    refine all_i fun n18 => ?_
    refine imp_i fun h45 => ?_
    refine imp_i fun h46 => ?_
    refine all_i fun n19 => ?_
    refine imp_i fun h47 => ?_
    refine imp_i fun h48 => ?_
    refine imp_i fun h49 => ?_
    try simp only [sigLock, smpV, lockPost, insd, powr, List.cons.injEq, DV.b.injEq, and_true, List.length_cons, List.length_nil] at h49
    refine req_i ?_ ?_
    · -- r53
     first | omega | assumption | grind
    refine req_i ?_ ?_
    · -- r54
     first | omega | assumption | grind
    refine req_i ?_ ?_
    · -- r55
     first | omega | assumption | grind
    refine req_i ?_ ?_
    · -- r56
     first | omega | assumption | grind
    refine req_i ?_ ?_
    · -- r57
     first | trivial | assumption | (simp only [sigLock, smpV, lockPost, insd, powr, List.cons.injEq, DV.b.injEq, and_true, List.length_cons, List.length_nil]; done) | ((try simp only [sigLock, smpV, lockPost, insd, powr, List.cons.injEq, DV.b.injEq, and_true, List.length_cons, List.length_nil]); first | omega | assumption | grind)
    refine all_i fun n20 => ?_
    refine imp_i fun h50 => ?_
    refine imp_i fun h51 => ?_
    refine all_i fun n21 => ?_
    refine imp_i fun h52 => ?_
    refine imp_i fun h53 => ?_
    refine imp_i fun h54 => ?_
    try simp only [sigLock, smpV, lockPost, insd, powr, List.cons.injEq, DV.b.injEq, and_true, List.length_cons, List.length_nil] at h54
    refine bR_dec (fun h55 => ?_) (fun h55 => ?_)
    ·
     refine bR_dec (fun h56 => ?_) (fun h56 => ?_)
     ·
      refine bR_dec (fun h57 => ?_) (fun h57 => ?_)
      ·
       refine bR_dec (fun h58 => ?_) (fun h58 => ?_)
       ·
        refine bR_dec (fun h59 => ?_) (fun h59 => ?_)
        ·
         refine bR_dec (fun h60 => ?_) (fun h60 => ?_)
         ·
          refine req_i ?_ ?_
          · -- r58
           first | omega | assumption | grind
          refine all_i fun b22 => ?_
          refine imp_i fun h61 => ?_
          try simp only [sigTrue0, List.cons.injEq, DV.b.injEq, and_true, List.length_cons, List.length_nil] at h61
          refine req_i ?_ ?_
          · -- r59
           first | omega | ((try simp only [sigSums, List.cons.injEq, DV.b.injEq, and_true, List.length_cons, List.length_nil]); first | done | omega | assumption | grind [getD_set, getD_rep, toNat_succ, cntN_yes, cntN_no])
          rfl
         ·
          refine req_i ?_ ?_
          · -- r60
           first | omega | ((try simp only [sigSums, List.cons.injEq, DV.b.injEq, and_true, List.length_cons, List.length_nil]); first | done | omega | assumption | grind [getD_set, getD_rep, toNat_succ, cntN_yes, cntN_no])
          rfl
        ·
         refine req_i ?_ ?_
         · -- r61
          first | omega | ((try simp only [sigSums, List.cons.injEq, DV.b.injEq, and_true, List.length_cons, List.length_nil]); first | done | omega | assumption | grind [getD_set, getD_rep, toNat_succ, cntN_yes, cntN_no])
         rfl
       ·
        refine req_i ?_ ?_
        · -- r62
         first | omega | ((try simp only [sigSums, List.cons.injEq, DV.b.injEq, and_true, List.length_cons, List.length_nil]); first | done | omega | assumption | grind [getD_set, getD_rep, toNat_succ, cntN_yes, cntN_no])
        rfl
      ·
       refine req_i ?_ ?_
       · -- r63
        first | omega | ((try simp only [sigSums, List.cons.injEq, DV.b.injEq, and_true, List.length_cons, List.length_nil]); first | done | omega | assumption | grind [getD_set, getD_rep, toNat_succ, cntN_yes, cntN_no])
       rfl
     ·
      refine req_i ?_ ?_
      · -- r64
       first | omega | ((try simp only [sigSums, List.cons.injEq, DV.b.injEq, and_true, List.length_cons, List.length_nil]); first | done | omega | assumption | grind [getD_set, getD_rep, toNat_succ, cntN_yes, cntN_no])
      rfl
    ·
     refine req_i ?_ ?_
     · -- r65
      first | omega | ((try simp only [sigSums, List.cons.injEq, DV.b.injEq, and_true, List.length_cons, List.length_nil]); first | done | omega | assumption | grind [getD_set, getD_rep, toNat_succ, cntN_yes, cntN_no])
     rfl
theorem ext_DiscrSums : ∀ p ∈ ([(9, Ext.ctr (ctOfG gl11 sigCode)), (17, Ext.ctr (ctOfG gl11 sigCode)), (18, Ext.ctr (ctOfG gl11 sigFull)), (19, Ext.ctr (ctOfG gl11 sigFull)), (20, Ext.ctr (ctOfG gl11 sigHalf)), (21, Ext.ctr (ctOfG gl11 sigHalf)), (22, Ext.ctr (ctOfG gl11 sigLock)), (23, Ext.ctr (ctOfG gl11 sigLock)), (16, Ext.ctr (ctOfG gl11 sigTrue0))] : List (Nat × Ext)), ExtRow Tryd.prog p.1 p.2 := by
  intro p hp
  simp only [List.mem_cons, List.not_mem_nil, or_false] at hp
  rcases hp with rfl | rfl | rfl | rfl | rfl | rfl | rfl | rfl | rfl
  · trivial
  · trivial
  · trivial
  · trivial
  · trivial
  · trivial
  · trivial
  · trivial
  · trivial
theorem cts_DiscrSums : CtsOk Tryd.prog [(9, Ext.ctr (ctOfG gl11 sigCode)), (17, Ext.ctr (ctOfG gl11 sigCode)), (18, Ext.ctr (ctOfG gl11 sigFull)), (19, Ext.ctr (ctOfG gl11 sigFull)), (20, Ext.ctr (ctOfG gl11 sigHalf)), (21, Ext.ctr (ctOfG gl11 sigHalf)), (22, Ext.ctr (ctOfG gl11 sigLock)), (23, Ext.ctr (ctOfG gl11 sigLock)), (16, Ext.ctr (ctOfG gl11 sigTrue0))] := ctsOk_ofG (cs := [(9, sigCode), (17, sigCode), (18, sigFull), (19, sigFull), (20, sigHalf), (21, sigHalf), (22, sigLock), (23, sigLock), (16, sigTrue0)])
  (fun p hp => by
    simp only [List.mem_cons, List.not_mem_nil, or_false] at hp
    rcases hp with rfl | rfl | rfl | rfl | rfl | rfl | rfl | rfl | rfl
    · exact fn_Code
    · exact fn_CodeR
    · exact fn_Full
    · exact fn_FullR
    · exact fn_Half
    · exact fn_HalfR
    · exact fn_Lock
    · exact fn_LockR
    · exact fn_awake
)
  (fun f c h => by
    simp only [List.lookup_cons] at h
    repeat' split at h
    all_goals first | (cases h; done) | (rename_i e; have e := beq_iff_eq.1 e; subst e; cases h; refine ⟨_, ?_, rfl⟩; simp))
theorem fn_DiscrSums : FnOk Tryd.prog 4 sigSums gl11 := fn_sound (by kernel_rfl) ext_DiscrSums cts_DiscrSums names vt_DiscrSums
end Go.Proofs.YtofeleohcpaclaaDoor

