import Derived.Test.YtagndcelalcmpaaSpec29e
import Derived.Test.YtagndcelalcmpaaRows
import Derived.Test.YtagndcelalcmpaaFnames
import Derived.Test.YtagndcelalcmpaaFknown
import Derived.Test.YtagndcelalcmpaaFpick
import Derived.Test.YtagndcelalcmpaaFlength
namespace Go.Proofs.Ytagndcelalcmpaa
open Go.Ev Go.Sp
set_option maxRecDepth 100000
theorem vc_SpansShifts : vcFn Try.prog [(6, Ext.ctr (ctOf sigTrue0)), (26, Ext.ctr (ctOf (sigPickN 1000000000000))), (15, Ext.ctr (ctOf sigLen))] tab [] 100 8 sigL5 = (allB fun n0 : Int => 
impB ((-9223372036854775808 : Int) ≤ n0) (
impB (n0 ≤ (9223372036854775807 : Int)) (
allB fun n1 : Int => 
impB ((-9223372036854775808 : Int) ≤ n1) (
impB (n1 ≤ (9223372036854775807 : Int)) (
allB fun n2 : Int => 
impB ((-9223372036854775808 : Int) ≤ n2) (
impB (n2 ≤ (9223372036854775807 : Int)) (
allB fun n3 : Int => 
impB ((-9223372036854775808 : Int) ≤ n3) (
impB (n3 ≤ (9223372036854775807 : Int)) (
allB fun n4 : Int => 
impB ((-9223372036854775808 : Int) ≤ n4) (
impB (n4 ≤ (9223372036854775807 : Int)) (
impB (sigL5.pre [DV.n n0, DV.n n1, DV.n n2, DV.n n3, DV.n n4]) (
reqB (sigTrue0.pre []) (
allB fun b5 : Bool => 
impB (sigTrue0.post [] [DV.b b5]) (
reqB ((-9223372036854775808 : Int) ≤ n0) (
reqB (n0 ≤ (9223372036854775807 : Int)) (
reqB ((sigPickN (1000000000000 : Int)).pre [DV.n n0, DV.n (8192 : Int)]) (
allB fun n6 : Int => 
impB ((0 : Int) ≤ n6) (
impB (n6 ≤ (1000000000000 : Int)) (
impB ((sigPickN (1000000000000 : Int)).post [DV.n n0, DV.n (8192 : Int)] [DV.n n6]) (
reqB ((-9223372036854775808 : Int) ≤ n2) (
reqB (n2 ≤ (9223372036854775807 : Int)) (
reqB ((sigPickN (1000000000000 : Int)).pre [DV.n n2, DV.n (1000000 : Int)]) (
allB fun n7 : Int => 
impB ((0 : Int) ≤ n7) (
impB (n7 ≤ (1000000000000 : Int)) (
impB ((sigPickN (1000000000000 : Int)).post [DV.n n2, DV.n (1000000 : Int)] [DV.n n7]) (
reqB ((-9223372036854775808 : Int) ≤ n4) (
reqB (n4 ≤ (9223372036854775807 : Int)) (
reqB ((sigPickN (1000000000000 : Int)).pre [DV.n n4, DV.n (1000 : Int)]) (
allB fun n8 : Int => 
impB ((0 : Int) ≤ n8) (
impB (n8 ≤ (1000000000000 : Int)) (
impB ((sigPickN (1000000000000 : Int)).post [DV.n n4, DV.n (1000 : Int)] [DV.n n8]) (
reqB ((-9223372036854775808 : Int) ≤ n1) (
reqB (n1 ≤ (9223372036854775807 : Int)) (
reqB ((1 : Int) ≤ (10 : Int) * ((1 : Int) + n6)) (
reqB ((10 : Int) * ((1 : Int) + n6) ≤ (1000000000000 : Int)) (
reqB ((sigPickN (1000000000000 : Int)).pre [DV.n n1, DV.n ((10 : Int) * ((1 : Int) + n6))]) (
allB fun n9 : Int => 
impB ((0 : Int) ≤ n9) (
impB (n9 ≤ (1000000000000 : Int)) (
impB ((sigPickN (1000000000000 : Int)).post [DV.n n1, DV.n ((10 : Int) * ((1 : Int) + n6))] [DV.n n9]) (
reqB ((-9223372036854775808 : Int) ≤ n3) (
reqB (n3 ≤ (9223372036854775807 : Int)) (
reqB ((sigPickN (1000000000000 : Int)).pre [DV.n n3, DV.n (20000 : Int)]) (
allB fun n10 : Int => 
impB ((0 : Int) ≤ n10) (
impB (n10 ≤ (1000000000000 : Int)) (
impB ((sigPickN (1000000000000 : Int)).post [DV.n n3, DV.n (20000 : Int)] [DV.n n10]) (
reqB ((-9223372036854775808 : Int) ≤ (1 : Int) + n6) (
reqB ((1 : Int) + n6 ≤ (9223372036854775807 : Int)) (
reqB ((-9223372036854775808 : Int) ≤ n7 + n10 - (10000 : Int)) (
reqB (n7 + n10 - (10000 : Int) ≤ (9223372036854775807 : Int)) (
reqB ((-9223372036854775808 : Int) ≤ n9) (
reqB (n9 ≤ (9223372036854775807 : Int)) (
reqB ((-9223372036854775808 : Int) ≤ n7) (
reqB (n7 ≤ (9223372036854775807 : Int)) (
reqB (sigLen.pre
  [DV.n ((1 : Int) + n6), DV.n (n7 + n10 - (10000 : Int)), DV.n (7 : Int), DV.n n9,
    DV.n n7]) (
allB fun n11 : Int => 
impB ((-9223372036854775808 : Int) ≤ n11) (
impB (n11 ≤ (9223372036854775807 : Int)) (
allB fun n12 : Int => 
impB ((-9223372036854775808 : Int) ≤ n12) (
impB (n12 ≤ (9223372036854775807 : Int)) (
impB (sigLen.post
  [DV.n ((1 : Int) + n6), DV.n (n7 + n10 - (10000 : Int)), DV.n (7 : Int), DV.n n9,
    DV.n n7]
  [DV.n n11, DV.n n12]) (
allB fun n13 : Int => 
impB (n13 = Go.IntKind.i64.wrap (n8 * ((1 : Int) + n6))) (
impB (Int.negSucc (9223372036854775807 : Nat) ≤ n13) (
impB (n13 ≤ Int.ofNat (9223372036854775807 : Nat)) (
allB fun n14 : Int => 
impB (n14 = Go.IntKind.i64.wrap (n9 + n13)) (
impB (Int.negSucc (9223372036854775807 : Nat) ≤ n14) (
impB (n14 ≤ Int.ofNat (9223372036854775807 : Nat)) (
reqB ((-9223372036854775808 : Int) ≤ (1 : Int) + n6) (
reqB ((1 : Int) + n6 ≤ (9223372036854775807 : Int)) (
reqB ((-9223372036854775808 : Int) ≤ n7 + n10 - (10000 : Int)) (
reqB (n7 + n10 - (10000 : Int) ≤ (9223372036854775807 : Int)) (
reqB ((-9223372036854775808 : Int) ≤ n14) (
reqB (n14 ≤ (9223372036854775807 : Int)) (
reqB ((-9223372036854775808 : Int) ≤ n7 + n8) (
reqB (n7 + n8 ≤ (9223372036854775807 : Int)) (
reqB (sigLen.pre
  [DV.n ((1 : Int) + n6), DV.n (n7 + n10 - (10000 : Int)), DV.n (7 : Int), DV.n n14,
    DV.n (n7 + n8)]) (
allB fun n15 : Int => 
impB ((-9223372036854775808 : Int) ≤ n15) (
impB (n15 ≤ (9223372036854775807 : Int)) (
allB fun n16 : Int => 
impB ((-9223372036854775808 : Int) ≤ n16) (
impB (n16 ≤ (9223372036854775807 : Int)) (
impB (sigLen.post
  [DV.n ((1 : Int) + n6), DV.n (n7 + n10 - (10000 : Int)), DV.n (7 : Int), DV.n n14,
    DV.n (n7 + n8)]
  [DV.n n15, DV.n n16]) (
reqB ((-9223372036854775808 : Int) ≤ (1 : Int) + n6) (
reqB ((1 : Int) + n6 ≤ (9223372036854775807 : Int)) (
reqB ((-9223372036854775808 : Int) ≤ n7 + n10 - (10000 : Int) + (1 : Int)) (
reqB (n7 + n10 - (10000 : Int) + (1 : Int) ≤ (9223372036854775807 : Int)) (
reqB ((-9223372036854775808 : Int) ≤ n9) (
reqB (n9 ≤ (9223372036854775807 : Int)) (
reqB ((-9223372036854775808 : Int) ≤ n7) (
reqB (n7 ≤ (9223372036854775807 : Int)) (
reqB (sigLen.pre
  [DV.n ((1 : Int) + n6), DV.n (n7 + n10 - (10000 : Int) + (1 : Int)), DV.n (7 : Int), DV.n n9,
    DV.n n7]) (
allB fun n17 : Int => 
impB ((-9223372036854775808 : Int) ≤ n17) (
impB (n17 ≤ (9223372036854775807 : Int)) (
allB fun n18 : Int => 
impB ((-9223372036854775808 : Int) ≤ n18) (
impB (n18 ≤ (9223372036854775807 : Int)) (
impB (sigLen.post
  [DV.n ((1 : Int) + n6), DV.n (n7 + n10 - (10000 : Int) + (1 : Int)), DV.n (7 : Int), DV.n n9,
    DV.n n7]
  [DV.n n17, DV.n n18]) (
bR (b5) (
 bR (dec (n12 = (0 : Int))) (
  bR (dec (n16 = (0 : Int))) (
   bR (dec (n18 = (0 : Int))) (
    bR (dec (n11 = n15)) (
     allB fun n19 : Int => 
     impB (n19 = Go.IntKind.i64.wrap (n17 - n11)) (
     impB (Int.negSucc (9223372036854775807 : Nat) ≤ n19) (
     impB (n19 ≤ Int.ofNat (9223372036854775807 : Nat)) (
     bR (dec (n19 = (299792458 : Int))) (
      reqB (sigL5.post [DV.n n0, DV.n n1, DV.n n2, DV.n n3, DV.n n4] [DV.b Bool.true]) (
      true)) (
      bR (dec (n11 < (0 : Int))) (
       bR (dec ((0 : Int) < n17)) (
        allB fun n20 : Int => 
        impB (n20 = Go.IntKind.i64.wrap (n17 - n11)) (
        impB (Int.negSucc (9223372036854775807 : Nat) ≤ n20) (
        impB (n20 ≤ Int.ofNat (9223372036854775807 : Nat)) (
        bR (dec ((299792457 : Int) ≤ n20)) (
         allB fun n21 : Int => 
         impB (n21 = Go.IntKind.i64.wrap (n17 - n11)) (
         impB (Int.negSucc (9223372036854775807 : Nat) ≤ n21) (
         impB (n21 ≤ Int.ofNat (9223372036854775807 : Nat)) (
         reqB (sigL5.post [DV.n n0, DV.n n1, DV.n n2, DV.n n3, DV.n n4]
  [DV.b (dec (n21 ≤ (299792459 : Int)))]) (
         true))))) (
         reqB (sigL5.post [DV.n n0, DV.n n1, DV.n n2, DV.n n3, DV.n n4] [DV.b Bool.false]) (
         true)))))) (
        reqB (sigL5.post [DV.n n0, DV.n n1, DV.n n2, DV.n n3, DV.n n4] [DV.b Bool.false]) (
        true))) (
       reqB (sigL5.post [DV.n n0, DV.n n1, DV.n n2, DV.n n3, DV.n n4] [DV.b Bool.false]) (
       true))))))) (
     reqB (sigL5.post [DV.n n0, DV.n n1, DV.n n2, DV.n n3, DV.n n4] [DV.b Bool.false]) (
     true))) (
    reqB (sigL5.post [DV.n n0, DV.n n1, DV.n n2, DV.n n3, DV.n n4] [DV.b Bool.false]) (
    true))) (
   reqB (sigL5.post [DV.n n0, DV.n n1, DV.n n2, DV.n n3, DV.n n4] [DV.b Bool.false]) (
   true))) (
  reqB (sigL5.post [DV.n n0, DV.n n1, DV.n n2, DV.n n3, DV.n n4] [DV.b Bool.false]) (
  true))) (
 reqB (sigL5.post [DV.n n0, DV.n n1, DV.n n2, DV.n n3, DV.n n4] [DV.b Bool.false]) (
 true)))))))))))))))))))))))))))))))))))))))))))))))))))))))))))))))))))))))))))))))))))))))))))))))) := by kernel_rfl
set_option maxHeartbeats 8000000 in
theorem vt_SpansShifts : vcFn Try.prog [(6, Ext.ctr (ctOf sigTrue0)), (26, Ext.ctr (ctOf (sigPickN 1000000000000))), (15, Ext.ctr (ctOf sigLen))] tab [] 100 8 sigL5 = true := by
  rw [vc_SpansShifts]
  refine all_i fun n0 => ?_
  refine imp_i fun h0 => ?_
  refine imp_i fun h1 => ?_
  refine all_i fun n1 => ?_
  refine imp_i fun h2 => ?_
  refine imp_i fun h3 => ?_
  refine all_i fun n2 => ?_
  refine imp_i fun h4 => ?_
  refine imp_i fun h5 => ?_
  refine all_i fun n3 => ?_
  refine imp_i fun h6 => ?_
  refine imp_i fun h7 => ?_
  refine all_i fun n4 => ?_
  refine imp_i fun h8 => ?_
  refine imp_i fun h9 => ?_
  refine imp_i fun h10 => ?_
  try simp only [sigRnd0, sigRnd, rndPost0, sigRnd1, rndPost1, rndPost, sigLen, lenPost, sigBnd, bndPost, sigL5, sigPickN, pickPost, sigTrue0, List.cons.injEq, DV.b.injEq, and_true] at h10
  refine req_i ?_ ?_
  · -- r0
    first | omega | trivial | (simp only [sigRnd0, sigRnd, rndPost0, sigRnd1, rndPost1, rndPost, sigLen, lenPost, sigBnd, bndPost, sigL5, sigPickN, pickPost, sigTrue0, List.cons.injEq, DV.b.injEq, and_true]; omega) | (simp only [sigRnd0, sigRnd, rndPost0, sigRnd1, rndPost1, rndPost, sigLen, lenPost, sigBnd, bndPost, sigL5, sigPickN, pickPost, sigTrue0, List.cons.injEq, DV.b.injEq, and_true]; trivial) | (simp only [sigRnd0, sigRnd, rndPost0, sigRnd1, rndPost1, rndPost, sigLen, lenPost, sigBnd, bndPost, sigL5, sigPickN, pickPost, sigTrue0, List.cons.injEq, DV.b.injEq, and_true]; grind)
  refine all_i fun b5 => ?_
  refine imp_i fun h11 => ?_
  try simp only [sigRnd0, sigRnd, rndPost0, sigRnd1, rndPost1, rndPost, sigLen, lenPost, sigBnd, bndPost, sigL5, sigPickN, pickPost, sigTrue0, List.cons.injEq, DV.b.injEq, and_true] at h11
  refine req_i ?_ ?_
  · -- r1
    first | omega | trivial | (simp only [sigRnd0, sigRnd, rndPost0, sigRnd1, rndPost1, rndPost, sigLen, lenPost, sigBnd, bndPost, sigL5, sigPickN, pickPost, sigTrue0, List.cons.injEq, DV.b.injEq, and_true]; omega) | (simp only [sigRnd0, sigRnd, rndPost0, sigRnd1, rndPost1, rndPost, sigLen, lenPost, sigBnd, bndPost, sigL5, sigPickN, pickPost, sigTrue0, List.cons.injEq, DV.b.injEq, and_true]; trivial) | (simp only [sigRnd0, sigRnd, rndPost0, sigRnd1, rndPost1, rndPost, sigLen, lenPost, sigBnd, bndPost, sigL5, sigPickN, pickPost, sigTrue0, List.cons.injEq, DV.b.injEq, and_true]; grind)
  refine req_i ?_ ?_
  · -- r2
    first | omega | trivial | (simp only [sigRnd0, sigRnd, rndPost0, sigRnd1, rndPost1, rndPost, sigLen, lenPost, sigBnd, bndPost, sigL5, sigPickN, pickPost, sigTrue0, List.cons.injEq, DV.b.injEq, and_true]; omega) | (simp only [sigRnd0, sigRnd, rndPost0, sigRnd1, rndPost1, rndPost, sigLen, lenPost, sigBnd, bndPost, sigL5, sigPickN, pickPost, sigTrue0, List.cons.injEq, DV.b.injEq, and_true]; trivial) | (simp only [sigRnd0, sigRnd, rndPost0, sigRnd1, rndPost1, rndPost, sigLen, lenPost, sigBnd, bndPost, sigL5, sigPickN, pickPost, sigTrue0, List.cons.injEq, DV.b.injEq, and_true]; grind)
  refine req_i ?_ ?_
  · -- r3
    first | omega | trivial | (simp only [sigRnd0, sigRnd, rndPost0, sigRnd1, rndPost1, rndPost, sigLen, lenPost, sigBnd, bndPost, sigL5, sigPickN, pickPost, sigTrue0, List.cons.injEq, DV.b.injEq, and_true]; omega) | (simp only [sigRnd0, sigRnd, rndPost0, sigRnd1, rndPost1, rndPost, sigLen, lenPost, sigBnd, bndPost, sigL5, sigPickN, pickPost, sigTrue0, List.cons.injEq, DV.b.injEq, and_true]; trivial) | (simp only [sigRnd0, sigRnd, rndPost0, sigRnd1, rndPost1, rndPost, sigLen, lenPost, sigBnd, bndPost, sigL5, sigPickN, pickPost, sigTrue0, List.cons.injEq, DV.b.injEq, and_true]; grind)
  refine all_i fun n6 => ?_
  refine imp_i fun h12 => ?_
  refine imp_i fun h13 => ?_
  refine imp_i fun h14 => ?_
  try simp only [sigRnd0, sigRnd, rndPost0, sigRnd1, rndPost1, rndPost, sigLen, lenPost, sigBnd, bndPost, sigL5, sigPickN, pickPost, sigTrue0, List.cons.injEq, DV.b.injEq, and_true] at h14
  refine req_i ?_ ?_
  · -- r4
    first | omega | trivial | (simp only [sigRnd0, sigRnd, rndPost0, sigRnd1, rndPost1, rndPost, sigLen, lenPost, sigBnd, bndPost, sigL5, sigPickN, pickPost, sigTrue0, List.cons.injEq, DV.b.injEq, and_true]; omega) | (simp only [sigRnd0, sigRnd, rndPost0, sigRnd1, rndPost1, rndPost, sigLen, lenPost, sigBnd, bndPost, sigL5, sigPickN, pickPost, sigTrue0, List.cons.injEq, DV.b.injEq, and_true]; trivial) | (simp only [sigRnd0, sigRnd, rndPost0, sigRnd1, rndPost1, rndPost, sigLen, lenPost, sigBnd, bndPost, sigL5, sigPickN, pickPost, sigTrue0, List.cons.injEq, DV.b.injEq, and_true]; grind)
  refine req_i ?_ ?_
  · -- r5
    first | omega | trivial | (simp only [sigRnd0, sigRnd, rndPost0, sigRnd1, rndPost1, rndPost, sigLen, lenPost, sigBnd, bndPost, sigL5, sigPickN, pickPost, sigTrue0, List.cons.injEq, DV.b.injEq, and_true]; omega) | (simp only [sigRnd0, sigRnd, rndPost0, sigRnd1, rndPost1, rndPost, sigLen, lenPost, sigBnd, bndPost, sigL5, sigPickN, pickPost, sigTrue0, List.cons.injEq, DV.b.injEq, and_true]; trivial) | (simp only [sigRnd0, sigRnd, rndPost0, sigRnd1, rndPost1, rndPost, sigLen, lenPost, sigBnd, bndPost, sigL5, sigPickN, pickPost, sigTrue0, List.cons.injEq, DV.b.injEq, and_true]; grind)
  refine req_i ?_ ?_
  · -- r6
    first | omega | trivial | (simp only [sigRnd0, sigRnd, rndPost0, sigRnd1, rndPost1, rndPost, sigLen, lenPost, sigBnd, bndPost, sigL5, sigPickN, pickPost, sigTrue0, List.cons.injEq, DV.b.injEq, and_true]; omega) | (simp only [sigRnd0, sigRnd, rndPost0, sigRnd1, rndPost1, rndPost, sigLen, lenPost, sigBnd, bndPost, sigL5, sigPickN, pickPost, sigTrue0, List.cons.injEq, DV.b.injEq, and_true]; trivial) | (simp only [sigRnd0, sigRnd, rndPost0, sigRnd1, rndPost1, rndPost, sigLen, lenPost, sigBnd, bndPost, sigL5, sigPickN, pickPost, sigTrue0, List.cons.injEq, DV.b.injEq, and_true]; grind)
  refine all_i fun n7 => ?_
  refine imp_i fun h15 => ?_
  refine imp_i fun h16 => ?_
  refine imp_i fun h17 => ?_
  try simp only [sigRnd0, sigRnd, rndPost0, sigRnd1, rndPost1, rndPost, sigLen, lenPost, sigBnd, bndPost, sigL5, sigPickN, pickPost, sigTrue0, List.cons.injEq, DV.b.injEq, and_true] at h17
  refine req_i ?_ ?_
  · -- r7
    first | omega | trivial | (simp only [sigRnd0, sigRnd, rndPost0, sigRnd1, rndPost1, rndPost, sigLen, lenPost, sigBnd, bndPost, sigL5, sigPickN, pickPost, sigTrue0, List.cons.injEq, DV.b.injEq, and_true]; omega) | (simp only [sigRnd0, sigRnd, rndPost0, sigRnd1, rndPost1, rndPost, sigLen, lenPost, sigBnd, bndPost, sigL5, sigPickN, pickPost, sigTrue0, List.cons.injEq, DV.b.injEq, and_true]; trivial) | (simp only [sigRnd0, sigRnd, rndPost0, sigRnd1, rndPost1, rndPost, sigLen, lenPost, sigBnd, bndPost, sigL5, sigPickN, pickPost, sigTrue0, List.cons.injEq, DV.b.injEq, and_true]; grind)
  refine req_i ?_ ?_
  · -- r8
    first | omega | trivial | (simp only [sigRnd0, sigRnd, rndPost0, sigRnd1, rndPost1, rndPost, sigLen, lenPost, sigBnd, bndPost, sigL5, sigPickN, pickPost, sigTrue0, List.cons.injEq, DV.b.injEq, and_true]; omega) | (simp only [sigRnd0, sigRnd, rndPost0, sigRnd1, rndPost1, rndPost, sigLen, lenPost, sigBnd, bndPost, sigL5, sigPickN, pickPost, sigTrue0, List.cons.injEq, DV.b.injEq, and_true]; trivial) | (simp only [sigRnd0, sigRnd, rndPost0, sigRnd1, rndPost1, rndPost, sigLen, lenPost, sigBnd, bndPost, sigL5, sigPickN, pickPost, sigTrue0, List.cons.injEq, DV.b.injEq, and_true]; grind)
  refine req_i ?_ ?_
  · -- r9
    first | omega | trivial | (simp only [sigRnd0, sigRnd, rndPost0, sigRnd1, rndPost1, rndPost, sigLen, lenPost, sigBnd, bndPost, sigL5, sigPickN, pickPost, sigTrue0, List.cons.injEq, DV.b.injEq, and_true]; omega) | (simp only [sigRnd0, sigRnd, rndPost0, sigRnd1, rndPost1, rndPost, sigLen, lenPost, sigBnd, bndPost, sigL5, sigPickN, pickPost, sigTrue0, List.cons.injEq, DV.b.injEq, and_true]; trivial) | (simp only [sigRnd0, sigRnd, rndPost0, sigRnd1, rndPost1, rndPost, sigLen, lenPost, sigBnd, bndPost, sigL5, sigPickN, pickPost, sigTrue0, List.cons.injEq, DV.b.injEq, and_true]; grind)
  refine all_i fun n8 => ?_
  refine imp_i fun h18 => ?_
  refine imp_i fun h19 => ?_
  refine imp_i fun h20 => ?_
  try simp only [sigRnd0, sigRnd, rndPost0, sigRnd1, rndPost1, rndPost, sigLen, lenPost, sigBnd, bndPost, sigL5, sigPickN, pickPost, sigTrue0, List.cons.injEq, DV.b.injEq, and_true] at h20
  refine req_i ?_ ?_
  · -- r10
    first | omega | trivial | (simp only [sigRnd0, sigRnd, rndPost0, sigRnd1, rndPost1, rndPost, sigLen, lenPost, sigBnd, bndPost, sigL5, sigPickN, pickPost, sigTrue0, List.cons.injEq, DV.b.injEq, and_true]; omega) | (simp only [sigRnd0, sigRnd, rndPost0, sigRnd1, rndPost1, rndPost, sigLen, lenPost, sigBnd, bndPost, sigL5, sigPickN, pickPost, sigTrue0, List.cons.injEq, DV.b.injEq, and_true]; trivial) | (simp only [sigRnd0, sigRnd, rndPost0, sigRnd1, rndPost1, rndPost, sigLen, lenPost, sigBnd, bndPost, sigL5, sigPickN, pickPost, sigTrue0, List.cons.injEq, DV.b.injEq, and_true]; grind)
  refine req_i ?_ ?_
  · -- r11
    first | omega | trivial | (simp only [sigRnd0, sigRnd, rndPost0, sigRnd1, rndPost1, rndPost, sigLen, lenPost, sigBnd, bndPost, sigL5, sigPickN, pickPost, sigTrue0, List.cons.injEq, DV.b.injEq, and_true]; omega) | (simp only [sigRnd0, sigRnd, rndPost0, sigRnd1, rndPost1, rndPost, sigLen, lenPost, sigBnd, bndPost, sigL5, sigPickN, pickPost, sigTrue0, List.cons.injEq, DV.b.injEq, and_true]; trivial) | (simp only [sigRnd0, sigRnd, rndPost0, sigRnd1, rndPost1, rndPost, sigLen, lenPost, sigBnd, bndPost, sigL5, sigPickN, pickPost, sigTrue0, List.cons.injEq, DV.b.injEq, and_true]; grind)
  refine req_i ?_ ?_
  · -- r12
    first | omega | trivial | (simp only [sigRnd0, sigRnd, rndPost0, sigRnd1, rndPost1, rndPost, sigLen, lenPost, sigBnd, bndPost, sigL5, sigPickN, pickPost, sigTrue0, List.cons.injEq, DV.b.injEq, and_true]; omega) | (simp only [sigRnd0, sigRnd, rndPost0, sigRnd1, rndPost1, rndPost, sigLen, lenPost, sigBnd, bndPost, sigL5, sigPickN, pickPost, sigTrue0, List.cons.injEq, DV.b.injEq, and_true]; trivial) | (simp only [sigRnd0, sigRnd, rndPost0, sigRnd1, rndPost1, rndPost, sigLen, lenPost, sigBnd, bndPost, sigL5, sigPickN, pickPost, sigTrue0, List.cons.injEq, DV.b.injEq, and_true]; grind)
  refine req_i ?_ ?_
  · -- r13
    first | omega | trivial | (simp only [sigRnd0, sigRnd, rndPost0, sigRnd1, rndPost1, rndPost, sigLen, lenPost, sigBnd, bndPost, sigL5, sigPickN, pickPost, sigTrue0, List.cons.injEq, DV.b.injEq, and_true]; omega) | (simp only [sigRnd0, sigRnd, rndPost0, sigRnd1, rndPost1, rndPost, sigLen, lenPost, sigBnd, bndPost, sigL5, sigPickN, pickPost, sigTrue0, List.cons.injEq, DV.b.injEq, and_true]; trivial) | (simp only [sigRnd0, sigRnd, rndPost0, sigRnd1, rndPost1, rndPost, sigLen, lenPost, sigBnd, bndPost, sigL5, sigPickN, pickPost, sigTrue0, List.cons.injEq, DV.b.injEq, and_true]; grind)
  refine req_i ?_ ?_
  · -- r14
    first | omega | trivial | (simp only [sigRnd0, sigRnd, rndPost0, sigRnd1, rndPost1, rndPost, sigLen, lenPost, sigBnd, bndPost, sigL5, sigPickN, pickPost, sigTrue0, List.cons.injEq, DV.b.injEq, and_true]; omega) | (simp only [sigRnd0, sigRnd, rndPost0, sigRnd1, rndPost1, rndPost, sigLen, lenPost, sigBnd, bndPost, sigL5, sigPickN, pickPost, sigTrue0, List.cons.injEq, DV.b.injEq, and_true]; trivial) | (simp only [sigRnd0, sigRnd, rndPost0, sigRnd1, rndPost1, rndPost, sigLen, lenPost, sigBnd, bndPost, sigL5, sigPickN, pickPost, sigTrue0, List.cons.injEq, DV.b.injEq, and_true]; grind)
  refine all_i fun n9 => ?_
  refine imp_i fun h21 => ?_
  refine imp_i fun h22 => ?_
  refine imp_i fun h23 => ?_
  try simp only [sigRnd0, sigRnd, rndPost0, sigRnd1, rndPost1, rndPost, sigLen, lenPost, sigBnd, bndPost, sigL5, sigPickN, pickPost, sigTrue0, List.cons.injEq, DV.b.injEq, and_true] at h23
  refine req_i ?_ ?_
  · -- r15
    first | omega | trivial | (simp only [sigRnd0, sigRnd, rndPost0, sigRnd1, rndPost1, rndPost, sigLen, lenPost, sigBnd, bndPost, sigL5, sigPickN, pickPost, sigTrue0, List.cons.injEq, DV.b.injEq, and_true]; omega) | (simp only [sigRnd0, sigRnd, rndPost0, sigRnd1, rndPost1, rndPost, sigLen, lenPost, sigBnd, bndPost, sigL5, sigPickN, pickPost, sigTrue0, List.cons.injEq, DV.b.injEq, and_true]; trivial) | (simp only [sigRnd0, sigRnd, rndPost0, sigRnd1, rndPost1, rndPost, sigLen, lenPost, sigBnd, bndPost, sigL5, sigPickN, pickPost, sigTrue0, List.cons.injEq, DV.b.injEq, and_true]; grind)
  refine req_i ?_ ?_
  · -- r16
    first | omega | trivial | (simp only [sigRnd0, sigRnd, rndPost0, sigRnd1, rndPost1, rndPost, sigLen, lenPost, sigBnd, bndPost, sigL5, sigPickN, pickPost, sigTrue0, List.cons.injEq, DV.b.injEq, and_true]; omega) | (simp only [sigRnd0, sigRnd, rndPost0, sigRnd1, rndPost1, rndPost, sigLen, lenPost, sigBnd, bndPost, sigL5, sigPickN, pickPost, sigTrue0, List.cons.injEq, DV.b.injEq, and_true]; trivial) | (simp only [sigRnd0, sigRnd, rndPost0, sigRnd1, rndPost1, rndPost, sigLen, lenPost, sigBnd, bndPost, sigL5, sigPickN, pickPost, sigTrue0, List.cons.injEq, DV.b.injEq, and_true]; grind)
  refine req_i ?_ ?_
  · -- r17
    first | omega | trivial | (simp only [sigRnd0, sigRnd, rndPost0, sigRnd1, rndPost1, rndPost, sigLen, lenPost, sigBnd, bndPost, sigL5, sigPickN, pickPost, sigTrue0, List.cons.injEq, DV.b.injEq, and_true]; omega) | (simp only [sigRnd0, sigRnd, rndPost0, sigRnd1, rndPost1, rndPost, sigLen, lenPost, sigBnd, bndPost, sigL5, sigPickN, pickPost, sigTrue0, List.cons.injEq, DV.b.injEq, and_true]; trivial) | (simp only [sigRnd0, sigRnd, rndPost0, sigRnd1, rndPost1, rndPost, sigLen, lenPost, sigBnd, bndPost, sigL5, sigPickN, pickPost, sigTrue0, List.cons.injEq, DV.b.injEq, and_true]; grind)
  refine all_i fun n10 => ?_
  refine imp_i fun h24 => ?_
  refine imp_i fun h25 => ?_
  refine imp_i fun h26 => ?_
  try simp only [sigRnd0, sigRnd, rndPost0, sigRnd1, rndPost1, rndPost, sigLen, lenPost, sigBnd, bndPost, sigL5, sigPickN, pickPost, sigTrue0, List.cons.injEq, DV.b.injEq, and_true] at h26
  refine req_i ?_ ?_
  · -- r18
    first | omega | trivial | (simp only [sigRnd0, sigRnd, rndPost0, sigRnd1, rndPost1, rndPost, sigLen, lenPost, sigBnd, bndPost, sigL5, sigPickN, pickPost, sigTrue0, List.cons.injEq, DV.b.injEq, and_true]; omega) | (simp only [sigRnd0, sigRnd, rndPost0, sigRnd1, rndPost1, rndPost, sigLen, lenPost, sigBnd, bndPost, sigL5, sigPickN, pickPost, sigTrue0, List.cons.injEq, DV.b.injEq, and_true]; trivial) | (simp only [sigRnd0, sigRnd, rndPost0, sigRnd1, rndPost1, rndPost, sigLen, lenPost, sigBnd, bndPost, sigL5, sigPickN, pickPost, sigTrue0, List.cons.injEq, DV.b.injEq, and_true]; grind)
  refine req_i ?_ ?_
  · -- r19
    first | omega | trivial | (simp only [sigRnd0, sigRnd, rndPost0, sigRnd1, rndPost1, rndPost, sigLen, lenPost, sigBnd, bndPost, sigL5, sigPickN, pickPost, sigTrue0, List.cons.injEq, DV.b.injEq, and_true]; omega) | (simp only [sigRnd0, sigRnd, rndPost0, sigRnd1, rndPost1, rndPost, sigLen, lenPost, sigBnd, bndPost, sigL5, sigPickN, pickPost, sigTrue0, List.cons.injEq, DV.b.injEq, and_true]; trivial) | (simp only [sigRnd0, sigRnd, rndPost0, sigRnd1, rndPost1, rndPost, sigLen, lenPost, sigBnd, bndPost, sigL5, sigPickN, pickPost, sigTrue0, List.cons.injEq, DV.b.injEq, and_true]; grind)
  refine req_i ?_ ?_
  · -- r20
    first | omega | trivial | (simp only [sigRnd0, sigRnd, rndPost0, sigRnd1, rndPost1, rndPost, sigLen, lenPost, sigBnd, bndPost, sigL5, sigPickN, pickPost, sigTrue0, List.cons.injEq, DV.b.injEq, and_true]; omega) | (simp only [sigRnd0, sigRnd, rndPost0, sigRnd1, rndPost1, rndPost, sigLen, lenPost, sigBnd, bndPost, sigL5, sigPickN, pickPost, sigTrue0, List.cons.injEq, DV.b.injEq, and_true]; trivial) | (simp only [sigRnd0, sigRnd, rndPost0, sigRnd1, rndPost1, rndPost, sigLen, lenPost, sigBnd, bndPost, sigL5, sigPickN, pickPost, sigTrue0, List.cons.injEq, DV.b.injEq, and_true]; grind)
  refine req_i ?_ ?_
  · -- r21
    first | omega | trivial | (simp only [sigRnd0, sigRnd, rndPost0, sigRnd1, rndPost1, rndPost, sigLen, lenPost, sigBnd, bndPost, sigL5, sigPickN, pickPost, sigTrue0, List.cons.injEq, DV.b.injEq, and_true]; omega) | (simp only [sigRnd0, sigRnd, rndPost0, sigRnd1, rndPost1, rndPost, sigLen, lenPost, sigBnd, bndPost, sigL5, sigPickN, pickPost, sigTrue0, List.cons.injEq, DV.b.injEq, and_true]; trivial) | (simp only [sigRnd0, sigRnd, rndPost0, sigRnd1, rndPost1, rndPost, sigLen, lenPost, sigBnd, bndPost, sigL5, sigPickN, pickPost, sigTrue0, List.cons.injEq, DV.b.injEq, and_true]; grind)
  refine req_i ?_ ?_
  · -- r22
    first | omega | trivial | (simp only [sigRnd0, sigRnd, rndPost0, sigRnd1, rndPost1, rndPost, sigLen, lenPost, sigBnd, bndPost, sigL5, sigPickN, pickPost, sigTrue0, List.cons.injEq, DV.b.injEq, and_true]; omega) | (simp only [sigRnd0, sigRnd, rndPost0, sigRnd1, rndPost1, rndPost, sigLen, lenPost, sigBnd, bndPost, sigL5, sigPickN, pickPost, sigTrue0, List.cons.injEq, DV.b.injEq, and_true]; trivial) | (simp only [sigRnd0, sigRnd, rndPost0, sigRnd1, rndPost1, rndPost, sigLen, lenPost, sigBnd, bndPost, sigL5, sigPickN, pickPost, sigTrue0, List.cons.injEq, DV.b.injEq, and_true]; grind)
  refine req_i ?_ ?_
  · -- r23
    first | omega | trivial | (simp only [sigRnd0, sigRnd, rndPost0, sigRnd1, rndPost1, rndPost, sigLen, lenPost, sigBnd, bndPost, sigL5, sigPickN, pickPost, sigTrue0, List.cons.injEq, DV.b.injEq, and_true]; omega) | (simp only [sigRnd0, sigRnd, rndPost0, sigRnd1, rndPost1, rndPost, sigLen, lenPost, sigBnd, bndPost, sigL5, sigPickN, pickPost, sigTrue0, List.cons.injEq, DV.b.injEq, and_true]; trivial) | (simp only [sigRnd0, sigRnd, rndPost0, sigRnd1, rndPost1, rndPost, sigLen, lenPost, sigBnd, bndPost, sigL5, sigPickN, pickPost, sigTrue0, List.cons.injEq, DV.b.injEq, and_true]; grind)
  refine req_i ?_ ?_
  · -- r24
    first | omega | trivial | (simp only [sigRnd0, sigRnd, rndPost0, sigRnd1, rndPost1, rndPost, sigLen, lenPost, sigBnd, bndPost, sigL5, sigPickN, pickPost, sigTrue0, List.cons.injEq, DV.b.injEq, and_true]; omega) | (simp only [sigRnd0, sigRnd, rndPost0, sigRnd1, rndPost1, rndPost, sigLen, lenPost, sigBnd, bndPost, sigL5, sigPickN, pickPost, sigTrue0, List.cons.injEq, DV.b.injEq, and_true]; trivial) | (simp only [sigRnd0, sigRnd, rndPost0, sigRnd1, rndPost1, rndPost, sigLen, lenPost, sigBnd, bndPost, sigL5, sigPickN, pickPost, sigTrue0, List.cons.injEq, DV.b.injEq, and_true]; grind)
  refine req_i ?_ ?_
  · -- r25
    first | omega | trivial | (simp only [sigRnd0, sigRnd, rndPost0, sigRnd1, rndPost1, rndPost, sigLen, lenPost, sigBnd, bndPost, sigL5, sigPickN, pickPost, sigTrue0, List.cons.injEq, DV.b.injEq, and_true]; omega) | (simp only [sigRnd0, sigRnd, rndPost0, sigRnd1, rndPost1, rndPost, sigLen, lenPost, sigBnd, bndPost, sigL5, sigPickN, pickPost, sigTrue0, List.cons.injEq, DV.b.injEq, and_true]; trivial) | (simp only [sigRnd0, sigRnd, rndPost0, sigRnd1, rndPost1, rndPost, sigLen, lenPost, sigBnd, bndPost, sigL5, sigPickN, pickPost, sigTrue0, List.cons.injEq, DV.b.injEq, and_true]; grind)
  refine req_i ?_ ?_
  · -- r26
    first | omega | trivial | (simp only [sigRnd0, sigRnd, rndPost0, sigRnd1, rndPost1, rndPost, sigLen, lenPost, sigBnd, bndPost, sigL5, sigPickN, pickPost, sigTrue0, List.cons.injEq, DV.b.injEq, and_true]; omega) | (simp only [sigRnd0, sigRnd, rndPost0, sigRnd1, rndPost1, rndPost, sigLen, lenPost, sigBnd, bndPost, sigL5, sigPickN, pickPost, sigTrue0, List.cons.injEq, DV.b.injEq, and_true]; trivial) | (simp only [sigRnd0, sigRnd, rndPost0, sigRnd1, rndPost1, rndPost, sigLen, lenPost, sigBnd, bndPost, sigL5, sigPickN, pickPost, sigTrue0, List.cons.injEq, DV.b.injEq, and_true]; grind)
  refine all_i fun n11 => ?_
  refine imp_i fun h27 => ?_
  refine imp_i fun h28 => ?_
  refine all_i fun n12 => ?_
  refine imp_i fun h29 => ?_
  refine imp_i fun h30 => ?_
  refine imp_i fun h31 => ?_
  try simp only [sigRnd0, sigRnd, rndPost0, sigRnd1, rndPost1, rndPost, sigLen, lenPost, sigBnd, bndPost, sigL5, sigPickN, pickPost, sigTrue0, List.cons.injEq, DV.b.injEq, and_true] at h31
  have k1 := mul_in (a := n10 - 10000) (l := 1 + n6) (A := 10000) (L := 8192) (by omega) (by omega) (by omega) (by omega)
  rw [show n7 + n10 - 10000 - n7 = n10 - 10000 by omega] at h31
  have k2 : -10001 * (1 + n6) ≤ (n10 - 10000) * (1 + n6) ∧ (n10 - 10000) * (1 + n6) ≤ 10001 * (1 + n6) := ⟨Int.mul_le_mul_of_nonneg_right (by omega) (by omega), Int.mul_le_mul_of_nonneg_right (by omega) (by omega)⟩
  have k3 := rnd_le (n := 299792458 * ((n10 - 10000) * (1 + n6) + n9)) (l := 1 + n6) (M := 10000000000000) (by omega) (by omega) (by omega)
  have e31 := h31 (by omega) (by omega) (by omega) (by omega) (by omega) (by omega) (by omega) (by omega) (by omega) (by omega) (by omega) (by omega) (by omega) (by omega)
  refine all_i fun n13 => ?_
  refine imp_i fun h32 => ?_
  simp only [wrap_i64, wrap_u64, wrap_u32, wrap_i32, wrap_u8, wrap_i8, wrap_u16, wrap_i16] at h32
  have k4 := mul_in (a := n8) (l := 1 + n6) (A := 1000) (L := 8192) (by omega) (by omega) (by omega) (by omega)
  have k5 := Int.mul_nonneg (show 0 ≤ n8 by omega) (show 0 ≤ 1 + n6 by omega)
  refine imp_i fun h33 => ?_
  refine imp_i fun h34 => ?_
  refine all_i fun n14 => ?_
  refine imp_i fun h35 => ?_
  simp only [wrap_i64, wrap_u64, wrap_u32, wrap_i32, wrap_u8, wrap_i8, wrap_u16, wrap_i16] at h35
  refine imp_i fun h36 => ?_
  refine imp_i fun h37 => ?_
  refine req_i ?_ ?_
  · -- r27
    first | omega | trivial | (simp only [sigRnd0, sigRnd, rndPost0, sigRnd1, rndPost1, rndPost, sigLen, lenPost, sigBnd, bndPost, sigL5, sigPickN, pickPost, sigTrue0, List.cons.injEq, DV.b.injEq, and_true]; omega) | (simp only [sigRnd0, sigRnd, rndPost0, sigRnd1, rndPost1, rndPost, sigLen, lenPost, sigBnd, bndPost, sigL5, sigPickN, pickPost, sigTrue0, List.cons.injEq, DV.b.injEq, and_true]; trivial) | (simp only [sigRnd0, sigRnd, rndPost0, sigRnd1, rndPost1, rndPost, sigLen, lenPost, sigBnd, bndPost, sigL5, sigPickN, pickPost, sigTrue0, List.cons.injEq, DV.b.injEq, and_true]; grind)
  refine req_i ?_ ?_
  · -- r28
    first | omega | trivial | (simp only [sigRnd0, sigRnd, rndPost0, sigRnd1, rndPost1, rndPost, sigLen, lenPost, sigBnd, bndPost, sigL5, sigPickN, pickPost, sigTrue0, List.cons.injEq, DV.b.injEq, and_true]; omega) | (simp only [sigRnd0, sigRnd, rndPost0, sigRnd1, rndPost1, rndPost, sigLen, lenPost, sigBnd, bndPost, sigL5, sigPickN, pickPost, sigTrue0, List.cons.injEq, DV.b.injEq, and_true]; trivial) | (simp only [sigRnd0, sigRnd, rndPost0, sigRnd1, rndPost1, rndPost, sigLen, lenPost, sigBnd, bndPost, sigL5, sigPickN, pickPost, sigTrue0, List.cons.injEq, DV.b.injEq, and_true]; grind)
  refine req_i ?_ ?_
  · -- r29
    first | omega | trivial | (simp only [sigRnd0, sigRnd, rndPost0, sigRnd1, rndPost1, rndPost, sigLen, lenPost, sigBnd, bndPost, sigL5, sigPickN, pickPost, sigTrue0, List.cons.injEq, DV.b.injEq, and_true]; omega) | (simp only [sigRnd0, sigRnd, rndPost0, sigRnd1, rndPost1, rndPost, sigLen, lenPost, sigBnd, bndPost, sigL5, sigPickN, pickPost, sigTrue0, List.cons.injEq, DV.b.injEq, and_true]; trivial) | (simp only [sigRnd0, sigRnd, rndPost0, sigRnd1, rndPost1, rndPost, sigLen, lenPost, sigBnd, bndPost, sigL5, sigPickN, pickPost, sigTrue0, List.cons.injEq, DV.b.injEq, and_true]; grind)
  refine req_i ?_ ?_
  · -- r30
    first | omega | trivial | (simp only [sigRnd0, sigRnd, rndPost0, sigRnd1, rndPost1, rndPost, sigLen, lenPost, sigBnd, bndPost, sigL5, sigPickN, pickPost, sigTrue0, List.cons.injEq, DV.b.injEq, and_true]; omega) | (simp only [sigRnd0, sigRnd, rndPost0, sigRnd1, rndPost1, rndPost, sigLen, lenPost, sigBnd, bndPost, sigL5, sigPickN, pickPost, sigTrue0, List.cons.injEq, DV.b.injEq, and_true]; trivial) | (simp only [sigRnd0, sigRnd, rndPost0, sigRnd1, rndPost1, rndPost, sigLen, lenPost, sigBnd, bndPost, sigL5, sigPickN, pickPost, sigTrue0, List.cons.injEq, DV.b.injEq, and_true]; grind)
  refine req_i ?_ ?_
  · -- r31
    first | omega | trivial | (simp only [sigRnd0, sigRnd, rndPost0, sigRnd1, rndPost1, rndPost, sigLen, lenPost, sigBnd, bndPost, sigL5, sigPickN, pickPost, sigTrue0, List.cons.injEq, DV.b.injEq, and_true]; omega) | (simp only [sigRnd0, sigRnd, rndPost0, sigRnd1, rndPost1, rndPost, sigLen, lenPost, sigBnd, bndPost, sigL5, sigPickN, pickPost, sigTrue0, List.cons.injEq, DV.b.injEq, and_true]; trivial) | (simp only [sigRnd0, sigRnd, rndPost0, sigRnd1, rndPost1, rndPost, sigLen, lenPost, sigBnd, bndPost, sigL5, sigPickN, pickPost, sigTrue0, List.cons.injEq, DV.b.injEq, and_true]; grind)
  refine req_i ?_ ?_
  · -- r32
    first | omega | trivial | (simp only [sigRnd0, sigRnd, rndPost0, sigRnd1, rndPost1, rndPost, sigLen, lenPost, sigBnd, bndPost, sigL5, sigPickN, pickPost, sigTrue0, List.cons.injEq, DV.b.injEq, and_true]; omega) | (simp only [sigRnd0, sigRnd, rndPost0, sigRnd1, rndPost1, rndPost, sigLen, lenPost, sigBnd, bndPost, sigL5, sigPickN, pickPost, sigTrue0, List.cons.injEq, DV.b.injEq, and_true]; trivial) | (simp only [sigRnd0, sigRnd, rndPost0, sigRnd1, rndPost1, rndPost, sigLen, lenPost, sigBnd, bndPost, sigL5, sigPickN, pickPost, sigTrue0, List.cons.injEq, DV.b.injEq, and_true]; grind)
  refine req_i ?_ ?_
  · -- r33
    first | omega | trivial | (simp only [sigRnd0, sigRnd, rndPost0, sigRnd1, rndPost1, rndPost, sigLen, lenPost, sigBnd, bndPost, sigL5, sigPickN, pickPost, sigTrue0, List.cons.injEq, DV.b.injEq, and_true]; omega) | (simp only [sigRnd0, sigRnd, rndPost0, sigRnd1, rndPost1, rndPost, sigLen, lenPost, sigBnd, bndPost, sigL5, sigPickN, pickPost, sigTrue0, List.cons.injEq, DV.b.injEq, and_true]; trivial) | (simp only [sigRnd0, sigRnd, rndPost0, sigRnd1, rndPost1, rndPost, sigLen, lenPost, sigBnd, bndPost, sigL5, sigPickN, pickPost, sigTrue0, List.cons.injEq, DV.b.injEq, and_true]; grind)
  refine req_i ?_ ?_
  · -- r34
    first | omega | trivial | (simp only [sigRnd0, sigRnd, rndPost0, sigRnd1, rndPost1, rndPost, sigLen, lenPost, sigBnd, bndPost, sigL5, sigPickN, pickPost, sigTrue0, List.cons.injEq, DV.b.injEq, and_true]; omega) | (simp only [sigRnd0, sigRnd, rndPost0, sigRnd1, rndPost1, rndPost, sigLen, lenPost, sigBnd, bndPost, sigL5, sigPickN, pickPost, sigTrue0, List.cons.injEq, DV.b.injEq, and_true]; trivial) | (simp only [sigRnd0, sigRnd, rndPost0, sigRnd1, rndPost1, rndPost, sigLen, lenPost, sigBnd, bndPost, sigL5, sigPickN, pickPost, sigTrue0, List.cons.injEq, DV.b.injEq, and_true]; grind)
  refine req_i ?_ ?_
  · -- r35
    first | omega | trivial | (simp only [sigRnd0, sigRnd, rndPost0, sigRnd1, rndPost1, rndPost, sigLen, lenPost, sigBnd, bndPost, sigL5, sigPickN, pickPost, sigTrue0, List.cons.injEq, DV.b.injEq, and_true]; omega) | (simp only [sigRnd0, sigRnd, rndPost0, sigRnd1, rndPost1, rndPost, sigLen, lenPost, sigBnd, bndPost, sigL5, sigPickN, pickPost, sigTrue0, List.cons.injEq, DV.b.injEq, and_true]; trivial) | (simp only [sigRnd0, sigRnd, rndPost0, sigRnd1, rndPost1, rndPost, sigLen, lenPost, sigBnd, bndPost, sigL5, sigPickN, pickPost, sigTrue0, List.cons.injEq, DV.b.injEq, and_true]; grind)
  refine all_i fun n15 => ?_
  refine imp_i fun h38 => ?_
  refine imp_i fun h39 => ?_
  refine all_i fun n16 => ?_
  refine imp_i fun h40 => ?_
  refine imp_i fun h41 => ?_
  refine imp_i fun h42 => ?_
  try simp only [sigRnd0, sigRnd, rndPost0, sigRnd1, rndPost1, rndPost, sigLen, lenPost, sigBnd, bndPost, sigL5, sigPickN, pickPost, sigTrue0, List.cons.injEq, DV.b.injEq, and_true] at h42
  rw [show (n7 + n10 - 10000 - (n7 + n8)) * (1 + n6) + n14 = (n10 - 10000) * (1 + n6) + n9 by rw [show n7 + n10 - 10000 - (n7 + n8) = (n10 - 10000) - n8 by omega, Int.sub_mul]; omega] at h42
  have e42 := h42 (by omega) (by omega) (by omega) (by omega) (by omega) (by omega) (by omega) (by omega) (by omega) (by omega) (by omega) (by omega) (by omega) (by omega)
  refine req_i ?_ ?_
  · -- r36
    first | omega | trivial | (simp only [sigRnd0, sigRnd, rndPost0, sigRnd1, rndPost1, rndPost, sigLen, lenPost, sigBnd, bndPost, sigL5, sigPickN, pickPost, sigTrue0, List.cons.injEq, DV.b.injEq, and_true]; omega) | (simp only [sigRnd0, sigRnd, rndPost0, sigRnd1, rndPost1, rndPost, sigLen, lenPost, sigBnd, bndPost, sigL5, sigPickN, pickPost, sigTrue0, List.cons.injEq, DV.b.injEq, and_true]; trivial) | (simp only [sigRnd0, sigRnd, rndPost0, sigRnd1, rndPost1, rndPost, sigLen, lenPost, sigBnd, bndPost, sigL5, sigPickN, pickPost, sigTrue0, List.cons.injEq, DV.b.injEq, and_true]; grind)
  refine req_i ?_ ?_
  · -- r37
    first | omega | trivial | (simp only [sigRnd0, sigRnd, rndPost0, sigRnd1, rndPost1, rndPost, sigLen, lenPost, sigBnd, bndPost, sigL5, sigPickN, pickPost, sigTrue0, List.cons.injEq, DV.b.injEq, and_true]; omega) | (simp only [sigRnd0, sigRnd, rndPost0, sigRnd1, rndPost1, rndPost, sigLen, lenPost, sigBnd, bndPost, sigL5, sigPickN, pickPost, sigTrue0, List.cons.injEq, DV.b.injEq, and_true]; trivial) | (simp only [sigRnd0, sigRnd, rndPost0, sigRnd1, rndPost1, rndPost, sigLen, lenPost, sigBnd, bndPost, sigL5, sigPickN, pickPost, sigTrue0, List.cons.injEq, DV.b.injEq, and_true]; grind)
  refine req_i ?_ ?_
  · -- r38
    first | omega | trivial | (simp only [sigRnd0, sigRnd, rndPost0, sigRnd1, rndPost1, rndPost, sigLen, lenPost, sigBnd, bndPost, sigL5, sigPickN, pickPost, sigTrue0, List.cons.injEq, DV.b.injEq, and_true]; omega) | (simp only [sigRnd0, sigRnd, rndPost0, sigRnd1, rndPost1, rndPost, sigLen, lenPost, sigBnd, bndPost, sigL5, sigPickN, pickPost, sigTrue0, List.cons.injEq, DV.b.injEq, and_true]; trivial) | (simp only [sigRnd0, sigRnd, rndPost0, sigRnd1, rndPost1, rndPost, sigLen, lenPost, sigBnd, bndPost, sigL5, sigPickN, pickPost, sigTrue0, List.cons.injEq, DV.b.injEq, and_true]; grind)
  refine req_i ?_ ?_
  · -- r39
    first | omega | trivial | (simp only [sigRnd0, sigRnd, rndPost0, sigRnd1, rndPost1, rndPost, sigLen, lenPost, sigBnd, bndPost, sigL5, sigPickN, pickPost, sigTrue0, List.cons.injEq, DV.b.injEq, and_true]; omega) | (simp only [sigRnd0, sigRnd, rndPost0, sigRnd1, rndPost1, rndPost, sigLen, lenPost, sigBnd, bndPost, sigL5, sigPickN, pickPost, sigTrue0, List.cons.injEq, DV.b.injEq, and_true]; trivial) | (simp only [sigRnd0, sigRnd, rndPost0, sigRnd1, rndPost1, rndPost, sigLen, lenPost, sigBnd, bndPost, sigL5, sigPickN, pickPost, sigTrue0, List.cons.injEq, DV.b.injEq, and_true]; grind)
  refine req_i ?_ ?_
  · -- r40
    first | omega | trivial | (simp only [sigRnd0, sigRnd, rndPost0, sigRnd1, rndPost1, rndPost, sigLen, lenPost, sigBnd, bndPost, sigL5, sigPickN, pickPost, sigTrue0, List.cons.injEq, DV.b.injEq, and_true]; omega) | (simp only [sigRnd0, sigRnd, rndPost0, sigRnd1, rndPost1, rndPost, sigLen, lenPost, sigBnd, bndPost, sigL5, sigPickN, pickPost, sigTrue0, List.cons.injEq, DV.b.injEq, and_true]; trivial) | (simp only [sigRnd0, sigRnd, rndPost0, sigRnd1, rndPost1, rndPost, sigLen, lenPost, sigBnd, bndPost, sigL5, sigPickN, pickPost, sigTrue0, List.cons.injEq, DV.b.injEq, and_true]; grind)
  refine req_i ?_ ?_
  · -- r41
    first | omega | trivial | (simp only [sigRnd0, sigRnd, rndPost0, sigRnd1, rndPost1, rndPost, sigLen, lenPost, sigBnd, bndPost, sigL5, sigPickN, pickPost, sigTrue0, List.cons.injEq, DV.b.injEq, and_true]; omega) | (simp only [sigRnd0, sigRnd, rndPost0, sigRnd1, rndPost1, rndPost, sigLen, lenPost, sigBnd, bndPost, sigL5, sigPickN, pickPost, sigTrue0, List.cons.injEq, DV.b.injEq, and_true]; trivial) | (simp only [sigRnd0, sigRnd, rndPost0, sigRnd1, rndPost1, rndPost, sigLen, lenPost, sigBnd, bndPost, sigL5, sigPickN, pickPost, sigTrue0, List.cons.injEq, DV.b.injEq, and_true]; grind)
  refine req_i ?_ ?_
  · -- r42
    first | omega | trivial | (simp only [sigRnd0, sigRnd, rndPost0, sigRnd1, rndPost1, rndPost, sigLen, lenPost, sigBnd, bndPost, sigL5, sigPickN, pickPost, sigTrue0, List.cons.injEq, DV.b.injEq, and_true]; omega) | (simp only [sigRnd0, sigRnd, rndPost0, sigRnd1, rndPost1, rndPost, sigLen, lenPost, sigBnd, bndPost, sigL5, sigPickN, pickPost, sigTrue0, List.cons.injEq, DV.b.injEq, and_true]; trivial) | (simp only [sigRnd0, sigRnd, rndPost0, sigRnd1, rndPost1, rndPost, sigLen, lenPost, sigBnd, bndPost, sigL5, sigPickN, pickPost, sigTrue0, List.cons.injEq, DV.b.injEq, and_true]; grind)
  refine req_i ?_ ?_
  · -- r43
    first | omega | trivial | (simp only [sigRnd0, sigRnd, rndPost0, sigRnd1, rndPost1, rndPost, sigLen, lenPost, sigBnd, bndPost, sigL5, sigPickN, pickPost, sigTrue0, List.cons.injEq, DV.b.injEq, and_true]; omega) | (simp only [sigRnd0, sigRnd, rndPost0, sigRnd1, rndPost1, rndPost, sigLen, lenPost, sigBnd, bndPost, sigL5, sigPickN, pickPost, sigTrue0, List.cons.injEq, DV.b.injEq, and_true]; trivial) | (simp only [sigRnd0, sigRnd, rndPost0, sigRnd1, rndPost1, rndPost, sigLen, lenPost, sigBnd, bndPost, sigL5, sigPickN, pickPost, sigTrue0, List.cons.injEq, DV.b.injEq, and_true]; grind)
  refine req_i ?_ ?_
  · -- r44
    first | omega | trivial | (simp only [sigRnd0, sigRnd, rndPost0, sigRnd1, rndPost1, rndPost, sigLen, lenPost, sigBnd, bndPost, sigL5, sigPickN, pickPost, sigTrue0, List.cons.injEq, DV.b.injEq, and_true]; omega) | (simp only [sigRnd0, sigRnd, rndPost0, sigRnd1, rndPost1, rndPost, sigLen, lenPost, sigBnd, bndPost, sigL5, sigPickN, pickPost, sigTrue0, List.cons.injEq, DV.b.injEq, and_true]; trivial) | (simp only [sigRnd0, sigRnd, rndPost0, sigRnd1, rndPost1, rndPost, sigLen, lenPost, sigBnd, bndPost, sigL5, sigPickN, pickPost, sigTrue0, List.cons.injEq, DV.b.injEq, and_true]; grind)
  refine all_i fun n17 => ?_
  refine imp_i fun h43 => ?_
  refine imp_i fun h44 => ?_
  refine all_i fun n18 => ?_
  refine imp_i fun h45 => ?_
  refine imp_i fun h46 => ?_
  refine imp_i fun h47 => ?_
  try simp only [sigRnd0, sigRnd, rndPost0, sigRnd1, rndPost1, rndPost, sigLen, lenPost, sigBnd, bndPost, sigL5, sigPickN, pickPost, sigTrue0, List.cons.injEq, DV.b.injEq, and_true] at h47
  rw [show (n7 + n10 - 10000 + 1 - n7) * (1 + n6) + n9 = (n10 - 10000) * (1 + n6) + n9 + (1 + n6) by rw [show n7 + n10 - 10000 + 1 - n7 = (n10 - 10000) + 1 by omega, Int.add_mul, Int.one_mul]; omega] at h47
  have k6 := rnd_le (n := 299792458 * ((n10 - 10000) * (1 + n6) + n9 + (1 + n6))) (l := 1 + n6) (M := 10000000000000) (by omega) (by omega) (by omega)
  have e47 := h47 (by omega) (by omega) (by omega) (by omega) (by omega) (by omega) (by omega) (by omega) (by omega) (by omega) (by omega) (by omega) (by omega) (by omega)
  have k7 := rnd_shift (l := 1 + n6) (N := (n10 - 10000) * (1 + n6) + n9) (by omega) (by omega)
  rw [← e31.1, ← e47.1] at k7
  refine bR_i (fun h48 => ?_) (fun h48 => ?_)
  ·
    refine bR_dec (fun h49 => ?_) (fun h49 => ?_)
    ·
      refine bR_dec (fun h50 => ?_) (fun h50 => ?_)
      ·
        refine bR_dec (fun h51 => ?_) (fun h51 => ?_)
        ·
          refine bR_dec (fun h52 => ?_) (fun h52 => ?_)
          ·
            refine all_i fun n19 => ?_
            refine imp_i fun h53 => ?_
            simp only [wrap_i64, wrap_u64, wrap_u32, wrap_i32, wrap_u8, wrap_i8, wrap_u16, wrap_i16] at h53
            refine imp_i fun h54 => ?_
            refine imp_i fun h55 => ?_
            refine bR_dec (fun h56 => ?_) (fun h56 => ?_)
            ·
              refine req_i ?_ ?_
              · -- r45
                rfl
              rfl
            ·
              refine bR_dec (fun h57 => ?_) (fun h57 => ?_)
              ·
                refine bR_dec (fun h58 => ?_) (fun h58 => ?_)
                ·
                  refine all_i fun n20 => ?_
                  refine imp_i fun h59 => ?_
                  simp only [wrap_i64, wrap_u64, wrap_u32, wrap_i32, wrap_u8, wrap_i8, wrap_u16, wrap_i16] at h59
                  refine imp_i fun h60 => ?_
                  refine imp_i fun h61 => ?_
                  refine bR_dec (fun h62 => ?_) (fun h62 => ?_)
                  ·
                    refine all_i fun n21 => ?_
                    refine imp_i fun h63 => ?_
                    simp only [wrap_i64, wrap_u64, wrap_u32, wrap_i32, wrap_u8, wrap_i8, wrap_u16, wrap_i16] at h63
                    refine imp_i fun h64 => ?_
                    refine imp_i fun h65 => ?_
                    refine req_i ?_ ?_
                    · -- r46
                      simp only [sigL5, List.cons.injEq, DV.b.injEq, and_true, dec_iff]; omega
                    rfl
                  ·
                    refine req_i ?_ ?_
                    · -- r47
                      first | omega | trivial | (simp only [sigRnd0, sigRnd, rndPost0, sigRnd1, rndPost1, rndPost, sigLen, lenPost, sigBnd, bndPost, sigL5, sigPickN, pickPost, sigTrue0, List.cons.injEq, DV.b.injEq, and_true]; omega) | (simp only [sigRnd0, sigRnd, rndPost0, sigRnd1, rndPost1, rndPost, sigLen, lenPost, sigBnd, bndPost, sigL5, sigPickN, pickPost, sigTrue0, List.cons.injEq, DV.b.injEq, and_true]; trivial) | (simp only [sigRnd0, sigRnd, rndPost0, sigRnd1, rndPost1, rndPost, sigLen, lenPost, sigBnd, bndPost, sigL5, sigPickN, pickPost, sigTrue0, List.cons.injEq, DV.b.injEq, and_true]; grind)
                    rfl
                ·
                  refine req_i ?_ ?_
                  · -- r48
                    first | omega | trivial | (simp only [sigRnd0, sigRnd, rndPost0, sigRnd1, rndPost1, rndPost, sigLen, lenPost, sigBnd, bndPost, sigL5, sigPickN, pickPost, sigTrue0, List.cons.injEq, DV.b.injEq, and_true]; omega) | (simp only [sigRnd0, sigRnd, rndPost0, sigRnd1, rndPost1, rndPost, sigLen, lenPost, sigBnd, bndPost, sigL5, sigPickN, pickPost, sigTrue0, List.cons.injEq, DV.b.injEq, and_true]; trivial) | (simp only [sigRnd0, sigRnd, rndPost0, sigRnd1, rndPost1, rndPost, sigLen, lenPost, sigBnd, bndPost, sigL5, sigPickN, pickPost, sigTrue0, List.cons.injEq, DV.b.injEq, and_true]; grind)
                  rfl
              ·
                refine req_i ?_ ?_
                · -- r49
                  first | omega | trivial | (simp only [sigRnd0, sigRnd, rndPost0, sigRnd1, rndPost1, rndPost, sigLen, lenPost, sigBnd, bndPost, sigL5, sigPickN, pickPost, sigTrue0, List.cons.injEq, DV.b.injEq, and_true]; omega) | (simp only [sigRnd0, sigRnd, rndPost0, sigRnd1, rndPost1, rndPost, sigLen, lenPost, sigBnd, bndPost, sigL5, sigPickN, pickPost, sigTrue0, List.cons.injEq, DV.b.injEq, and_true]; trivial) | (simp only [sigRnd0, sigRnd, rndPost0, sigRnd1, rndPost1, rndPost, sigLen, lenPost, sigBnd, bndPost, sigL5, sigPickN, pickPost, sigTrue0, List.cons.injEq, DV.b.injEq, and_true]; grind)
                rfl
          ·
            refine req_i ?_ ?_
            · -- r50
              first | omega | trivial | (simp only [sigRnd0, sigRnd, rndPost0, sigRnd1, rndPost1, rndPost, sigLen, lenPost, sigBnd, bndPost, sigL5, sigPickN, pickPost, sigTrue0, List.cons.injEq, DV.b.injEq, and_true]; omega) | (simp only [sigRnd0, sigRnd, rndPost0, sigRnd1, rndPost1, rndPost, sigLen, lenPost, sigBnd, bndPost, sigL5, sigPickN, pickPost, sigTrue0, List.cons.injEq, DV.b.injEq, and_true]; trivial) | (simp only [sigRnd0, sigRnd, rndPost0, sigRnd1, rndPost1, rndPost, sigLen, lenPost, sigBnd, bndPost, sigL5, sigPickN, pickPost, sigTrue0, List.cons.injEq, DV.b.injEq, and_true]; grind)
            rfl
        ·
          refine req_i ?_ ?_
          · -- r51
            first | omega | trivial | (simp only [sigRnd0, sigRnd, rndPost0, sigRnd1, rndPost1, rndPost, sigLen, lenPost, sigBnd, bndPost, sigL5, sigPickN, pickPost, sigTrue0, List.cons.injEq, DV.b.injEq, and_true]; omega) | (simp only [sigRnd0, sigRnd, rndPost0, sigRnd1, rndPost1, rndPost, sigLen, lenPost, sigBnd, bndPost, sigL5, sigPickN, pickPost, sigTrue0, List.cons.injEq, DV.b.injEq, and_true]; trivial) | (simp only [sigRnd0, sigRnd, rndPost0, sigRnd1, rndPost1, rndPost, sigLen, lenPost, sigBnd, bndPost, sigL5, sigPickN, pickPost, sigTrue0, List.cons.injEq, DV.b.injEq, and_true]; grind)
          rfl
      ·
        refine req_i ?_ ?_
        · -- r52
          first | omega | trivial | (simp only [sigRnd0, sigRnd, rndPost0, sigRnd1, rndPost1, rndPost, sigLen, lenPost, sigBnd, bndPost, sigL5, sigPickN, pickPost, sigTrue0, List.cons.injEq, DV.b.injEq, and_true]; omega) | (simp only [sigRnd0, sigRnd, rndPost0, sigRnd1, rndPost1, rndPost, sigLen, lenPost, sigBnd, bndPost, sigL5, sigPickN, pickPost, sigTrue0, List.cons.injEq, DV.b.injEq, and_true]; trivial) | (simp only [sigRnd0, sigRnd, rndPost0, sigRnd1, rndPost1, rndPost, sigLen, lenPost, sigBnd, bndPost, sigL5, sigPickN, pickPost, sigTrue0, List.cons.injEq, DV.b.injEq, and_true]; grind)
        rfl
    ·
      refine req_i ?_ ?_
      · -- r53
        first | omega | trivial | (simp only [sigRnd0, sigRnd, rndPost0, sigRnd1, rndPost1, rndPost, sigLen, lenPost, sigBnd, bndPost, sigL5, sigPickN, pickPost, sigTrue0, List.cons.injEq, DV.b.injEq, and_true]; omega) | (simp only [sigRnd0, sigRnd, rndPost0, sigRnd1, rndPost1, rndPost, sigLen, lenPost, sigBnd, bndPost, sigL5, sigPickN, pickPost, sigTrue0, List.cons.injEq, DV.b.injEq, and_true]; trivial) | (simp only [sigRnd0, sigRnd, rndPost0, sigRnd1, rndPost1, rndPost, sigLen, lenPost, sigBnd, bndPost, sigL5, sigPickN, pickPost, sigTrue0, List.cons.injEq, DV.b.injEq, and_true]; grind)
      rfl
  ·
    refine req_i ?_ ?_
    · -- r54
      first | omega | trivial | (simp only [sigRnd0, sigRnd, rndPost0, sigRnd1, rndPost1, rndPost, sigLen, lenPost, sigBnd, bndPost, sigL5, sigPickN, pickPost, sigTrue0, List.cons.injEq, DV.b.injEq, and_true]; omega) | (simp only [sigRnd0, sigRnd, rndPost0, sigRnd1, rndPost1, rndPost, sigLen, lenPost, sigBnd, bndPost, sigL5, sigPickN, pickPost, sigTrue0, List.cons.injEq, DV.b.injEq, and_true]; trivial) | (simp only [sigRnd0, sigRnd, rndPost0, sigRnd1, rndPost1, rndPost, sigLen, lenPost, sigBnd, bndPost, sigL5, sigPickN, pickPost, sigTrue0, List.cons.injEq, DV.b.injEq, and_true]; grind)
    rfl
theorem ext_SpansShifts : ∀ p ∈ ([(6, Ext.ctr (ctOf sigTrue0)), (26, Ext.ctr (ctOf (sigPickN 1000000000000))), (15, Ext.ctr (ctOf sigLen))] : List (Nat × Ext)), ExtRow Try.prog p.1 p.2 := by
  intro p hp
  simp only [List.mem_cons, List.not_mem_nil, or_false] at hp
  rcases hp with rfl | rfl | rfl <;> trivial
theorem cts_SpansShifts : CtsOk Try.prog [(6, Ext.ctr (ctOf sigTrue0)), (26, Ext.ctr (ctOf (sigPickN 1000000000000))), (15, Ext.ctr (ctOf sigLen))] := ctsOk_of (cs := [(6, sigTrue0), (26, (sigPickN 1000000000000)), (15, sigLen)])
  (fun p hp => by
    simp only [List.mem_cons, List.not_mem_nil, or_false] at hp
    rcases hp with rfl | rfl | rfl
    · exact fn_known
    · exact fn_pick
    · exact fn_length
)
  (fun f c h => by
    simp only [List.lookup_cons] at h
    repeat' split at h
    all_goals first | (cases h; done) | (rename_i e; have e := beq_iff_eq.1 e; subst e; cases h; exact ⟨_, by simp, rfl⟩))
theorem fn_SpansShifts : FnOk Try.prog 8 sigL5 [] := fn_sound (by kernel_rfl) ext_SpansShifts cts_SpansShifts names vt_SpansShifts
end Go.Proofs.Ytagndcelalcmpaa
