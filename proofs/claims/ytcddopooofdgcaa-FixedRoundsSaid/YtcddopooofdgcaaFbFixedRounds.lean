import Derived.Test.YtcddopooofdgcaaSpec01e
import Derived.Test.YtcddopooofdgcaaRows
import Derived.Test.YtcddopooofdgcaaFaFixedRounds
namespace Go.Proofs.Ytcddopooofdgcaa
open Go.Ev Go.Sp
set_option maxRecDepth 100000
theorem vc_FixedRounds : vcFn Try.prog [(10, Ext.ctr (ctOf sigTrue0)), (42, Ext.ctr (ctOf (sigPickN 4611686018427387904))), (41, Ext.ctr (ctOf sigSmall)), (43, Ext.ctr (ctOf sigNear)), (15, Ext.ctr (ctOf sigMulF)), (18, Ext.ctr (ctOf sigDivF)), (19, Ext.ctr (ctOf sigRatF))] tab [] 100 7 sigL4 = (allB fun n0 : Int => 
impB ((-9223372036854775808 : Int) ≤ n0) (
impB (n0 ≤ (9223372036854775807 : Int)) (
allB fun n1 : Int => 
impB ((-9223372036854775808 : Int) ≤ n1) (
impB (n1 ≤ (9223372036854775807 : Int)) (
allB fun n2 : Int => 
impB ((-9223372036854775808 : Int) ≤ n2) (
impB (n2 ≤ (9223372036854775807 : Int)) (
allB fun n3 : Int => 
impB ((-9223372036854775808 : Int) ≤ n3) (
impB (n3 ≤ (9223372036854775807 : Int)) (
impB (sigL4.pre [DV.n n0, DV.n n1, DV.n n2, DV.n n3]) (
reqB ((-9223372036854775808 : Int) ≤ n0) (
reqB (n0 ≤ (9223372036854775807 : Int)) (
reqB (sigSmall.pre [DV.n n0, DV.n (1000000 : Int)]) (
allB fun n4 : Int => 
impB ((-1000000 : Int) ≤ n4) (
impB (n4 ≤ (1000000 : Int)) (
impB (sigSmall.post [DV.n n0, DV.n (1000000 : Int)] [DV.n n4]) (
reqB ((-9223372036854775808 : Int) ≤ n1) (
reqB (n1 ≤ (9223372036854775807 : Int)) (
reqB (sigSmall.pre [DV.n n1, DV.n (1000000 : Int)]) (
allB fun n5 : Int => 
impB ((-1000000 : Int) ≤ n5) (
impB (n5 ≤ (1000000 : Int)) (
impB (sigSmall.post [DV.n n1, DV.n (1000000 : Int)] [DV.n n5]) (
reqB ((-9223372036854775808 : Int) ≤ n2) (
reqB (n2 ≤ (9223372036854775807 : Int)) (
reqB (sigSmall.pre [DV.n n2, DV.n (1000000 : Int)]) (
allB fun n6 : Int => 
impB ((-1000000 : Int) ≤ n6) (
impB (n6 ≤ (1000000 : Int)) (
impB (sigSmall.post [DV.n n2, DV.n (1000000 : Int)] [DV.n n6]) (
reqB ((-9223372036854775808 : Int) ≤ n3) (
reqB (n3 ≤ (9223372036854775807 : Int)) (
reqB ((sigPickN (4611686018427387904 : Int)).pre [DV.n n3, DV.n (21 : Int)]) (
allB fun n7 : Int => 
impB ((0 : Int) ≤ n7) (
impB (n7 ≤ (4611686018427387904 : Int)) (
impB ((sigPickN (4611686018427387904 : Int)).post [DV.n n3, DV.n (21 : Int)] [DV.n n7]) (
bR (dec (n6 = (0 : Int))) (
 reqB ((-9223372036854775808 : Int) ≤ n4) (
 reqB (n4 ≤ (9223372036854775807 : Int)) (
 reqB ((-9223372036854775808 : Int) ≤ n5) (
 reqB (n5 ≤ (9223372036854775807 : Int)) (
 reqB ((-9223372036854775808 : Int) ≤ n7) (
 reqB (n7 ≤ (9223372036854775807 : Int)) (
 reqB (sigMulF.pre [DV.n n4, DV.n n5, DV.n n7]) (
 allB fun n8 : Int => 
 impB ((-9223372036854775808 : Int) ≤ n8) (
 impB (n8 ≤ (9223372036854775807 : Int)) (
 allB fun n9 : Int => 
 impB ((0 : Int) ≤ n9) (
 impB (n9 ≤ (18 : Int)) (
 impB (sigMulF.post [DV.n n4, DV.n n5, DV.n n7] [DV.n n8, DV.n n9]) (
 reqB ((-9223372036854775808 : Int) ≤ n4) (
 reqB (n4 ≤ (9223372036854775807 : Int)) (
 reqB ((-9223372036854775808 : Int) ≤ n7) (
 reqB (n7 ≤ (9223372036854775807 : Int)) (
 reqB (sigDivF.pre [DV.n n4, DV.n (1 : Int), DV.n n7]) (
 allB fun n10 : Int => 
 impB ((-9223372036854775808 : Int) ≤ n10) (
 impB (n10 ≤ (9223372036854775807 : Int)) (
 allB fun n11 : Int => 
 impB ((0 : Int) ≤ n11) (
 impB (n11 ≤ (18 : Int)) (
 impB (sigDivF.post [DV.n n4, DV.n (1 : Int), DV.n n7] [DV.n n10, DV.n n11]) (
 reqB ((-9223372036854775808 : Int) ≤ n4) (
 reqB (n4 ≤ (9223372036854775807 : Int)) (
 reqB ((-9223372036854775808 : Int) ≤ n5) (
 reqB (n5 ≤ (9223372036854775807 : Int)) (
 reqB (sigRatF.pre [DV.n n4, DV.n n5, DV.n (1 : Int)]) (
 allB fun n12 : Int => 
 impB ((-9223372036854775808 : Int) ≤ n12) (
 impB (n12 ≤ (9223372036854775807 : Int)) (
 allB fun n13 : Int => 
 impB ((0 : Int) ≤ n13) (
 impB (n13 ≤ (18 : Int)) (
 impB (sigRatF.post [DV.n n4, DV.n n5, DV.n (1 : Int)] [DV.n n12, DV.n n13]) (
 reqB ((-9223372036854775808 : Int) ≤ (0 : Int) - n4) (
 reqB ((0 : Int) - n4 ≤ (9223372036854775807 : Int)) (
 reqB ((-9223372036854775808 : Int) ≤ n5) (
 reqB (n5 ≤ (9223372036854775807 : Int)) (
 reqB ((-9223372036854775808 : Int) ≤ n7) (
 reqB (n7 ≤ (9223372036854775807 : Int)) (
 reqB (sigMulF.pre [DV.n ((0 : Int) - n4), DV.n n5, DV.n n7]) (
 allB fun n14 : Int => 
 impB ((-9223372036854775808 : Int) ≤ n14) (
 impB (n14 ≤ (9223372036854775807 : Int)) (
 allB fun n15 : Int => 
 impB ((0 : Int) ≤ n15) (
 impB (n15 ≤ (18 : Int)) (
 impB (sigMulF.post [DV.n ((0 : Int) - n4), DV.n n5, DV.n n7] [DV.n n14, DV.n n15]) (
 reqB ((-9223372036854775808 : Int) ≤ n4) (
 reqB (n4 ≤ (9223372036854775807 : Int)) (
 reqB ((-9223372036854775808 : Int) ≤ n7) (
 reqB (n7 ≤ (9223372036854775807 : Int)) (
 reqB (sigDivF.pre [DV.n n4, DV.n (Int.negSucc (0 : Nat)), DV.n n7]) (
 allB fun n16 : Int => 
 impB ((-9223372036854775808 : Int) ≤ n16) (
 impB (n16 ≤ (9223372036854775807 : Int)) (
 allB fun n17 : Int => 
 impB ((0 : Int) ≤ n17) (
 impB (n17 ≤ (18 : Int)) (
 impB (sigDivF.post [DV.n n4, DV.n (Int.negSucc (0 : Nat)), DV.n n7] [DV.n n16, DV.n n17]) (
 reqB ((-9223372036854775808 : Int) ≤ n4) (
 reqB (n4 ≤ (9223372036854775807 : Int)) (
 reqB ((-9223372036854775808 : Int) ≤ (0 : Int) - n5) (
 reqB ((0 : Int) - n5 ≤ (9223372036854775807 : Int)) (
 reqB (sigRatF.pre [DV.n n4, DV.n ((0 : Int) - n5), DV.n (1 : Int)]) (
 allB fun n18 : Int => 
 impB ((-9223372036854775808 : Int) ≤ n18) (
 impB (n18 ≤ (9223372036854775807 : Int)) (
 allB fun n19 : Int => 
 impB ((0 : Int) ≤ n19) (
 impB (n19 ≤ (18 : Int)) (
 impB (sigRatF.post [DV.n n4, DV.n ((0 : Int) - n5), DV.n (1 : Int)] [DV.n n18, DV.n n19]) (
 reqB (sigTrue0.pre []) (
 allB fun b20 : Bool => 
 impB (sigTrue0.post [] [DV.b b20]) (
 bR (bR (b20) (
 false) (
 true)) (
 reqB (sigL4.post [DV.n n0, DV.n n1, DV.n n2, DV.n n3] [DV.b Bool.false]) (
 true)) (
 bR (dec (n9 ≠ (0 : Int))) (
 reqB (sigL4.post [DV.n n0, DV.n n1, DV.n n2, DV.n n3] [DV.b Bool.false]) (
 true)) (
 bR (dec (n11 ≠ (0 : Int))) (
 reqB (sigL4.post [DV.n n0, DV.n n1, DV.n n2, DV.n n3] [DV.b Bool.false]) (
 true)) (
 bR (dec (n13 ≠ (0 : Int))) (
 reqB (sigL4.post [DV.n n0, DV.n n1, DV.n n2, DV.n n3] [DV.b Bool.false]) (
 true)) (
 bR (dec (n15 ≠ (0 : Int))) (
 reqB (sigL4.post [DV.n n0, DV.n n1, DV.n n2, DV.n n3] [DV.b Bool.false]) (
 true)) (
 bR (dec (n17 ≠ (0 : Int))) (
 reqB (sigL4.post [DV.n n0, DV.n n1, DV.n n2, DV.n n3] [DV.b Bool.false]) (
 true)) (
 bR (dec (n19 ≠ (0 : Int))) (
 reqB (sigL4.post [DV.n n0, DV.n n1, DV.n n2, DV.n n3] [DV.b Bool.false]) (
 true)) (
 allB fun n21 : Int => 
 impB (n21 = Go.IntKind.i64.wrap ((0 : Int) - n8)) (
 impB (Int.negSucc (9223372036854775807 : Nat) ≤ n21) (
 impB (n21 ≤ Int.ofNat (9223372036854775807 : Nat)) (
 bR (dec (n14 ≠ n21)) (
 reqB (sigL4.post [DV.n n0, DV.n n1, DV.n n2, DV.n n3] [DV.b Bool.false]) (
 true)) (
 allB fun n22 : Int => 
 impB (n22 = Go.IntKind.i64.wrap ((0 : Int) - n10)) (
 impB (Int.negSucc (9223372036854775807 : Nat) ≤ n22) (
 impB (n22 ≤ Int.ofNat (9223372036854775807 : Nat)) (
 bR (dec (n16 ≠ n22)) (
 reqB (sigL4.post [DV.n n0, DV.n n1, DV.n n2, DV.n n3] [DV.b Bool.false]) (
 true)) (
 allB fun n23 : Int => 
 impB (n23 = Go.IntKind.i64.wrap ((0 : Int) - n12)) (
 impB (Int.negSucc (9223372036854775807 : Nat) ≤ n23) (
 impB (n23 ≤ Int.ofNat (9223372036854775807 : Nat)) (
 bR (dec (n18 ≠ n23)) (
 reqB (sigL4.post [DV.n n0, DV.n n1, DV.n n2, DV.n n3] [DV.b Bool.false]) (
 true)) (
 reqB ((-4398046511104 : Int) ≤ n8) (
 reqB (n8 ≤ (4398046511104 : Int)) (
 reqB ((-9223372036854775808 : Int) ≤ n4 * n5) (
 reqB (n4 * n5 ≤ (9223372036854775807 : Int)) (
 reqB ((-9223372036854775808 : Int) ≤ opI (SO.shl Go.IntKind.i64) (1 : Int) n7) (
 reqB (opI (SO.shl Go.IntKind.i64) (1 : Int) n7 ≤ (9223372036854775807 : Int)) (
 reqB (sigNear.pre
 [DV.n n8, DV.n (n4 * n5), DV.n (opI (SO.shl Go.IntKind.i64) (1 : Int) n7)]) (
 allB fun b24 : Bool => 
 impB (sigNear.post
 [DV.n n8, DV.n (n4 * n5), DV.n (opI (SO.shl Go.IntKind.i64) (1 : Int) n7)]
 [DV.b b24]) (
 bR (b24) (
 reqB ((-4398046511104 : Int) ≤ n10) (
 reqB (n10 ≤ (4398046511104 : Int)) (
 reqB ((-9223372036854775808 : Int) ≤ opI (SO.shl Go.IntKind.i64) n4 n7) (
 reqB (opI (SO.shl Go.IntKind.i64) n4 n7 ≤ (9223372036854775807 : Int)) (
 reqB (sigNear.pre [DV.n n10, DV.n (opI (SO.shl Go.IntKind.i64) n4 n7), DV.n (1 : Int)]) (
 allB fun b25 : Bool => 
 impB (sigNear.post [DV.n n10, DV.n (opI (SO.shl Go.IntKind.i64) n4 n7), DV.n (1 : Int)]
 [DV.b b25]) (
 bR (b25) (
 reqB ((-4398046511104 : Int) ≤ n12) (
 reqB (n12 ≤ (4398046511104 : Int)) (
 reqB ((-9223372036854775808 : Int) ≤ n4 * n5) (
 reqB (n4 * n5 ≤ (9223372036854775807 : Int)) (
 reqB (sigNear.pre [DV.n n12, DV.n (n4 * n5), DV.n (1 : Int)]) (
 allB fun b26 : Bool => 
 impB (sigNear.post [DV.n n12, DV.n (n4 * n5), DV.n (1 : Int)] [DV.b b26]) (
 reqB (sigL4.post [DV.n n0, DV.n n1, DV.n n2, DV.n n3] [DV.b b26]) (
 true)))))))) (
 reqB (sigL4.post [DV.n n0, DV.n n1, DV.n n2, DV.n n3] [DV.b Bool.false]) (
 true))))))))) (
 reqB (sigL4.post [DV.n n0, DV.n n1, DV.n n2, DV.n n3] [DV.b Bool.false]) (
 true)))))))))))))))))))))))))))))))))))))))))))))))))))))))))))))))))))))))))))))))))))))))))))))))) (
 reqB ((-9223372036854775808 : Int) ≤ n4) (
 reqB (n4 ≤ (9223372036854775807 : Int)) (
 reqB ((-9223372036854775808 : Int) ≤ n5) (
 reqB (n5 ≤ (9223372036854775807 : Int)) (
 reqB ((-9223372036854775808 : Int) ≤ n7) (
 reqB (n7 ≤ (9223372036854775807 : Int)) (
 reqB (sigMulF.pre [DV.n n4, DV.n n5, DV.n n7]) (
 allB fun n27 : Int => 
 impB ((-9223372036854775808 : Int) ≤ n27) (
 impB (n27 ≤ (9223372036854775807 : Int)) (
 allB fun n28 : Int => 
 impB ((0 : Int) ≤ n28) (
 impB (n28 ≤ (18 : Int)) (
 impB (sigMulF.post [DV.n n4, DV.n n5, DV.n n7] [DV.n n27, DV.n n28]) (
 reqB ((-9223372036854775808 : Int) ≤ n4) (
 reqB (n4 ≤ (9223372036854775807 : Int)) (
 reqB ((-9223372036854775808 : Int) ≤ n6) (
 reqB (n6 ≤ (9223372036854775807 : Int)) (
 reqB ((-9223372036854775808 : Int) ≤ n7) (
 reqB (n7 ≤ (9223372036854775807 : Int)) (
 reqB (sigDivF.pre [DV.n n4, DV.n n6, DV.n n7]) (
 allB fun n29 : Int => 
 impB ((-9223372036854775808 : Int) ≤ n29) (
 impB (n29 ≤ (9223372036854775807 : Int)) (
 allB fun n30 : Int => 
 impB ((0 : Int) ≤ n30) (
 impB (n30 ≤ (18 : Int)) (
 impB (sigDivF.post [DV.n n4, DV.n n6, DV.n n7] [DV.n n29, DV.n n30]) (
 reqB ((-9223372036854775808 : Int) ≤ n4) (
 reqB (n4 ≤ (9223372036854775807 : Int)) (
 reqB ((-9223372036854775808 : Int) ≤ n5) (
 reqB (n5 ≤ (9223372036854775807 : Int)) (
 reqB ((-9223372036854775808 : Int) ≤ n6) (
 reqB (n6 ≤ (9223372036854775807 : Int)) (
 reqB (sigRatF.pre [DV.n n4, DV.n n5, DV.n n6]) (
 allB fun n31 : Int => 
 impB ((-9223372036854775808 : Int) ≤ n31) (
 impB (n31 ≤ (9223372036854775807 : Int)) (
 allB fun n32 : Int => 
 impB ((0 : Int) ≤ n32) (
 impB (n32 ≤ (18 : Int)) (
 impB (sigRatF.post [DV.n n4, DV.n n5, DV.n n6] [DV.n n31, DV.n n32]) (
 reqB ((-9223372036854775808 : Int) ≤ (0 : Int) - n4) (
 reqB ((0 : Int) - n4 ≤ (9223372036854775807 : Int)) (
 reqB ((-9223372036854775808 : Int) ≤ n5) (
 reqB (n5 ≤ (9223372036854775807 : Int)) (
 reqB ((-9223372036854775808 : Int) ≤ n7) (
 reqB (n7 ≤ (9223372036854775807 : Int)) (
 reqB (sigMulF.pre [DV.n ((0 : Int) - n4), DV.n n5, DV.n n7]) (
 allB fun n33 : Int => 
 impB ((-9223372036854775808 : Int) ≤ n33) (
 impB (n33 ≤ (9223372036854775807 : Int)) (
 allB fun n34 : Int => 
 impB ((0 : Int) ≤ n34) (
 impB (n34 ≤ (18 : Int)) (
 impB (sigMulF.post [DV.n ((0 : Int) - n4), DV.n n5, DV.n n7] [DV.n n33, DV.n n34]) (
 reqB ((-9223372036854775808 : Int) ≤ n4) (
 reqB (n4 ≤ (9223372036854775807 : Int)) (
 reqB ((-9223372036854775808 : Int) ≤ (0 : Int) - n6) (
 reqB ((0 : Int) - n6 ≤ (9223372036854775807 : Int)) (
 reqB ((-9223372036854775808 : Int) ≤ n7) (
 reqB (n7 ≤ (9223372036854775807 : Int)) (
 reqB (sigDivF.pre [DV.n n4, DV.n ((0 : Int) - n6), DV.n n7]) (
 allB fun n35 : Int => 
 impB ((-9223372036854775808 : Int) ≤ n35) (
 impB (n35 ≤ (9223372036854775807 : Int)) (
 allB fun n36 : Int => 
 impB ((0 : Int) ≤ n36) (
 impB (n36 ≤ (18 : Int)) (
 impB (sigDivF.post [DV.n n4, DV.n ((0 : Int) - n6), DV.n n7] [DV.n n35, DV.n n36]) (
 reqB ((-9223372036854775808 : Int) ≤ n4) (
 reqB (n4 ≤ (9223372036854775807 : Int)) (
 reqB ((-9223372036854775808 : Int) ≤ (0 : Int) - n5) (
 reqB ((0 : Int) - n5 ≤ (9223372036854775807 : Int)) (
 reqB ((-9223372036854775808 : Int) ≤ n6) (
 reqB (n6 ≤ (9223372036854775807 : Int)) (
 reqB (sigRatF.pre [DV.n n4, DV.n ((0 : Int) - n5), DV.n n6]) (
 allB fun n37 : Int => 
 impB ((-9223372036854775808 : Int) ≤ n37) (
 impB (n37 ≤ (9223372036854775807 : Int)) (
 allB fun n38 : Int => 
 impB ((0 : Int) ≤ n38) (
 impB (n38 ≤ (18 : Int)) (
 impB (sigRatF.post [DV.n n4, DV.n ((0 : Int) - n5), DV.n n6] [DV.n n37, DV.n n38]) (
 reqB (sigTrue0.pre []) (
 allB fun b39 : Bool => 
 impB (sigTrue0.post [] [DV.b b39]) (
 bR (bR (b39) (
 false) (
 true)) (
 reqB (sigL4.post [DV.n n0, DV.n n1, DV.n n2, DV.n n3] [DV.b Bool.false]) (
 true)) (
 bR (dec (n28 ≠ (0 : Int))) (
 reqB (sigL4.post [DV.n n0, DV.n n1, DV.n n2, DV.n n3] [DV.b Bool.false]) (
 true)) (
 bR (dec (n30 ≠ (0 : Int))) (
 reqB (sigL4.post [DV.n n0, DV.n n1, DV.n n2, DV.n n3] [DV.b Bool.false]) (
 true)) (
 bR (dec (n32 ≠ (0 : Int))) (
 reqB (sigL4.post [DV.n n0, DV.n n1, DV.n n2, DV.n n3] [DV.b Bool.false]) (
 true)) (
 bR (dec (n34 ≠ (0 : Int))) (
 reqB (sigL4.post [DV.n n0, DV.n n1, DV.n n2, DV.n n3] [DV.b Bool.false]) (
 true)) (
 bR (dec (n36 ≠ (0 : Int))) (
 reqB (sigL4.post [DV.n n0, DV.n n1, DV.n n2, DV.n n3] [DV.b Bool.false]) (
 true)) (
 bR (dec (n38 ≠ (0 : Int))) (
 reqB (sigL4.post [DV.n n0, DV.n n1, DV.n n2, DV.n n3] [DV.b Bool.false]) (
 true)) (
 allB fun n40 : Int => 
 impB (n40 = Go.IntKind.i64.wrap ((0 : Int) - n27)) (
 impB (Int.negSucc (9223372036854775807 : Nat) ≤ n40) (
 impB (n40 ≤ Int.ofNat (9223372036854775807 : Nat)) (
 bR (dec (n33 ≠ n40)) (
 reqB (sigL4.post [DV.n n0, DV.n n1, DV.n n2, DV.n n3] [DV.b Bool.false]) (
 true)) (
 allB fun n41 : Int => 
 impB (n41 = Go.IntKind.i64.wrap ((0 : Int) - n29)) (
 impB (Int.negSucc (9223372036854775807 : Nat) ≤ n41) (
 impB (n41 ≤ Int.ofNat (9223372036854775807 : Nat)) (
 bR (dec (n35 ≠ n41)) (
 reqB (sigL4.post [DV.n n0, DV.n n1, DV.n n2, DV.n n3] [DV.b Bool.false]) (
 true)) (
 allB fun n42 : Int => 
 impB (n42 = Go.IntKind.i64.wrap ((0 : Int) - n31)) (
 impB (Int.negSucc (9223372036854775807 : Nat) ≤ n42) (
 impB (n42 ≤ Int.ofNat (9223372036854775807 : Nat)) (
 bR (dec (n37 ≠ n42)) (
 reqB (sigL4.post [DV.n n0, DV.n n1, DV.n n2, DV.n n3] [DV.b Bool.false]) (
 true)) (
 reqB ((-4398046511104 : Int) ≤ n27) (
 reqB (n27 ≤ (4398046511104 : Int)) (
 reqB ((-9223372036854775808 : Int) ≤ n4 * n5) (
 reqB (n4 * n5 ≤ (9223372036854775807 : Int)) (
 reqB ((-9223372036854775808 : Int) ≤ opI (SO.shl Go.IntKind.i64) (1 : Int) n7) (
 reqB (opI (SO.shl Go.IntKind.i64) (1 : Int) n7 ≤ (9223372036854775807 : Int)) (
 reqB (sigNear.pre
 [DV.n n27, DV.n (n4 * n5), DV.n (opI (SO.shl Go.IntKind.i64) (1 : Int) n7)]) (
 allB fun b43 : Bool => 
 impB (sigNear.post
 [DV.n n27, DV.n (n4 * n5), DV.n (opI (SO.shl Go.IntKind.i64) (1 : Int) n7)]
 [DV.b b43]) (
 bR (b43) (
 reqB ((-4398046511104 : Int) ≤ n29) (
 reqB (n29 ≤ (4398046511104 : Int)) (
 reqB ((-9223372036854775808 : Int) ≤ opI (SO.shl Go.IntKind.i64) n4 n7) (
 reqB (opI (SO.shl Go.IntKind.i64) n4 n7 ≤ (9223372036854775807 : Int)) (
 reqB ((-9223372036854775808 : Int) ≤ n6) (
 reqB (n6 ≤ (9223372036854775807 : Int)) (
 reqB (sigNear.pre [DV.n n29, DV.n (opI (SO.shl Go.IntKind.i64) n4 n7), DV.n n6]) (
 allB fun b44 : Bool => 
 impB (sigNear.post [DV.n n29, DV.n (opI (SO.shl Go.IntKind.i64) n4 n7), DV.n n6]
 [DV.b b44]) (
 bR (b44) (
 reqB ((-4398046511104 : Int) ≤ n31) (
 reqB (n31 ≤ (4398046511104 : Int)) (
 reqB ((-9223372036854775808 : Int) ≤ n4 * n5) (
 reqB (n4 * n5 ≤ (9223372036854775807 : Int)) (
 reqB ((-9223372036854775808 : Int) ≤ n6) (
 reqB (n6 ≤ (9223372036854775807 : Int)) (
 reqB (sigNear.pre [DV.n n31, DV.n (n4 * n5), DV.n n6]) (
 allB fun b45 : Bool => 
 impB (sigNear.post [DV.n n31, DV.n (n4 * n5), DV.n n6] [DV.b b45]) (
 reqB (sigL4.post [DV.n n0, DV.n n1, DV.n n2, DV.n n3] [DV.b b45]) (
 true)))))))))) (
 reqB (sigL4.post [DV.n n0, DV.n n1, DV.n n2, DV.n n3] [DV.b Bool.false]) (
 true))))))))))) (
 reqB (sigL4.post [DV.n n0, DV.n n1, DV.n n2, DV.n n3] [DV.b Bool.false]) (
 true)))))))))))))))))))))))))))))))))))))))))))))))))))))))))))))))))))))))))))))))))))))))))))))))))))))))))))))))))))))))))))))))))))))))))) := by kernel_rfl
set_option maxHeartbeats 8000000 in
theorem vt_FixedRounds : vcFn Try.prog [(10, Ext.ctr (ctOf sigTrue0)), (42, Ext.ctr (ctOf (sigPickN 4611686018427387904))), (41, Ext.ctr (ctOf sigSmall)), (43, Ext.ctr (ctOf sigNear)), (15, Ext.ctr (ctOf sigMulF)), (18, Ext.ctr (ctOf sigDivF)), (19, Ext.ctr (ctOf sigRatF))] tab [] 100 7 sigL4 = true := by
  rw [vc_FixedRounds]
  try simp only [Int.toNat_natCast, List.length_set, List.length_replicate, List.length_take, List.length_drop, List.length_append, List.length_cons, List.length_nil, Nat.min_self, List.take_take, lenCols_i, lenCols_b, List.drop_zero, List.take_length, Nat.add_eq, Nat.mul_eq, Nat.sub_eq, Nat.zero_add, Nat.sub_zero, Nat.mul_one]
  refine all_i fun n0 => ?_
  refine imp_i fun h0 => ?_
  refine imp_i fun h1 => ?_
  refine all_i fun n1 => ?_
  refine imp_i fun h2 => ?_
  refine imp_i fun h3 => ?_
  refine all_i fun n2 => ?_
  refine imp_i fun h4 => ?_
  refine imp_i fun h5 => ?_
  refine all_i fun n3 => ?_
  refine imp_i fun h6 => ?_
  refine imp_i fun h7 => ?_
  refine imp_i fun h8 => ?_
  try simp only [sigL4, List.cons.injEq, DV.b.injEq, and_true, List.length_cons, List.length_nil] at h8
  refine req_i ?_ ?_
  · -- r0
   first | omega | assumption | grind
  refine req_i ?_ ?_
  · -- r1
   first | omega | assumption | grind
  refine req_i ?_ ?_
  · -- r2
   first | trivial | assumption | (simp only [sigSmall, smallPost, List.cons.injEq, DV.b.injEq, and_true, List.length_cons, List.length_nil]; done) | ((try simp only [sigSmall, smallPost, List.cons.injEq, DV.b.injEq, and_true, List.length_cons, List.length_nil]); first | omega | assumption | grind)
  refine all_i fun n4 => ?_
  refine imp_i fun h9 => ?_
  refine imp_i fun h10 => ?_
  refine imp_i fun h11 => ?_
  try simp only [sigSmall, smallPost, List.cons.injEq, DV.b.injEq, and_true, List.length_cons, List.length_nil] at h11
  refine req_i ?_ ?_
  · -- r3
   first | omega | assumption | grind
  refine req_i ?_ ?_
  · -- r4
   first | omega | assumption | grind
  refine req_i ?_ ?_
  · -- r5
   first | trivial | assumption | (simp only [sigSmall, smallPost, List.cons.injEq, DV.b.injEq, and_true, List.length_cons, List.length_nil]; done) | ((try simp only [sigSmall, smallPost, List.cons.injEq, DV.b.injEq, and_true, List.length_cons, List.length_nil]); first | omega | assumption | grind)
  refine all_i fun n5 => ?_
  refine imp_i fun h12 => ?_
  refine imp_i fun h13 => ?_
  refine imp_i fun h14 => ?_
  try simp only [sigSmall, smallPost, List.cons.injEq, DV.b.injEq, and_true, List.length_cons, List.length_nil] at h14
  refine req_i ?_ ?_
  · -- r6
   first | omega | assumption | grind
  refine req_i ?_ ?_
  · -- r7
   first | omega | assumption | grind
  refine req_i ?_ ?_
  · -- r8
   first | trivial | assumption | (simp only [sigSmall, smallPost, List.cons.injEq, DV.b.injEq, and_true, List.length_cons, List.length_nil]; done) | ((try simp only [sigSmall, smallPost, List.cons.injEq, DV.b.injEq, and_true, List.length_cons, List.length_nil]); first | omega | assumption | grind)
  refine all_i fun n6 => ?_
  refine imp_i fun h15 => ?_
  refine imp_i fun h16 => ?_
  refine imp_i fun h17 => ?_
  try simp only [sigSmall, smallPost, List.cons.injEq, DV.b.injEq, and_true, List.length_cons, List.length_nil] at h17
  refine req_i ?_ ?_
  · -- r9
   first | omega | assumption | grind
  refine req_i ?_ ?_
  · -- r10
   first | omega | assumption | grind
  refine req_i ?_ ?_
  · -- r11
   first | trivial | assumption | (simp only [sigPickN, pickPost, List.cons.injEq, DV.b.injEq, and_true, List.length_cons, List.length_nil]; done) | ((try simp only [sigPickN, pickPost, List.cons.injEq, DV.b.injEq, and_true, List.length_cons, List.length_nil]); first | omega | assumption | grind)
  refine all_i fun n7 => ?_
  refine imp_i fun h18 => ?_
  refine imp_i fun h19 => ?_
  refine imp_i fun h20 => ?_
  try simp only [sigPickN, pickPost, List.cons.injEq, DV.b.injEq, and_true, List.length_cons, List.length_nil] at h20
  have t7 : 0 ≤ n7 ∧ n7 ≤ 20 := by omega
  have pp := p2_pos n7
  have pl := p2_20 t7.2
  have m1 := mul_in2 (a := n4) (b := n5) (A := 1000000) (B := 1000000) (by omega) (by omega) (by omega) (by omega)
  have m2 := mul_in2 (a := n4) (b := p2 n7) (A := 1000000) (B := 1048576) (by omega) (by omega) (by omega) (by omega)
  have s1 : opI (.shl .i64) 1 n7 = p2 n7 := shl_one (by omega) (by omega)
  have s2 : opI (.shl .i64) n4 n7 = n4 * p2 n7 := shl_eq (by omega) (by omega) (by omega) (by omega)
  rw [s1, s2]
  refine bR_dec (fun h21 => ?_) (fun h21 => ?_)
  ·
   refine req_i ?_ ?_
   · -- r12
    first | omega | assumption | grind
   refine req_i ?_ ?_
   · -- r13
    first | omega | assumption | grind
   refine req_i ?_ ?_
   · -- r14
    first | omega | assumption | grind
   refine req_i ?_ ?_
   · -- r15
    first | omega | assumption | grind
   refine req_i ?_ ?_
   · -- r16
    first | omega | assumption | grind
   refine req_i ?_ ?_
   · -- r17
    first | omega | assumption | grind
   refine req_i ?_ ?_
   · -- r18
    first | trivial | assumption | (simp only [sigMulF, mulFPost, List.cons.injEq, DV.b.injEq, and_true, List.length_cons, List.length_nil]; done) | ((try simp only [sigMulF, mulFPost, List.cons.injEq, DV.b.injEq, and_true, List.length_cons, List.length_nil]); first | omega | assumption | grind)
   refine all_i fun n8 => ?_
   refine imp_i fun h22 => ?_
   refine imp_i fun h23 => ?_
   refine all_i fun n9 => ?_
   refine imp_i fun h24 => ?_
   refine imp_i fun h25 => ?_
   refine imp_i fun h26 => ?_
   try simp only [Int.toNat_natCast, List.length_set, List.length_replicate, List.length_take, List.length_drop, List.length_append, List.length_cons, List.length_nil, Nat.min_self, List.take_take, lenCols_i, lenCols_b, List.drop_zero, List.take_length, Nat.add_eq, Nat.mul_eq, Nat.sub_eq, Nat.zero_add, Nat.sub_zero, Nat.mul_one] at h26
   obtain ⟨e1, mn, x1⟩ := mul_near h26 (by omega) (by omega) (by omega) (by omega) (by omega) (by omega)
   refine req_i ?_ ?_
   · -- r19
    first | omega | assumption | grind
   refine req_i ?_ ?_
   · -- r20
    first | omega | assumption | grind
   refine req_i ?_ ?_
   · -- r21
    first | omega | assumption | grind
   refine req_i ?_ ?_
   · -- r22
    first | omega | assumption | grind
   refine req_i ?_ ?_
   · -- r23
    first | trivial | assumption | (simp only [sigDivF, divFPost, List.cons.injEq, DV.b.injEq, and_true, List.length_cons, List.length_nil]; done) | ((try simp only [sigDivF, divFPost, List.cons.injEq, DV.b.injEq, and_true, List.length_cons, List.length_nil]); first | omega | assumption | grind)
   refine all_i fun n10 => ?_
   refine imp_i fun h27 => ?_
   refine imp_i fun h28 => ?_
   refine all_i fun n11 => ?_
   refine imp_i fun h29 => ?_
   refine imp_i fun h30 => ?_
   refine imp_i fun h31 => ?_
   try simp only [Int.toNat_natCast, List.length_set, List.length_replicate, List.length_take, List.length_drop, List.length_append, List.length_cons, List.length_nil, Nat.min_self, List.take_take, lenCols_i, lenCols_b, List.drop_zero, List.take_length, Nat.add_eq, Nat.mul_eq, Nat.sub_eq, Nat.zero_add, Nat.sub_zero, Nat.mul_one] at h31
   obtain ⟨e2, dn, x2⟩ := div_near h31 (by omega) (by omega) (by omega) (by omega) (by omega) (by omega) (by omega)
   refine req_i ?_ ?_
   · -- r24
    first | omega | assumption | grind
   refine req_i ?_ ?_
   · -- r25
    first | omega | assumption | grind
   refine req_i ?_ ?_
   · -- r26
    first | omega | assumption | grind
   refine req_i ?_ ?_
   · -- r27
    first | omega | assumption | grind
   refine req_i ?_ ?_
   · -- r28
    first | trivial | assumption | (simp only [sigRatF, ratPost, List.cons.injEq, DV.b.injEq, and_true, List.length_cons, List.length_nil]; done) | ((try simp only [sigRatF, ratPost, List.cons.injEq, DV.b.injEq, and_true, List.length_cons, List.length_nil]); first | omega | assumption | grind)
   refine all_i fun n12 => ?_
   refine imp_i fun h32 => ?_
   refine imp_i fun h33 => ?_
   refine all_i fun n13 => ?_
   refine imp_i fun h34 => ?_
   refine imp_i fun h35 => ?_
   refine imp_i fun h36 => ?_
   try simp only [Int.toNat_natCast, List.length_set, List.length_replicate, List.length_take, List.length_drop, List.length_append, List.length_cons, List.length_nil, Nat.min_self, List.take_take, lenCols_i, lenCols_b, List.drop_zero, List.take_length, Nat.add_eq, Nat.mul_eq, Nat.sub_eq, Nat.zero_add, Nat.sub_zero, Nat.mul_one] at h36
   obtain ⟨e3, qn, x3⟩ := rat_near h36 (by omega) (by omega) (by omega) (by omega) (by omega) (by omega) (by omega)
   refine req_i ?_ ?_
   · -- r29
    first | omega | assumption | grind
   refine req_i ?_ ?_
   · -- r30
    first | omega | assumption | grind
   refine req_i ?_ ?_
   · -- r31
    first | omega | assumption | grind
   refine req_i ?_ ?_
   · -- r32
    first | omega | assumption | grind
   refine req_i ?_ ?_
   · -- r33
    first | omega | assumption | grind
   refine req_i ?_ ?_
   · -- r34
    first | omega | assumption | grind
   refine req_i ?_ ?_
   · -- r35
    first | trivial | assumption | (simp only [sigMulF, mulFPost, List.cons.injEq, DV.b.injEq, and_true, List.length_cons, List.length_nil]; done) | ((try simp only [sigMulF, mulFPost, List.cons.injEq, DV.b.injEq, and_true, List.length_cons, List.length_nil]); first | omega | assumption | grind)
   refine all_i fun n14 => ?_
   refine imp_i fun h37 => ?_
   refine imp_i fun h38 => ?_
   refine all_i fun n15 => ?_
   refine imp_i fun h39 => ?_
   refine imp_i fun h40 => ?_
   refine imp_i fun h41 => ?_
   try simp only [Int.toNat_natCast, List.length_set, List.length_replicate, List.length_take, List.length_drop, List.length_append, List.length_cons, List.length_nil, Nat.min_self, List.take_take, lenCols_i, lenCols_b, List.drop_zero, List.take_length, Nat.add_eq, Nat.mul_eq, Nat.sub_eq, Nat.zero_add, Nat.sub_zero, Nat.mul_one] at h41
   obtain ⟨g1, f1⟩ := mul_neg h26 h41 (by omega) (by omega) (by omega) (by omega) (by omega) (by omega) (by omega)
   refine req_i ?_ ?_
   · -- r36
    first | omega | assumption | grind
   refine req_i ?_ ?_
   · -- r37
    first | omega | assumption | grind
   refine req_i ?_ ?_
   · -- r38
    first | omega | assumption | grind
   refine req_i ?_ ?_
   · -- r39
    first | omega | assumption | grind
   refine req_i ?_ ?_
   · -- r40
    first | trivial | assumption | (simp only [sigDivF, divFPost, List.cons.injEq, DV.b.injEq, and_true, List.length_cons, List.length_nil]; done) | ((try simp only [sigDivF, divFPost, List.cons.injEq, DV.b.injEq, and_true, List.length_cons, List.length_nil]); first | omega | assumption | grind)
   refine all_i fun n16 => ?_
   refine imp_i fun h42 => ?_
   refine imp_i fun h43 => ?_
   refine all_i fun n17 => ?_
   refine imp_i fun h44 => ?_
   refine imp_i fun h45 => ?_
   refine imp_i fun h46 => ?_
   try simp only [Int.toNat_natCast, List.length_set, List.length_replicate, List.length_take, List.length_drop, List.length_append, List.length_cons, List.length_nil, Nat.min_self, List.take_take, lenCols_i, lenCols_b, List.drop_zero, List.take_length, Nat.add_eq, Nat.mul_eq, Nat.sub_eq, Nat.zero_add, Nat.sub_zero, Nat.mul_one] at h46
   obtain ⟨g2, f2⟩ := div_neg h31 h46 (by first | omega | decide) (by omega) (by omega) (by omega) (by omega) (by omega)
   refine req_i ?_ ?_
   · -- r41
    first | omega | assumption | grind
   refine req_i ?_ ?_
   · -- r42
    first | omega | assumption | grind
   refine req_i ?_ ?_
   · -- r43
    first | omega | assumption | grind
   refine req_i ?_ ?_
   · -- r44
    first | omega | assumption | grind
   refine req_i ?_ ?_
   · -- r45
    first | trivial | assumption | (simp only [sigRatF, ratPost, List.cons.injEq, DV.b.injEq, and_true, List.length_cons, List.length_nil]; done) | ((try simp only [sigRatF, ratPost, List.cons.injEq, DV.b.injEq, and_true, List.length_cons, List.length_nil]); first | omega | assumption | grind)
   refine all_i fun n18 => ?_
   refine imp_i fun h47 => ?_
   refine imp_i fun h48 => ?_
   refine all_i fun n19 => ?_
   refine imp_i fun h49 => ?_
   refine imp_i fun h50 => ?_
   refine imp_i fun h51 => ?_
   try simp only [Int.toNat_natCast, List.length_set, List.length_replicate, List.length_take, List.length_drop, List.length_append, List.length_cons, List.length_nil, Nat.min_self, List.take_take, lenCols_i, lenCols_b, List.drop_zero, List.take_length, Nat.add_eq, Nat.mul_eq, Nat.sub_eq, Nat.zero_add, Nat.sub_zero, Nat.mul_one] at h51
   obtain ⟨g3, f3⟩ := rat_neg h36 h51 (by omega) (by omega) (by omega) (by omega) (by omega) (by omega)
   refine req_i ?_ ?_
   · -- r46
    first | omega | assumption | grind
   refine all_i fun b20 => ?_
   refine imp_i fun h52 => ?_
   try simp only [sigTrue0, List.cons.injEq, DV.b.injEq, and_true, List.length_cons, List.length_nil] at h52
   refine bR_i (fun h53 => ?_) (fun h53 => ?_)
   ·
    simp only [bR_iff, bR_iff_f, dec_iff, dec_f, Bool.false_eq_true, Bool.true_eq_false, false_implies, imp_false, and_true, true_and, implies_true, Classical.not_not] at h53
    refine req_i ?_ ?_
    · -- r47
     first | omega | ((try simp only [sigL4, List.cons.injEq, DV.b.injEq, and_true, List.length_cons, List.length_nil]); first | done | omega | assumption | grind [getD_set, getD_rep, toNat_succ, cntN_yes, cntN_no])
    rfl
   ·
    simp only [bR_iff, bR_iff_f, dec_iff, dec_f, Bool.false_eq_true, Bool.true_eq_false, false_implies, imp_false, and_true, true_and, implies_true, Classical.not_not] at h53
    refine bR_dec (fun h54 => ?_) (fun h54 => ?_)
    ·
     refine req_i ?_ ?_
     · -- r48
      first | omega | ((try simp only [sigL4, List.cons.injEq, DV.b.injEq, and_true, List.length_cons, List.length_nil]); first | done | omega | assumption | grind [getD_set, getD_rep, toNat_succ, cntN_yes, cntN_no])
     rfl
    ·
     refine bR_dec (fun h55 => ?_) (fun h55 => ?_)
     ·
      refine req_i ?_ ?_
      · -- r49
       first | omega | ((try simp only [sigL4, List.cons.injEq, DV.b.injEq, and_true, List.length_cons, List.length_nil]); first | done | omega | assumption | grind [getD_set, getD_rep, toNat_succ, cntN_yes, cntN_no])
      rfl
     ·
      refine bR_dec (fun h56 => ?_) (fun h56 => ?_)
      ·
       refine req_i ?_ ?_
       · -- r50
        first | omega | ((try simp only [sigL4, List.cons.injEq, DV.b.injEq, and_true, List.length_cons, List.length_nil]); first | done | omega | assumption | grind [getD_set, getD_rep, toNat_succ, cntN_yes, cntN_no])
       rfl
      ·
       refine bR_dec (fun h57 => ?_) (fun h57 => ?_)
       ·
        refine req_i ?_ ?_
        · -- r51
         first | omega | ((try simp only [sigL4, List.cons.injEq, DV.b.injEq, and_true, List.length_cons, List.length_nil]); first | done | omega | assumption | grind [getD_set, getD_rep, toNat_succ, cntN_yes, cntN_no])
        rfl
       ·
        refine bR_dec (fun h58 => ?_) (fun h58 => ?_)
        ·
         refine req_i ?_ ?_
         · -- r52
          first | omega | ((try simp only [sigL4, List.cons.injEq, DV.b.injEq, and_true, List.length_cons, List.length_nil]); first | done | omega | assumption | grind [getD_set, getD_rep, toNat_succ, cntN_yes, cntN_no])
         rfl
        ·
         refine bR_dec (fun h59 => ?_) (fun h59 => ?_)
         ·
          refine req_i ?_ ?_
          · -- r53
           first | omega | ((try simp only [sigL4, List.cons.injEq, DV.b.injEq, and_true, List.length_cons, List.length_nil]); first | done | omega | assumption | grind [getD_set, getD_rep, toNat_succ, cntN_yes, cntN_no])
          rfl
         ·
          refine all_i fun n21 => ?_
          refine imp_i fun h60 => ?_
          simp only [wrap_i64] at h60
          refine imp_i fun h61 => ?_
          refine imp_i fun h62 => ?_
          refine bR_dec (fun h63 => ?_) (fun h63 => ?_)
          ·
           refine req_i ?_ ?_
           · -- r54
            first | omega | ((try simp only [sigL4, List.cons.injEq, DV.b.injEq, and_true, List.length_cons, List.length_nil]); first | done | omega | assumption | grind [getD_set, getD_rep, toNat_succ, cntN_yes, cntN_no])
           rfl
          ·
           refine all_i fun n22 => ?_
           refine imp_i fun h64 => ?_
           simp only [wrap_i64] at h64
           refine imp_i fun h65 => ?_
           refine imp_i fun h66 => ?_
           refine bR_dec (fun h67 => ?_) (fun h67 => ?_)
           ·
            refine req_i ?_ ?_
            · -- r55
             first | omega | ((try simp only [sigL4, List.cons.injEq, DV.b.injEq, and_true, List.length_cons, List.length_nil]); first | done | omega | assumption | grind [getD_set, getD_rep, toNat_succ, cntN_yes, cntN_no])
            rfl
           ·
            refine all_i fun n23 => ?_
            refine imp_i fun h68 => ?_
            simp only [wrap_i64] at h68
            refine imp_i fun h69 => ?_
            refine imp_i fun h70 => ?_
            refine bR_dec (fun h71 => ?_) (fun h71 => ?_)
            ·
             refine req_i ?_ ?_
             · -- r56
              first | omega | ((try simp only [sigL4, List.cons.injEq, DV.b.injEq, and_true, List.length_cons, List.length_nil]); first | done | omega | assumption | grind [getD_set, getD_rep, toNat_succ, cntN_yes, cntN_no])
             rfl
            ·
             refine req_i ?_ ?_
             · -- r57
              first | omega | assumption | grind
             refine req_i ?_ ?_
             · -- r58
              first | omega | assumption | grind
             refine req_i ?_ ?_
             · -- r59
              first | omega | assumption | grind
             refine req_i ?_ ?_
             · -- r60
              first | omega | assumption | grind
             refine req_i ?_ ?_
             · -- r61
              first | omega | assumption | grind
             refine req_i ?_ ?_
             · -- r62
              first | omega | assumption | grind
             refine req_i ?_ ?_
             · -- r63
              exact mn
             refine all_i fun b24 => ?_
             refine imp_i fun h72 => ?_
             try simp only [sigNear, nearPre, List.cons.injEq, DV.b.injEq, and_true, List.length_cons, List.length_nil] at h72
             refine bR_i (fun h73 => ?_) (fun h73 => ?_)
             ·
              refine req_i ?_ ?_
              · -- r64
               first | omega | assumption | grind
              refine req_i ?_ ?_
              · -- r65
               first | omega | assumption | grind
              refine req_i ?_ ?_
              · -- r66
               first | omega | assumption | grind
              refine req_i ?_ ?_
              · -- r67
               first | omega | assumption | grind
              refine req_i ?_ ?_
              · -- r68
               exact dn
              refine all_i fun b25 => ?_
              refine imp_i fun h74 => ?_
              try simp only [sigNear, nearPre, List.cons.injEq, DV.b.injEq, and_true, List.length_cons, List.length_nil] at h74
              refine bR_i (fun h75 => ?_) (fun h75 => ?_)
              ·
               refine req_i ?_ ?_
               · -- r69
                first | omega | assumption | grind
               refine req_i ?_ ?_
               · -- r70
                first | omega | assumption | grind
               refine req_i ?_ ?_
               · -- r71
                first | omega | assumption | grind
               refine req_i ?_ ?_
               · -- r72
                first | omega | assumption | grind
               refine req_i ?_ ?_
               · -- r73
                exact qn
               refine all_i fun b26 => ?_
               refine imp_i fun h76 => ?_
               try simp only [sigNear, nearPre, List.cons.injEq, DV.b.injEq, and_true, List.length_cons, List.length_nil] at h76
               refine req_i ?_ ?_
               · -- r74
                first | omega | ((try simp only [sigL4, List.cons.injEq, DV.b.injEq, and_true, List.length_cons, List.length_nil]); first | done | omega | assumption | grind [getD_set, getD_rep, toNat_succ, cntN_yes, cntN_no])
               rfl
              ·
               refine req_i ?_ ?_
               · -- r75
                first | omega | ((try simp only [sigL4, List.cons.injEq, DV.b.injEq, and_true, List.length_cons, List.length_nil]); first | done | omega | assumption | grind [getD_set, getD_rep, toNat_succ, cntN_yes, cntN_no])
               rfl
             ·
              refine req_i ?_ ?_
              · -- r76
               first | omega | ((try simp only [sigL4, List.cons.injEq, DV.b.injEq, and_true, List.length_cons, List.length_nil]); first | done | omega | assumption | grind [getD_set, getD_rep, toNat_succ, cntN_yes, cntN_no])
              rfl
  ·
   refine req_i ?_ ?_
   · -- r77
    first | omega | assumption | grind
   refine req_i ?_ ?_
   · -- r78
    first | omega | assumption | grind
   refine req_i ?_ ?_
   · -- r79
    first | omega | assumption | grind
   refine req_i ?_ ?_
   · -- r80
    first | omega | assumption | grind
   refine req_i ?_ ?_
   · -- r81
    first | omega | assumption | grind
   refine req_i ?_ ?_
   · -- r82
    first | omega | assumption | grind
   refine req_i ?_ ?_
   · -- r83
    first | trivial | assumption | (simp only [sigMulF, mulFPost, List.cons.injEq, DV.b.injEq, and_true, List.length_cons, List.length_nil]; done) | ((try simp only [sigMulF, mulFPost, List.cons.injEq, DV.b.injEq, and_true, List.length_cons, List.length_nil]); first | omega | assumption | grind)
   refine all_i fun n27 => ?_
   refine imp_i fun h77 => ?_
   refine imp_i fun h78 => ?_
   refine all_i fun n28 => ?_
   refine imp_i fun h79 => ?_
   refine imp_i fun h80 => ?_
   refine imp_i fun h81 => ?_
   try simp only [Int.toNat_natCast, List.length_set, List.length_replicate, List.length_take, List.length_drop, List.length_append, List.length_cons, List.length_nil, Nat.min_self, List.take_take, lenCols_i, lenCols_b, List.drop_zero, List.take_length, Nat.add_eq, Nat.mul_eq, Nat.sub_eq, Nat.zero_add, Nat.sub_zero, Nat.mul_one] at h81
   obtain ⟨e1, mn, x1⟩ := mul_near h81 (by omega) (by omega) (by omega) (by omega) (by omega) (by omega)
   refine req_i ?_ ?_
   · -- r84
    first | omega | assumption | grind
   refine req_i ?_ ?_
   · -- r85
    first | omega | assumption | grind
   refine req_i ?_ ?_
   · -- r86
    first | omega | assumption | grind
   refine req_i ?_ ?_
   · -- r87
    first | omega | assumption | grind
   refine req_i ?_ ?_
   · -- r88
    first | omega | assumption | grind
   refine req_i ?_ ?_
   · -- r89
    first | omega | assumption | grind
   refine req_i ?_ ?_
   · -- r90
    first | trivial | assumption | (simp only [sigDivF, divFPost, List.cons.injEq, DV.b.injEq, and_true, List.length_cons, List.length_nil]; done) | ((try simp only [sigDivF, divFPost, List.cons.injEq, DV.b.injEq, and_true, List.length_cons, List.length_nil]); first | omega | assumption | grind)
   refine all_i fun n29 => ?_
   refine imp_i fun h82 => ?_
   refine imp_i fun h83 => ?_
   refine all_i fun n30 => ?_
   refine imp_i fun h84 => ?_
   refine imp_i fun h85 => ?_
   refine imp_i fun h86 => ?_
   try simp only [Int.toNat_natCast, List.length_set, List.length_replicate, List.length_take, List.length_drop, List.length_append, List.length_cons, List.length_nil, Nat.min_self, List.take_take, lenCols_i, lenCols_b, List.drop_zero, List.take_length, Nat.add_eq, Nat.mul_eq, Nat.sub_eq, Nat.zero_add, Nat.sub_zero, Nat.mul_one] at h86
   obtain ⟨e2, dn, x2⟩ := div_near h86 (by omega) (by omega) (by omega) (by omega) (by omega) (by omega) (by omega)
   refine req_i ?_ ?_
   · -- r91
    first | omega | assumption | grind
   refine req_i ?_ ?_
   · -- r92
    first | omega | assumption | grind
   refine req_i ?_ ?_
   · -- r93
    first | omega | assumption | grind
   refine req_i ?_ ?_
   · -- r94
    first | omega | assumption | grind
   refine req_i ?_ ?_
   · -- r95
    first | omega | assumption | grind
   refine req_i ?_ ?_
   · -- r96
    first | omega | assumption | grind
   refine req_i ?_ ?_
   · -- r97
    first | trivial | assumption | (simp only [sigRatF, ratPost, List.cons.injEq, DV.b.injEq, and_true, List.length_cons, List.length_nil]; done) | ((try simp only [sigRatF, ratPost, List.cons.injEq, DV.b.injEq, and_true, List.length_cons, List.length_nil]); first | omega | assumption | grind)
   refine all_i fun n31 => ?_
   refine imp_i fun h87 => ?_
   refine imp_i fun h88 => ?_
   refine all_i fun n32 => ?_
   refine imp_i fun h89 => ?_
   refine imp_i fun h90 => ?_
   refine imp_i fun h91 => ?_
   try simp only [Int.toNat_natCast, List.length_set, List.length_replicate, List.length_take, List.length_drop, List.length_append, List.length_cons, List.length_nil, Nat.min_self, List.take_take, lenCols_i, lenCols_b, List.drop_zero, List.take_length, Nat.add_eq, Nat.mul_eq, Nat.sub_eq, Nat.zero_add, Nat.sub_zero, Nat.mul_one] at h91
   obtain ⟨e3, qn, x3⟩ := rat_near h91 (by omega) (by omega) (by omega) (by omega) (by omega) (by omega) (by omega)
   refine req_i ?_ ?_
   · -- r98
    first | omega | assumption | grind
   refine req_i ?_ ?_
   · -- r99
    first | omega | assumption | grind
   refine req_i ?_ ?_
   · -- r100
    first | omega | assumption | grind
   refine req_i ?_ ?_
   · -- r101
    first | omega | assumption | grind
   refine req_i ?_ ?_
   · -- r102
    first | omega | assumption | grind
   refine req_i ?_ ?_
   · -- r103
    first | omega | assumption | grind
   refine req_i ?_ ?_
   · -- r104
    first | trivial | assumption | (simp only [sigMulF, mulFPost, List.cons.injEq, DV.b.injEq, and_true, List.length_cons, List.length_nil]; done) | ((try simp only [sigMulF, mulFPost, List.cons.injEq, DV.b.injEq, and_true, List.length_cons, List.length_nil]); first | omega | assumption | grind)
   refine all_i fun n33 => ?_
   refine imp_i fun h92 => ?_
   refine imp_i fun h93 => ?_
   refine all_i fun n34 => ?_
   refine imp_i fun h94 => ?_
   refine imp_i fun h95 => ?_
   refine imp_i fun h96 => ?_
   try simp only [Int.toNat_natCast, List.length_set, List.length_replicate, List.length_take, List.length_drop, List.length_append, List.length_cons, List.length_nil, Nat.min_self, List.take_take, lenCols_i, lenCols_b, List.drop_zero, List.take_length, Nat.add_eq, Nat.mul_eq, Nat.sub_eq, Nat.zero_add, Nat.sub_zero, Nat.mul_one] at h96
   obtain ⟨g1, f1⟩ := mul_neg h81 h96 (by omega) (by omega) (by omega) (by omega) (by omega) (by omega) (by omega)
   refine req_i ?_ ?_
   · -- r105
    first | omega | assumption | grind
   refine req_i ?_ ?_
   · -- r106
    first | omega | assumption | grind
   refine req_i ?_ ?_
   · -- r107
    first | omega | assumption | grind
   refine req_i ?_ ?_
   · -- r108
    first | omega | assumption | grind
   refine req_i ?_ ?_
   · -- r109
    first | omega | assumption | grind
   refine req_i ?_ ?_
   · -- r110
    first | omega | assumption | grind
   refine req_i ?_ ?_
   · -- r111
    first | trivial | assumption | (simp only [sigDivF, divFPost, List.cons.injEq, DV.b.injEq, and_true, List.length_cons, List.length_nil]; done) | ((try simp only [sigDivF, divFPost, List.cons.injEq, DV.b.injEq, and_true, List.length_cons, List.length_nil]); first | omega | assumption | grind)
   refine all_i fun n35 => ?_
   refine imp_i fun h97 => ?_
   refine imp_i fun h98 => ?_
   refine all_i fun n36 => ?_
   refine imp_i fun h99 => ?_
   refine imp_i fun h100 => ?_
   refine imp_i fun h101 => ?_
   try simp only [Int.toNat_natCast, List.length_set, List.length_replicate, List.length_take, List.length_drop, List.length_append, List.length_cons, List.length_nil, Nat.min_self, List.take_take, lenCols_i, lenCols_b, List.drop_zero, List.take_length, Nat.add_eq, Nat.mul_eq, Nat.sub_eq, Nat.zero_add, Nat.sub_zero, Nat.mul_one] at h101
   obtain ⟨g2, f2⟩ := div_neg h86 h101 (by first | omega | decide) (by omega) (by omega) (by omega) (by omega) (by omega)
   refine req_i ?_ ?_
   · -- r112
    first | omega | assumption | grind
   refine req_i ?_ ?_
   · -- r113
    first | omega | assumption | grind
   refine req_i ?_ ?_
   · -- r114
    first | omega | assumption | grind
   refine req_i ?_ ?_
   · -- r115
    first | omega | assumption | grind
   refine req_i ?_ ?_
   · -- r116
    first | omega | assumption | grind
   refine req_i ?_ ?_
   · -- r117
    first | omega | assumption | grind
   refine req_i ?_ ?_
   · -- r118
    first | trivial | assumption | (simp only [sigRatF, ratPost, List.cons.injEq, DV.b.injEq, and_true, List.length_cons, List.length_nil]; done) | ((try simp only [sigRatF, ratPost, List.cons.injEq, DV.b.injEq, and_true, List.length_cons, List.length_nil]); first | omega | assumption | grind)
   refine all_i fun n37 => ?_
   refine imp_i fun h102 => ?_
   refine imp_i fun h103 => ?_
   refine all_i fun n38 => ?_
   refine imp_i fun h104 => ?_
   refine imp_i fun h105 => ?_
   refine imp_i fun h106 => ?_
   try simp only [Int.toNat_natCast, List.length_set, List.length_replicate, List.length_take, List.length_drop, List.length_append, List.length_cons, List.length_nil, Nat.min_self, List.take_take, lenCols_i, lenCols_b, List.drop_zero, List.take_length, Nat.add_eq, Nat.mul_eq, Nat.sub_eq, Nat.zero_add, Nat.sub_zero, Nat.mul_one] at h106
   obtain ⟨g3, f3⟩ := rat_neg h91 h106 (by omega) (by omega) (by omega) (by omega) (by omega) (by omega)
   refine req_i ?_ ?_
   · -- r119
    first | omega | assumption | grind
   refine all_i fun b39 => ?_
   refine imp_i fun h107 => ?_
   try simp only [sigTrue0, List.cons.injEq, DV.b.injEq, and_true, List.length_cons, List.length_nil] at h107
   refine bR_i (fun h108 => ?_) (fun h108 => ?_)
   ·
    simp only [bR_iff, bR_iff_f, dec_iff, dec_f, Bool.false_eq_true, Bool.true_eq_false, false_implies, imp_false, and_true, true_and, implies_true, Classical.not_not] at h108
    refine req_i ?_ ?_
    · -- r120
     first | omega | ((try simp only [sigL4, List.cons.injEq, DV.b.injEq, and_true, List.length_cons, List.length_nil]); first | done | omega | assumption | grind [getD_set, getD_rep, toNat_succ, cntN_yes, cntN_no])
    rfl
   ·
    simp only [bR_iff, bR_iff_f, dec_iff, dec_f, Bool.false_eq_true, Bool.true_eq_false, false_implies, imp_false, and_true, true_and, implies_true, Classical.not_not] at h108
    refine bR_dec (fun h109 => ?_) (fun h109 => ?_)
    ·
     refine req_i ?_ ?_
     · -- r121
      first | omega | ((try simp only [sigL4, List.cons.injEq, DV.b.injEq, and_true, List.length_cons, List.length_nil]); first | done | omega | assumption | grind [getD_set, getD_rep, toNat_succ, cntN_yes, cntN_no])
     rfl
    ·
     refine bR_dec (fun h110 => ?_) (fun h110 => ?_)
     ·
      refine req_i ?_ ?_
      · -- r122
       first | omega | ((try simp only [sigL4, List.cons.injEq, DV.b.injEq, and_true, List.length_cons, List.length_nil]); first | done | omega | assumption | grind [getD_set, getD_rep, toNat_succ, cntN_yes, cntN_no])
      rfl
     ·
      refine bR_dec (fun h111 => ?_) (fun h111 => ?_)
      ·
       refine req_i ?_ ?_
       · -- r123
        first | omega | ((try simp only [sigL4, List.cons.injEq, DV.b.injEq, and_true, List.length_cons, List.length_nil]); first | done | omega | assumption | grind [getD_set, getD_rep, toNat_succ, cntN_yes, cntN_no])
       rfl
      ·
       refine bR_dec (fun h112 => ?_) (fun h112 => ?_)
       ·
        refine req_i ?_ ?_
        · -- r124
         first | omega | ((try simp only [sigL4, List.cons.injEq, DV.b.injEq, and_true, List.length_cons, List.length_nil]); first | done | omega | assumption | grind [getD_set, getD_rep, toNat_succ, cntN_yes, cntN_no])
        rfl
       ·
        refine bR_dec (fun h113 => ?_) (fun h113 => ?_)
        ·
         refine req_i ?_ ?_
         · -- r125
          first | omega | ((try simp only [sigL4, List.cons.injEq, DV.b.injEq, and_true, List.length_cons, List.length_nil]); first | done | omega | assumption | grind [getD_set, getD_rep, toNat_succ, cntN_yes, cntN_no])
         rfl
        ·
         refine bR_dec (fun h114 => ?_) (fun h114 => ?_)
         ·
          refine req_i ?_ ?_
          · -- r126
           first | omega | ((try simp only [sigL4, List.cons.injEq, DV.b.injEq, and_true, List.length_cons, List.length_nil]); first | done | omega | assumption | grind [getD_set, getD_rep, toNat_succ, cntN_yes, cntN_no])
          rfl
         ·
          refine all_i fun n40 => ?_
          refine imp_i fun h115 => ?_
          simp only [wrap_i64] at h115
          refine imp_i fun h116 => ?_
          refine imp_i fun h117 => ?_
          refine bR_dec (fun h118 => ?_) (fun h118 => ?_)
          ·
           refine req_i ?_ ?_
           · -- r127
            first | omega | ((try simp only [sigL4, List.cons.injEq, DV.b.injEq, and_true, List.length_cons, List.length_nil]); first | done | omega | assumption | grind [getD_set, getD_rep, toNat_succ, cntN_yes, cntN_no])
           rfl
          ·
           refine all_i fun n41 => ?_
           refine imp_i fun h119 => ?_
           simp only [wrap_i64] at h119
           refine imp_i fun h120 => ?_
           refine imp_i fun h121 => ?_
           refine bR_dec (fun h122 => ?_) (fun h122 => ?_)
           ·
            refine req_i ?_ ?_
            · -- r128
             first | omega | ((try simp only [sigL4, List.cons.injEq, DV.b.injEq, and_true, List.length_cons, List.length_nil]); first | done | omega | assumption | grind [getD_set, getD_rep, toNat_succ, cntN_yes, cntN_no])
            rfl
           ·
            refine all_i fun n42 => ?_
            refine imp_i fun h123 => ?_
            simp only [wrap_i64] at h123
            refine imp_i fun h124 => ?_
            refine imp_i fun h125 => ?_
            refine bR_dec (fun h126 => ?_) (fun h126 => ?_)
            ·
             refine req_i ?_ ?_
             · -- r129
              first | omega | ((try simp only [sigL4, List.cons.injEq, DV.b.injEq, and_true, List.length_cons, List.length_nil]); first | done | omega | assumption | grind [getD_set, getD_rep, toNat_succ, cntN_yes, cntN_no])
             rfl
            ·
             refine req_i ?_ ?_
             · -- r130
              first | omega | assumption | grind
             refine req_i ?_ ?_
             · -- r131
              first | omega | assumption | grind
             refine req_i ?_ ?_
             · -- r132
              first | omega | assumption | grind
             refine req_i ?_ ?_
             · -- r133
              first | omega | assumption | grind
             refine req_i ?_ ?_
             · -- r134
              first | omega | assumption | grind
             refine req_i ?_ ?_
             · -- r135
              first | omega | assumption | grind
             refine req_i ?_ ?_
             · -- r136
              exact mn
             refine all_i fun b43 => ?_
             refine imp_i fun h127 => ?_
             try simp only [sigNear, nearPre, List.cons.injEq, DV.b.injEq, and_true, List.length_cons, List.length_nil] at h127
             refine bR_i (fun h128 => ?_) (fun h128 => ?_)
             ·
              refine req_i ?_ ?_
              · -- r137
               first | omega | assumption | grind
              refine req_i ?_ ?_
              · -- r138
               first | omega | assumption | grind
              refine req_i ?_ ?_
              · -- r139
               first | omega | assumption | grind
              refine req_i ?_ ?_
              · -- r140
               first | omega | assumption | grind
              refine req_i ?_ ?_
              · -- r141
               first | omega | assumption | grind
              refine req_i ?_ ?_
              · -- r142
               first | omega | assumption | grind
              refine req_i ?_ ?_
              · -- r143
               exact dn
              refine all_i fun b44 => ?_
              refine imp_i fun h129 => ?_
              try simp only [sigNear, nearPre, List.cons.injEq, DV.b.injEq, and_true, List.length_cons, List.length_nil] at h129
              refine bR_i (fun h130 => ?_) (fun h130 => ?_)
              ·
               refine req_i ?_ ?_
               · -- r144
                first | omega | assumption | grind
               refine req_i ?_ ?_
               · -- r145
                first | omega | assumption | grind
               refine req_i ?_ ?_
               · -- r146
                first | omega | assumption | grind
               refine req_i ?_ ?_
               · -- r147
                first | omega | assumption | grind
               refine req_i ?_ ?_
               · -- r148
                first | omega | assumption | grind
               refine req_i ?_ ?_
               · -- r149
                first | omega | assumption | grind
               refine req_i ?_ ?_
               · -- r150
                exact qn
               refine all_i fun b45 => ?_
               refine imp_i fun h131 => ?_
               try simp only [sigNear, nearPre, List.cons.injEq, DV.b.injEq, and_true, List.length_cons, List.length_nil] at h131
               refine req_i ?_ ?_
               · -- r151
                first | omega | ((try simp only [sigL4, List.cons.injEq, DV.b.injEq, and_true, List.length_cons, List.length_nil]); first | done | omega | assumption | grind [getD_set, getD_rep, toNat_succ, cntN_yes, cntN_no])
               rfl
              ·
               refine req_i ?_ ?_
               · -- r152
                first | omega | ((try simp only [sigL4, List.cons.injEq, DV.b.injEq, and_true, List.length_cons, List.length_nil]); first | done | omega | assumption | grind [getD_set, getD_rep, toNat_succ, cntN_yes, cntN_no])
               rfl
             ·
              refine req_i ?_ ?_
              · -- r153
               first | omega | ((try simp only [sigL4, List.cons.injEq, DV.b.injEq, and_true, List.length_cons, List.length_nil]); first | done | omega | assumption | grind [getD_set, getD_rep, toNat_succ, cntN_yes, cntN_no])
              rfl
theorem ext_FixedRounds : ∀ p ∈ ([(10, Ext.ctr (ctOf sigTrue0)), (42, Ext.ctr (ctOf (sigPickN 4611686018427387904))), (41, Ext.ctr (ctOf sigSmall)), (43, Ext.ctr (ctOf sigNear)), (15, Ext.ctr (ctOf sigMulF)), (18, Ext.ctr (ctOf sigDivF)), (19, Ext.ctr (ctOf sigRatF))] : List (Nat × Ext)), ExtRow Try.prog p.1 p.2 := by
  intro p hp
  simp only [List.mem_cons, List.not_mem_nil, or_false] at hp
  rcases hp with rfl | rfl | rfl | rfl | rfl | rfl | rfl
  · trivial
  · trivial
  · trivial
  · trivial
  · trivial
  · trivial
  · trivial
theorem cts_FixedRounds : CtsOk Try.prog [(10, Ext.ctr (ctOf sigTrue0)), (42, Ext.ctr (ctOf (sigPickN 4611686018427387904))), (41, Ext.ctr (ctOf sigSmall)), (43, Ext.ctr (ctOf sigNear)), (15, Ext.ctr (ctOf sigMulF)), (18, Ext.ctr (ctOf sigDivF)), (19, Ext.ctr (ctOf sigRatF))] := ctsOk_of (cs := [(10, sigTrue0), (42, (sigPickN 4611686018427387904)), (41, sigSmall), (43, sigNear), (15, sigMulF), (18, sigDivF), (19, sigRatF)])
  (fun p hp => by
    simp only [List.mem_cons, List.not_mem_nil, or_false] at hp
    rcases hp with rfl | rfl | rfl | rfl | rfl | rfl | rfl
    · exact fn_lives
    · exact fn_pick
    · exact fn_small
    · exact fn_near
    · exact fn_Mul
    · exact fn_Div
    · exact fn_Ratio
)
  (fun f c h => by
    simp only [List.lookup_cons] at h
    repeat' split at h
    all_goals first | (cases h; done) | (rename_i e; have e := beq_iff_eq.1 e; subst e; cases h; refine ⟨_, ?_, rfl⟩; simp))
theorem fn_FixedRounds : FnOk Try.prog 7 sigL4 [] := fn_sound (by kernel_rfl) ext_FixedRounds cts_FixedRounds names vt_FixedRounds
end Go.Proofs.Ytcddopooofdgcaa

