import Derived.Test.YtlhcjklfcpbcaaaSpec19q
import Derived.Test.YtlhcjklfcpbcaaaRows
import Derived.Test.YtlhcjklfcpbcaaaFaLockProves
namespace Go.Proofs.Ytlhcjklfcpbcaaa
open Go.Ev Go.Sp
set_option maxRecDepth 100000
theorem vc_LockProves : vcFn Try.prog [(5, Ext.ctr (ctOf sigTrue0)), (21, Ext.ctr (ctOf sigPick)), (11, Ext.ctr (ctOf sigNew)), (18, Ext.ctr (ctOf sigRun))] tabP [] 100 6 sigLP = (allB fun n0 : Int => 
impB ((-9223372036854775808 : Int) ≤ n0) (
impB (n0 ≤ (9223372036854775807 : Int)) (
allB fun n1 : Int => 
impB ((-9223372036854775808 : Int) ≤ n1) (
impB (n1 ≤ (9223372036854775807 : Int)) (
allB fun l2 : List Bool => 
impB (l2.length ≤ (9223372036854775807 : Nat)) (
impB (sigLP.pre [DV.n n0, DV.n n1, DV.lb l2]) (
reqB (sigTrue0.pre []) (
allB fun b3 : Bool => 
impB (sigTrue0.post [] [DV.b b3]) (
bR (dec ((200 : Int) < (↑l2.length : Int))) (
 reqB (sigLP.post [DV.n n0, DV.n n1, DV.lb l2] [DV.b b3]) (
 true)) (
 reqB ((-9223372036854775808 : Int) ≤ n0) (
 reqB (n0 ≤ (9223372036854775807 : Int)) (
 reqB (sigPick.pre [DV.n n0, DV.n (8 : Int)]) (
 allB fun n4 : Int => 
 impB ((0 : Int) ≤ n4) (
 impB (n4 ≤ (1000000 : Int)) (
 impB (sigPick.post [DV.n n0, DV.n (8 : Int)] [DV.n n4]) (
 reqB ((-9223372036854775808 : Int) ≤ n1) (
 reqB (n1 ≤ (9223372036854775807 : Int)) (
 reqB (sigPick.pre [DV.n n1, DV.n (8 : Int)]) (
 allB fun n5 : Int => 
 impB ((0 : Int) ≤ n5) (
 impB (n5 ≤ (1000000 : Int)) (
 impB (sigPick.post [DV.n n1, DV.n (8 : Int)] [DV.n n5]) (
 reqB ((1 : Int) ≤ (1 : Int) + n4) (
 reqB ((1 : Int) + n4 ≤ (100 : Int)) (
 reqB ((1 : Int) ≤ (1 : Int) + n5) (
 reqB ((1 : Int) + n5 ≤ (100 : Int)) (
 reqB (sigNew.pre [DV.n ((1 : Int) + n4), DV.n ((1 : Int) + n5)]) (
 allB fun n6 : Int => 
 impB ((1 : Int) ≤ n6) (
 impB (n6 ≤ (100 : Int)) (
 allB fun n7 : Int => 
 impB ((1 : Int) ≤ n7) (
 impB (n7 ≤ (100 : Int)) (
 allB fun n8 : Int => 
 impB ((0 : Int) ≤ n8) (
 impB (n8 ≤ (100 : Int)) (
 allB fun n9 : Int => 
 impB ((0 : Int) ≤ n9) (
 impB (n9 ≤ (100 : Int)) (
 allB fun b10 : Bool => 
 allB fun n11 : Int => 
 impB ((-9223372036854775808 : Int) ≤ n11) (
 impB (n11 ≤ (9223372036854775807 : Int)) (
 impB (sigNew.post [DV.n ((1 : Int) + n4), DV.n ((1 : Int) + n5)]
 [DV.n n6, DV.n n7, DV.n n8, DV.n n9, DV.b b10, DV.n n11]) (
 reqB ((-9223372036854775808 : Int) ≤ n6) (
 reqB (n6 ≤ (9223372036854775807 : Int)) (
 reqB ((-9223372036854775808 : Int) ≤ n7) (
 reqB (n7 ≤ (9223372036854775807 : Int)) (
 reqB ((-9223372036854775808 : Int) ≤ n8) (
 reqB (n8 ≤ (9223372036854775807 : Int)) (
 reqB ((-9223372036854775808 : Int) ≤ n9) (
 reqB (n9 ≤ (9223372036854775807 : Int)) (
 reqB (((0 : Nat) + l2.length) * (1 : Nat) ≤ l2.length.mul (1 : Nat)) (
 reqB (l2.length ≤ (9223372036854775807 : Nat)) (
 reqB ((List.take l2.length (List.drop (0 : Nat) l2)).length = l2.length) (
 reqB (sigRun.pre
 [DV.n n6, DV.n n7, DV.n n8, DV.n n9, DV.b b10,
 DV.lb (List.take l2.length (List.drop (0 : Nat) l2))]) (
 allB fun n12 : Int => 
 impB ((-9223372036854775808 : Int) ≤ n12) (
 impB (n12 ≤ (9223372036854775807 : Int)) (
 allB fun n13 : Int => 
 impB ((-9223372036854775808 : Int) ≤ n13) (
 impB (n13 ≤ (9223372036854775807 : Int)) (
 allB fun n14 : Int => 
 impB ((-9223372036854775808 : Int) ≤ n14) (
 impB (n14 ≤ (9223372036854775807 : Int)) (
 allB fun n15 : Int => 
 impB ((-9223372036854775808 : Int) ≤ n15) (
 impB (n15 ≤ (9223372036854775807 : Int)) (
 allB fun b16 : Bool => 
 allB fun l17 : List Bool => 
 impB (l17.length ≤ (10000 : Nat)) (
 allB fun n18 : Int => 
 impB ((-9223372036854775808 : Int) ≤ n18) (
 impB (n18 ≤ (9223372036854775807 : Int)) (
 impB (sigRun.post
 [DV.n n6, DV.n n7, DV.n n8, DV.n n9, DV.b b10,
 DV.lb (List.take l2.length (List.drop (0 : Nat) l2))]
 [DV.n n12, DV.n n13, DV.n n14, DV.n n15, DV.b b16, DV.lb l17, DV.n n18]) (
 bR (dec (n11 ≠ (0 : Int))) (
 reqB (sigLP.post [DV.n n0, DV.n n1, DV.lb l2] [DV.b Bool.false]) (
 true)) (
 bR (dec (n18 ≠ (0 : Int))) (
 reqB (sigLP.post [DV.n n0, DV.n n1, DV.lb l2] [DV.b Bool.false]) (
 true)) (
 bR (dec ((↑l17.length : Int) ≠ (↑l2.length : Int))) (
 reqB (sigLP.post [DV.n n0, DV.n n1, DV.lb l2] [DV.b Bool.false]) (
 true)) (
 reqB (((0 : Nat) + l2.length) * (1 : Nat) ≤ l2.length.mul (1 : Nat)) (
 reqB (l2.length ≤ (9223372036854775807 : Nat)) (
 reqB ((List.take l2.length (List.drop (0 : Nat) l2)).length = l2.length) (
 reqB (outL.inv [DV.lb (List.take l2.length (List.drop (0 : Nat) l2))] [DV.n (0 : Int)]) (
 allB fun n19 : Int => 
 impB ((0 : Int) ≤ n19) (
 impB (n19 ≤ (200 : Int)) (
 impB (outL.inv [DV.lb (List.take l2.length (List.drop (0 : Nat) l2))] [DV.n n19]) (
 bR (dec (n19 < (↑l2.length : Int))) (
 reqB (((0 : Nat) + l2.length) * (1 : Nat) ≤ l2.length.mul (1 : Nat)) (
 reqB (l2.length ≤ (9223372036854775807 : Nat)) (
 reqB ((List.take l2.length (List.drop (0 : Nat) l2)).length = l2.length) (
 reqB ((1 : Int) ≤ (1 : Int) + n4) (
 reqB ((1 : Int) + n4 ≤ (8 : Int)) (
 reqB ((1 : Int) ≤ (1 : Int) + n5) (
 reqB ((1 : Int) + n5 ≤ (8 : Int)) (
 reqB ((0 : Int) ≤ n19) (
 reqB (n19 ≤ (200 : Int)) (
 reqB ((-1 : Int) ≤ n19) (
 reqB (n19 ≤ (200 : Int)) (
 reqB (kL.inv
 [DV.lb (List.take l2.length (List.drop (0 : Nat) l2)), DV.n ((1 : Int) + n4), DV.n ((1 : Int) + n5),
 DV.n n19]
 [DV.b Bool.false, DV.n n19]) (
 allB fun b20 : Bool => 
 allB fun n21 : Int => 
 impB ((-1 : Int) ≤ n21) (
 impB (n21 ≤ (200 : Int)) (
 impB (kL.inv
 [DV.lb (List.take l2.length (List.drop (0 : Nat) l2)), DV.n ((1 : Int) + n4), DV.n ((1 : Int) + n5),
 DV.n n19]
 [DV.b b20, DV.n n21]) (
 bR (dec ((0 : Int) ≤ n21)) (
 reqB (((0 : Nat) + l2.length) * (1 : Nat) ≤ l2.length.mul (1 : Nat)) (
 reqB (l2.length ≤ (9223372036854775807 : Nat)) (
 reqB ((List.take l2.length (List.drop (0 : Nat) l2)).length = l2.length) (
 reqB ((0 : Int) ≤ n21) (
 reqB (n21 ≤ (200 : Int)) (
 reqB ((-1 : Int) ≤ n21) (
 reqB (n21 ≤ (200 : Int)) (
 reqB (upL.inv [DV.lb (List.take l2.length (List.drop (0 : Nat) l2)), DV.n n21]
 [DV.n (0 : Int), DV.n n21]) (
 allB fun n22 : Int => 
 impB ((0 : Int) ≤ n22) (
 impB (n22 ≤ (200 : Int)) (
 allB fun n23 : Int => 
 impB ((-1 : Int) ≤ n23) (
 impB (n23 ≤ (200 : Int)) (
 impB (upL.inv [DV.lb (List.take l2.length (List.drop (0 : Nat) l2)), DV.n n21]
 [DV.n n22, DV.n n23]) (
 bR (dec ((0 : Int) ≤ n23)) (
 reqB ((0 : Int) ≤ n23) (
 reqB (n23.toNat < l2.length) (
 reqB (Nat.add (0 : Nat) n23.toNat < l2.length) (
 bR (l2.getD (Nat.add (0 : Nat) n23.toNat) Bool.false) (
 bR (bR (dec ((1 : Int) + n4 = (1 : Int) + n4)) (
 bR (dec ((1 : Int) + n5 = (1 : Int) + n5)) (
 bR (bR (dec ((0 : Nat) = (0 : Nat))) (
 dec (l2.length = l2.length)) (
 false)) (
 bR (bR (b3) (
 b3) (
 bR (b3) (
 false) (
 true))) (
 bR (bR (dec ((0 : Nat) = (0 : Nat))) (
 dec (l17.length = l17.length)) (
 false)) (
 bR (dec (n19 = n19)) (
 bR (bR (b20) (
 b20) (
 bR (b20) (
 false) (
 true))) (
 bR (dec (n21 = n21)) (
 true) (
 false)) (
 false)) (
 false)) (
 false)) (
 false)) (
 false)) (
 false)) (
 false)) (
 bR (bR (bR (dec (n6 = n6)) (
 bR (dec (n7 = n7)) (
 bR (dec (n8 = n8)) (
 bR (dec (n9 = n9)) (
 bR (bR (b10) (
 b10) (
 bR (b10) (
 false) (
 true))) (
 true) (
 false)) (
 false)) (
 false)) (
 false)) (
 false)) (
 bR (bR (dec (l17.length.mul (1 : Nat) = l17.length.mul (1 : Nat))) (
 dec ([Col.b l17] = [Col.b l17])) (
 false)) (
 bR (bR (dec (n12 = n12)) (
 bR (dec (n13 = n13)) (
 bR (dec (n14 = n14)) (
 bR (dec (n15 = n15)) (
 bR (bR (b16) (
 b16) (
 bR (b16) (
 false) (
 true))) (
 true) (
 false)) (
 false)) (
 false)) (
 false)) (
 false)) (
 true) (
 false)) (
 false)) (
 false)) (
 reqB ((0 : Int) ≤ n22 + (1 : Int)) (
 reqB (n22 + (1 : Int) ≤ (200 : Int)) (
 reqB ((-1 : Int) ≤ n23 - (1 : Int)) (
 reqB (n23 - (1 : Int) ≤ (200 : Int)) (
 reqB (upL.inv [DV.lb (List.take l2.length (List.drop (0 : Nat) l2)), DV.n n21]
 [DV.n (n22 + (1 : Int)), DV.n (n23 - (1 : Int))]) (
 reqB (upL.mea [DV.lb (List.take l2.length (List.drop (0 : Nat) l2)), DV.n n21]
 [DV.n (n22 + (1 : Int)), DV.n (n23 - (1 : Int))] <
 upL.mea [DV.lb (List.take l2.length (List.drop (0 : Nat) l2)), DV.n n21]
 [DV.n n22, DV.n n23]) (
 true))))))) (
 false)) (
 false)) (
 reqB (((0 : Nat) + l2.length) * (1 : Nat) ≤ l2.length.mul (1 : Nat)) (
 reqB (l2.length ≤ (9223372036854775807 : Nat)) (
 reqB ((List.take l2.length (List.drop (0 : Nat) l2)).length = l2.length) (
 reqB ((0 : Int) ≤ n21) (
 reqB (n21 ≤ (200 : Int)) (
 reqB ((-1 : Int) ≤ n21) (
 reqB (n21 ≤ (200 : Int)) (
 reqB (dnL.inv [DV.lb (List.take l2.length (List.drop (0 : Nat) l2)), DV.n n21]
 [DV.n (0 : Int), DV.n n21]) (
 allB fun n24 : Int => 
 impB ((0 : Int) ≤ n24) (
 impB (n24 ≤ (200 : Int)) (
 allB fun n25 : Int => 
 impB ((-1 : Int) ≤ n25) (
 impB (n25 ≤ (200 : Int)) (
 impB (dnL.inv [DV.lb (List.take l2.length (List.drop (0 : Nat) l2)), DV.n n21]
 [DV.n n24, DV.n n25]) (
 bR (dec ((0 : Int) ≤ n25)) (
 reqB ((0 : Int) ≤ n25) (
 reqB (n25.toNat < l2.length) (
 reqB (Nat.add (0 : Nat) n25.toNat < l2.length) (
 bR (bR (l2.getD (Nat.add (0 : Nat) n25.toNat) Bool.false) (
 false) (
 true)) (
 bR (bR (dec ((1 : Int) + n4 = (1 : Int) + n4)) (
 bR (dec ((1 : Int) + n5 = (1 : Int) + n5)) (
 bR (bR (dec ((0 : Nat) = (0 : Nat))) (
 dec (l2.length = l2.length)) (
 false)) (
 bR (bR (b3) (
 b3) (
 bR (b3) (
 false) (
 true))) (
 bR (bR (dec ((0 : Nat) = (0 : Nat))) (
 dec (l17.length = l17.length)) (
 false)) (
 bR (dec (n19 = n19)) (
 bR (bR (b20) (
 b20) (
 bR (b20) (
 false) (
 true))) (
 bR (dec (n21 = n21)) (
 bR (dec (n22 = n22)) (
 true) (
 false)) (
 false)) (
 false)) (
 false)) (
 false)) (
 false)) (
 false)) (
 false)) (
 false)) (
 bR (bR (bR (dec (n6 = n6)) (
 bR (dec (n7 = n7)) (
 bR (dec (n8 = n8)) (
 bR (dec (n9 = n9)) (
 bR (bR (b10) (
 b10) (
 bR (b10) (
 false) (
 true))) (
 true) (
 false)) (
 false)) (
 false)) (
 false)) (
 false)) (
 bR (bR (dec (l17.length.mul (1 : Nat) = l17.length.mul (1 : Nat))) (
 dec ([Col.b l17] = [Col.b l17])) (
 false)) (
 bR (bR (dec (n12 = n12)) (
 bR (dec (n13 = n13)) (
 bR (dec (n14 = n14)) (
 bR (dec (n15 = n15)) (
 bR (bR (b16) (
 b16) (
 bR (b16) (
 false) (
 true))) (
 true) (
 false)) (
 false)) (
 false)) (
 false)) (
 false)) (
 true) (
 false)) (
 false)) (
 false)) (
 reqB ((0 : Int) ≤ n24 + (1 : Int)) (
 reqB (n24 + (1 : Int) ≤ (200 : Int)) (
 reqB ((-1 : Int) ≤ n25 - (1 : Int)) (
 reqB (n25 - (1 : Int) ≤ (200 : Int)) (
 reqB (dnL.inv [DV.lb (List.take l2.length (List.drop (0 : Nat) l2)), DV.n n21]
 [DV.n (n24 + (1 : Int)), DV.n (n25 - (1 : Int))]) (
 reqB (dnL.mea [DV.lb (List.take l2.length (List.drop (0 : Nat) l2)), DV.n n21]
 [DV.n (n24 + (1 : Int)), DV.n (n25 - (1 : Int))] <
 dnL.mea [DV.lb (List.take l2.length (List.drop (0 : Nat) l2)), DV.n n21]
 [DV.n n24, DV.n n25]) (
 true))))))) (
 false)) (
 false)) (
 bR (dec ((1 : Int) + n4 ≤ n22)) (
 reqB (n19.toNat < l17.length) (
 reqB (Nat.add (0 : Nat) n19.toNat < l17.length) (
 bR (bR (bR (l17.getD (Nat.add (0 : Nat) n19.toNat) Bool.false) (
 true) (
 false)) (
 false) (
 true)) (
 reqB (sigLP.post [DV.n n0, DV.n n1, DV.lb l2] [DV.b Bool.false]) (
 true)) (
 reqB (((0 : Nat) + l2.length) * (1 : Nat) ≤ l2.length.mul (1 : Nat)) (
 reqB (l2.length ≤ (9223372036854775807 : Nat)) (
 reqB ((List.take l2.length (List.drop (0 : Nat) l2)).length = l2.length) (
 reqB ((0 : Int) ≤ n19) (
 reqB (n19 ≤ (200 : Int)) (
 reqB ((1 : Int) ≤ (1 : Int) + n5) (
 reqB ((1 : Int) + n5 ≤ (8 : Int)) (
 reqB (thL.inv [DV.lb (List.take l2.length (List.drop (0 : Nat) l2)), DV.n n19, DV.n ((1 : Int) + n5)]
 [DV.n (0 : Int)]) (
 allB fun n26 : Int => 
 impB ((0 : Int) ≤ n26) (
 impB (n26 ≤ (9 : Int)) (
 impB (thL.inv [DV.lb (List.take l2.length (List.drop (0 : Nat) l2)), DV.n n19, DV.n ((1 : Int) + n5)]
 [DV.n n26]) (
 reqB (n19.toNat < l17.length) (
 reqB (Nat.add (0 : Nat) n19.toNat < l17.length) (
 bR (l17.getD (Nat.add (0 : Nat) n19.toNat) Bool.false) (
 bR (dec (n26 ≤ (1 : Int) + n5)) (
 bR (dec (n26 = (1 : Int) + n5)) (
 reqB (sigLP.post [DV.n n0, DV.n n1, DV.lb l2] [DV.b Bool.false]) (
 true)) (
 bR (dec (n19 < n26)) (
 reqB (sigLP.post [DV.n n0, DV.n n1, DV.lb l2] [DV.b Bool.false]) (
 true)) (
 reqB ((0 : Int) ≤ n19 - n26) (
 reqB ((n19 - n26).toNat < l2.length) (
 reqB (Nat.add (0 : Nat) (n19 - n26).toNat < l2.length) (
 bR (l2.getD (Nat.add (0 : Nat) (n19 - n26).toNat) Bool.false) (
 bR (bR (dec ((1 : Int) + n4 = (1 : Int) + n4)) (
 bR (dec ((1 : Int) + n5 = (1 : Int) + n5)) (
 bR (bR (dec ((0 : Nat) = (0 : Nat))) (
 dec (l2.length = l2.length)) (
 false)) (
 bR (bR (b3) (
 b3) (
 bR (b3) (
 false) (
 true))) (
 bR (bR (dec ((0 : Nat) = (0 : Nat))) (
 dec (l17.length = l17.length)) (
 false)) (
 true) (
 false)) (
 false)) (
 false)) (
 false)) (
 false)) (
 bR (bR (bR (dec (n6 = n6)) (
 bR (dec (n7 = n7)) (
 bR (dec (n8 = n8)) (
 bR (dec (n9 = n9)) (
 bR (bR (b10) (
 b10) (
 bR (b10) (
 false) (
 true))) (
 true) (
 false)) (
 false)) (
 false)) (
 false)) (
 false)) (
 bR (bR (dec (l17.length.mul (1 : Nat) = l17.length.mul (1 : Nat))) (
 dec ([Col.b l17] = [Col.b l17])) (
 false)) (
 bR (bR (dec (n12 = n12)) (
 bR (dec (n13 = n13)) (
 bR (dec (n14 = n14)) (
 bR (dec (n15 = n15)) (
 bR (bR (b16) (
 b16) (
 bR (b16) (
 false) (
 true))) (
 true) (
 false)) (
 false)) (
 false)) (
 false)) (
 false)) (
 true) (
 false)) (
 false)) (
 false)) (
 reqB ((0 : Int) ≤ n19 + (1 : Int)) (
 reqB (n19 + (1 : Int) ≤ (200 : Int)) (
 reqB (outL.inv [DV.lb (List.take l2.length (List.drop (0 : Nat) l2))] [DV.n (n19 + (1 : Int))]) (
 reqB (outL.mea [DV.lb (List.take l2.length (List.drop (0 : Nat) l2))] [DV.n (n19 + (1 : Int))] <
 outL.mea [DV.lb (List.take l2.length (List.drop (0 : Nat) l2))] [DV.n n19]) (
 true))))) (
 false)) (
 false)) (
 bR (bR (dec ((1 : Int) + n4 = (1 : Int) + n4)) (
 bR (dec ((1 : Int) + n5 = (1 : Int) + n5)) (
 bR (bR (dec ((0 : Nat) = (0 : Nat))) (
 dec (l2.length = l2.length)) (
 false)) (
 bR (bR (b3) (
 b3) (
 bR (b3) (
 false) (
 true))) (
 bR (bR (dec ((0 : Nat) = (0 : Nat))) (
 dec (l17.length = l17.length)) (
 false)) (
 bR (dec (n19 = n19)) (
 true) (
 false)) (
 false)) (
 false)) (
 false)) (
 false)) (
 false)) (
 bR (bR (bR (dec (n6 = n6)) (
 bR (dec (n7 = n7)) (
 bR (dec (n8 = n8)) (
 bR (dec (n9 = n9)) (
 bR (bR (b10) (
 b10) (
 bR (b10) (
 false) (
 true))) (
 true) (
 false)) (
 false)) (
 false)) (
 false)) (
 false)) (
 bR (bR (dec (l17.length.mul (1 : Nat) = l17.length.mul (1 : Nat))) (
 dec ([Col.b l17] = [Col.b l17])) (
 false)) (
 bR (bR (dec (n12 = n12)) (
 bR (dec (n13 = n13)) (
 bR (dec (n14 = n14)) (
 bR (dec (n15 = n15)) (
 bR (bR (b16) (
 b16) (
 bR (b16) (
 false) (
 true))) (
 true) (
 false)) (
 false)) (
 false)) (
 false)) (
 false)) (
 true) (
 false)) (
 false)) (
 false)) (
 reqB ((0 : Int) ≤ n26 + (1 : Int)) (
 reqB (n26 + (1 : Int) ≤ (9 : Int)) (
 reqB (thL.inv [DV.lb (List.take l2.length (List.drop (0 : Nat) l2)), DV.n n19, DV.n ((1 : Int) + n5)]
 [DV.n (n26 + (1 : Int))]) (
 reqB (thL.mea [DV.lb (List.take l2.length (List.drop (0 : Nat) l2)), DV.n n19, DV.n ((1 : Int) + n5)]
 [DV.n (n26 + (1 : Int))] <
 thL.mea
 [DV.lb (List.take l2.length (List.drop (0 : Nat) l2)), DV.n n19, DV.n ((1 : Int) + n5)]
 [DV.n n26]) (
 true))))) (
 false)) (
 false)))))))) (
 bR (bR (dec ((1 : Int) + n4 = (1 : Int) + n4)) (
 bR (dec ((1 : Int) + n5 = (1 : Int) + n5)) (
 bR (bR (dec ((0 : Nat) = (0 : Nat))) (
 dec (l2.length = l2.length)) (
 false)) (
 bR (bR (b3) (
 b3) (
 bR (b3) (
 false) (
 true))) (
 bR (bR (dec ((0 : Nat) = (0 : Nat))) (
 dec (l17.length = l17.length)) (
 false)) (
 true) (
 false)) (
 false)) (
 false)) (
 false)) (
 false)) (
 bR (bR (bR (dec (n6 = n6)) (
 bR (dec (n7 = n7)) (
 bR (dec (n8 = n8)) (
 bR (dec (n9 = n9)) (
 bR (bR (b10) (
 b10) (
 bR (b10) (
 false) (
 true))) (
 true) (
 false)) (
 false)) (
 false)) (
 false)) (
 false)) (
 bR (bR (dec (l17.length.mul (1 : Nat) = l17.length.mul (1 : Nat))) (
 dec ([Col.b l17] = [Col.b l17])) (
 false)) (
 bR (bR (dec (n12 = n12)) (
 bR (dec (n13 = n13)) (
 bR (dec (n14 = n14)) (
 bR (dec (n15 = n15)) (
 bR (bR (b16) (
 b16) (
 bR (b16) (
 false) (
 true))) (
 true) (
 false)) (
 false)) (
 false)) (
 false)) (
 false)) (
 true) (
 false)) (
 false)) (
 false)) (
 reqB ((0 : Int) ≤ n19 + (1 : Int)) (
 reqB (n19 + (1 : Int) ≤ (200 : Int)) (
 reqB (outL.inv [DV.lb (List.take l2.length (List.drop (0 : Nat) l2))] [DV.n (n19 + (1 : Int))]) (
 reqB (outL.mea [DV.lb (List.take l2.length (List.drop (0 : Nat) l2))] [DV.n (n19 + (1 : Int))] <
 outL.mea [DV.lb (List.take l2.length (List.drop (0 : Nat) l2))] [DV.n n19]) (
 true))))) (
 false)) (
 false))) (
 bR (bR (dec ((1 : Int) + n4 = (1 : Int) + n4)) (
 bR (dec ((1 : Int) + n5 = (1 : Int) + n5)) (
 bR (bR (dec ((0 : Nat) = (0 : Nat))) (
 dec (l2.length = l2.length)) (
 false)) (
 bR (bR (b3) (
 b3) (
 bR (b3) (
 false) (
 true))) (
 bR (bR (dec ((0 : Nat) = (0 : Nat))) (
 dec (l17.length = l17.length)) (
 false)) (
 true) (
 false)) (
 false)) (
 false)) (
 false)) (
 false)) (
 bR (bR (bR (dec (n6 = n6)) (
 bR (dec (n7 = n7)) (
 bR (dec (n8 = n8)) (
 bR (dec (n9 = n9)) (
 bR (bR (b10) (
 b10) (
 bR (b10) (
 false) (
 true))) (
 true) (
 false)) (
 false)) (
 false)) (
 false)) (
 false)) (
 bR (bR (dec (l17.length.mul (1 : Nat) = l17.length.mul (1 : Nat))) (
 dec ([Col.b l17] = [Col.b l17])) (
 false)) (
 bR (bR (dec (n12 = n12)) (
 bR (dec (n13 = n13)) (
 bR (dec (n14 = n14)) (
 bR (dec (n15 = n15)) (
 bR (bR (b16) (
 b16) (
 bR (b16) (
 false) (
 true))) (
 true) (
 false)) (
 false)) (
 false)) (
 false)) (
 false)) (
 true) (
 false)) (
 false)) (
 false)) (
 reqB ((0 : Int) ≤ n19 + (1 : Int)) (
 reqB (n19 + (1 : Int) ≤ (200 : Int)) (
 reqB (outL.inv [DV.lb (List.take l2.length (List.drop (0 : Nat) l2))] [DV.n (n19 + (1 : Int))]) (
 reqB (outL.mea [DV.lb (List.take l2.length (List.drop (0 : Nat) l2))] [DV.n (n19 + (1 : Int))] <
 outL.mea [DV.lb (List.take l2.length (List.drop (0 : Nat) l2))] [DV.n n19]) (
 true))))) (
 false)) (
 false))))))))))))))))))) (
 bR (dec ((1 : Int) + n5 ≤ n24)) (
 reqB (n19.toNat < l17.length) (
 reqB (Nat.add (0 : Nat) n19.toNat < l17.length) (
 bR (bR (bR (l17.getD (Nat.add (0 : Nat) n19.toNat) Bool.false) (
 b20) (
 bR (b20) (
 false) (
 true))) (
 false) (
 true)) (
 reqB (sigLP.post [DV.n n0, DV.n n1, DV.lb l2] [DV.b Bool.false]) (
 true)) (
 reqB (((0 : Nat) + l2.length) * (1 : Nat) ≤ l2.length.mul (1 : Nat)) (
 reqB (l2.length ≤ (9223372036854775807 : Nat)) (
 reqB ((List.take l2.length (List.drop (0 : Nat) l2)).length = l2.length) (
 reqB ((0 : Int) ≤ n19) (
 reqB (n19 ≤ (200 : Int)) (
 reqB ((1 : Int) ≤ (1 : Int) + n5) (
 reqB ((1 : Int) + n5 ≤ (8 : Int)) (
 reqB (thL.inv [DV.lb (List.take l2.length (List.drop (0 : Nat) l2)), DV.n n19, DV.n ((1 : Int) + n5)]
 [DV.n (0 : Int)]) (
 allB fun n27 : Int => 
 impB ((0 : Int) ≤ n27) (
 impB (n27 ≤ (9 : Int)) (
 impB (thL.inv [DV.lb (List.take l2.length (List.drop (0 : Nat) l2)), DV.n n19, DV.n ((1 : Int) + n5)]
 [DV.n n27]) (
 reqB (n19.toNat < l17.length) (
 reqB (Nat.add (0 : Nat) n19.toNat < l17.length) (
 bR (l17.getD (Nat.add (0 : Nat) n19.toNat) Bool.false) (
 bR (dec (n27 ≤ (1 : Int) + n5)) (
 bR (dec (n27 = (1 : Int) + n5)) (
 reqB (sigLP.post [DV.n n0, DV.n n1, DV.lb l2] [DV.b Bool.false]) (
 true)) (
 bR (dec (n19 < n27)) (
 reqB (sigLP.post [DV.n n0, DV.n n1, DV.lb l2] [DV.b Bool.false]) (
 true)) (
 reqB ((0 : Int) ≤ n19 - n27) (
 reqB ((n19 - n27).toNat < l2.length) (
 reqB (Nat.add (0 : Nat) (n19 - n27).toNat < l2.length) (
 bR (l2.getD (Nat.add (0 : Nat) (n19 - n27).toNat) Bool.false) (
 bR (bR (dec ((1 : Int) + n4 = (1 : Int) + n4)) (
 bR (dec ((1 : Int) + n5 = (1 : Int) + n5)) (
 bR (bR (dec ((0 : Nat) = (0 : Nat))) (
 dec (l2.length = l2.length)) (
 false)) (
 bR (bR (b3) (
 b3) (
 bR (b3) (
 false) (
 true))) (
 bR (bR (dec ((0 : Nat) = (0 : Nat))) (
 dec (l17.length = l17.length)) (
 false)) (
 true) (
 false)) (
 false)) (
 false)) (
 false)) (
 false)) (
 bR (bR (bR (dec (n6 = n6)) (
 bR (dec (n7 = n7)) (
 bR (dec (n8 = n8)) (
 bR (dec (n9 = n9)) (
 bR (bR (b10) (
 b10) (
 bR (b10) (
 false) (
 true))) (
 true) (
 false)) (
 false)) (
 false)) (
 false)) (
 false)) (
 bR (bR (dec (l17.length.mul (1 : Nat) = l17.length.mul (1 : Nat))) (
 dec ([Col.b l17] = [Col.b l17])) (
 false)) (
 bR (bR (dec (n12 = n12)) (
 bR (dec (n13 = n13)) (
 bR (dec (n14 = n14)) (
 bR (dec (n15 = n15)) (
 bR (bR (b16) (
 b16) (
 bR (b16) (
 false) (
 true))) (
 true) (
 false)) (
 false)) (
 false)) (
 false)) (
 false)) (
 true) (
 false)) (
 false)) (
 false)) (
 reqB ((0 : Int) ≤ n19 + (1 : Int)) (
 reqB (n19 + (1 : Int) ≤ (200 : Int)) (
 reqB (outL.inv [DV.lb (List.take l2.length (List.drop (0 : Nat) l2))] [DV.n (n19 + (1 : Int))]) (
 reqB (outL.mea [DV.lb (List.take l2.length (List.drop (0 : Nat) l2))] [DV.n (n19 + (1 : Int))] <
 outL.mea [DV.lb (List.take l2.length (List.drop (0 : Nat) l2))] [DV.n n19]) (
 true))))) (
 false)) (
 false)) (
 bR (bR (dec ((1 : Int) + n4 = (1 : Int) + n4)) (
 bR (dec ((1 : Int) + n5 = (1 : Int) + n5)) (
 bR (bR (dec ((0 : Nat) = (0 : Nat))) (
 dec (l2.length = l2.length)) (
 false)) (
 bR (bR (b3) (
 b3) (
 bR (b3) (
 false) (
 true))) (
 bR (bR (dec ((0 : Nat) = (0 : Nat))) (
 dec (l17.length = l17.length)) (
 false)) (
 bR (dec (n19 = n19)) (
 true) (
 false)) (
 false)) (
 false)) (
 false)) (
 false)) (
 false)) (
 bR (bR (bR (dec (n6 = n6)) (
 bR (dec (n7 = n7)) (
 bR (dec (n8 = n8)) (
 bR (dec (n9 = n9)) (
 bR (bR (b10) (
 b10) (
 bR (b10) (
 false) (
 true))) (
 true) (
 false)) (
 false)) (
 false)) (
 false)) (
 false)) (
 bR (bR (dec (l17.length.mul (1 : Nat) = l17.length.mul (1 : Nat))) (
 dec ([Col.b l17] = [Col.b l17])) (
 false)) (
 bR (bR (dec (n12 = n12)) (
 bR (dec (n13 = n13)) (
 bR (dec (n14 = n14)) (
 bR (dec (n15 = n15)) (
 bR (bR (b16) (
 b16) (
 bR (b16) (
 false) (
 true))) (
 true) (
 false)) (
 false)) (
 false)) (
 false)) (
 false)) (
 true) (
 false)) (
 false)) (
 false)) (
 reqB ((0 : Int) ≤ n27 + (1 : Int)) (
 reqB (n27 + (1 : Int) ≤ (9 : Int)) (
 reqB (thL.inv [DV.lb (List.take l2.length (List.drop (0 : Nat) l2)), DV.n n19, DV.n ((1 : Int) + n5)]
 [DV.n (n27 + (1 : Int))]) (
 reqB (thL.mea [DV.lb (List.take l2.length (List.drop (0 : Nat) l2)), DV.n n19, DV.n ((1 : Int) + n5)]
 [DV.n (n27 + (1 : Int))] <
 thL.mea
 [DV.lb (List.take l2.length (List.drop (0 : Nat) l2)), DV.n n19, DV.n ((1 : Int) + n5)]
 [DV.n n27]) (
 true))))) (
 false)) (
 false)))))))) (
 bR (bR (dec ((1 : Int) + n4 = (1 : Int) + n4)) (
 bR (dec ((1 : Int) + n5 = (1 : Int) + n5)) (
 bR (bR (dec ((0 : Nat) = (0 : Nat))) (
 dec (l2.length = l2.length)) (
 false)) (
 bR (bR (b3) (
 b3) (
 bR (b3) (
 false) (
 true))) (
 bR (bR (dec ((0 : Nat) = (0 : Nat))) (
 dec (l17.length = l17.length)) (
 false)) (
 true) (
 false)) (
 false)) (
 false)) (
 false)) (
 false)) (
 bR (bR (bR (dec (n6 = n6)) (
 bR (dec (n7 = n7)) (
 bR (dec (n8 = n8)) (
 bR (dec (n9 = n9)) (
 bR (bR (b10) (
 b10) (
 bR (b10) (
 false) (
 true))) (
 true) (
 false)) (
 false)) (
 false)) (
 false)) (
 false)) (
 bR (bR (dec (l17.length.mul (1 : Nat) = l17.length.mul (1 : Nat))) (
 dec ([Col.b l17] = [Col.b l17])) (
 false)) (
 bR (bR (dec (n12 = n12)) (
 bR (dec (n13 = n13)) (
 bR (dec (n14 = n14)) (
 bR (dec (n15 = n15)) (
 bR (bR (b16) (
 b16) (
 bR (b16) (
 false) (
 true))) (
 true) (
 false)) (
 false)) (
 false)) (
 false)) (
 false)) (
 true) (
 false)) (
 false)) (
 false)) (
 reqB ((0 : Int) ≤ n19 + (1 : Int)) (
 reqB (n19 + (1 : Int) ≤ (200 : Int)) (
 reqB (outL.inv [DV.lb (List.take l2.length (List.drop (0 : Nat) l2))] [DV.n (n19 + (1 : Int))]) (
 reqB (outL.mea [DV.lb (List.take l2.length (List.drop (0 : Nat) l2))] [DV.n (n19 + (1 : Int))] <
 outL.mea [DV.lb (List.take l2.length (List.drop (0 : Nat) l2))] [DV.n n19]) (
 true))))) (
 false)) (
 false))) (
 bR (bR (dec ((1 : Int) + n4 = (1 : Int) + n4)) (
 bR (dec ((1 : Int) + n5 = (1 : Int) + n5)) (
 bR (bR (dec ((0 : Nat) = (0 : Nat))) (
 dec (l2.length = l2.length)) (
 false)) (
 bR (bR (b3) (
 b3) (
 bR (b3) (
 false) (
 true))) (
 bR (bR (dec ((0 : Nat) = (0 : Nat))) (
 dec (l17.length = l17.length)) (
 false)) (
 true) (
 false)) (
 false)) (
 false)) (
 false)) (
 false)) (
 bR (bR (bR (dec (n6 = n6)) (
 bR (dec (n7 = n7)) (
 bR (dec (n8 = n8)) (
 bR (dec (n9 = n9)) (
 bR (bR (b10) (
 b10) (
 bR (b10) (
 false) (
 true))) (
 true) (
 false)) (
 false)) (
 false)) (
 false)) (
 false)) (
 bR (bR (dec (l17.length.mul (1 : Nat) = l17.length.mul (1 : Nat))) (
 dec ([Col.b l17] = [Col.b l17])) (
 false)) (
 bR (bR (dec (n12 = n12)) (
 bR (dec (n13 = n13)) (
 bR (dec (n14 = n14)) (
 bR (dec (n15 = n15)) (
 bR (bR (b16) (
 b16) (
 bR (b16) (
 false) (
 true))) (
 true) (
 false)) (
 false)) (
 false)) (
 false)) (
 false)) (
 true) (
 false)) (
 false)) (
 false)) (
 reqB ((0 : Int) ≤ n19 + (1 : Int)) (
 reqB (n19 + (1 : Int) ≤ (200 : Int)) (
 reqB (outL.inv [DV.lb (List.take l2.length (List.drop (0 : Nat) l2))] [DV.n (n19 + (1 : Int))]) (
 reqB (outL.mea [DV.lb (List.take l2.length (List.drop (0 : Nat) l2))] [DV.n (n19 + (1 : Int))] <
 outL.mea [DV.lb (List.take l2.length (List.drop (0 : Nat) l2))] [DV.n n19]) (
 true))))) (
 false)) (
 false))))))))))))))))))) (
 bR (bR (dec ((1 : Int) + n4 = (1 : Int) + n4)) (
 bR (dec ((1 : Int) + n5 = (1 : Int) + n5)) (
 bR (bR (dec ((0 : Nat) = (0 : Nat))) (
 dec (l2.length = l2.length)) (
 false)) (
 bR (bR (b3) (
 b3) (
 bR (b3) (
 false) (
 true))) (
 bR (bR (dec ((0 : Nat) = (0 : Nat))) (
 dec (l17.length = l17.length)) (
 false)) (
 bR (dec (n19 = n19)) (
 true) (
 false)) (
 false)) (
 false)) (
 false)) (
 false)) (
 false)) (
 bR (bR (bR (dec (n6 = n6)) (
 bR (dec (n7 = n7)) (
 bR (dec (n8 = n8)) (
 bR (dec (n9 = n9)) (
 bR (bR (b10) (
 b10) (
 bR (b10) (
 false) (
 true))) (
 true) (
 false)) (
 false)) (
 false)) (
 false)) (
 false)) (
 bR (bR (dec (l17.length.mul (1 : Nat) = l17.length.mul (1 : Nat))) (
 dec ([Col.b l17] = [Col.b l17])) (
 false)) (
 bR (bR (dec (n12 = n12)) (
 bR (dec (n13 = n13)) (
 bR (dec (n14 = n14)) (
 bR (dec (n15 = n15)) (
 bR (bR (b16) (
 b16) (
 bR (b16) (
 false) (
 true))) (
 true) (
 false)) (
 false)) (
 false)) (
 false)) (
 false)) (
 true) (
 false)) (
 false)) (
 false)) (
 reqB ((-1 : Int) ≤ n21 - (1 : Int)) (
 reqB (n21 - (1 : Int) ≤ (200 : Int)) (
 reqB (kL.inv
 [DV.lb (List.take l2.length (List.drop (0 : Nat) l2)), DV.n ((1 : Int) + n4), DV.n ((1 : Int) + n5),
 DV.n n19]
 [DV.b b20, DV.n (n21 - (1 : Int))]) (
 reqB (kL.mea
 [DV.lb (List.take l2.length (List.drop (0 : Nat) l2)), DV.n ((1 : Int) + n4),
 DV.n ((1 : Int) + n5), DV.n n19]
 [DV.b b20, DV.n (n21 - (1 : Int))] <
 kL.mea
 [DV.lb (List.take l2.length (List.drop (0 : Nat) l2)), DV.n ((1 : Int) + n4),
 DV.n ((1 : Int) + n5), DV.n n19]
 [DV.b b20, DV.n n21]) (
 true))))) (
 false)) (
 false)))))))) (
 bR (dec ((1 : Int) + n4 ≤ n22)) (
 reqB (n19.toNat < l17.length) (
 reqB (Nat.add (0 : Nat) n19.toNat < l17.length) (
 bR (bR (bR (l17.getD (Nat.add (0 : Nat) n19.toNat) Bool.false) (
 true) (
 false)) (
 false) (
 true)) (
 reqB (sigLP.post [DV.n n0, DV.n n1, DV.lb l2] [DV.b Bool.false]) (
 true)) (
 reqB (((0 : Nat) + l2.length) * (1 : Nat) ≤ l2.length.mul (1 : Nat)) (
 reqB (l2.length ≤ (9223372036854775807 : Nat)) (
 reqB ((List.take l2.length (List.drop (0 : Nat) l2)).length = l2.length) (
 reqB ((0 : Int) ≤ n19) (
 reqB (n19 ≤ (200 : Int)) (
 reqB ((1 : Int) ≤ (1 : Int) + n5) (
 reqB ((1 : Int) + n5 ≤ (8 : Int)) (
 reqB (thL.inv [DV.lb (List.take l2.length (List.drop (0 : Nat) l2)), DV.n n19, DV.n ((1 : Int) + n5)]
 [DV.n (0 : Int)]) (
 allB fun n28 : Int => 
 impB ((0 : Int) ≤ n28) (
 impB (n28 ≤ (9 : Int)) (
 impB (thL.inv [DV.lb (List.take l2.length (List.drop (0 : Nat) l2)), DV.n n19, DV.n ((1 : Int) + n5)]
 [DV.n n28]) (
 reqB (n19.toNat < l17.length) (
 reqB (Nat.add (0 : Nat) n19.toNat < l17.length) (
 bR (l17.getD (Nat.add (0 : Nat) n19.toNat) Bool.false) (
 bR (dec (n28 ≤ (1 : Int) + n5)) (
 bR (dec (n28 = (1 : Int) + n5)) (
 reqB (sigLP.post [DV.n n0, DV.n n1, DV.lb l2] [DV.b Bool.false]) (
 true)) (
 bR (dec (n19 < n28)) (
 reqB (sigLP.post [DV.n n0, DV.n n1, DV.lb l2] [DV.b Bool.false]) (
 true)) (
 reqB ((0 : Int) ≤ n19 - n28) (
 reqB ((n19 - n28).toNat < l2.length) (
 reqB (Nat.add (0 : Nat) (n19 - n28).toNat < l2.length) (
 bR (l2.getD (Nat.add (0 : Nat) (n19 - n28).toNat) Bool.false) (
 bR (bR (dec ((1 : Int) + n4 = (1 : Int) + n4)) (
 bR (dec ((1 : Int) + n5 = (1 : Int) + n5)) (
 bR (bR (dec ((0 : Nat) = (0 : Nat))) (
 dec (l2.length = l2.length)) (
 false)) (
 bR (bR (b3) (
 b3) (
 bR (b3) (
 false) (
 true))) (
 bR (bR (dec ((0 : Nat) = (0 : Nat))) (
 dec (l17.length = l17.length)) (
 false)) (
 true) (
 false)) (
 false)) (
 false)) (
 false)) (
 false)) (
 bR (bR (bR (dec (n6 = n6)) (
 bR (dec (n7 = n7)) (
 bR (dec (n8 = n8)) (
 bR (dec (n9 = n9)) (
 bR (bR (b10) (
 b10) (
 bR (b10) (
 false) (
 true))) (
 true) (
 false)) (
 false)) (
 false)) (
 false)) (
 false)) (
 bR (bR (dec (l17.length.mul (1 : Nat) = l17.length.mul (1 : Nat))) (
 dec ([Col.b l17] = [Col.b l17])) (
 false)) (
 bR (bR (dec (n12 = n12)) (
 bR (dec (n13 = n13)) (
 bR (dec (n14 = n14)) (
 bR (dec (n15 = n15)) (
 bR (bR (b16) (
 b16) (
 bR (b16) (
 false) (
 true))) (
 true) (
 false)) (
 false)) (
 false)) (
 false)) (
 false)) (
 true) (
 false)) (
 false)) (
 false)) (
 reqB ((0 : Int) ≤ n19 + (1 : Int)) (
 reqB (n19 + (1 : Int) ≤ (200 : Int)) (
 reqB (outL.inv [DV.lb (List.take l2.length (List.drop (0 : Nat) l2))] [DV.n (n19 + (1 : Int))]) (
 reqB (outL.mea [DV.lb (List.take l2.length (List.drop (0 : Nat) l2))] [DV.n (n19 + (1 : Int))] <
 outL.mea [DV.lb (List.take l2.length (List.drop (0 : Nat) l2))] [DV.n n19]) (
 true))))) (
 false)) (
 false)) (
 bR (bR (dec ((1 : Int) + n4 = (1 : Int) + n4)) (
 bR (dec ((1 : Int) + n5 = (1 : Int) + n5)) (
 bR (bR (dec ((0 : Nat) = (0 : Nat))) (
 dec (l2.length = l2.length)) (
 false)) (
 bR (bR (b3) (
 b3) (
 bR (b3) (
 false) (
 true))) (
 bR (bR (dec ((0 : Nat) = (0 : Nat))) (
 dec (l17.length = l17.length)) (
 false)) (
 bR (dec (n19 = n19)) (
 true) (
 false)) (
 false)) (
 false)) (
 false)) (
 false)) (
 false)) (
 bR (bR (bR (dec (n6 = n6)) (
 bR (dec (n7 = n7)) (
 bR (dec (n8 = n8)) (
 bR (dec (n9 = n9)) (
 bR (bR (b10) (
 b10) (
 bR (b10) (
 false) (
 true))) (
 true) (
 false)) (
 false)) (
 false)) (
 false)) (
 false)) (
 bR (bR (dec (l17.length.mul (1 : Nat) = l17.length.mul (1 : Nat))) (
 dec ([Col.b l17] = [Col.b l17])) (
 false)) (
 bR (bR (dec (n12 = n12)) (
 bR (dec (n13 = n13)) (
 bR (dec (n14 = n14)) (
 bR (dec (n15 = n15)) (
 bR (bR (b16) (
 b16) (
 bR (b16) (
 false) (
 true))) (
 true) (
 false)) (
 false)) (
 false)) (
 false)) (
 false)) (
 true) (
 false)) (
 false)) (
 false)) (
 reqB ((0 : Int) ≤ n28 + (1 : Int)) (
 reqB (n28 + (1 : Int) ≤ (9 : Int)) (
 reqB (thL.inv [DV.lb (List.take l2.length (List.drop (0 : Nat) l2)), DV.n n19, DV.n ((1 : Int) + n5)]
 [DV.n (n28 + (1 : Int))]) (
 reqB (thL.mea [DV.lb (List.take l2.length (List.drop (0 : Nat) l2)), DV.n n19, DV.n ((1 : Int) + n5)]
 [DV.n (n28 + (1 : Int))] <
 thL.mea
 [DV.lb (List.take l2.length (List.drop (0 : Nat) l2)), DV.n n19, DV.n ((1 : Int) + n5)]
 [DV.n n28]) (
 true))))) (
 false)) (
 false)))))))) (
 bR (bR (dec ((1 : Int) + n4 = (1 : Int) + n4)) (
 bR (dec ((1 : Int) + n5 = (1 : Int) + n5)) (
 bR (bR (dec ((0 : Nat) = (0 : Nat))) (
 dec (l2.length = l2.length)) (
 false)) (
 bR (bR (b3) (
 b3) (
 bR (b3) (
 false) (
 true))) (
 bR (bR (dec ((0 : Nat) = (0 : Nat))) (
 dec (l17.length = l17.length)) (
 false)) (
 true) (
 false)) (
 false)) (
 false)) (
 false)) (
 false)) (
 bR (bR (bR (dec (n6 = n6)) (
 bR (dec (n7 = n7)) (
 bR (dec (n8 = n8)) (
 bR (dec (n9 = n9)) (
 bR (bR (b10) (
 b10) (
 bR (b10) (
 false) (
 true))) (
 true) (
 false)) (
 false)) (
 false)) (
 false)) (
 false)) (
 bR (bR (dec (l17.length.mul (1 : Nat) = l17.length.mul (1 : Nat))) (
 dec ([Col.b l17] = [Col.b l17])) (
 false)) (
 bR (bR (dec (n12 = n12)) (
 bR (dec (n13 = n13)) (
 bR (dec (n14 = n14)) (
 bR (dec (n15 = n15)) (
 bR (bR (b16) (
 b16) (
 bR (b16) (
 false) (
 true))) (
 true) (
 false)) (
 false)) (
 false)) (
 false)) (
 false)) (
 true) (
 false)) (
 false)) (
 false)) (
 reqB ((0 : Int) ≤ n19 + (1 : Int)) (
 reqB (n19 + (1 : Int) ≤ (200 : Int)) (
 reqB (outL.inv [DV.lb (List.take l2.length (List.drop (0 : Nat) l2))] [DV.n (n19 + (1 : Int))]) (
 reqB (outL.mea [DV.lb (List.take l2.length (List.drop (0 : Nat) l2))] [DV.n (n19 + (1 : Int))] <
 outL.mea [DV.lb (List.take l2.length (List.drop (0 : Nat) l2))] [DV.n n19]) (
 true))))) (
 false)) (
 false))) (
 bR (bR (dec ((1 : Int) + n4 = (1 : Int) + n4)) (
 bR (dec ((1 : Int) + n5 = (1 : Int) + n5)) (
 bR (bR (dec ((0 : Nat) = (0 : Nat))) (
 dec (l2.length = l2.length)) (
 false)) (
 bR (bR (b3) (
 b3) (
 bR (b3) (
 false) (
 true))) (
 bR (bR (dec ((0 : Nat) = (0 : Nat))) (
 dec (l17.length = l17.length)) (
 false)) (
 true) (
 false)) (
 false)) (
 false)) (
 false)) (
 false)) (
 bR (bR (bR (dec (n6 = n6)) (
 bR (dec (n7 = n7)) (
 bR (dec (n8 = n8)) (
 bR (dec (n9 = n9)) (
 bR (bR (b10) (
 b10) (
 bR (b10) (
 false) (
 true))) (
 true) (
 false)) (
 false)) (
 false)) (
 false)) (
 false)) (
 bR (bR (dec (l17.length.mul (1 : Nat) = l17.length.mul (1 : Nat))) (
 dec ([Col.b l17] = [Col.b l17])) (
 false)) (
 bR (bR (dec (n12 = n12)) (
 bR (dec (n13 = n13)) (
 bR (dec (n14 = n14)) (
 bR (dec (n15 = n15)) (
 bR (bR (b16) (
 b16) (
 bR (b16) (
 false) (
 true))) (
 true) (
 false)) (
 false)) (
 false)) (
 false)) (
 false)) (
 true) (
 false)) (
 false)) (
 false)) (
 reqB ((0 : Int) ≤ n19 + (1 : Int)) (
 reqB (n19 + (1 : Int) ≤ (200 : Int)) (
 reqB (outL.inv [DV.lb (List.take l2.length (List.drop (0 : Nat) l2))] [DV.n (n19 + (1 : Int))]) (
 reqB (outL.mea [DV.lb (List.take l2.length (List.drop (0 : Nat) l2))] [DV.n (n19 + (1 : Int))] <
 outL.mea [DV.lb (List.take l2.length (List.drop (0 : Nat) l2))] [DV.n n19]) (
 true))))) (
 false)) (
 false))))))))))))))))))) (
 bR (dec ((1 : Int) + n5 ≤ n24)) (
 reqB (n19.toNat < l17.length) (
 reqB (Nat.add (0 : Nat) n19.toNat < l17.length) (
 bR (bR (bR (l17.getD (Nat.add (0 : Nat) n19.toNat) Bool.false) (
 b20) (
 bR (b20) (
 false) (
 true))) (
 false) (
 true)) (
 reqB (sigLP.post [DV.n n0, DV.n n1, DV.lb l2] [DV.b Bool.false]) (
 true)) (
 reqB (((0 : Nat) + l2.length) * (1 : Nat) ≤ l2.length.mul (1 : Nat)) (
 reqB (l2.length ≤ (9223372036854775807 : Nat)) (
 reqB ((List.take l2.length (List.drop (0 : Nat) l2)).length = l2.length) (
 reqB ((0 : Int) ≤ n19) (
 reqB (n19 ≤ (200 : Int)) (
 reqB ((1 : Int) ≤ (1 : Int) + n5) (
 reqB ((1 : Int) + n5 ≤ (8 : Int)) (
 reqB (thL.inv [DV.lb (List.take l2.length (List.drop (0 : Nat) l2)), DV.n n19, DV.n ((1 : Int) + n5)]
 [DV.n (0 : Int)]) (
 allB fun n29 : Int => 
 impB ((0 : Int) ≤ n29) (
 impB (n29 ≤ (9 : Int)) (
 impB (thL.inv [DV.lb (List.take l2.length (List.drop (0 : Nat) l2)), DV.n n19, DV.n ((1 : Int) + n5)]
 [DV.n n29]) (
 reqB (n19.toNat < l17.length) (
 reqB (Nat.add (0 : Nat) n19.toNat < l17.length) (
 bR (l17.getD (Nat.add (0 : Nat) n19.toNat) Bool.false) (
 bR (dec (n29 ≤ (1 : Int) + n5)) (
 bR (dec (n29 = (1 : Int) + n5)) (
 reqB (sigLP.post [DV.n n0, DV.n n1, DV.lb l2] [DV.b Bool.false]) (
 true)) (
 bR (dec (n19 < n29)) (
 reqB (sigLP.post [DV.n n0, DV.n n1, DV.lb l2] [DV.b Bool.false]) (
 true)) (
 reqB ((0 : Int) ≤ n19 - n29) (
 reqB ((n19 - n29).toNat < l2.length) (
 reqB (Nat.add (0 : Nat) (n19 - n29).toNat < l2.length) (
 bR (l2.getD (Nat.add (0 : Nat) (n19 - n29).toNat) Bool.false) (
 bR (bR (dec ((1 : Int) + n4 = (1 : Int) + n4)) (
 bR (dec ((1 : Int) + n5 = (1 : Int) + n5)) (
 bR (bR (dec ((0 : Nat) = (0 : Nat))) (
 dec (l2.length = l2.length)) (
 false)) (
 bR (bR (b3) (
 b3) (
 bR (b3) (
 false) (
 true))) (
 bR (bR (dec ((0 : Nat) = (0 : Nat))) (
 dec (l17.length = l17.length)) (
 false)) (
 true) (
 false)) (
 false)) (
 false)) (
 false)) (
 false)) (
 bR (bR (bR (dec (n6 = n6)) (
 bR (dec (n7 = n7)) (
 bR (dec (n8 = n8)) (
 bR (dec (n9 = n9)) (
 bR (bR (b10) (
 b10) (
 bR (b10) (
 false) (
 true))) (
 true) (
 false)) (
 false)) (
 false)) (
 false)) (
 false)) (
 bR (bR (dec (l17.length.mul (1 : Nat) = l17.length.mul (1 : Nat))) (
 dec ([Col.b l17] = [Col.b l17])) (
 false)) (
 bR (bR (dec (n12 = n12)) (
 bR (dec (n13 = n13)) (
 bR (dec (n14 = n14)) (
 bR (dec (n15 = n15)) (
 bR (bR (b16) (
 b16) (
 bR (b16) (
 false) (
 true))) (
 true) (
 false)) (
 false)) (
 false)) (
 false)) (
 false)) (
 true) (
 false)) (
 false)) (
 false)) (
 reqB ((0 : Int) ≤ n19 + (1 : Int)) (
 reqB (n19 + (1 : Int) ≤ (200 : Int)) (
 reqB (outL.inv [DV.lb (List.take l2.length (List.drop (0 : Nat) l2))] [DV.n (n19 + (1 : Int))]) (
 reqB (outL.mea [DV.lb (List.take l2.length (List.drop (0 : Nat) l2))] [DV.n (n19 + (1 : Int))] <
 outL.mea [DV.lb (List.take l2.length (List.drop (0 : Nat) l2))] [DV.n n19]) (
 true))))) (
 false)) (
 false)) (
 bR (bR (dec ((1 : Int) + n4 = (1 : Int) + n4)) (
 bR (dec ((1 : Int) + n5 = (1 : Int) + n5)) (
 bR (bR (dec ((0 : Nat) = (0 : Nat))) (
 dec (l2.length = l2.length)) (
 false)) (
 bR (bR (b3) (
 b3) (
 bR (b3) (
 false) (
 true))) (
 bR (bR (dec ((0 : Nat) = (0 : Nat))) (
 dec (l17.length = l17.length)) (
 false)) (
 bR (dec (n19 = n19)) (
 true) (
 false)) (
 false)) (
 false)) (
 false)) (
 false)) (
 false)) (
 bR (bR (bR (dec (n6 = n6)) (
 bR (dec (n7 = n7)) (
 bR (dec (n8 = n8)) (
 bR (dec (n9 = n9)) (
 bR (bR (b10) (
 b10) (
 bR (b10) (
 false) (
 true))) (
 true) (
 false)) (
 false)) (
 false)) (
 false)) (
 false)) (
 bR (bR (dec (l17.length.mul (1 : Nat) = l17.length.mul (1 : Nat))) (
 dec ([Col.b l17] = [Col.b l17])) (
 false)) (
 bR (bR (dec (n12 = n12)) (
 bR (dec (n13 = n13)) (
 bR (dec (n14 = n14)) (
 bR (dec (n15 = n15)) (
 bR (bR (b16) (
 b16) (
 bR (b16) (
 false) (
 true))) (
 true) (
 false)) (
 false)) (
 false)) (
 false)) (
 false)) (
 true) (
 false)) (
 false)) (
 false)) (
 reqB ((0 : Int) ≤ n29 + (1 : Int)) (
 reqB (n29 + (1 : Int) ≤ (9 : Int)) (
 reqB (thL.inv [DV.lb (List.take l2.length (List.drop (0 : Nat) l2)), DV.n n19, DV.n ((1 : Int) + n5)]
 [DV.n (n29 + (1 : Int))]) (
 reqB (thL.mea [DV.lb (List.take l2.length (List.drop (0 : Nat) l2)), DV.n n19, DV.n ((1 : Int) + n5)]
 [DV.n (n29 + (1 : Int))] <
 thL.mea
 [DV.lb (List.take l2.length (List.drop (0 : Nat) l2)), DV.n n19, DV.n ((1 : Int) + n5)]
 [DV.n n29]) (
 true))))) (
 false)) (
 false)))))))) (
 bR (bR (dec ((1 : Int) + n4 = (1 : Int) + n4)) (
 bR (dec ((1 : Int) + n5 = (1 : Int) + n5)) (
 bR (bR (dec ((0 : Nat) = (0 : Nat))) (
 dec (l2.length = l2.length)) (
 false)) (
 bR (bR (b3) (
 b3) (
 bR (b3) (
 false) (
 true))) (
 bR (bR (dec ((0 : Nat) = (0 : Nat))) (
 dec (l17.length = l17.length)) (
 false)) (
 true) (
 false)) (
 false)) (
 false)) (
 false)) (
 false)) (
 bR (bR (bR (dec (n6 = n6)) (
 bR (dec (n7 = n7)) (
 bR (dec (n8 = n8)) (
 bR (dec (n9 = n9)) (
 bR (bR (b10) (
 b10) (
 bR (b10) (
 false) (
 true))) (
 true) (
 false)) (
 false)) (
 false)) (
 false)) (
 false)) (
 bR (bR (dec (l17.length.mul (1 : Nat) = l17.length.mul (1 : Nat))) (
 dec ([Col.b l17] = [Col.b l17])) (
 false)) (
 bR (bR (dec (n12 = n12)) (
 bR (dec (n13 = n13)) (
 bR (dec (n14 = n14)) (
 bR (dec (n15 = n15)) (
 bR (bR (b16) (
 b16) (
 bR (b16) (
 false) (
 true))) (
 true) (
 false)) (
 false)) (
 false)) (
 false)) (
 false)) (
 true) (
 false)) (
 false)) (
 false)) (
 reqB ((0 : Int) ≤ n19 + (1 : Int)) (
 reqB (n19 + (1 : Int) ≤ (200 : Int)) (
 reqB (outL.inv [DV.lb (List.take l2.length (List.drop (0 : Nat) l2))] [DV.n (n19 + (1 : Int))]) (
 reqB (outL.mea [DV.lb (List.take l2.length (List.drop (0 : Nat) l2))] [DV.n (n19 + (1 : Int))] <
 outL.mea [DV.lb (List.take l2.length (List.drop (0 : Nat) l2))] [DV.n n19]) (
 true))))) (
 false)) (
 false))) (
 bR (bR (dec ((1 : Int) + n4 = (1 : Int) + n4)) (
 bR (dec ((1 : Int) + n5 = (1 : Int) + n5)) (
 bR (bR (dec ((0 : Nat) = (0 : Nat))) (
 dec (l2.length = l2.length)) (
 false)) (
 bR (bR (b3) (
 b3) (
 bR (b3) (
 false) (
 true))) (
 bR (bR (dec ((0 : Nat) = (0 : Nat))) (
 dec (l17.length = l17.length)) (
 false)) (
 true) (
 false)) (
 false)) (
 false)) (
 false)) (
 false)) (
 bR (bR (bR (dec (n6 = n6)) (
 bR (dec (n7 = n7)) (
 bR (dec (n8 = n8)) (
 bR (dec (n9 = n9)) (
 bR (bR (b10) (
 b10) (
 bR (b10) (
 false) (
 true))) (
 true) (
 false)) (
 false)) (
 false)) (
 false)) (
 false)) (
 bR (bR (dec (l17.length.mul (1 : Nat) = l17.length.mul (1 : Nat))) (
 dec ([Col.b l17] = [Col.b l17])) (
 false)) (
 bR (bR (dec (n12 = n12)) (
 bR (dec (n13 = n13)) (
 bR (dec (n14 = n14)) (
 bR (dec (n15 = n15)) (
 bR (bR (b16) (
 b16) (
 bR (b16) (
 false) (
 true))) (
 true) (
 false)) (
 false)) (
 false)) (
 false)) (
 false)) (
 true) (
 false)) (
 false)) (
 false)) (
 reqB ((0 : Int) ≤ n19 + (1 : Int)) (
 reqB (n19 + (1 : Int) ≤ (200 : Int)) (
 reqB (outL.inv [DV.lb (List.take l2.length (List.drop (0 : Nat) l2))] [DV.n (n19 + (1 : Int))]) (
 reqB (outL.mea [DV.lb (List.take l2.length (List.drop (0 : Nat) l2))] [DV.n (n19 + (1 : Int))] <
 outL.mea [DV.lb (List.take l2.length (List.drop (0 : Nat) l2))] [DV.n n19]) (
 true))))) (
 false)) (
 false))))))))))))))))))) (
 bR (bR (dec ((1 : Int) + n4 = (1 : Int) + n4)) (
 bR (dec ((1 : Int) + n5 = (1 : Int) + n5)) (
 bR (bR (dec ((0 : Nat) = (0 : Nat))) (
 dec (l2.length = l2.length)) (
 false)) (
 bR (bR (b3) (
 b3) (
 bR (b3) (
 false) (
 true))) (
 bR (bR (dec ((0 : Nat) = (0 : Nat))) (
 dec (l17.length = l17.length)) (
 false)) (
 bR (dec (n19 = n19)) (
 true) (
 false)) (
 false)) (
 false)) (
 false)) (
 false)) (
 false)) (
 bR (bR (bR (dec (n6 = n6)) (
 bR (dec (n7 = n7)) (
 bR (dec (n8 = n8)) (
 bR (dec (n9 = n9)) (
 bR (bR (b10) (
 b10) (
 bR (b10) (
 false) (
 true))) (
 true) (
 false)) (
 false)) (
 false)) (
 false)) (
 false)) (
 bR (bR (dec (l17.length.mul (1 : Nat) = l17.length.mul (1 : Nat))) (
 dec ([Col.b l17] = [Col.b l17])) (
 false)) (
 bR (bR (dec (n12 = n12)) (
 bR (dec (n13 = n13)) (
 bR (dec (n14 = n14)) (
 bR (dec (n15 = n15)) (
 bR (bR (b16) (
 b16) (
 bR (b16) (
 false) (
 true))) (
 true) (
 false)) (
 false)) (
 false)) (
 false)) (
 false)) (
 true) (
 false)) (
 false)) (
 false)) (
 reqB ((-1 : Int) ≤ n21 - (1 : Int)) (
 reqB (n21 - (1 : Int) ≤ (200 : Int)) (
 reqB (kL.inv
 [DV.lb (List.take l2.length (List.drop (0 : Nat) l2)), DV.n ((1 : Int) + n4), DV.n ((1 : Int) + n5),
 DV.n n19]
 [DV.b b20, DV.n (n21 - (1 : Int))]) (
 reqB (kL.mea
 [DV.lb (List.take l2.length (List.drop (0 : Nat) l2)), DV.n ((1 : Int) + n4),
 DV.n ((1 : Int) + n5), DV.n n19]
 [DV.b b20, DV.n (n21 - (1 : Int))] <
 kL.mea
 [DV.lb (List.take l2.length (List.drop (0 : Nat) l2)), DV.n ((1 : Int) + n4),
 DV.n ((1 : Int) + n5), DV.n n19]
 [DV.b b20, DV.n n21]) (
 true))))) (
 false)) (
 false)))))))))))))))))))))) (
 reqB (((0 : Nat) + l2.length) * (1 : Nat) ≤ l2.length.mul (1 : Nat)) (
 reqB (l2.length ≤ (9223372036854775807 : Nat)) (
 reqB ((List.take l2.length (List.drop (0 : Nat) l2)).length = l2.length) (
 reqB ((0 : Int) ≤ n21) (
 reqB (n21 ≤ (200 : Int)) (
 reqB ((-1 : Int) ≤ n21) (
 reqB (n21 ≤ (200 : Int)) (
 reqB (dnL.inv [DV.lb (List.take l2.length (List.drop (0 : Nat) l2)), DV.n n21]
 [DV.n (0 : Int), DV.n n21]) (
 allB fun n30 : Int => 
 impB ((0 : Int) ≤ n30) (
 impB (n30 ≤ (200 : Int)) (
 allB fun n31 : Int => 
 impB ((-1 : Int) ≤ n31) (
 impB (n31 ≤ (200 : Int)) (
 impB (dnL.inv [DV.lb (List.take l2.length (List.drop (0 : Nat) l2)), DV.n n21]
 [DV.n n30, DV.n n31]) (
 bR (dec ((0 : Int) ≤ n31)) (
 reqB ((0 : Int) ≤ n31) (
 reqB (n31.toNat < l2.length) (
 reqB (Nat.add (0 : Nat) n31.toNat < l2.length) (
 bR (bR (l2.getD (Nat.add (0 : Nat) n31.toNat) Bool.false) (
 false) (
 true)) (
 bR (bR (dec ((1 : Int) + n4 = (1 : Int) + n4)) (
 bR (dec ((1 : Int) + n5 = (1 : Int) + n5)) (
 bR (bR (dec ((0 : Nat) = (0 : Nat))) (
 dec (l2.length = l2.length)) (
 false)) (
 bR (bR (b3) (
 b3) (
 bR (b3) (
 false) (
 true))) (
 bR (bR (dec ((0 : Nat) = (0 : Nat))) (
 dec (l17.length = l17.length)) (
 false)) (
 bR (dec (n19 = n19)) (
 bR (bR (b20) (
 b20) (
 bR (b20) (
 false) (
 true))) (
 bR (dec (n21 = n21)) (
 bR (dec (n22 = n22)) (
 true) (
 false)) (
 false)) (
 false)) (
 false)) (
 false)) (
 false)) (
 false)) (
 false)) (
 false)) (
 bR (bR (bR (dec (n6 = n6)) (
 bR (dec (n7 = n7)) (
 bR (dec (n8 = n8)) (
 bR (dec (n9 = n9)) (
 bR (bR (b10) (
 b10) (
 bR (b10) (
 false) (
 true))) (
 true) (
 false)) (
 false)) (
 false)) (
 false)) (
 false)) (
 bR (bR (dec (l17.length.mul (1 : Nat) = l17.length.mul (1 : Nat))) (
 dec ([Col.b l17] = [Col.b l17])) (
 false)) (
 bR (bR (dec (n12 = n12)) (
 bR (dec (n13 = n13)) (
 bR (dec (n14 = n14)) (
 bR (dec (n15 = n15)) (
 bR (bR (b16) (
 b16) (
 bR (b16) (
 false) (
 true))) (
 true) (
 false)) (
 false)) (
 false)) (
 false)) (
 false)) (
 true) (
 false)) (
 false)) (
 false)) (
 reqB ((0 : Int) ≤ n30 + (1 : Int)) (
 reqB (n30 + (1 : Int) ≤ (200 : Int)) (
 reqB ((-1 : Int) ≤ n31 - (1 : Int)) (
 reqB (n31 - (1 : Int) ≤ (200 : Int)) (
 reqB (dnL.inv [DV.lb (List.take l2.length (List.drop (0 : Nat) l2)), DV.n n21]
 [DV.n (n30 + (1 : Int)), DV.n (n31 - (1 : Int))]) (
 reqB (dnL.mea [DV.lb (List.take l2.length (List.drop (0 : Nat) l2)), DV.n n21]
 [DV.n (n30 + (1 : Int)), DV.n (n31 - (1 : Int))] <
 dnL.mea [DV.lb (List.take l2.length (List.drop (0 : Nat) l2)), DV.n n21]
 [DV.n n30, DV.n n31]) (
 true))))))) (
 false)) (
 false)) (
 bR (dec ((1 : Int) + n4 ≤ n22)) (
 reqB (n19.toNat < l17.length) (
 reqB (Nat.add (0 : Nat) n19.toNat < l17.length) (
 bR (bR (bR (l17.getD (Nat.add (0 : Nat) n19.toNat) Bool.false) (
 true) (
 false)) (
 false) (
 true)) (
 reqB (sigLP.post [DV.n n0, DV.n n1, DV.lb l2] [DV.b Bool.false]) (
 true)) (
 reqB (((0 : Nat) + l2.length) * (1 : Nat) ≤ l2.length.mul (1 : Nat)) (
 reqB (l2.length ≤ (9223372036854775807 : Nat)) (
 reqB ((List.take l2.length (List.drop (0 : Nat) l2)).length = l2.length) (
 reqB ((0 : Int) ≤ n19) (
 reqB (n19 ≤ (200 : Int)) (
 reqB ((1 : Int) ≤ (1 : Int) + n5) (
 reqB ((1 : Int) + n5 ≤ (8 : Int)) (
 reqB (thL.inv [DV.lb (List.take l2.length (List.drop (0 : Nat) l2)), DV.n n19, DV.n ((1 : Int) + n5)]
 [DV.n (0 : Int)]) (
 allB fun n32 : Int => 
 impB ((0 : Int) ≤ n32) (
 impB (n32 ≤ (9 : Int)) (
 impB (thL.inv [DV.lb (List.take l2.length (List.drop (0 : Nat) l2)), DV.n n19, DV.n ((1 : Int) + n5)]
 [DV.n n32]) (
 reqB (n19.toNat < l17.length) (
 reqB (Nat.add (0 : Nat) n19.toNat < l17.length) (
 bR (l17.getD (Nat.add (0 : Nat) n19.toNat) Bool.false) (
 bR (dec (n32 ≤ (1 : Int) + n5)) (
 bR (dec (n32 = (1 : Int) + n5)) (
 reqB (sigLP.post [DV.n n0, DV.n n1, DV.lb l2] [DV.b Bool.false]) (
 true)) (
 bR (dec (n19 < n32)) (
 reqB (sigLP.post [DV.n n0, DV.n n1, DV.lb l2] [DV.b Bool.false]) (
 true)) (
 reqB ((0 : Int) ≤ n19 - n32) (
 reqB ((n19 - n32).toNat < l2.length) (
 reqB (Nat.add (0 : Nat) (n19 - n32).toNat < l2.length) (
 bR (l2.getD (Nat.add (0 : Nat) (n19 - n32).toNat) Bool.false) (
 bR (bR (dec ((1 : Int) + n4 = (1 : Int) + n4)) (
 bR (dec ((1 : Int) + n5 = (1 : Int) + n5)) (
 bR (bR (dec ((0 : Nat) = (0 : Nat))) (
 dec (l2.length = l2.length)) (
 false)) (
 bR (bR (b3) (
 b3) (
 bR (b3) (
 false) (
 true))) (
 bR (bR (dec ((0 : Nat) = (0 : Nat))) (
 dec (l17.length = l17.length)) (
 false)) (
 true) (
 false)) (
 false)) (
 false)) (
 false)) (
 false)) (
 bR (bR (bR (dec (n6 = n6)) (
 bR (dec (n7 = n7)) (
 bR (dec (n8 = n8)) (
 bR (dec (n9 = n9)) (
 bR (bR (b10) (
 b10) (
 bR (b10) (
 false) (
 true))) (
 true) (
 false)) (
 false)) (
 false)) (
 false)) (
 false)) (
 bR (bR (dec (l17.length.mul (1 : Nat) = l17.length.mul (1 : Nat))) (
 dec ([Col.b l17] = [Col.b l17])) (
 false)) (
 bR (bR (dec (n12 = n12)) (
 bR (dec (n13 = n13)) (
 bR (dec (n14 = n14)) (
 bR (dec (n15 = n15)) (
 bR (bR (b16) (
 b16) (
 bR (b16) (
 false) (
 true))) (
 true) (
 false)) (
 false)) (
 false)) (
 false)) (
 false)) (
 true) (
 false)) (
 false)) (
 false)) (
 reqB ((0 : Int) ≤ n19 + (1 : Int)) (
 reqB (n19 + (1 : Int) ≤ (200 : Int)) (
 reqB (outL.inv [DV.lb (List.take l2.length (List.drop (0 : Nat) l2))] [DV.n (n19 + (1 : Int))]) (
 reqB (outL.mea [DV.lb (List.take l2.length (List.drop (0 : Nat) l2))] [DV.n (n19 + (1 : Int))] <
 outL.mea [DV.lb (List.take l2.length (List.drop (0 : Nat) l2))] [DV.n n19]) (
 true))))) (
 false)) (
 false)) (
 bR (bR (dec ((1 : Int) + n4 = (1 : Int) + n4)) (
 bR (dec ((1 : Int) + n5 = (1 : Int) + n5)) (
 bR (bR (dec ((0 : Nat) = (0 : Nat))) (
 dec (l2.length = l2.length)) (
 false)) (
 bR (bR (b3) (
 b3) (
 bR (b3) (
 false) (
 true))) (
 bR (bR (dec ((0 : Nat) = (0 : Nat))) (
 dec (l17.length = l17.length)) (
 false)) (
 bR (dec (n19 = n19)) (
 true) (
 false)) (
 false)) (
 false)) (
 false)) (
 false)) (
 false)) (
 bR (bR (bR (dec (n6 = n6)) (
 bR (dec (n7 = n7)) (
 bR (dec (n8 = n8)) (
 bR (dec (n9 = n9)) (
 bR (bR (b10) (
 b10) (
 bR (b10) (
 false) (
 true))) (
 true) (
 false)) (
 false)) (
 false)) (
 false)) (
 false)) (
 bR (bR (dec (l17.length.mul (1 : Nat) = l17.length.mul (1 : Nat))) (
 dec ([Col.b l17] = [Col.b l17])) (
 false)) (
 bR (bR (dec (n12 = n12)) (
 bR (dec (n13 = n13)) (
 bR (dec (n14 = n14)) (
 bR (dec (n15 = n15)) (
 bR (bR (b16) (
 b16) (
 bR (b16) (
 false) (
 true))) (
 true) (
 false)) (
 false)) (
 false)) (
 false)) (
 false)) (
 true) (
 false)) (
 false)) (
 false)) (
 reqB ((0 : Int) ≤ n32 + (1 : Int)) (
 reqB (n32 + (1 : Int) ≤ (9 : Int)) (
 reqB (thL.inv [DV.lb (List.take l2.length (List.drop (0 : Nat) l2)), DV.n n19, DV.n ((1 : Int) + n5)]
 [DV.n (n32 + (1 : Int))]) (
 reqB (thL.mea [DV.lb (List.take l2.length (List.drop (0 : Nat) l2)), DV.n n19, DV.n ((1 : Int) + n5)]
 [DV.n (n32 + (1 : Int))] <
 thL.mea
 [DV.lb (List.take l2.length (List.drop (0 : Nat) l2)), DV.n n19, DV.n ((1 : Int) + n5)]
 [DV.n n32]) (
 true))))) (
 false)) (
 false)))))))) (
 bR (bR (dec ((1 : Int) + n4 = (1 : Int) + n4)) (
 bR (dec ((1 : Int) + n5 = (1 : Int) + n5)) (
 bR (bR (dec ((0 : Nat) = (0 : Nat))) (
 dec (l2.length = l2.length)) (
 false)) (
 bR (bR (b3) (
 b3) (
 bR (b3) (
 false) (
 true))) (
 bR (bR (dec ((0 : Nat) = (0 : Nat))) (
 dec (l17.length = l17.length)) (
 false)) (
 true) (
 false)) (
 false)) (
 false)) (
 false)) (
 false)) (
 bR (bR (bR (dec (n6 = n6)) (
 bR (dec (n7 = n7)) (
 bR (dec (n8 = n8)) (
 bR (dec (n9 = n9)) (
 bR (bR (b10) (
 b10) (
 bR (b10) (
 false) (
 true))) (
 true) (
 false)) (
 false)) (
 false)) (
 false)) (
 false)) (
 bR (bR (dec (l17.length.mul (1 : Nat) = l17.length.mul (1 : Nat))) (
 dec ([Col.b l17] = [Col.b l17])) (
 false)) (
 bR (bR (dec (n12 = n12)) (
 bR (dec (n13 = n13)) (
 bR (dec (n14 = n14)) (
 bR (dec (n15 = n15)) (
 bR (bR (b16) (
 b16) (
 bR (b16) (
 false) (
 true))) (
 true) (
 false)) (
 false)) (
 false)) (
 false)) (
 false)) (
 true) (
 false)) (
 false)) (
 false)) (
 reqB ((0 : Int) ≤ n19 + (1 : Int)) (
 reqB (n19 + (1 : Int) ≤ (200 : Int)) (
 reqB (outL.inv [DV.lb (List.take l2.length (List.drop (0 : Nat) l2))] [DV.n (n19 + (1 : Int))]) (
 reqB (outL.mea [DV.lb (List.take l2.length (List.drop (0 : Nat) l2))] [DV.n (n19 + (1 : Int))] <
 outL.mea [DV.lb (List.take l2.length (List.drop (0 : Nat) l2))] [DV.n n19]) (
 true))))) (
 false)) (
 false))) (
 bR (bR (dec ((1 : Int) + n4 = (1 : Int) + n4)) (
 bR (dec ((1 : Int) + n5 = (1 : Int) + n5)) (
 bR (bR (dec ((0 : Nat) = (0 : Nat))) (
 dec (l2.length = l2.length)) (
 false)) (
 bR (bR (b3) (
 b3) (
 bR (b3) (
 false) (
 true))) (
 bR (bR (dec ((0 : Nat) = (0 : Nat))) (
 dec (l17.length = l17.length)) (
 false)) (
 true) (
 false)) (
 false)) (
 false)) (
 false)) (
 false)) (
 bR (bR (bR (dec (n6 = n6)) (
 bR (dec (n7 = n7)) (
 bR (dec (n8 = n8)) (
 bR (dec (n9 = n9)) (
 bR (bR (b10) (
 b10) (
 bR (b10) (
 false) (
 true))) (
 true) (
 false)) (
 false)) (
 false)) (
 false)) (
 false)) (
 bR (bR (dec (l17.length.mul (1 : Nat) = l17.length.mul (1 : Nat))) (
 dec ([Col.b l17] = [Col.b l17])) (
 false)) (
 bR (bR (dec (n12 = n12)) (
 bR (dec (n13 = n13)) (
 bR (dec (n14 = n14)) (
 bR (dec (n15 = n15)) (
 bR (bR (b16) (
 b16) (
 bR (b16) (
 false) (
 true))) (
 true) (
 false)) (
 false)) (
 false)) (
 false)) (
 false)) (
 true) (
 false)) (
 false)) (
 false)) (
 reqB ((0 : Int) ≤ n19 + (1 : Int)) (
 reqB (n19 + (1 : Int) ≤ (200 : Int)) (
 reqB (outL.inv [DV.lb (List.take l2.length (List.drop (0 : Nat) l2))] [DV.n (n19 + (1 : Int))]) (
 reqB (outL.mea [DV.lb (List.take l2.length (List.drop (0 : Nat) l2))] [DV.n (n19 + (1 : Int))] <
 outL.mea [DV.lb (List.take l2.length (List.drop (0 : Nat) l2))] [DV.n n19]) (
 true))))) (
 false)) (
 false))))))))))))))))))) (
 bR (dec ((1 : Int) + n5 ≤ n30)) (
 reqB (n19.toNat < l17.length) (
 reqB (Nat.add (0 : Nat) n19.toNat < l17.length) (
 bR (bR (bR (l17.getD (Nat.add (0 : Nat) n19.toNat) Bool.false) (
 b20) (
 bR (b20) (
 false) (
 true))) (
 false) (
 true)) (
 reqB (sigLP.post [DV.n n0, DV.n n1, DV.lb l2] [DV.b Bool.false]) (
 true)) (
 reqB (((0 : Nat) + l2.length) * (1 : Nat) ≤ l2.length.mul (1 : Nat)) (
 reqB (l2.length ≤ (9223372036854775807 : Nat)) (
 reqB ((List.take l2.length (List.drop (0 : Nat) l2)).length = l2.length) (
 reqB ((0 : Int) ≤ n19) (
 reqB (n19 ≤ (200 : Int)) (
 reqB ((1 : Int) ≤ (1 : Int) + n5) (
 reqB ((1 : Int) + n5 ≤ (8 : Int)) (
 reqB (thL.inv [DV.lb (List.take l2.length (List.drop (0 : Nat) l2)), DV.n n19, DV.n ((1 : Int) + n5)]
 [DV.n (0 : Int)]) (
 allB fun n33 : Int => 
 impB ((0 : Int) ≤ n33) (
 impB (n33 ≤ (9 : Int)) (
 impB (thL.inv [DV.lb (List.take l2.length (List.drop (0 : Nat) l2)), DV.n n19, DV.n ((1 : Int) + n5)]
 [DV.n n33]) (
 reqB (n19.toNat < l17.length) (
 reqB (Nat.add (0 : Nat) n19.toNat < l17.length) (
 bR (l17.getD (Nat.add (0 : Nat) n19.toNat) Bool.false) (
 bR (dec (n33 ≤ (1 : Int) + n5)) (
 bR (dec (n33 = (1 : Int) + n5)) (
 reqB (sigLP.post [DV.n n0, DV.n n1, DV.lb l2] [DV.b Bool.false]) (
 true)) (
 bR (dec (n19 < n33)) (
 reqB (sigLP.post [DV.n n0, DV.n n1, DV.lb l2] [DV.b Bool.false]) (
 true)) (
 reqB ((0 : Int) ≤ n19 - n33) (
 reqB ((n19 - n33).toNat < l2.length) (
 reqB (Nat.add (0 : Nat) (n19 - n33).toNat < l2.length) (
 bR (l2.getD (Nat.add (0 : Nat) (n19 - n33).toNat) Bool.false) (
 bR (bR (dec ((1 : Int) + n4 = (1 : Int) + n4)) (
 bR (dec ((1 : Int) + n5 = (1 : Int) + n5)) (
 bR (bR (dec ((0 : Nat) = (0 : Nat))) (
 dec (l2.length = l2.length)) (
 false)) (
 bR (bR (b3) (
 b3) (
 bR (b3) (
 false) (
 true))) (
 bR (bR (dec ((0 : Nat) = (0 : Nat))) (
 dec (l17.length = l17.length)) (
 false)) (
 true) (
 false)) (
 false)) (
 false)) (
 false)) (
 false)) (
 bR (bR (bR (dec (n6 = n6)) (
 bR (dec (n7 = n7)) (
 bR (dec (n8 = n8)) (
 bR (dec (n9 = n9)) (
 bR (bR (b10) (
 b10) (
 bR (b10) (
 false) (
 true))) (
 true) (
 false)) (
 false)) (
 false)) (
 false)) (
 false)) (
 bR (bR (dec (l17.length.mul (1 : Nat) = l17.length.mul (1 : Nat))) (
 dec ([Col.b l17] = [Col.b l17])) (
 false)) (
 bR (bR (dec (n12 = n12)) (
 bR (dec (n13 = n13)) (
 bR (dec (n14 = n14)) (
 bR (dec (n15 = n15)) (
 bR (bR (b16) (
 b16) (
 bR (b16) (
 false) (
 true))) (
 true) (
 false)) (
 false)) (
 false)) (
 false)) (
 false)) (
 true) (
 false)) (
 false)) (
 false)) (
 reqB ((0 : Int) ≤ n19 + (1 : Int)) (
 reqB (n19 + (1 : Int) ≤ (200 : Int)) (
 reqB (outL.inv [DV.lb (List.take l2.length (List.drop (0 : Nat) l2))] [DV.n (n19 + (1 : Int))]) (
 reqB (outL.mea [DV.lb (List.take l2.length (List.drop (0 : Nat) l2))] [DV.n (n19 + (1 : Int))] <
 outL.mea [DV.lb (List.take l2.length (List.drop (0 : Nat) l2))] [DV.n n19]) (
 true))))) (
 false)) (
 false)) (
 bR (bR (dec ((1 : Int) + n4 = (1 : Int) + n4)) (
 bR (dec ((1 : Int) + n5 = (1 : Int) + n5)) (
 bR (bR (dec ((0 : Nat) = (0 : Nat))) (
 dec (l2.length = l2.length)) (
 false)) (
 bR (bR (b3) (
 b3) (
 bR (b3) (
 false) (
 true))) (
 bR (bR (dec ((0 : Nat) = (0 : Nat))) (
 dec (l17.length = l17.length)) (
 false)) (
 bR (dec (n19 = n19)) (
 true) (
 false)) (
 false)) (
 false)) (
 false)) (
 false)) (
 false)) (
 bR (bR (bR (dec (n6 = n6)) (
 bR (dec (n7 = n7)) (
 bR (dec (n8 = n8)) (
 bR (dec (n9 = n9)) (
 bR (bR (b10) (
 b10) (
 bR (b10) (
 false) (
 true))) (
 true) (
 false)) (
 false)) (
 false)) (
 false)) (
 false)) (
 bR (bR (dec (l17.length.mul (1 : Nat) = l17.length.mul (1 : Nat))) (
 dec ([Col.b l17] = [Col.b l17])) (
 false)) (
 bR (bR (dec (n12 = n12)) (
 bR (dec (n13 = n13)) (
 bR (dec (n14 = n14)) (
 bR (dec (n15 = n15)) (
 bR (bR (b16) (
 b16) (
 bR (b16) (
 false) (
 true))) (
 true) (
 false)) (
 false)) (
 false)) (
 false)) (
 false)) (
 true) (
 false)) (
 false)) (
 false)) (
 reqB ((0 : Int) ≤ n33 + (1 : Int)) (
 reqB (n33 + (1 : Int) ≤ (9 : Int)) (
 reqB (thL.inv [DV.lb (List.take l2.length (List.drop (0 : Nat) l2)), DV.n n19, DV.n ((1 : Int) + n5)]
 [DV.n (n33 + (1 : Int))]) (
 reqB (thL.mea [DV.lb (List.take l2.length (List.drop (0 : Nat) l2)), DV.n n19, DV.n ((1 : Int) + n5)]
 [DV.n (n33 + (1 : Int))] <
 thL.mea
 [DV.lb (List.take l2.length (List.drop (0 : Nat) l2)), DV.n n19, DV.n ((1 : Int) + n5)]
 [DV.n n33]) (
 true))))) (
 false)) (
 false)))))))) (
 bR (bR (dec ((1 : Int) + n4 = (1 : Int) + n4)) (
 bR (dec ((1 : Int) + n5 = (1 : Int) + n5)) (
 bR (bR (dec ((0 : Nat) = (0 : Nat))) (
 dec (l2.length = l2.length)) (
 false)) (
 bR (bR (b3) (
 b3) (
 bR (b3) (
 false) (
 true))) (
 bR (bR (dec ((0 : Nat) = (0 : Nat))) (
 dec (l17.length = l17.length)) (
 false)) (
 true) (
 false)) (
 false)) (
 false)) (
 false)) (
 false)) (
 bR (bR (bR (dec (n6 = n6)) (
 bR (dec (n7 = n7)) (
 bR (dec (n8 = n8)) (
 bR (dec (n9 = n9)) (
 bR (bR (b10) (
 b10) (
 bR (b10) (
 false) (
 true))) (
 true) (
 false)) (
 false)) (
 false)) (
 false)) (
 false)) (
 bR (bR (dec (l17.length.mul (1 : Nat) = l17.length.mul (1 : Nat))) (
 dec ([Col.b l17] = [Col.b l17])) (
 false)) (
 bR (bR (dec (n12 = n12)) (
 bR (dec (n13 = n13)) (
 bR (dec (n14 = n14)) (
 bR (dec (n15 = n15)) (
 bR (bR (b16) (
 b16) (
 bR (b16) (
 false) (
 true))) (
 true) (
 false)) (
 false)) (
 false)) (
 false)) (
 false)) (
 true) (
 false)) (
 false)) (
 false)) (
 reqB ((0 : Int) ≤ n19 + (1 : Int)) (
 reqB (n19 + (1 : Int) ≤ (200 : Int)) (
 reqB (outL.inv [DV.lb (List.take l2.length (List.drop (0 : Nat) l2))] [DV.n (n19 + (1 : Int))]) (
 reqB (outL.mea [DV.lb (List.take l2.length (List.drop (0 : Nat) l2))] [DV.n (n19 + (1 : Int))] <
 outL.mea [DV.lb (List.take l2.length (List.drop (0 : Nat) l2))] [DV.n n19]) (
 true))))) (
 false)) (
 false))) (
 bR (bR (dec ((1 : Int) + n4 = (1 : Int) + n4)) (
 bR (dec ((1 : Int) + n5 = (1 : Int) + n5)) (
 bR (bR (dec ((0 : Nat) = (0 : Nat))) (
 dec (l2.length = l2.length)) (
 false)) (
 bR (bR (b3) (
 b3) (
 bR (b3) (
 false) (
 true))) (
 bR (bR (dec ((0 : Nat) = (0 : Nat))) (
 dec (l17.length = l17.length)) (
 false)) (
 true) (
 false)) (
 false)) (
 false)) (
 false)) (
 false)) (
 bR (bR (bR (dec (n6 = n6)) (
 bR (dec (n7 = n7)) (
 bR (dec (n8 = n8)) (
 bR (dec (n9 = n9)) (
 bR (bR (b10) (
 b10) (
 bR (b10) (
 false) (
 true))) (
 true) (
 false)) (
 false)) (
 false)) (
 false)) (
 false)) (
 bR (bR (dec (l17.length.mul (1 : Nat) = l17.length.mul (1 : Nat))) (
 dec ([Col.b l17] = [Col.b l17])) (
 false)) (
 bR (bR (dec (n12 = n12)) (
 bR (dec (n13 = n13)) (
 bR (dec (n14 = n14)) (
 bR (dec (n15 = n15)) (
 bR (bR (b16) (
 b16) (
 bR (b16) (
 false) (
 true))) (
 true) (
 false)) (
 false)) (
 false)) (
 false)) (
 false)) (
 true) (
 false)) (
 false)) (
 false)) (
 reqB ((0 : Int) ≤ n19 + (1 : Int)) (
 reqB (n19 + (1 : Int) ≤ (200 : Int)) (
 reqB (outL.inv [DV.lb (List.take l2.length (List.drop (0 : Nat) l2))] [DV.n (n19 + (1 : Int))]) (
 reqB (outL.mea [DV.lb (List.take l2.length (List.drop (0 : Nat) l2))] [DV.n (n19 + (1 : Int))] <
 outL.mea [DV.lb (List.take l2.length (List.drop (0 : Nat) l2))] [DV.n n19]) (
 true))))) (
 false)) (
 false))))))))))))))))))) (
 bR (bR (dec ((1 : Int) + n4 = (1 : Int) + n4)) (
 bR (dec ((1 : Int) + n5 = (1 : Int) + n5)) (
 bR (bR (dec ((0 : Nat) = (0 : Nat))) (
 dec (l2.length = l2.length)) (
 false)) (
 bR (bR (b3) (
 b3) (
 bR (b3) (
 false) (
 true))) (
 bR (bR (dec ((0 : Nat) = (0 : Nat))) (
 dec (l17.length = l17.length)) (
 false)) (
 bR (dec (n19 = n19)) (
 true) (
 false)) (
 false)) (
 false)) (
 false)) (
 false)) (
 false)) (
 bR (bR (bR (dec (n6 = n6)) (
 bR (dec (n7 = n7)) (
 bR (dec (n8 = n8)) (
 bR (dec (n9 = n9)) (
 bR (bR (b10) (
 b10) (
 bR (b10) (
 false) (
 true))) (
 true) (
 false)) (
 false)) (
 false)) (
 false)) (
 false)) (
 bR (bR (dec (l17.length.mul (1 : Nat) = l17.length.mul (1 : Nat))) (
 dec ([Col.b l17] = [Col.b l17])) (
 false)) (
 bR (bR (dec (n12 = n12)) (
 bR (dec (n13 = n13)) (
 bR (dec (n14 = n14)) (
 bR (dec (n15 = n15)) (
 bR (bR (b16) (
 b16) (
 bR (b16) (
 false) (
 true))) (
 true) (
 false)) (
 false)) (
 false)) (
 false)) (
 false)) (
 true) (
 false)) (
 false)) (
 false)) (
 reqB ((-1 : Int) ≤ n21 - (1 : Int)) (
 reqB (n21 - (1 : Int) ≤ (200 : Int)) (
 reqB (kL.inv
 [DV.lb (List.take l2.length (List.drop (0 : Nat) l2)), DV.n ((1 : Int) + n4), DV.n ((1 : Int) + n5),
 DV.n n19]
 [DV.b b20, DV.n (n21 - (1 : Int))]) (
 reqB (kL.mea
 [DV.lb (List.take l2.length (List.drop (0 : Nat) l2)), DV.n ((1 : Int) + n4),
 DV.n ((1 : Int) + n5), DV.n n19]
 [DV.b b20, DV.n (n21 - (1 : Int))] <
 kL.mea
 [DV.lb (List.take l2.length (List.drop (0 : Nat) l2)), DV.n ((1 : Int) + n4),
 DV.n ((1 : Int) + n5), DV.n n19]
 [DV.b b20, DV.n n21]) (
 true))))) (
 false)) (
 false)))))))) (
 bR (dec ((1 : Int) + n4 ≤ n22)) (
 reqB (n19.toNat < l17.length) (
 reqB (Nat.add (0 : Nat) n19.toNat < l17.length) (
 bR (bR (bR (l17.getD (Nat.add (0 : Nat) n19.toNat) Bool.false) (
 true) (
 false)) (
 false) (
 true)) (
 reqB (sigLP.post [DV.n n0, DV.n n1, DV.lb l2] [DV.b Bool.false]) (
 true)) (
 reqB (((0 : Nat) + l2.length) * (1 : Nat) ≤ l2.length.mul (1 : Nat)) (
 reqB (l2.length ≤ (9223372036854775807 : Nat)) (
 reqB ((List.take l2.length (List.drop (0 : Nat) l2)).length = l2.length) (
 reqB ((0 : Int) ≤ n19) (
 reqB (n19 ≤ (200 : Int)) (
 reqB ((1 : Int) ≤ (1 : Int) + n5) (
 reqB ((1 : Int) + n5 ≤ (8 : Int)) (
 reqB (thL.inv [DV.lb (List.take l2.length (List.drop (0 : Nat) l2)), DV.n n19, DV.n ((1 : Int) + n5)]
 [DV.n (0 : Int)]) (
 allB fun n34 : Int => 
 impB ((0 : Int) ≤ n34) (
 impB (n34 ≤ (9 : Int)) (
 impB (thL.inv [DV.lb (List.take l2.length (List.drop (0 : Nat) l2)), DV.n n19, DV.n ((1 : Int) + n5)]
 [DV.n n34]) (
 reqB (n19.toNat < l17.length) (
 reqB (Nat.add (0 : Nat) n19.toNat < l17.length) (
 bR (l17.getD (Nat.add (0 : Nat) n19.toNat) Bool.false) (
 bR (dec (n34 ≤ (1 : Int) + n5)) (
 bR (dec (n34 = (1 : Int) + n5)) (
 reqB (sigLP.post [DV.n n0, DV.n n1, DV.lb l2] [DV.b Bool.false]) (
 true)) (
 bR (dec (n19 < n34)) (
 reqB (sigLP.post [DV.n n0, DV.n n1, DV.lb l2] [DV.b Bool.false]) (
 true)) (
 reqB ((0 : Int) ≤ n19 - n34) (
 reqB ((n19 - n34).toNat < l2.length) (
 reqB (Nat.add (0 : Nat) (n19 - n34).toNat < l2.length) (
 bR (l2.getD (Nat.add (0 : Nat) (n19 - n34).toNat) Bool.false) (
 bR (bR (dec ((1 : Int) + n4 = (1 : Int) + n4)) (
 bR (dec ((1 : Int) + n5 = (1 : Int) + n5)) (
 bR (bR (dec ((0 : Nat) = (0 : Nat))) (
 dec (l2.length = l2.length)) (
 false)) (
 bR (bR (b3) (
 b3) (
 bR (b3) (
 false) (
 true))) (
 bR (bR (dec ((0 : Nat) = (0 : Nat))) (
 dec (l17.length = l17.length)) (
 false)) (
 true) (
 false)) (
 false)) (
 false)) (
 false)) (
 false)) (
 bR (bR (bR (dec (n6 = n6)) (
 bR (dec (n7 = n7)) (
 bR (dec (n8 = n8)) (
 bR (dec (n9 = n9)) (
 bR (bR (b10) (
 b10) (
 bR (b10) (
 false) (
 true))) (
 true) (
 false)) (
 false)) (
 false)) (
 false)) (
 false)) (
 bR (bR (dec (l17.length.mul (1 : Nat) = l17.length.mul (1 : Nat))) (
 dec ([Col.b l17] = [Col.b l17])) (
 false)) (
 bR (bR (dec (n12 = n12)) (
 bR (dec (n13 = n13)) (
 bR (dec (n14 = n14)) (
 bR (dec (n15 = n15)) (
 bR (bR (b16) (
 b16) (
 bR (b16) (
 false) (
 true))) (
 true) (
 false)) (
 false)) (
 false)) (
 false)) (
 false)) (
 true) (
 false)) (
 false)) (
 false)) (
 reqB ((0 : Int) ≤ n19 + (1 : Int)) (
 reqB (n19 + (1 : Int) ≤ (200 : Int)) (
 reqB (outL.inv [DV.lb (List.take l2.length (List.drop (0 : Nat) l2))] [DV.n (n19 + (1 : Int))]) (
 reqB (outL.mea [DV.lb (List.take l2.length (List.drop (0 : Nat) l2))] [DV.n (n19 + (1 : Int))] <
 outL.mea [DV.lb (List.take l2.length (List.drop (0 : Nat) l2))] [DV.n n19]) (
 true))))) (
 false)) (
 false)) (
 bR (bR (dec ((1 : Int) + n4 = (1 : Int) + n4)) (
 bR (dec ((1 : Int) + n5 = (1 : Int) + n5)) (
 bR (bR (dec ((0 : Nat) = (0 : Nat))) (
 dec (l2.length = l2.length)) (
 false)) (
 bR (bR (b3) (
 b3) (
 bR (b3) (
 false) (
 true))) (
 bR (bR (dec ((0 : Nat) = (0 : Nat))) (
 dec (l17.length = l17.length)) (
 false)) (
 bR (dec (n19 = n19)) (
 true) (
 false)) (
 false)) (
 false)) (
 false)) (
 false)) (
 false)) (
 bR (bR (bR (dec (n6 = n6)) (
 bR (dec (n7 = n7)) (
 bR (dec (n8 = n8)) (
 bR (dec (n9 = n9)) (
 bR (bR (b10) (
 b10) (
 bR (b10) (
 false) (
 true))) (
 true) (
 false)) (
 false)) (
 false)) (
 false)) (
 false)) (
 bR (bR (dec (l17.length.mul (1 : Nat) = l17.length.mul (1 : Nat))) (
 dec ([Col.b l17] = [Col.b l17])) (
 false)) (
 bR (bR (dec (n12 = n12)) (
 bR (dec (n13 = n13)) (
 bR (dec (n14 = n14)) (
 bR (dec (n15 = n15)) (
 bR (bR (b16) (
 b16) (
 bR (b16) (
 false) (
 true))) (
 true) (
 false)) (
 false)) (
 false)) (
 false)) (
 false)) (
 true) (
 false)) (
 false)) (
 false)) (
 reqB ((0 : Int) ≤ n34 + (1 : Int)) (
 reqB (n34 + (1 : Int) ≤ (9 : Int)) (
 reqB (thL.inv [DV.lb (List.take l2.length (List.drop (0 : Nat) l2)), DV.n n19, DV.n ((1 : Int) + n5)]
 [DV.n (n34 + (1 : Int))]) (
 reqB (thL.mea [DV.lb (List.take l2.length (List.drop (0 : Nat) l2)), DV.n n19, DV.n ((1 : Int) + n5)]
 [DV.n (n34 + (1 : Int))] <
 thL.mea
 [DV.lb (List.take l2.length (List.drop (0 : Nat) l2)), DV.n n19, DV.n ((1 : Int) + n5)]
 [DV.n n34]) (
 true))))) (
 false)) (
 false)))))))) (
 bR (bR (dec ((1 : Int) + n4 = (1 : Int) + n4)) (
 bR (dec ((1 : Int) + n5 = (1 : Int) + n5)) (
 bR (bR (dec ((0 : Nat) = (0 : Nat))) (
 dec (l2.length = l2.length)) (
 false)) (
 bR (bR (b3) (
 b3) (
 bR (b3) (
 false) (
 true))) (
 bR (bR (dec ((0 : Nat) = (0 : Nat))) (
 dec (l17.length = l17.length)) (
 false)) (
 true) (
 false)) (
 false)) (
 false)) (
 false)) (
 false)) (
 bR (bR (bR (dec (n6 = n6)) (
 bR (dec (n7 = n7)) (
 bR (dec (n8 = n8)) (
 bR (dec (n9 = n9)) (
 bR (bR (b10) (
 b10) (
 bR (b10) (
 false) (
 true))) (
 true) (
 false)) (
 false)) (
 false)) (
 false)) (
 false)) (
 bR (bR (dec (l17.length.mul (1 : Nat) = l17.length.mul (1 : Nat))) (
 dec ([Col.b l17] = [Col.b l17])) (
 false)) (
 bR (bR (dec (n12 = n12)) (
 bR (dec (n13 = n13)) (
 bR (dec (n14 = n14)) (
 bR (dec (n15 = n15)) (
 bR (bR (b16) (
 b16) (
 bR (b16) (
 false) (
 true))) (
 true) (
 false)) (
 false)) (
 false)) (
 false)) (
 false)) (
 true) (
 false)) (
 false)) (
 false)) (
 reqB ((0 : Int) ≤ n19 + (1 : Int)) (
 reqB (n19 + (1 : Int) ≤ (200 : Int)) (
 reqB (outL.inv [DV.lb (List.take l2.length (List.drop (0 : Nat) l2))] [DV.n (n19 + (1 : Int))]) (
 reqB (outL.mea [DV.lb (List.take l2.length (List.drop (0 : Nat) l2))] [DV.n (n19 + (1 : Int))] <
 outL.mea [DV.lb (List.take l2.length (List.drop (0 : Nat) l2))] [DV.n n19]) (
 true))))) (
 false)) (
 false))) (
 bR (bR (dec ((1 : Int) + n4 = (1 : Int) + n4)) (
 bR (dec ((1 : Int) + n5 = (1 : Int) + n5)) (
 bR (bR (dec ((0 : Nat) = (0 : Nat))) (
 dec (l2.length = l2.length)) (
 false)) (
 bR (bR (b3) (
 b3) (
 bR (b3) (
 false) (
 true))) (
 bR (bR (dec ((0 : Nat) = (0 : Nat))) (
 dec (l17.length = l17.length)) (
 false)) (
 true) (
 false)) (
 false)) (
 false)) (
 false)) (
 false)) (
 bR (bR (bR (dec (n6 = n6)) (
 bR (dec (n7 = n7)) (
 bR (dec (n8 = n8)) (
 bR (dec (n9 = n9)) (
 bR (bR (b10) (
 b10) (
 bR (b10) (
 false) (
 true))) (
 true) (
 false)) (
 false)) (
 false)) (
 false)) (
 false)) (
 bR (bR (dec (l17.length.mul (1 : Nat) = l17.length.mul (1 : Nat))) (
 dec ([Col.b l17] = [Col.b l17])) (
 false)) (
 bR (bR (dec (n12 = n12)) (
 bR (dec (n13 = n13)) (
 bR (dec (n14 = n14)) (
 bR (dec (n15 = n15)) (
 bR (bR (b16) (
 b16) (
 bR (b16) (
 false) (
 true))) (
 true) (
 false)) (
 false)) (
 false)) (
 false)) (
 false)) (
 true) (
 false)) (
 false)) (
 false)) (
 reqB ((0 : Int) ≤ n19 + (1 : Int)) (
 reqB (n19 + (1 : Int) ≤ (200 : Int)) (
 reqB (outL.inv [DV.lb (List.take l2.length (List.drop (0 : Nat) l2))] [DV.n (n19 + (1 : Int))]) (
 reqB (outL.mea [DV.lb (List.take l2.length (List.drop (0 : Nat) l2))] [DV.n (n19 + (1 : Int))] <
 outL.mea [DV.lb (List.take l2.length (List.drop (0 : Nat) l2))] [DV.n n19]) (
 true))))) (
 false)) (
 false))))))))))))))))))) (
 bR (dec ((1 : Int) + n5 ≤ n30)) (
 reqB (n19.toNat < l17.length) (
 reqB (Nat.add (0 : Nat) n19.toNat < l17.length) (
 bR (bR (bR (l17.getD (Nat.add (0 : Nat) n19.toNat) Bool.false) (
 b20) (
 bR (b20) (
 false) (
 true))) (
 false) (
 true)) (
 reqB (sigLP.post [DV.n n0, DV.n n1, DV.lb l2] [DV.b Bool.false]) (
 true)) (
 reqB (((0 : Nat) + l2.length) * (1 : Nat) ≤ l2.length.mul (1 : Nat)) (
 reqB (l2.length ≤ (9223372036854775807 : Nat)) (
 reqB ((List.take l2.length (List.drop (0 : Nat) l2)).length = l2.length) (
 reqB ((0 : Int) ≤ n19) (
 reqB (n19 ≤ (200 : Int)) (
 reqB ((1 : Int) ≤ (1 : Int) + n5) (
 reqB ((1 : Int) + n5 ≤ (8 : Int)) (
 reqB (thL.inv [DV.lb (List.take l2.length (List.drop (0 : Nat) l2)), DV.n n19, DV.n ((1 : Int) + n5)]
 [DV.n (0 : Int)]) (
 allB fun n35 : Int => 
 impB ((0 : Int) ≤ n35) (
 impB (n35 ≤ (9 : Int)) (
 impB (thL.inv [DV.lb (List.take l2.length (List.drop (0 : Nat) l2)), DV.n n19, DV.n ((1 : Int) + n5)]
 [DV.n n35]) (
 reqB (n19.toNat < l17.length) (
 reqB (Nat.add (0 : Nat) n19.toNat < l17.length) (
 bR (l17.getD (Nat.add (0 : Nat) n19.toNat) Bool.false) (
 bR (dec (n35 ≤ (1 : Int) + n5)) (
 bR (dec (n35 = (1 : Int) + n5)) (
 reqB (sigLP.post [DV.n n0, DV.n n1, DV.lb l2] [DV.b Bool.false]) (
 true)) (
 bR (dec (n19 < n35)) (
 reqB (sigLP.post [DV.n n0, DV.n n1, DV.lb l2] [DV.b Bool.false]) (
 true)) (
 reqB ((0 : Int) ≤ n19 - n35) (
 reqB ((n19 - n35).toNat < l2.length) (
 reqB (Nat.add (0 : Nat) (n19 - n35).toNat < l2.length) (
 bR (l2.getD (Nat.add (0 : Nat) (n19 - n35).toNat) Bool.false) (
 bR (bR (dec ((1 : Int) + n4 = (1 : Int) + n4)) (
 bR (dec ((1 : Int) + n5 = (1 : Int) + n5)) (
 bR (bR (dec ((0 : Nat) = (0 : Nat))) (
 dec (l2.length = l2.length)) (
 false)) (
 bR (bR (b3) (
 b3) (
 bR (b3) (
 false) (
 true))) (
 bR (bR (dec ((0 : Nat) = (0 : Nat))) (
 dec (l17.length = l17.length)) (
 false)) (
 true) (
 false)) (
 false)) (
 false)) (
 false)) (
 false)) (
 bR (bR (bR (dec (n6 = n6)) (
 bR (dec (n7 = n7)) (
 bR (dec (n8 = n8)) (
 bR (dec (n9 = n9)) (
 bR (bR (b10) (
 b10) (
 bR (b10) (
 false) (
 true))) (
 true) (
 false)) (
 false)) (
 false)) (
 false)) (
 false)) (
 bR (bR (dec (l17.length.mul (1 : Nat) = l17.length.mul (1 : Nat))) (
 dec ([Col.b l17] = [Col.b l17])) (
 false)) (
 bR (bR (dec (n12 = n12)) (
 bR (dec (n13 = n13)) (
 bR (dec (n14 = n14)) (
 bR (dec (n15 = n15)) (
 bR (bR (b16) (
 b16) (
 bR (b16) (
 false) (
 true))) (
 true) (
 false)) (
 false)) (
 false)) (
 false)) (
 false)) (
 true) (
 false)) (
 false)) (
 false)) (
 reqB ((0 : Int) ≤ n19 + (1 : Int)) (
 reqB (n19 + (1 : Int) ≤ (200 : Int)) (
 reqB (outL.inv [DV.lb (List.take l2.length (List.drop (0 : Nat) l2))] [DV.n (n19 + (1 : Int))]) (
 reqB (outL.mea [DV.lb (List.take l2.length (List.drop (0 : Nat) l2))] [DV.n (n19 + (1 : Int))] <
 outL.mea [DV.lb (List.take l2.length (List.drop (0 : Nat) l2))] [DV.n n19]) (
 true))))) (
 false)) (
 false)) (
 bR (bR (dec ((1 : Int) + n4 = (1 : Int) + n4)) (
 bR (dec ((1 : Int) + n5 = (1 : Int) + n5)) (
 bR (bR (dec ((0 : Nat) = (0 : Nat))) (
 dec (l2.length = l2.length)) (
 false)) (
 bR (bR (b3) (
 b3) (
 bR (b3) (
 false) (
 true))) (
 bR (bR (dec ((0 : Nat) = (0 : Nat))) (
 dec (l17.length = l17.length)) (
 false)) (
 bR (dec (n19 = n19)) (
 true) (
 false)) (
 false)) (
 false)) (
 false)) (
 false)) (
 false)) (
 bR (bR (bR (dec (n6 = n6)) (
 bR (dec (n7 = n7)) (
 bR (dec (n8 = n8)) (
 bR (dec (n9 = n9)) (
 bR (bR (b10) (
 b10) (
 bR (b10) (
 false) (
 true))) (
 true) (
 false)) (
 false)) (
 false)) (
 false)) (
 false)) (
 bR (bR (dec (l17.length.mul (1 : Nat) = l17.length.mul (1 : Nat))) (
 dec ([Col.b l17] = [Col.b l17])) (
 false)) (
 bR (bR (dec (n12 = n12)) (
 bR (dec (n13 = n13)) (
 bR (dec (n14 = n14)) (
 bR (dec (n15 = n15)) (
 bR (bR (b16) (
 b16) (
 bR (b16) (
 false) (
 true))) (
 true) (
 false)) (
 false)) (
 false)) (
 false)) (
 false)) (
 true) (
 false)) (
 false)) (
 false)) (
 reqB ((0 : Int) ≤ n35 + (1 : Int)) (
 reqB (n35 + (1 : Int) ≤ (9 : Int)) (
 reqB (thL.inv [DV.lb (List.take l2.length (List.drop (0 : Nat) l2)), DV.n n19, DV.n ((1 : Int) + n5)]
 [DV.n (n35 + (1 : Int))]) (
 reqB (thL.mea [DV.lb (List.take l2.length (List.drop (0 : Nat) l2)), DV.n n19, DV.n ((1 : Int) + n5)]
 [DV.n (n35 + (1 : Int))] <
 thL.mea
 [DV.lb (List.take l2.length (List.drop (0 : Nat) l2)), DV.n n19, DV.n ((1 : Int) + n5)]
 [DV.n n35]) (
 true))))) (
 false)) (
 false)))))))) (
 bR (bR (dec ((1 : Int) + n4 = (1 : Int) + n4)) (
 bR (dec ((1 : Int) + n5 = (1 : Int) + n5)) (
 bR (bR (dec ((0 : Nat) = (0 : Nat))) (
 dec (l2.length = l2.length)) (
 false)) (
 bR (bR (b3) (
 b3) (
 bR (b3) (
 false) (
 true))) (
 bR (bR (dec ((0 : Nat) = (0 : Nat))) (
 dec (l17.length = l17.length)) (
 false)) (
 true) (
 false)) (
 false)) (
 false)) (
 false)) (
 false)) (
 bR (bR (bR (dec (n6 = n6)) (
 bR (dec (n7 = n7)) (
 bR (dec (n8 = n8)) (
 bR (dec (n9 = n9)) (
 bR (bR (b10) (
 b10) (
 bR (b10) (
 false) (
 true))) (
 true) (
 false)) (
 false)) (
 false)) (
 false)) (
 false)) (
 bR (bR (dec (l17.length.mul (1 : Nat) = l17.length.mul (1 : Nat))) (
 dec ([Col.b l17] = [Col.b l17])) (
 false)) (
 bR (bR (dec (n12 = n12)) (
 bR (dec (n13 = n13)) (
 bR (dec (n14 = n14)) (
 bR (dec (n15 = n15)) (
 bR (bR (b16) (
 b16) (
 bR (b16) (
 false) (
 true))) (
 true) (
 false)) (
 false)) (
 false)) (
 false)) (
 false)) (
 true) (
 false)) (
 false)) (
 false)) (
 reqB ((0 : Int) ≤ n19 + (1 : Int)) (
 reqB (n19 + (1 : Int) ≤ (200 : Int)) (
 reqB (outL.inv [DV.lb (List.take l2.length (List.drop (0 : Nat) l2))] [DV.n (n19 + (1 : Int))]) (
 reqB (outL.mea [DV.lb (List.take l2.length (List.drop (0 : Nat) l2))] [DV.n (n19 + (1 : Int))] <
 outL.mea [DV.lb (List.take l2.length (List.drop (0 : Nat) l2))] [DV.n n19]) (
 true))))) (
 false)) (
 false))) (
 bR (bR (dec ((1 : Int) + n4 = (1 : Int) + n4)) (
 bR (dec ((1 : Int) + n5 = (1 : Int) + n5)) (
 bR (bR (dec ((0 : Nat) = (0 : Nat))) (
 dec (l2.length = l2.length)) (
 false)) (
 bR (bR (b3) (
 b3) (
 bR (b3) (
 false) (
 true))) (
 bR (bR (dec ((0 : Nat) = (0 : Nat))) (
 dec (l17.length = l17.length)) (
 false)) (
 true) (
 false)) (
 false)) (
 false)) (
 false)) (
 false)) (
 bR (bR (bR (dec (n6 = n6)) (
 bR (dec (n7 = n7)) (
 bR (dec (n8 = n8)) (
 bR (dec (n9 = n9)) (
 bR (bR (b10) (
 b10) (
 bR (b10) (
 false) (
 true))) (
 true) (
 false)) (
 false)) (
 false)) (
 false)) (
 false)) (
 bR (bR (dec (l17.length.mul (1 : Nat) = l17.length.mul (1 : Nat))) (
 dec ([Col.b l17] = [Col.b l17])) (
 false)) (
 bR (bR (dec (n12 = n12)) (
 bR (dec (n13 = n13)) (
 bR (dec (n14 = n14)) (
 bR (dec (n15 = n15)) (
 bR (bR (b16) (
 b16) (
 bR (b16) (
 false) (
 true))) (
 true) (
 false)) (
 false)) (
 false)) (
 false)) (
 false)) (
 true) (
 false)) (
 false)) (
 false)) (
 reqB ((0 : Int) ≤ n19 + (1 : Int)) (
 reqB (n19 + (1 : Int) ≤ (200 : Int)) (
 reqB (outL.inv [DV.lb (List.take l2.length (List.drop (0 : Nat) l2))] [DV.n (n19 + (1 : Int))]) (
 reqB (outL.mea [DV.lb (List.take l2.length (List.drop (0 : Nat) l2))] [DV.n (n19 + (1 : Int))] <
 outL.mea [DV.lb (List.take l2.length (List.drop (0 : Nat) l2))] [DV.n n19]) (
 true))))) (
 false)) (
 false))))))))))))))))))) (
 bR (bR (dec ((1 : Int) + n4 = (1 : Int) + n4)) (
 bR (dec ((1 : Int) + n5 = (1 : Int) + n5)) (
 bR (bR (dec ((0 : Nat) = (0 : Nat))) (
 dec (l2.length = l2.length)) (
 false)) (
 bR (bR (b3) (
 b3) (
 bR (b3) (
 false) (
 true))) (
 bR (bR (dec ((0 : Nat) = (0 : Nat))) (
 dec (l17.length = l17.length)) (
 false)) (
 bR (dec (n19 = n19)) (
 true) (
 false)) (
 false)) (
 false)) (
 false)) (
 false)) (
 false)) (
 bR (bR (bR (dec (n6 = n6)) (
 bR (dec (n7 = n7)) (
 bR (dec (n8 = n8)) (
 bR (dec (n9 = n9)) (
 bR (bR (b10) (
 b10) (
 bR (b10) (
 false) (
 true))) (
 true) (
 false)) (
 false)) (
 false)) (
 false)) (
 false)) (
 bR (bR (dec (l17.length.mul (1 : Nat) = l17.length.mul (1 : Nat))) (
 dec ([Col.b l17] = [Col.b l17])) (
 false)) (
 bR (bR (dec (n12 = n12)) (
 bR (dec (n13 = n13)) (
 bR (dec (n14 = n14)) (
 bR (dec (n15 = n15)) (
 bR (bR (b16) (
 b16) (
 bR (b16) (
 false) (
 true))) (
 true) (
 false)) (
 false)) (
 false)) (
 false)) (
 false)) (
 true) (
 false)) (
 false)) (
 false)) (
 reqB ((-1 : Int) ≤ n21 - (1 : Int)) (
 reqB (n21 - (1 : Int) ≤ (200 : Int)) (
 reqB (kL.inv
 [DV.lb (List.take l2.length (List.drop (0 : Nat) l2)), DV.n ((1 : Int) + n4), DV.n ((1 : Int) + n5),
 DV.n n19]
 [DV.b b20, DV.n (n21 - (1 : Int))]) (
 reqB (kL.mea
 [DV.lb (List.take l2.length (List.drop (0 : Nat) l2)), DV.n ((1 : Int) + n4),
 DV.n ((1 : Int) + n5), DV.n n19]
 [DV.b b20, DV.n (n21 - (1 : Int))] <
 kL.mea
 [DV.lb (List.take l2.length (List.drop (0 : Nat) l2)), DV.n ((1 : Int) + n4),
 DV.n ((1 : Int) + n5), DV.n n19]
 [DV.b b20, DV.n n21]) (
 true))))) (
 false)) (
 false)))))))))))))))))))))))))))))))) (
 reqB (n19.toNat < l17.length) (
 reqB (Nat.add (0 : Nat) n19.toNat < l17.length) (
 bR (bR (bR (l17.getD (Nat.add (0 : Nat) n19.toNat) Bool.false) (
 b20) (
 bR (b20) (
 false) (
 true))) (
 false) (
 true)) (
 reqB (sigLP.post [DV.n n0, DV.n n1, DV.lb l2] [DV.b Bool.false]) (
 true)) (
 reqB (((0 : Nat) + l2.length) * (1 : Nat) ≤ l2.length.mul (1 : Nat)) (
 reqB (l2.length ≤ (9223372036854775807 : Nat)) (
 reqB ((List.take l2.length (List.drop (0 : Nat) l2)).length = l2.length) (
 reqB ((0 : Int) ≤ n19) (
 reqB (n19 ≤ (200 : Int)) (
 reqB ((1 : Int) ≤ (1 : Int) + n5) (
 reqB ((1 : Int) + n5 ≤ (8 : Int)) (
 reqB (thL.inv [DV.lb (List.take l2.length (List.drop (0 : Nat) l2)), DV.n n19, DV.n ((1 : Int) + n5)]
 [DV.n (0 : Int)]) (
 allB fun n36 : Int => 
 impB ((0 : Int) ≤ n36) (
 impB (n36 ≤ (9 : Int)) (
 impB (thL.inv [DV.lb (List.take l2.length (List.drop (0 : Nat) l2)), DV.n n19, DV.n ((1 : Int) + n5)]
 [DV.n n36]) (
 reqB (n19.toNat < l17.length) (
 reqB (Nat.add (0 : Nat) n19.toNat < l17.length) (
 bR (l17.getD (Nat.add (0 : Nat) n19.toNat) Bool.false) (
 bR (dec (n36 ≤ (1 : Int) + n5)) (
 bR (dec (n36 = (1 : Int) + n5)) (
 reqB (sigLP.post [DV.n n0, DV.n n1, DV.lb l2] [DV.b Bool.false]) (
 true)) (
 bR (dec (n19 < n36)) (
 reqB (sigLP.post [DV.n n0, DV.n n1, DV.lb l2] [DV.b Bool.false]) (
 true)) (
 reqB ((0 : Int) ≤ n19 - n36) (
 reqB ((n19 - n36).toNat < l2.length) (
 reqB (Nat.add (0 : Nat) (n19 - n36).toNat < l2.length) (
 bR (l2.getD (Nat.add (0 : Nat) (n19 - n36).toNat) Bool.false) (
 bR (bR (dec ((1 : Int) + n4 = (1 : Int) + n4)) (
 bR (dec ((1 : Int) + n5 = (1 : Int) + n5)) (
 bR (bR (dec ((0 : Nat) = (0 : Nat))) (
 dec (l2.length = l2.length)) (
 false)) (
 bR (bR (b3) (
 b3) (
 bR (b3) (
 false) (
 true))) (
 bR (bR (dec ((0 : Nat) = (0 : Nat))) (
 dec (l17.length = l17.length)) (
 false)) (
 true) (
 false)) (
 false)) (
 false)) (
 false)) (
 false)) (
 bR (bR (bR (dec (n6 = n6)) (
 bR (dec (n7 = n7)) (
 bR (dec (n8 = n8)) (
 bR (dec (n9 = n9)) (
 bR (bR (b10) (
 b10) (
 bR (b10) (
 false) (
 true))) (
 true) (
 false)) (
 false)) (
 false)) (
 false)) (
 false)) (
 bR (bR (dec (l17.length.mul (1 : Nat) = l17.length.mul (1 : Nat))) (
 dec ([Col.b l17] = [Col.b l17])) (
 false)) (
 bR (bR (dec (n12 = n12)) (
 bR (dec (n13 = n13)) (
 bR (dec (n14 = n14)) (
 bR (dec (n15 = n15)) (
 bR (bR (b16) (
 b16) (
 bR (b16) (
 false) (
 true))) (
 true) (
 false)) (
 false)) (
 false)) (
 false)) (
 false)) (
 true) (
 false)) (
 false)) (
 false)) (
 reqB ((0 : Int) ≤ n19 + (1 : Int)) (
 reqB (n19 + (1 : Int) ≤ (200 : Int)) (
 reqB (outL.inv [DV.lb (List.take l2.length (List.drop (0 : Nat) l2))] [DV.n (n19 + (1 : Int))]) (
 reqB (outL.mea [DV.lb (List.take l2.length (List.drop (0 : Nat) l2))] [DV.n (n19 + (1 : Int))] <
 outL.mea [DV.lb (List.take l2.length (List.drop (0 : Nat) l2))] [DV.n n19]) (
 true))))) (
 false)) (
 false)) (
 bR (bR (dec ((1 : Int) + n4 = (1 : Int) + n4)) (
 bR (dec ((1 : Int) + n5 = (1 : Int) + n5)) (
 bR (bR (dec ((0 : Nat) = (0 : Nat))) (
 dec (l2.length = l2.length)) (
 false)) (
 bR (bR (b3) (
 b3) (
 bR (b3) (
 false) (
 true))) (
 bR (bR (dec ((0 : Nat) = (0 : Nat))) (
 dec (l17.length = l17.length)) (
 false)) (
 bR (dec (n19 = n19)) (
 true) (
 false)) (
 false)) (
 false)) (
 false)) (
 false)) (
 false)) (
 bR (bR (bR (dec (n6 = n6)) (
 bR (dec (n7 = n7)) (
 bR (dec (n8 = n8)) (
 bR (dec (n9 = n9)) (
 bR (bR (b10) (
 b10) (
 bR (b10) (
 false) (
 true))) (
 true) (
 false)) (
 false)) (
 false)) (
 false)) (
 false)) (
 bR (bR (dec (l17.length.mul (1 : Nat) = l17.length.mul (1 : Nat))) (
 dec ([Col.b l17] = [Col.b l17])) (
 false)) (
 bR (bR (dec (n12 = n12)) (
 bR (dec (n13 = n13)) (
 bR (dec (n14 = n14)) (
 bR (dec (n15 = n15)) (
 bR (bR (b16) (
 b16) (
 bR (b16) (
 false) (
 true))) (
 true) (
 false)) (
 false)) (
 false)) (
 false)) (
 false)) (
 true) (
 false)) (
 false)) (
 false)) (
 reqB ((0 : Int) ≤ n36 + (1 : Int)) (
 reqB (n36 + (1 : Int) ≤ (9 : Int)) (
 reqB (thL.inv [DV.lb (List.take l2.length (List.drop (0 : Nat) l2)), DV.n n19, DV.n ((1 : Int) + n5)]
 [DV.n (n36 + (1 : Int))]) (
 reqB (thL.mea [DV.lb (List.take l2.length (List.drop (0 : Nat) l2)), DV.n n19, DV.n ((1 : Int) + n5)]
 [DV.n (n36 + (1 : Int))] <
 thL.mea
 [DV.lb (List.take l2.length (List.drop (0 : Nat) l2)), DV.n n19, DV.n ((1 : Int) + n5)]
 [DV.n n36]) (
 true))))) (
 false)) (
 false)))))))) (
 bR (bR (dec ((1 : Int) + n4 = (1 : Int) + n4)) (
 bR (dec ((1 : Int) + n5 = (1 : Int) + n5)) (
 bR (bR (dec ((0 : Nat) = (0 : Nat))) (
 dec (l2.length = l2.length)) (
 false)) (
 bR (bR (b3) (
 b3) (
 bR (b3) (
 false) (
 true))) (
 bR (bR (dec ((0 : Nat) = (0 : Nat))) (
 dec (l17.length = l17.length)) (
 false)) (
 true) (
 false)) (
 false)) (
 false)) (
 false)) (
 false)) (
 bR (bR (bR (dec (n6 = n6)) (
 bR (dec (n7 = n7)) (
 bR (dec (n8 = n8)) (
 bR (dec (n9 = n9)) (
 bR (bR (b10) (
 b10) (
 bR (b10) (
 false) (
 true))) (
 true) (
 false)) (
 false)) (
 false)) (
 false)) (
 false)) (
 bR (bR (dec (l17.length.mul (1 : Nat) = l17.length.mul (1 : Nat))) (
 dec ([Col.b l17] = [Col.b l17])) (
 false)) (
 bR (bR (dec (n12 = n12)) (
 bR (dec (n13 = n13)) (
 bR (dec (n14 = n14)) (
 bR (dec (n15 = n15)) (
 bR (bR (b16) (
 b16) (
 bR (b16) (
 false) (
 true))) (
 true) (
 false)) (
 false)) (
 false)) (
 false)) (
 false)) (
 true) (
 false)) (
 false)) (
 false)) (
 reqB ((0 : Int) ≤ n19 + (1 : Int)) (
 reqB (n19 + (1 : Int) ≤ (200 : Int)) (
 reqB (outL.inv [DV.lb (List.take l2.length (List.drop (0 : Nat) l2))] [DV.n (n19 + (1 : Int))]) (
 reqB (outL.mea [DV.lb (List.take l2.length (List.drop (0 : Nat) l2))] [DV.n (n19 + (1 : Int))] <
 outL.mea [DV.lb (List.take l2.length (List.drop (0 : Nat) l2))] [DV.n n19]) (
 true))))) (
 false)) (
 false))) (
 bR (bR (dec ((1 : Int) + n4 = (1 : Int) + n4)) (
 bR (dec ((1 : Int) + n5 = (1 : Int) + n5)) (
 bR (bR (dec ((0 : Nat) = (0 : Nat))) (
 dec (l2.length = l2.length)) (
 false)) (
 bR (bR (b3) (
 b3) (
 bR (b3) (
 false) (
 true))) (
 bR (bR (dec ((0 : Nat) = (0 : Nat))) (
 dec (l17.length = l17.length)) (
 false)) (
 true) (
 false)) (
 false)) (
 false)) (
 false)) (
 false)) (
 bR (bR (bR (dec (n6 = n6)) (
 bR (dec (n7 = n7)) (
 bR (dec (n8 = n8)) (
 bR (dec (n9 = n9)) (
 bR (bR (b10) (
 b10) (
 bR (b10) (
 false) (
 true))) (
 true) (
 false)) (
 false)) (
 false)) (
 false)) (
 false)) (
 bR (bR (dec (l17.length.mul (1 : Nat) = l17.length.mul (1 : Nat))) (
 dec ([Col.b l17] = [Col.b l17])) (
 false)) (
 bR (bR (dec (n12 = n12)) (
 bR (dec (n13 = n13)) (
 bR (dec (n14 = n14)) (
 bR (dec (n15 = n15)) (
 bR (bR (b16) (
 b16) (
 bR (b16) (
 false) (
 true))) (
 true) (
 false)) (
 false)) (
 false)) (
 false)) (
 false)) (
 true) (
 false)) (
 false)) (
 false)) (
 reqB ((0 : Int) ≤ n19 + (1 : Int)) (
 reqB (n19 + (1 : Int) ≤ (200 : Int)) (
 reqB (outL.inv [DV.lb (List.take l2.length (List.drop (0 : Nat) l2))] [DV.n (n19 + (1 : Int))]) (
 reqB (outL.mea [DV.lb (List.take l2.length (List.drop (0 : Nat) l2))] [DV.n (n19 + (1 : Int))] <
 outL.mea [DV.lb (List.take l2.length (List.drop (0 : Nat) l2))] [DV.n n19]) (
 true))))) (
 false)) (
 false))))))))))))))))))))))))))))))))))) (
 reqB (sigLP.post [DV.n n0, DV.n n1, DV.lb l2] [DV.b b3]) (
 true)))))))))))))))))))))))))))))))))))))))))))))))))))))))))))))))))))))))))) := by kernel_rfl
set_option maxHeartbeats 8000000 in
theorem vt_LockProves : vcFn Try.prog [(5, Ext.ctr (ctOf sigTrue0)), (21, Ext.ctr (ctOf sigPick)), (11, Ext.ctr (ctOf sigNew)), (18, Ext.ctr (ctOf sigRun))] tabP [] 100 6 sigLP = true := by
  rw [vc_LockProves]
  try simp only [Int.toNat_natCast, List.length_set, List.length_replicate, List.length_take, List.length_drop, List.length_append, List.length_cons, List.length_nil, Nat.min_self, List.take_take, lenCols_i, lenCols_b, List.drop_zero, List.take_length, Nat.add_eq, Nat.mul_eq, Nat.sub_eq, Nat.zero_add, Nat.sub_zero, Nat.mul_one]
  refine all_i fun n0 => ?_
  refine imp_i fun h0 => ?_
  refine imp_i fun h1 => ?_
  refine all_i fun n1 => ?_
  refine imp_i fun h2 => ?_
  refine imp_i fun h3 => ?_
  refine all_i fun l2 => ?_
  refine imp_i fun h4 => ?_
  refine imp_i fun h5 => ?_
  try simp only [sigLP, List.cons.injEq, DV.b.injEq, Int.sub_add_cancel, and_true, List.length_cons, List.length_nil] at h5
  refine req_i ?_ ?_
  · -- r0
   first | omega | assumption | grind
  refine all_i fun b3 => ?_
  refine imp_i fun h6 => ?_
  try simp only [sigTrue0, List.cons.injEq, DV.b.injEq, Int.sub_add_cancel, and_true, List.length_cons, List.length_nil] at h6
  refine bR_dec (fun h7 => ?_) (fun h7 => ?_)
  ·
   refine req_i ?_ ?_
   · -- r1
    first | omega | ((try simp only [sigLP, List.cons.injEq, DV.b.injEq, Int.sub_add_cancel, and_true, List.length_cons, List.length_nil]); first | done | omega | assumption | grind [toNat_succ])
   rfl
  ·
   refine req_i ?_ ?_
   · -- r2
    first | omega | assumption | grind
   refine req_i ?_ ?_
   · -- r3
    first | omega | assumption | grind
   refine req_i ?_ ?_
   · -- r4
    first | trivial | assumption | (simp only [sigPick, pickPost, List.cons.injEq, DV.b.injEq, Int.sub_add_cancel, and_true, List.length_cons, List.length_nil]; done) | ((try simp only [sigPick, pickPost, List.cons.injEq, DV.b.injEq, Int.sub_add_cancel, and_true, List.length_cons, List.length_nil]); first | omega | assumption | grind)
   refine all_i fun n4 => ?_
   refine imp_i fun h8 => ?_
   refine imp_i fun h9 => ?_
   refine imp_i fun h10 => ?_
   try simp only [sigPick, pickPost, List.cons.injEq, DV.b.injEq, Int.sub_add_cancel, and_true, List.length_cons, List.length_nil] at h10
   refine req_i ?_ ?_
   · -- r5
    first | omega | assumption | grind
   refine req_i ?_ ?_
   · -- r6
    first | omega | assumption | grind
   refine req_i ?_ ?_
   · -- r7
    first | trivial | assumption | (simp only [sigPick, pickPost, List.cons.injEq, DV.b.injEq, Int.sub_add_cancel, and_true, List.length_cons, List.length_nil]; done) | ((try simp only [sigPick, pickPost, List.cons.injEq, DV.b.injEq, Int.sub_add_cancel, and_true, List.length_cons, List.length_nil]); first | omega | assumption | grind)
   refine all_i fun n5 => ?_
   refine imp_i fun h11 => ?_
   refine imp_i fun h12 => ?_
   refine imp_i fun h13 => ?_
   try simp only [sigPick, pickPost, List.cons.injEq, DV.b.injEq, Int.sub_add_cancel, and_true, List.length_cons, List.length_nil] at h13
   refine req_i ?_ ?_
   · -- r8
    first | omega | assumption | grind
   refine req_i ?_ ?_
   · -- r9
    first | omega | assumption | grind
   refine req_i ?_ ?_
   · -- r10
    first | omega | assumption | grind
   refine req_i ?_ ?_
   · -- r11
    first | omega | assumption | grind
   refine req_i ?_ ?_
   · -- r12
    first | trivial | assumption | (simp only [sigNew, newPost, List.cons.injEq, DV.b.injEq, Int.sub_add_cancel, and_true, List.length_cons, List.length_nil]; done) | ((try simp only [sigNew, newPost, List.cons.injEq, DV.b.injEq, Int.sub_add_cancel, and_true, List.length_cons, List.length_nil]); first | omega | assumption | grind)
   refine all_i fun n6 => ?_
   refine imp_i fun h14 => ?_
   refine imp_i fun h15 => ?_
   refine all_i fun n7 => ?_
   refine imp_i fun h16 => ?_
   refine imp_i fun h17 => ?_
   refine all_i fun n8 => ?_
   refine imp_i fun h18 => ?_
   refine imp_i fun h19 => ?_
   refine all_i fun n9 => ?_
   refine imp_i fun h20 => ?_
   refine imp_i fun h21 => ?_
   refine all_i fun b10 => ?_
   refine all_i fun n11 => ?_
   refine imp_i fun h22 => ?_
   refine imp_i fun h23 => ?_
   refine imp_i fun h24 => ?_
   try simp only [sigNew, newPost, List.cons.injEq, DV.b.injEq, Int.sub_add_cancel, and_true, List.length_cons, List.length_nil] at h24
   refine req_i ?_ ?_
   · -- r13
    first | omega | assumption | grind
   refine req_i ?_ ?_
   · -- r14
    first | omega | assumption | grind
   refine req_i ?_ ?_
   · -- r15
    first | omega | assumption | grind
   refine req_i ?_ ?_
   · -- r16
    first | omega | assumption | grind
   refine req_i ?_ ?_
   · -- r17
    first | omega | assumption | grind
   refine req_i ?_ ?_
   · -- r18
    first | omega | assumption | grind
   refine req_i ?_ ?_
   · -- r19
    first | omega | assumption | grind
   refine req_i ?_ ?_
   · -- r20
    first | omega | assumption | grind
   refine req_i ?_ ?_
   · -- r21
    first | omega | ((try simp only [Nat.mul_eq]); first | done | omega | assumption | grind [toNat_succ])
   refine req_i ?_ ?_
   · -- r22
    first | omega | ((try simp only [Nat.zero_add]); first | done | omega | assumption | grind [toNat_succ])
   refine req_i ?_ ?_
   · -- r23
    first | omega | ((try simp only [List.length_take, List.take_length, List.take_take, Nat.min_self, List.length_drop, List.drop_zero, List.length_cons, List.length_nil]); first | done | omega | assumption | grind [toNat_succ])
   refine req_i ?_ ?_
   · -- r24
    first | omega | ((try simp only [sigRun, runPost, List.cons.injEq, DV.b.injEq, Int.sub_add_cancel, and_true, List.length_take, List.take_length, List.take_take, Nat.min_self, List.length_drop, List.drop_zero, List.length_cons, List.length_nil]); first | done | omega | assumption | grind [toNat_succ])
   refine all_i fun n12 => ?_
   refine imp_i fun h25 => ?_
   refine imp_i fun h26 => ?_
   refine all_i fun n13 => ?_
   refine imp_i fun h27 => ?_
   refine imp_i fun h28 => ?_
   refine all_i fun n14 => ?_
   refine imp_i fun h29 => ?_
   refine imp_i fun h30 => ?_
   refine all_i fun n15 => ?_
   refine imp_i fun h31 => ?_
   refine imp_i fun h32 => ?_
   refine all_i fun b16 => ?_
   refine all_i fun l17 => ?_
   refine imp_i fun h33 => ?_
   refine all_i fun n18 => ?_
   refine imp_i fun h34 => ?_
   refine imp_i fun h35 => ?_
   refine imp_i fun h36 => ?_
   try simp only [Int.toNat_natCast, List.length_set, List.length_replicate, List.length_take, List.length_drop, List.length_append, List.length_cons, List.length_nil, Nat.min_self, List.take_take, lenCols_i, lenCols_b, List.drop_zero, List.take_length, Nat.add_eq, Nat.mul_eq, Nat.sub_eq, Nat.zero_add, Nat.sub_zero, Nat.mul_one] at h36
   obtain ⟨r1, r2, r3, r4, ho, r6⟩ := run_ok h36 (by rw [h24.1, h24.2.1, h24.2.2.1, h24.2.2.2.1, h24.2.2.2.2.1]; exact chk_new (by omega) (by omega) (by omega) (by omega)) (by omega)
   rw [h24.1, h24.2.1, h24.2.2.1, h24.2.2.2.1, h24.2.2.2.2.1] at ho
   have hlen : l17.length = l2.length := by rw [ho, outS_length]
   refine bR_dec (fun h37 => ?_) (fun h37 => ?_)
   ·
    refine req_i ?_ ?_
    · -- r25
     first | omega | ((try simp only [sigLP, List.cons.injEq, DV.b.injEq, Int.sub_add_cancel, and_true, List.length_cons, List.length_nil]); first | done | omega | assumption | grind [toNat_succ])
    rfl
   ·
    refine bR_dec (fun h38 => ?_) (fun h38 => ?_)
    ·
     refine req_i ?_ ?_
     · -- r26
      first | omega | ((try simp only [sigLP, List.cons.injEq, DV.b.injEq, Int.sub_add_cancel, and_true, List.length_cons, List.length_nil]); first | done | omega | assumption | grind [toNat_succ])
     rfl
    ·
     refine bR_dec (fun h39 => ?_) (fun h39 => ?_)
     ·
      refine req_i ?_ ?_
      · -- r27
       first | omega | ((try simp only [sigLP, List.cons.injEq, DV.b.injEq, Int.sub_add_cancel, and_true, List.length_cons, List.length_nil]); first | done | omega | assumption | grind [toNat_succ])
      rfl
     ·
      refine req_i ?_ ?_
      · -- r28
       first | omega | ((try simp only [Nat.mul_eq]); first | done | omega | assumption | grind [toNat_succ])
      refine req_i ?_ ?_
      · -- r29
       first | omega | ((try simp only [Nat.zero_add]); first | done | omega | assumption | grind [toNat_succ])
      refine req_i ?_ ?_
      · -- r30
       first | omega | ((try simp only [List.length_take, List.take_length, List.take_take, Nat.min_self, List.length_drop, List.drop_zero, List.length_cons, List.length_nil]); first | done | omega | assumption | grind [toNat_succ])
      refine req_i ?_ ?_
      · -- r31
       first | omega | ((try simp only [outL, outInv, outMea, List.cons.injEq, DV.b.injEq, Int.sub_add_cancel, and_true, List.length_take, List.take_length, List.take_take, Nat.min_self, List.length_drop, List.drop_zero, List.length_cons, List.length_nil]); first | done | omega | assumption | grind [toNat_succ])
      refine all_i fun n19 => ?_
      refine imp_i fun h40 => ?_
      refine imp_i fun h41 => ?_
      refine imp_i fun h42 => ?_
      try simp only [outL, outInv, outMea, List.cons.injEq, DV.b.injEq, Int.sub_add_cancel, and_true, List.length_take, List.take_length, List.take_take, Nat.min_self, List.length_drop, List.drop_zero, List.length_cons, List.length_nil] at h42
      refine bR_dec (fun h43 => ?_) (fun h43 => ?_)
      ·
       have xs : l17.getD n19.toNat false = wN (1 + n4) (1 + n5) l2 (n19 + 1).toNat := by rw [ho]; exact out_state' (by omega) (by omega) (by omega) (by omega)
       refine req_i ?_ ?_
       · -- r32
        first | omega | ((try simp only [Nat.mul_eq]); first | done | omega | assumption | grind [toNat_succ])
       refine req_i ?_ ?_
       · -- r33
        first | omega | ((try simp only [Nat.zero_add]); first | done | omega | assumption | grind [toNat_succ])
       refine req_i ?_ ?_
       · -- r34
        first | omega | ((try simp only [List.length_take, List.take_length, List.take_take, Nat.min_self, List.length_drop, List.drop_zero, List.length_cons, List.length_nil]); first | done | omega | assumption | grind [toNat_succ])
       refine req_i ?_ ?_
       · -- r35
        first | omega | assumption | grind
       refine req_i ?_ ?_
       · -- r36
        first | omega | assumption | grind
       refine req_i ?_ ?_
       · -- r37
        first | omega | assumption | grind
       refine req_i ?_ ?_
       · -- r38
        first | omega | assumption | grind
       refine req_i ?_ ?_
       · -- r39
        first | omega | assumption | grind
       refine req_i ?_ ?_
       · -- r40
        first | omega | assumption | grind
       refine req_i ?_ ?_
       · -- r41
        first | omega | assumption | grind
       refine req_i ?_ ?_
       · -- r42
        first | omega | assumption | grind
       refine req_i ?_ ?_
       · -- r43
        first | omega | ((try simp only [kL, kInv, kMea, List.cons.injEq, DV.b.injEq, Int.sub_add_cancel, and_true, List.length_take, List.take_length, List.take_take, Nat.min_self, List.length_drop, List.drop_zero, List.length_cons, List.length_nil]); first | done | omega | assumption | grind [toNat_succ])
       refine all_i fun b20 => ?_
       refine all_i fun n21 => ?_
       refine imp_i fun h44 => ?_
       refine imp_i fun h45 => ?_
       refine imp_i fun h46 => ?_
       try simp only [kL, kInv, kMea, List.cons.injEq, DV.b.injEq, Int.sub_add_cancel, and_true, List.length_take, List.take_length, List.take_take, Nat.min_self, List.length_drop, List.drop_zero, List.length_cons, List.length_nil] at h46
       refine bR_dec (fun h47 => ?_) (fun h47 => ?_)
       ·
        have wih47 := wN_i (a := 1 + n4) (b := 1 + n5) (l := l2) (k := n21) (by omega)
        refine req_i ?_ ?_
        · -- r44
         first | omega | ((try simp only [Nat.mul_eq]); first | done | omega | assumption | grind [toNat_succ])
        refine req_i ?_ ?_
        · -- r45
         first | omega | ((try simp only [Nat.zero_add]); first | done | omega | assumption | grind [toNat_succ])
        refine req_i ?_ ?_
        · -- r46
         first | omega | ((try simp only [List.length_take, List.take_length, List.take_take, Nat.min_self, List.length_drop, List.drop_zero, List.length_cons, List.length_nil]); first | done | omega | assumption | grind [toNat_succ])
        refine req_i ?_ ?_
        · -- r47
         first | omega | assumption | grind
        refine req_i ?_ ?_
        · -- r48
         first | omega | assumption | grind
        refine req_i ?_ ?_
        · -- r49
         first | omega | assumption | grind
        refine req_i ?_ ?_
        · -- r50
         first | omega | assumption | grind
        refine req_i ?_ ?_
        · -- r51
         first | omega | ((try simp only [upL, upInv, nMea, List.cons.injEq, DV.b.injEq, Int.sub_add_cancel, and_true, List.length_take, List.take_length, List.take_take, Nat.min_self, List.length_drop, List.drop_zero, List.length_cons, List.length_nil]); first | done | omega | assumption | grind [toNat_succ])
        refine all_i fun n22 => ?_
        refine imp_i fun h48 => ?_
        refine imp_i fun h49 => ?_
        refine all_i fun n23 => ?_
        refine imp_i fun h50 => ?_
        refine imp_i fun h51 => ?_
        refine imp_i fun h52 => ?_
        try simp only [upL, upInv, nMea, List.cons.injEq, DV.b.injEq, Int.sub_add_cancel, and_true, List.length_take, List.take_length, List.take_take, Nat.min_self, List.length_drop, List.drop_zero, List.length_cons, List.length_nil] at h52
        refine bR_dec (fun h53 => ?_) (fun h53 => ?_)
        ·
         have wih53 := wN_i (a := 1 + n4) (b := 1 + n5) (l := l2) (k := n23) (by omega)
         refine req_i ?_ ?_
         · -- r52
          first | omega | assumption | grind
         refine req_i ?_ ?_
         · -- r53
          first | omega | ((try simp only [Int.toNat_natCast, List.length_cons, List.length_nil]); first | done | omega | assumption | grind [toNat_succ])
         refine req_i ?_ ?_
         · -- r54
          first | omega | ((try simp only [Int.toNat_natCast, List.length_cons, List.length_nil, Nat.add_eq, Nat.zero_add]); first | done | omega | assumption | grind [toNat_succ])
         refine bR_i (fun h54 => ?_) (fun h54 => ?_)
         ·
          have uth54 := upN_t (l := l2) (n := n23) (by omega) h54
          have dth54 := dnN_t (l := l2) (n := n23) (by omega) h54
          refine bR_t ?_ ?_
          · -- g0
           first | rfl | (simp only [bR_iff, dec_iff, reduceCtorEq, imp_self, false_implies, and_true, implies_true, and_self]; done) | (simp [bR_iff, dec_iff, beqB_iff', andB_iff']; done)
          refine bR_t ?_ ?_
          · -- g1
           first | rfl | (simp only [bR_iff, dec_iff, reduceCtorEq, imp_self, false_implies, and_true, implies_true, and_self]; done) | (simp [bR_iff, dec_iff, beqB_iff', andB_iff']; done)
          refine req_i ?_ ?_
          · -- r55
           first | omega | assumption | grind
          refine req_i ?_ ?_
          · -- r56
           first | omega | assumption | grind
          refine req_i ?_ ?_
          · -- r57
           first | omega | assumption | grind
          refine req_i ?_ ?_
          · -- r58
           first | omega | assumption | grind
          refine req_i ?_ ?_
          · -- r59
           first | omega | ((try simp only [upL, upInv, nMea, List.cons.injEq, DV.b.injEq, Int.sub_add_cancel, and_true, List.length_take, List.take_length, List.take_take, Nat.min_self, List.length_drop, List.drop_zero, List.length_cons, List.length_nil]); first | done | omega | assumption | grind [toNat_succ])
          refine req_i ?_ ?_
          · -- r60
           first | omega | ((try simp only [upL, upInv, nMea, List.cons.injEq, DV.b.injEq, Int.sub_add_cancel, and_true, List.length_take, List.take_length, List.take_take, Nat.min_self, List.length_drop, List.drop_zero, List.length_cons, List.length_nil]); first | done | omega | assumption | grind [toNat_succ])
          rfl
         ·
          have uth54 := upN_f (l := l2) (n := n23) (by omega) h54
          have dth54 := dnN_f (l := l2) (n := n23) (by omega) h54
          refine req_i ?_ ?_
          · -- r61
           first | omega | ((try simp only [Nat.mul_eq]); first | done | omega | assumption | grind [toNat_succ])
          refine req_i ?_ ?_
          · -- r62
           first | omega | ((try simp only [Nat.zero_add]); first | done | omega | assumption | grind [toNat_succ])
          refine req_i ?_ ?_
          · -- r63
           first | omega | ((try simp only [List.length_take, List.take_length, List.take_take, Nat.min_self, List.length_drop, List.drop_zero, List.length_cons, List.length_nil]); first | done | omega | assumption | grind [toNat_succ])
          refine req_i ?_ ?_
          · -- r64
           first | omega | assumption | grind
          refine req_i ?_ ?_
          · -- r65
           first | omega | assumption | grind
          refine req_i ?_ ?_
          · -- r66
           first | omega | assumption | grind
          refine req_i ?_ ?_
          · -- r67
           first | omega | assumption | grind
          refine req_i ?_ ?_
          · -- r68
           first | omega | ((try simp only [dnL, dnInv, nMea, List.cons.injEq, DV.b.injEq, Int.sub_add_cancel, and_true, List.length_take, List.take_length, List.take_take, Nat.min_self, List.length_drop, List.drop_zero, List.length_cons, List.length_nil]); first | done | omega | assumption | grind [toNat_succ])
          refine all_i fun n24 => ?_
          refine imp_i fun h55 => ?_
          refine imp_i fun h56 => ?_
          refine all_i fun n25 => ?_
          refine imp_i fun h57 => ?_
          refine imp_i fun h58 => ?_
          refine imp_i fun h59 => ?_
          try simp only [dnL, dnInv, nMea, List.cons.injEq, DV.b.injEq, Int.sub_add_cancel, and_true, List.length_take, List.take_length, List.take_take, Nat.min_self, List.length_drop, List.drop_zero, List.length_cons, List.length_nil] at h59
          refine bR_dec (fun h60 => ?_) (fun h60 => ?_)
          ·
           have wih60 := wN_i (a := 1 + n4) (b := 1 + n5) (l := l2) (k := n25) (by omega)
           refine req_i ?_ ?_
           · -- r69
            first | omega | assumption | grind
           refine req_i ?_ ?_
           · -- r70
            first | omega | ((try simp only [Int.toNat_natCast, List.length_cons, List.length_nil]); first | done | omega | assumption | grind [toNat_succ])
           refine req_i ?_ ?_
           · -- r71
            first | omega | ((try simp only [Int.toNat_natCast, List.length_cons, List.length_nil, Nat.add_eq, Nat.zero_add]); first | done | omega | assumption | grind [toNat_succ])
           refine bR_i (fun h61 => ?_) (fun h61 => ?_)
           ·
            simp only [bR_iff, bR_iff_f, dec_iff, dec_f, Bool.false_eq_true, Bool.true_eq_false, false_implies, imp_false, and_true, true_and, implies_true, Classical.not_not] at h61
            have gfh61 : l2.getD n25.toNat false = false := by simpa using h61
            have uth61 := upN_f (l := l2) (n := n25) (by omega) gfh61
            have dth61 := dnN_f (l := l2) (n := n25) (by omega) gfh61
            refine bR_t ?_ ?_
            · -- g2
             first | rfl | (simp only [bR_iff, dec_iff, reduceCtorEq, imp_self, false_implies, and_true, implies_true, and_self]; done) | (simp [bR_iff, dec_iff, beqB_iff', andB_iff']; done)
            refine bR_t ?_ ?_
            · -- g3
             first | rfl | (simp only [bR_iff, dec_iff, reduceCtorEq, imp_self, false_implies, and_true, implies_true, and_self]; done) | (simp [bR_iff, dec_iff, beqB_iff', andB_iff']; done)
            refine req_i ?_ ?_
            · -- r72
             first | omega | assumption | grind
            refine req_i ?_ ?_
            · -- r73
             first | omega | assumption | grind
            refine req_i ?_ ?_
            · -- r74
             first | omega | assumption | grind
            refine req_i ?_ ?_
            · -- r75
             first | omega | assumption | grind
            refine req_i ?_ ?_
            · -- r76
             first | omega | ((try simp only [dnL, dnInv, nMea, List.cons.injEq, DV.b.injEq, Int.sub_add_cancel, and_true, List.length_take, List.take_length, List.take_take, Nat.min_self, List.length_drop, List.drop_zero, List.length_cons, List.length_nil]); first | done | omega | assumption | grind [toNat_succ])
            refine req_i ?_ ?_
            · -- r77
             first | omega | ((try simp only [dnL, dnInv, nMea, List.cons.injEq, DV.b.injEq, Int.sub_add_cancel, and_true, List.length_take, List.take_length, List.take_take, Nat.min_self, List.length_drop, List.drop_zero, List.length_cons, List.length_nil]); first | done | omega | assumption | grind [toNat_succ])
            rfl
           ·
            simp only [bR_iff, bR_iff_f, dec_iff, dec_f, Bool.false_eq_true, Bool.true_eq_false, false_implies, imp_false, and_true, true_and, implies_true, Classical.not_not] at h61
            have gfh61 : l2.getD n25.toNat false = true := by simpa using h61
            have uth61 := upN_t (l := l2) (n := n25) (by omega) gfh61
            have dth61 := dnN_t (l := l2) (n := n25) (by omega) gfh61
            refine bR_dec (fun h62 => ?_) (fun h62 => ?_)
            ·
             refine req_i ?_ ?_
             · -- r78
              first | omega | ((try simp only [Int.toNat_natCast, List.length_cons, List.length_nil]); first | done | omega | assumption | grind [toNat_succ])
             refine req_i ?_ ?_
             · -- r79
              first | omega | ((try simp only [Int.toNat_natCast, List.length_cons, List.length_nil, Nat.add_eq, Nat.zero_add]); first | done | omega | assumption | grind [toNat_succ])
             refine bR_i (fun h63 => ?_) (fun h63 => ?_)
             ·
              simp only [bR_iff, bR_iff_f, dec_iff, dec_f, Bool.false_eq_true, Bool.true_eq_false, false_implies, imp_false, and_true, true_and, implies_true, Classical.not_not] at h63
              refine req_i ?_ ?_
              · -- r80
               first | omega | ((try simp only [sigLP, List.cons.injEq, DV.b.injEq, Int.sub_add_cancel, and_true, List.length_cons, List.length_nil]); first | done | omega | assumption | grind [toNat_succ])
              rfl
             ·
              simp only [bR_iff, bR_iff_f, dec_iff, dec_f, Bool.false_eq_true, Bool.true_eq_false, false_implies, imp_false, and_true, true_and, implies_true, Classical.not_not] at h63
              refine req_i ?_ ?_
              · -- r81
               first | omega | ((try simp only [Nat.mul_eq]); first | done | omega | assumption | grind [toNat_succ])
              refine req_i ?_ ?_
              · -- r82
               first | omega | ((try simp only [Nat.zero_add]); first | done | omega | assumption | grind [toNat_succ])
              refine req_i ?_ ?_
              · -- r83
               first | omega | ((try simp only [List.length_take, List.take_length, List.take_take, Nat.min_self, List.length_drop, List.drop_zero, List.length_cons, List.length_nil]); first | done | omega | assumption | grind [toNat_succ])
              refine req_i ?_ ?_
              · -- r84
               first | omega | assumption | grind
              refine req_i ?_ ?_
              · -- r85
               first | omega | assumption | grind
              refine req_i ?_ ?_
              · -- r86
               first | omega | assumption | grind
              refine req_i ?_ ?_
              · -- r87
               first | omega | assumption | grind
              refine req_i ?_ ?_
              · -- r88
               first | omega | ((try simp only [thL, thInv, thMea, List.cons.injEq, DV.b.injEq, Int.sub_add_cancel, and_true, List.length_take, List.take_length, List.take_take, Nat.min_self, List.length_drop, List.drop_zero, List.length_cons, List.length_nil]); first | done | omega | assumption | grind [toNat_succ])
              refine all_i fun n26 => ?_
              refine imp_i fun h64 => ?_
              refine imp_i fun h65 => ?_
              refine imp_i fun h66 => ?_
              try simp only [thL, thInv, thMea, List.cons.injEq, DV.b.injEq, Int.sub_add_cancel, and_true, List.length_take, List.take_length, List.take_take, Nat.min_self, List.length_drop, List.drop_zero, List.length_cons, List.length_nil] at h66
              refine req_i ?_ ?_
              · -- r89
               first | omega | ((try simp only [Int.toNat_natCast, List.length_cons, List.length_nil]); first | done | omega | assumption | grind [toNat_succ])
              refine req_i ?_ ?_
              · -- r90
               first | omega | ((try simp only [Int.toNat_natCast, List.length_cons, List.length_nil, Nat.add_eq, Nat.zero_add]); first | done | omega | assumption | grind [toNat_succ])
              refine bR_i (fun h67 => ?_) (fun h67 => ?_)
              ·
               have wth67 := xs.symm.trans h67
               have wdh67 := w_dn' (by omega) (by omega) (by omega) wth67
               have wah67 : dnN l2 (n19 + 1).toNat ≠ n19 + 1 := fun q => by have := w_all' (b := 1 + n5) (a := 1 + n4) (by omega) (by omega) q; rw [wth67] at this; cases this
               refine bR_dec (fun h68 => ?_) (fun h68 => ?_)
               ·
                refine bR_dec (fun h69 => ?_) (fun h69 => ?_)
                ·
                 have dbh69 := dnN_bd l2 (n19 + 1 - n26).toNat
                 refine req_i ?_ ?_
                 · -- r91
                  first | omega | ((try simp only [sigLP, List.cons.injEq, DV.b.injEq, Int.sub_add_cancel, and_true, List.length_cons, List.length_nil]); first | done | omega | assumption | grind [toNat_succ])
                 rfl
                ·
                 refine bR_dec (fun h70 => ?_) (fun h70 => ?_)
                 ·
                  have z3h70 : (n19 + 1 - n26).toNat = 0 := by omega
                  have dz3h70 : dnN l2 (n19 + 1 - n26).toNat = 0 := by rw [z3h70]; rfl
                  refine req_i ?_ ?_
                  · -- r92
                   first | omega | ((try simp only [sigLP, List.cons.injEq, DV.b.injEq, Int.sub_add_cancel, and_true, List.length_cons, List.length_nil]); first | done | omega | assumption | grind [toNat_succ])
                  rfl
                 ·
                  refine req_i ?_ ?_
                  · -- r93
                   first | omega | assumption | grind
                  refine req_i ?_ ?_
                  · -- r94
                   first | omega | ((try simp only [Int.toNat_natCast, List.length_cons, List.length_nil]); first | done | omega | assumption | grind [toNat_succ])
                  refine req_i ?_ ?_
                  · -- r95
                   first | omega | ((try simp only [Int.toNat_natCast, List.length_cons, List.length_nil, Nat.add_eq, Nat.zero_add]); first | done | omega | assumption | grind [toNat_succ])
                  refine bR_i (fun h71 => ?_) (fun h71 => ?_)
                  ·
                   refine bR_t ?_ ?_
                   · -- g4
                    first | rfl | (simp only [bR_iff, dec_iff, reduceCtorEq, imp_self, false_implies, and_true, implies_true, and_self]; done) | (simp [bR_iff, dec_iff, beqB_iff', andB_iff']; done)
                   refine bR_t ?_ ?_
                   · -- g5
                    first | rfl | (simp only [bR_iff, dec_iff, reduceCtorEq, imp_self, false_implies, and_true, implies_true, and_self]; done) | (simp [bR_iff, dec_iff, beqB_iff', andB_iff']; done)
                   refine req_i ?_ ?_
                   · -- r96
                    first | omega | assumption | grind
                   refine req_i ?_ ?_
                   · -- r97
                    first | omega | assumption | grind
                   refine req_i ?_ ?_
                   · -- r98
                    first | omega | ((try simp only [outL, outInv, outMea, List.cons.injEq, DV.b.injEq, Int.sub_add_cancel, and_true, List.length_take, List.take_length, List.take_take, Nat.min_self, List.length_drop, List.drop_zero, List.length_cons, List.length_nil]); first | done | omega | assumption | grind [toNat_succ])
                   refine req_i ?_ ?_
                   · -- r99
                    first | omega | ((try simp only [outL, outInv, outMea, List.cons.injEq, DV.b.injEq, Int.sub_add_cancel, and_true, List.length_take, List.take_length, List.take_take, Nat.min_self, List.length_drop, List.drop_zero, List.length_cons, List.length_nil]); first | done | omega | assumption | grind [toNat_succ])
                   rfl
                  ·
                   have d3h71 := dnN_f (l := l2) (n := n19 - n26) (by omega) h71
                   rw [show n19 - n26 + 1 = n19 + 1 - n26 by omega] at d3h71
                   have e3h71 : n19 + 1 - (n26 + 1) = n19 - n26 := by omega
                   refine bR_t ?_ ?_
                   · -- g6
                    first | rfl | (simp only [bR_iff, dec_iff, reduceCtorEq, imp_self, false_implies, and_true, implies_true, and_self]; done) | (simp [bR_iff, dec_iff, beqB_iff', andB_iff']; done)
                   refine bR_t ?_ ?_
                   · -- g7
                    first | rfl | (simp only [bR_iff, dec_iff, reduceCtorEq, imp_self, false_implies, and_true, implies_true, and_self]; done) | (simp [bR_iff, dec_iff, beqB_iff', andB_iff']; done)
                   refine req_i ?_ ?_
                   · -- r100
                    first | omega | assumption | grind
                   refine req_i ?_ ?_
                   · -- r101
                    first | omega | assumption | grind
                   refine req_i ?_ ?_
                   · -- r102
                    first | omega | ((try simp only [thL, thInv, thMea, List.cons.injEq, DV.b.injEq, Int.sub_add_cancel, and_true, List.length_take, List.take_length, List.take_take, Nat.min_self, List.length_drop, List.drop_zero, List.length_cons, List.length_nil]); first | done | omega | assumption | grind [toNat_succ])
                   refine req_i ?_ ?_
                   · -- r103
                    first | omega | ((try simp only [thL, thInv, thMea, List.cons.injEq, DV.b.injEq, Int.sub_add_cancel, and_true, List.length_take, List.take_length, List.take_take, Nat.min_self, List.length_drop, List.drop_zero, List.length_cons, List.length_nil]); first | done | omega | assumption | grind [toNat_succ])
                   rfl
               ·
                refine bR_t ?_ ?_
                · -- g8
                 first | rfl | (simp only [bR_iff, dec_iff, reduceCtorEq, imp_self, false_implies, and_true, implies_true, and_self]; done) | (simp [bR_iff, dec_iff, beqB_iff', andB_iff']; done)
                refine bR_t ?_ ?_
                · -- g9
                 first | rfl | (simp only [bR_iff, dec_iff, reduceCtorEq, imp_self, false_implies, and_true, implies_true, and_self]; done) | (simp [bR_iff, dec_iff, beqB_iff', andB_iff']; done)
                refine req_i ?_ ?_
                · -- r104
                 first | omega | assumption | grind
                refine req_i ?_ ?_
                · -- r105
                 first | omega | assumption | grind
                refine req_i ?_ ?_
                · -- r106
                 first | omega | ((try simp only [outL, outInv, outMea, List.cons.injEq, DV.b.injEq, Int.sub_add_cancel, and_true, List.length_take, List.take_length, List.take_take, Nat.min_self, List.length_drop, List.drop_zero, List.length_cons, List.length_nil]); first | done | omega | assumption | grind [toNat_succ])
                refine req_i ?_ ?_
                · -- r107
                 first | omega | ((try simp only [outL, outInv, outMea, List.cons.injEq, DV.b.injEq, Int.sub_add_cancel, and_true, List.length_take, List.take_length, List.take_take, Nat.min_self, List.length_drop, List.drop_zero, List.length_cons, List.length_nil]); first | done | omega | assumption | grind [toNat_succ])
                rfl
              ·
               refine bR_t ?_ ?_
               · -- g10
                first | rfl | (simp only [bR_iff, dec_iff, reduceCtorEq, imp_self, false_implies, and_true, implies_true, and_self]; done) | (simp [bR_iff, dec_iff, beqB_iff', andB_iff']; done)
               refine bR_t ?_ ?_
               · -- g11
                first | rfl | (simp only [bR_iff, dec_iff, reduceCtorEq, imp_self, false_implies, and_true, implies_true, and_self]; done) | (simp [bR_iff, dec_iff, beqB_iff', andB_iff']; done)
               refine req_i ?_ ?_
               · -- r108
                first | omega | assumption | grind
               refine req_i ?_ ?_
               · -- r109
                first | omega | assumption | grind
               refine req_i ?_ ?_
               · -- r110
                first | omega | ((try simp only [outL, outInv, outMea, List.cons.injEq, DV.b.injEq, Int.sub_add_cancel, and_true, List.length_take, List.take_length, List.take_take, Nat.min_self, List.length_drop, List.drop_zero, List.length_cons, List.length_nil]); first | done | omega | assumption | grind [toNat_succ])
               refine req_i ?_ ?_
               · -- r111
                first | omega | ((try simp only [outL, outInv, outMea, List.cons.injEq, DV.b.injEq, Int.sub_add_cancel, and_true, List.length_take, List.take_length, List.take_take, Nat.min_self, List.length_drop, List.drop_zero, List.length_cons, List.length_nil]); first | done | omega | assumption | grind [toNat_succ])
               rfl
            ·
             refine bR_dec (fun h72 => ?_) (fun h72 => ?_)
             ·
              refine req_i ?_ ?_
              · -- r112
               first | omega | ((try simp only [Int.toNat_natCast, List.length_cons, List.length_nil]); first | done | omega | assumption | grind [toNat_succ])
              refine req_i ?_ ?_
              · -- r113
               first | omega | ((try simp only [Int.toNat_natCast, List.length_cons, List.length_nil, Nat.add_eq, Nat.zero_add]); first | done | omega | assumption | grind [toNat_succ])
              refine bR_i (fun h73 => ?_) (fun h73 => ?_)
              ·
               simp only [bR_iff, bR_iff_f, dec_iff, dec_f, Bool.false_eq_true, Bool.true_eq_false, false_implies, imp_false, and_true, true_and, implies_true, Classical.not_not] at h73
               refine req_i ?_ ?_
               · -- r114
                first | omega | ((try simp only [sigLP, List.cons.injEq, DV.b.injEq, Int.sub_add_cancel, and_true, List.length_cons, List.length_nil]); first | done | omega | assumption | grind [toNat_succ])
               rfl
              ·
               simp only [bR_iff, bR_iff_f, dec_iff, dec_f, Bool.false_eq_true, Bool.true_eq_false, false_implies, imp_false, and_true, true_and, implies_true, Classical.not_not] at h73
               refine req_i ?_ ?_
               · -- r115
                first | omega | ((try simp only [Nat.mul_eq]); first | done | omega | assumption | grind [toNat_succ])
               refine req_i ?_ ?_
               · -- r116
                first | omega | ((try simp only [Nat.zero_add]); first | done | omega | assumption | grind [toNat_succ])
               refine req_i ?_ ?_
               · -- r117
                first | omega | ((try simp only [List.length_take, List.take_length, List.take_take, Nat.min_self, List.length_drop, List.drop_zero, List.length_cons, List.length_nil]); first | done | omega | assumption | grind [toNat_succ])
               refine req_i ?_ ?_
               · -- r118
                first | omega | assumption | grind
               refine req_i ?_ ?_
               · -- r119
                first | omega | assumption | grind
               refine req_i ?_ ?_
               · -- r120
                first | omega | assumption | grind
               refine req_i ?_ ?_
               · -- r121
                first | omega | assumption | grind
               refine req_i ?_ ?_
               · -- r122
                first | omega | ((try simp only [thL, thInv, thMea, List.cons.injEq, DV.b.injEq, Int.sub_add_cancel, and_true, List.length_take, List.take_length, List.take_take, Nat.min_self, List.length_drop, List.drop_zero, List.length_cons, List.length_nil]); first | done | omega | assumption | grind [toNat_succ])
               refine all_i fun n27 => ?_
               refine imp_i fun h74 => ?_
               refine imp_i fun h75 => ?_
               refine imp_i fun h76 => ?_
               try simp only [thL, thInv, thMea, List.cons.injEq, DV.b.injEq, Int.sub_add_cancel, and_true, List.length_take, List.take_length, List.take_take, Nat.min_self, List.length_drop, List.drop_zero, List.length_cons, List.length_nil] at h76
               refine req_i ?_ ?_
               · -- r123
                first | omega | ((try simp only [Int.toNat_natCast, List.length_cons, List.length_nil]); first | done | omega | assumption | grind [toNat_succ])
               refine req_i ?_ ?_
               · -- r124
                first | omega | ((try simp only [Int.toNat_natCast, List.length_cons, List.length_nil, Nat.add_eq, Nat.zero_add]); first | done | omega | assumption | grind [toNat_succ])
               refine bR_i (fun h77 => ?_) (fun h77 => ?_)
               ·
                have wth77 := xs.symm.trans h77
                have wdh77 := w_dn' (by omega) (by omega) (by omega) wth77
                have wah77 : dnN l2 (n19 + 1).toNat ≠ n19 + 1 := fun q => by have := w_all' (b := 1 + n5) (a := 1 + n4) (by omega) (by omega) q; rw [wth77] at this; cases this
                refine bR_dec (fun h78 => ?_) (fun h78 => ?_)
                ·
                 refine bR_dec (fun h79 => ?_) (fun h79 => ?_)
                 ·
                  have dbh79 := dnN_bd l2 (n19 + 1 - n27).toNat
                  refine req_i ?_ ?_
                  · -- r125
                   first | omega | ((try simp only [sigLP, List.cons.injEq, DV.b.injEq, Int.sub_add_cancel, and_true, List.length_cons, List.length_nil]); first | done | omega | assumption | grind [toNat_succ])
                  rfl
                 ·
                  refine bR_dec (fun h80 => ?_) (fun h80 => ?_)
                  ·
                   have z3h80 : (n19 + 1 - n27).toNat = 0 := by omega
                   have dz3h80 : dnN l2 (n19 + 1 - n27).toNat = 0 := by rw [z3h80]; rfl
                   refine req_i ?_ ?_
                   · -- r126
                    first | omega | ((try simp only [sigLP, List.cons.injEq, DV.b.injEq, Int.sub_add_cancel, and_true, List.length_cons, List.length_nil]); first | done | omega | assumption | grind [toNat_succ])
                   rfl
                  ·
                   refine req_i ?_ ?_
                   · -- r127
                    first | omega | assumption | grind
                   refine req_i ?_ ?_
                   · -- r128
                    first | omega | ((try simp only [Int.toNat_natCast, List.length_cons, List.length_nil]); first | done | omega | assumption | grind [toNat_succ])
                   refine req_i ?_ ?_
                   · -- r129
                    first | omega | ((try simp only [Int.toNat_natCast, List.length_cons, List.length_nil, Nat.add_eq, Nat.zero_add]); first | done | omega | assumption | grind [toNat_succ])
                   refine bR_i (fun h81 => ?_) (fun h81 => ?_)
                   ·
                    refine bR_t ?_ ?_
                    · -- g12
                     first | rfl | (simp only [bR_iff, dec_iff, reduceCtorEq, imp_self, false_implies, and_true, implies_true, and_self]; done) | (simp [bR_iff, dec_iff, beqB_iff', andB_iff']; done)
                    refine bR_t ?_ ?_
                    · -- g13
                     first | rfl | (simp only [bR_iff, dec_iff, reduceCtorEq, imp_self, false_implies, and_true, implies_true, and_self]; done) | (simp [bR_iff, dec_iff, beqB_iff', andB_iff']; done)
                    refine req_i ?_ ?_
                    · -- r130
                     first | omega | assumption | grind
                    refine req_i ?_ ?_
                    · -- r131
                     first | omega | assumption | grind
                    refine req_i ?_ ?_
                    · -- r132
                     first | omega | ((try simp only [outL, outInv, outMea, List.cons.injEq, DV.b.injEq, Int.sub_add_cancel, and_true, List.length_take, List.take_length, List.take_take, Nat.min_self, List.length_drop, List.drop_zero, List.length_cons, List.length_nil]); first | done | omega | assumption | grind [toNat_succ])
                    refine req_i ?_ ?_
                    · -- r133
                     first | omega | ((try simp only [outL, outInv, outMea, List.cons.injEq, DV.b.injEq, Int.sub_add_cancel, and_true, List.length_take, List.take_length, List.take_take, Nat.min_self, List.length_drop, List.drop_zero, List.length_cons, List.length_nil]); first | done | omega | assumption | grind [toNat_succ])
                    rfl
                   ·
                    have d3h81 := dnN_f (l := l2) (n := n19 - n27) (by omega) h81
                    rw [show n19 - n27 + 1 = n19 + 1 - n27 by omega] at d3h81
                    have e3h81 : n19 + 1 - (n27 + 1) = n19 - n27 := by omega
                    refine bR_t ?_ ?_
                    · -- g14
                     first | rfl | (simp only [bR_iff, dec_iff, reduceCtorEq, imp_self, false_implies, and_true, implies_true, and_self]; done) | (simp [bR_iff, dec_iff, beqB_iff', andB_iff']; done)
                    refine bR_t ?_ ?_
                    · -- g15
                     first | rfl | (simp only [bR_iff, dec_iff, reduceCtorEq, imp_self, false_implies, and_true, implies_true, and_self]; done) | (simp [bR_iff, dec_iff, beqB_iff', andB_iff']; done)
                    refine req_i ?_ ?_
                    · -- r134
                     first | omega | assumption | grind
                    refine req_i ?_ ?_
                    · -- r135
                     first | omega | assumption | grind
                    refine req_i ?_ ?_
                    · -- r136
                     first | omega | ((try simp only [thL, thInv, thMea, List.cons.injEq, DV.b.injEq, Int.sub_add_cancel, and_true, List.length_take, List.take_length, List.take_take, Nat.min_self, List.length_drop, List.drop_zero, List.length_cons, List.length_nil]); first | done | omega | assumption | grind [toNat_succ])
                    refine req_i ?_ ?_
                    · -- r137
                     first | omega | ((try simp only [thL, thInv, thMea, List.cons.injEq, DV.b.injEq, Int.sub_add_cancel, and_true, List.length_take, List.take_length, List.take_take, Nat.min_self, List.length_drop, List.drop_zero, List.length_cons, List.length_nil]); first | done | omega | assumption | grind [toNat_succ])
                    rfl
                ·
                 refine bR_t ?_ ?_
                 · -- g16
                  first | rfl | (simp only [bR_iff, dec_iff, reduceCtorEq, imp_self, false_implies, and_true, implies_true, and_self]; done) | (simp [bR_iff, dec_iff, beqB_iff', andB_iff']; done)
                 refine bR_t ?_ ?_
                 · -- g17
                  first | rfl | (simp only [bR_iff, dec_iff, reduceCtorEq, imp_self, false_implies, and_true, implies_true, and_self]; done) | (simp [bR_iff, dec_iff, beqB_iff', andB_iff']; done)
                 refine req_i ?_ ?_
                 · -- r138
                  first | omega | assumption | grind
                 refine req_i ?_ ?_
                 · -- r139
                  first | omega | assumption | grind
                 refine req_i ?_ ?_
                 · -- r140
                  first | omega | ((try simp only [outL, outInv, outMea, List.cons.injEq, DV.b.injEq, Int.sub_add_cancel, and_true, List.length_take, List.take_length, List.take_take, Nat.min_self, List.length_drop, List.drop_zero, List.length_cons, List.length_nil]); first | done | omega | assumption | grind [toNat_succ])
                 refine req_i ?_ ?_
                 · -- r141
                  first | omega | ((try simp only [outL, outInv, outMea, List.cons.injEq, DV.b.injEq, Int.sub_add_cancel, and_true, List.length_take, List.take_length, List.take_take, Nat.min_self, List.length_drop, List.drop_zero, List.length_cons, List.length_nil]); first | done | omega | assumption | grind [toNat_succ])
                 rfl
               ·
                refine bR_t ?_ ?_
                · -- g18
                 first | rfl | (simp only [bR_iff, dec_iff, reduceCtorEq, imp_self, false_implies, and_true, implies_true, and_self]; done) | (simp [bR_iff, dec_iff, beqB_iff', andB_iff']; done)
                refine bR_t ?_ ?_
                · -- g19
                 first | rfl | (simp only [bR_iff, dec_iff, reduceCtorEq, imp_self, false_implies, and_true, implies_true, and_self]; done) | (simp [bR_iff, dec_iff, beqB_iff', andB_iff']; done)
                refine req_i ?_ ?_
                · -- r142
                 first | omega | assumption | grind
                refine req_i ?_ ?_
                · -- r143
                 first | omega | assumption | grind
                refine req_i ?_ ?_
                · -- r144
                 first | omega | ((try simp only [outL, outInv, outMea, List.cons.injEq, DV.b.injEq, Int.sub_add_cancel, and_true, List.length_take, List.take_length, List.take_take, Nat.min_self, List.length_drop, List.drop_zero, List.length_cons, List.length_nil]); first | done | omega | assumption | grind [toNat_succ])
                refine req_i ?_ ?_
                · -- r145
                 first | omega | ((try simp only [outL, outInv, outMea, List.cons.injEq, DV.b.injEq, Int.sub_add_cancel, and_true, List.length_take, List.take_length, List.take_take, Nat.min_self, List.length_drop, List.drop_zero, List.length_cons, List.length_nil]); first | done | omega | assumption | grind [toNat_succ])
                rfl
             ·
              refine bR_t ?_ ?_
              · -- g20
               first | rfl | (simp only [bR_iff, dec_iff, reduceCtorEq, imp_self, false_implies, and_true, implies_true, and_self]; done) | (simp [bR_iff, dec_iff, beqB_iff', andB_iff']; done)
              refine bR_t ?_ ?_
              · -- g21
               first | rfl | (simp only [bR_iff, dec_iff, reduceCtorEq, imp_self, false_implies, and_true, implies_true, and_self]; done) | (simp [bR_iff, dec_iff, beqB_iff', andB_iff']; done)
              refine req_i ?_ ?_
              · -- r146
               first | omega | assumption | grind
              refine req_i ?_ ?_
              · -- r147
               first | omega | assumption | grind
              refine req_i ?_ ?_
              · -- r148
               first | omega | ((try simp only [kL, kInv, kMea, List.cons.injEq, DV.b.injEq, Int.sub_add_cancel, and_true, List.length_take, List.take_length, List.take_take, Nat.min_self, List.length_drop, List.drop_zero, List.length_cons, List.length_nil]); first | done | omega | assumption | grind [toNat_succ])
              refine req_i ?_ ?_
              · -- r149
               first | omega | ((try simp only [kL, kInv, kMea, List.cons.injEq, DV.b.injEq, Int.sub_add_cancel, and_true, List.length_take, List.take_length, List.take_take, Nat.min_self, List.length_drop, List.drop_zero, List.length_cons, List.length_nil]); first | done | omega | assumption | grind [toNat_succ])
              rfl
          ·
           have zh60 : (n25 + 1).toNat = 0 := by omega
           have uzh60 : upN l2 (n25 + 1).toNat = 0 := by rw [zh60]; rfl
           have dzh60 : dnN l2 (n25 + 1).toNat = 0 := by rw [zh60]; rfl
           have wzh60 : wN (1 + n4) (1 + n5) l2 (n25 + 1).toNat = false := by rw [zh60]; rfl
           refine bR_dec (fun h82 => ?_) (fun h82 => ?_)
           ·
            refine req_i ?_ ?_
            · -- r150
             first | omega | ((try simp only [Int.toNat_natCast, List.length_cons, List.length_nil]); first | done | omega | assumption | grind [toNat_succ])
            refine req_i ?_ ?_
            · -- r151
             first | omega | ((try simp only [Int.toNat_natCast, List.length_cons, List.length_nil, Nat.add_eq, Nat.zero_add]); first | done | omega | assumption | grind [toNat_succ])
            refine bR_i (fun h83 => ?_) (fun h83 => ?_)
            ·
             simp only [bR_iff, bR_iff_f, dec_iff, dec_f, Bool.false_eq_true, Bool.true_eq_false, false_implies, imp_false, and_true, true_and, implies_true, Classical.not_not] at h83
             refine req_i ?_ ?_
             · -- r152
              first | omega | ((try simp only [sigLP, List.cons.injEq, DV.b.injEq, Int.sub_add_cancel, and_true, List.length_cons, List.length_nil]); first | done | omega | assumption | grind [toNat_succ])
             rfl
            ·
             simp only [bR_iff, bR_iff_f, dec_iff, dec_f, Bool.false_eq_true, Bool.true_eq_false, false_implies, imp_false, and_true, true_and, implies_true, Classical.not_not] at h83
             refine req_i ?_ ?_
             · -- r153
              first | omega | ((try simp only [Nat.mul_eq]); first | done | omega | assumption | grind [toNat_succ])
             refine req_i ?_ ?_
             · -- r154
              first | omega | ((try simp only [Nat.zero_add]); first | done | omega | assumption | grind [toNat_succ])
             refine req_i ?_ ?_
             · -- r155
              first | omega | ((try simp only [List.length_take, List.take_length, List.take_take, Nat.min_self, List.length_drop, List.drop_zero, List.length_cons, List.length_nil]); first | done | omega | assumption | grind [toNat_succ])
             refine req_i ?_ ?_
             · -- r156
              first | omega | assumption | grind
             refine req_i ?_ ?_
             · -- r157
              first | omega | assumption | grind
             refine req_i ?_ ?_
             · -- r158
              first | omega | assumption | grind
             refine req_i ?_ ?_
             · -- r159
              first | omega | assumption | grind
             refine req_i ?_ ?_
             · -- r160
              first | omega | ((try simp only [thL, thInv, thMea, List.cons.injEq, DV.b.injEq, Int.sub_add_cancel, and_true, List.length_take, List.take_length, List.take_take, Nat.min_self, List.length_drop, List.drop_zero, List.length_cons, List.length_nil]); first | done | omega | assumption | grind [toNat_succ])
             refine all_i fun n28 => ?_
             refine imp_i fun h84 => ?_
             refine imp_i fun h85 => ?_
             refine imp_i fun h86 => ?_
             try simp only [thL, thInv, thMea, List.cons.injEq, DV.b.injEq, Int.sub_add_cancel, and_true, List.length_take, List.take_length, List.take_take, Nat.min_self, List.length_drop, List.drop_zero, List.length_cons, List.length_nil] at h86
             refine req_i ?_ ?_
             · -- r161
              first | omega | ((try simp only [Int.toNat_natCast, List.length_cons, List.length_nil]); first | done | omega | assumption | grind [toNat_succ])
             refine req_i ?_ ?_
             · -- r162
              first | omega | ((try simp only [Int.toNat_natCast, List.length_cons, List.length_nil, Nat.add_eq, Nat.zero_add]); first | done | omega | assumption | grind [toNat_succ])
             refine bR_i (fun h87 => ?_) (fun h87 => ?_)
             ·
              have wth87 := xs.symm.trans h87
              have wdh87 := w_dn' (by omega) (by omega) (by omega) wth87
              have wah87 : dnN l2 (n19 + 1).toNat ≠ n19 + 1 := fun q => by have := w_all' (b := 1 + n5) (a := 1 + n4) (by omega) (by omega) q; rw [wth87] at this; cases this
              refine bR_dec (fun h88 => ?_) (fun h88 => ?_)
              ·
               refine bR_dec (fun h89 => ?_) (fun h89 => ?_)
               ·
                have dbh89 := dnN_bd l2 (n19 + 1 - n28).toNat
                refine req_i ?_ ?_
                · -- r163
                 first | omega | ((try simp only [sigLP, List.cons.injEq, DV.b.injEq, Int.sub_add_cancel, and_true, List.length_cons, List.length_nil]); first | done | omega | assumption | grind [toNat_succ])
                rfl
               ·
                refine bR_dec (fun h90 => ?_) (fun h90 => ?_)
                ·
                 have z3h90 : (n19 + 1 - n28).toNat = 0 := by omega
                 have dz3h90 : dnN l2 (n19 + 1 - n28).toNat = 0 := by rw [z3h90]; rfl
                 refine req_i ?_ ?_
                 · -- r164
                  first | omega | ((try simp only [sigLP, List.cons.injEq, DV.b.injEq, Int.sub_add_cancel, and_true, List.length_cons, List.length_nil]); first | done | omega | assumption | grind [toNat_succ])
                 rfl
                ·
                 refine req_i ?_ ?_
                 · -- r165
                  first | omega | assumption | grind
                 refine req_i ?_ ?_
                 · -- r166
                  first | omega | ((try simp only [Int.toNat_natCast, List.length_cons, List.length_nil]); first | done | omega | assumption | grind [toNat_succ])
                 refine req_i ?_ ?_
                 · -- r167
                  first | omega | ((try simp only [Int.toNat_natCast, List.length_cons, List.length_nil, Nat.add_eq, Nat.zero_add]); first | done | omega | assumption | grind [toNat_succ])
                 refine bR_i (fun h91 => ?_) (fun h91 => ?_)
                 ·
                  refine bR_t ?_ ?_
                  · -- g22
                   first | rfl | (simp only [bR_iff, dec_iff, reduceCtorEq, imp_self, false_implies, and_true, implies_true, and_self]; done) | (simp [bR_iff, dec_iff, beqB_iff', andB_iff']; done)
                  refine bR_t ?_ ?_
                  · -- g23
                   first | rfl | (simp only [bR_iff, dec_iff, reduceCtorEq, imp_self, false_implies, and_true, implies_true, and_self]; done) | (simp [bR_iff, dec_iff, beqB_iff', andB_iff']; done)
                  refine req_i ?_ ?_
                  · -- r168
                   first | omega | assumption | grind
                  refine req_i ?_ ?_
                  · -- r169
                   first | omega | assumption | grind
                  refine req_i ?_ ?_
                  · -- r170
                   first | omega | ((try simp only [outL, outInv, outMea, List.cons.injEq, DV.b.injEq, Int.sub_add_cancel, and_true, List.length_take, List.take_length, List.take_take, Nat.min_self, List.length_drop, List.drop_zero, List.length_cons, List.length_nil]); first | done | omega | assumption | grind [toNat_succ])
                  refine req_i ?_ ?_
                  · -- r171
                   first | omega | ((try simp only [outL, outInv, outMea, List.cons.injEq, DV.b.injEq, Int.sub_add_cancel, and_true, List.length_take, List.take_length, List.take_take, Nat.min_self, List.length_drop, List.drop_zero, List.length_cons, List.length_nil]); first | done | omega | assumption | grind [toNat_succ])
                  rfl
                 ·
                  have d3h91 := dnN_f (l := l2) (n := n19 - n28) (by omega) h91
                  rw [show n19 - n28 + 1 = n19 + 1 - n28 by omega] at d3h91
                  have e3h91 : n19 + 1 - (n28 + 1) = n19 - n28 := by omega
                  refine bR_t ?_ ?_
                  · -- g24
                   first | rfl | (simp only [bR_iff, dec_iff, reduceCtorEq, imp_self, false_implies, and_true, implies_true, and_self]; done) | (simp [bR_iff, dec_iff, beqB_iff', andB_iff']; done)
                  refine bR_t ?_ ?_
                  · -- g25
                   first | rfl | (simp only [bR_iff, dec_iff, reduceCtorEq, imp_self, false_implies, and_true, implies_true, and_self]; done) | (simp [bR_iff, dec_iff, beqB_iff', andB_iff']; done)
                  refine req_i ?_ ?_
                  · -- r172
                   first | omega | assumption | grind
                  refine req_i ?_ ?_
                  · -- r173
                   first | omega | assumption | grind
                  refine req_i ?_ ?_
                  · -- r174
                   first | omega | ((try simp only [thL, thInv, thMea, List.cons.injEq, DV.b.injEq, Int.sub_add_cancel, and_true, List.length_take, List.take_length, List.take_take, Nat.min_self, List.length_drop, List.drop_zero, List.length_cons, List.length_nil]); first | done | omega | assumption | grind [toNat_succ])
                  refine req_i ?_ ?_
                  · -- r175
                   first | omega | ((try simp only [thL, thInv, thMea, List.cons.injEq, DV.b.injEq, Int.sub_add_cancel, and_true, List.length_take, List.take_length, List.take_take, Nat.min_self, List.length_drop, List.drop_zero, List.length_cons, List.length_nil]); first | done | omega | assumption | grind [toNat_succ])
                  rfl
              ·
               refine bR_t ?_ ?_
               · -- g26
                first | rfl | (simp only [bR_iff, dec_iff, reduceCtorEq, imp_self, false_implies, and_true, implies_true, and_self]; done) | (simp [bR_iff, dec_iff, beqB_iff', andB_iff']; done)
               refine bR_t ?_ ?_
               · -- g27
                first | rfl | (simp only [bR_iff, dec_iff, reduceCtorEq, imp_self, false_implies, and_true, implies_true, and_self]; done) | (simp [bR_iff, dec_iff, beqB_iff', andB_iff']; done)
               refine req_i ?_ ?_
               · -- r176
                first | omega | assumption | grind
               refine req_i ?_ ?_
               · -- r177
                first | omega | assumption | grind
               refine req_i ?_ ?_
               · -- r178
                first | omega | ((try simp only [outL, outInv, outMea, List.cons.injEq, DV.b.injEq, Int.sub_add_cancel, and_true, List.length_take, List.take_length, List.take_take, Nat.min_self, List.length_drop, List.drop_zero, List.length_cons, List.length_nil]); first | done | omega | assumption | grind [toNat_succ])
               refine req_i ?_ ?_
               · -- r179
                first | omega | ((try simp only [outL, outInv, outMea, List.cons.injEq, DV.b.injEq, Int.sub_add_cancel, and_true, List.length_take, List.take_length, List.take_take, Nat.min_self, List.length_drop, List.drop_zero, List.length_cons, List.length_nil]); first | done | omega | assumption | grind [toNat_succ])
               rfl
             ·
              refine bR_t ?_ ?_
              · -- g28
               first | rfl | (simp only [bR_iff, dec_iff, reduceCtorEq, imp_self, false_implies, and_true, implies_true, and_self]; done) | (simp [bR_iff, dec_iff, beqB_iff', andB_iff']; done)
              refine bR_t ?_ ?_
              · -- g29
               first | rfl | (simp only [bR_iff, dec_iff, reduceCtorEq, imp_self, false_implies, and_true, implies_true, and_self]; done) | (simp [bR_iff, dec_iff, beqB_iff', andB_iff']; done)
              refine req_i ?_ ?_
              · -- r180
               first | omega | assumption | grind
              refine req_i ?_ ?_
              · -- r181
               first | omega | assumption | grind
              refine req_i ?_ ?_
              · -- r182
               first | omega | ((try simp only [outL, outInv, outMea, List.cons.injEq, DV.b.injEq, Int.sub_add_cancel, and_true, List.length_take, List.take_length, List.take_take, Nat.min_self, List.length_drop, List.drop_zero, List.length_cons, List.length_nil]); first | done | omega | assumption | grind [toNat_succ])
              refine req_i ?_ ?_
              · -- r183
               first | omega | ((try simp only [outL, outInv, outMea, List.cons.injEq, DV.b.injEq, Int.sub_add_cancel, and_true, List.length_take, List.take_length, List.take_take, Nat.min_self, List.length_drop, List.drop_zero, List.length_cons, List.length_nil]); first | done | omega | assumption | grind [toNat_succ])
              rfl
           ·
            refine bR_dec (fun h92 => ?_) (fun h92 => ?_)
            ·
             refine req_i ?_ ?_
             · -- r184
              first | omega | ((try simp only [Int.toNat_natCast, List.length_cons, List.length_nil]); first | done | omega | assumption | grind [toNat_succ])
             refine req_i ?_ ?_
             · -- r185
              first | omega | ((try simp only [Int.toNat_natCast, List.length_cons, List.length_nil, Nat.add_eq, Nat.zero_add]); first | done | omega | assumption | grind [toNat_succ])
             refine bR_i (fun h93 => ?_) (fun h93 => ?_)
             ·
              simp only [bR_iff, bR_iff_f, dec_iff, dec_f, Bool.false_eq_true, Bool.true_eq_false, false_implies, imp_false, and_true, true_and, implies_true, Classical.not_not] at h93
              refine req_i ?_ ?_
              · -- r186
               first | omega | ((try simp only [sigLP, List.cons.injEq, DV.b.injEq, Int.sub_add_cancel, and_true, List.length_cons, List.length_nil]); first | done | omega | assumption | grind [toNat_succ])
              rfl
             ·
              simp only [bR_iff, bR_iff_f, dec_iff, dec_f, Bool.false_eq_true, Bool.true_eq_false, false_implies, imp_false, and_true, true_and, implies_true, Classical.not_not] at h93
              refine req_i ?_ ?_
              · -- r187
               first | omega | ((try simp only [Nat.mul_eq]); first | done | omega | assumption | grind [toNat_succ])
              refine req_i ?_ ?_
              · -- r188
               first | omega | ((try simp only [Nat.zero_add]); first | done | omega | assumption | grind [toNat_succ])
              refine req_i ?_ ?_
              · -- r189
               first | omega | ((try simp only [List.length_take, List.take_length, List.take_take, Nat.min_self, List.length_drop, List.drop_zero, List.length_cons, List.length_nil]); first | done | omega | assumption | grind [toNat_succ])
              refine req_i ?_ ?_
              · -- r190
               first | omega | assumption | grind
              refine req_i ?_ ?_
              · -- r191
               first | omega | assumption | grind
              refine req_i ?_ ?_
              · -- r192
               first | omega | assumption | grind
              refine req_i ?_ ?_
              · -- r193
               first | omega | assumption | grind
              refine req_i ?_ ?_
              · -- r194
               first | omega | ((try simp only [thL, thInv, thMea, List.cons.injEq, DV.b.injEq, Int.sub_add_cancel, and_true, List.length_take, List.take_length, List.take_take, Nat.min_self, List.length_drop, List.drop_zero, List.length_cons, List.length_nil]); first | done | omega | assumption | grind [toNat_succ])
              refine all_i fun n29 => ?_
              refine imp_i fun h94 => ?_
              refine imp_i fun h95 => ?_
              refine imp_i fun h96 => ?_
              try simp only [thL, thInv, thMea, List.cons.injEq, DV.b.injEq, Int.sub_add_cancel, and_true, List.length_take, List.take_length, List.take_take, Nat.min_self, List.length_drop, List.drop_zero, List.length_cons, List.length_nil] at h96
              refine req_i ?_ ?_
              · -- r195
               first | omega | ((try simp only [Int.toNat_natCast, List.length_cons, List.length_nil]); first | done | omega | assumption | grind [toNat_succ])
              refine req_i ?_ ?_
              · -- r196
               first | omega | ((try simp only [Int.toNat_natCast, List.length_cons, List.length_nil, Nat.add_eq, Nat.zero_add]); first | done | omega | assumption | grind [toNat_succ])
              refine bR_i (fun h97 => ?_) (fun h97 => ?_)
              ·
               have wth97 := xs.symm.trans h97
               have wdh97 := w_dn' (by omega) (by omega) (by omega) wth97
               have wah97 : dnN l2 (n19 + 1).toNat ≠ n19 + 1 := fun q => by have := w_all' (b := 1 + n5) (a := 1 + n4) (by omega) (by omega) q; rw [wth97] at this; cases this
               refine bR_dec (fun h98 => ?_) (fun h98 => ?_)
               ·
                refine bR_dec (fun h99 => ?_) (fun h99 => ?_)
                ·
                 have dbh99 := dnN_bd l2 (n19 + 1 - n29).toNat
                 refine req_i ?_ ?_
                 · -- r197
                  first | omega | ((try simp only [sigLP, List.cons.injEq, DV.b.injEq, Int.sub_add_cancel, and_true, List.length_cons, List.length_nil]); first | done | omega | assumption | grind [toNat_succ])
                 rfl
                ·
                 refine bR_dec (fun h100 => ?_) (fun h100 => ?_)
                 ·
                  have z3h100 : (n19 + 1 - n29).toNat = 0 := by omega
                  have dz3h100 : dnN l2 (n19 + 1 - n29).toNat = 0 := by rw [z3h100]; rfl
                  refine req_i ?_ ?_
                  · -- r198
                   first | omega | ((try simp only [sigLP, List.cons.injEq, DV.b.injEq, Int.sub_add_cancel, and_true, List.length_cons, List.length_nil]); first | done | omega | assumption | grind [toNat_succ])
                  rfl
                 ·
                  refine req_i ?_ ?_
                  · -- r199
                   first | omega | assumption | grind
                  refine req_i ?_ ?_
                  · -- r200
                   first | omega | ((try simp only [Int.toNat_natCast, List.length_cons, List.length_nil]); first | done | omega | assumption | grind [toNat_succ])
                  refine req_i ?_ ?_
                  · -- r201
                   first | omega | ((try simp only [Int.toNat_natCast, List.length_cons, List.length_nil, Nat.add_eq, Nat.zero_add]); first | done | omega | assumption | grind [toNat_succ])
                  refine bR_i (fun h101 => ?_) (fun h101 => ?_)
                  ·
                   refine bR_t ?_ ?_
                   · -- g30
                    first | rfl | (simp only [bR_iff, dec_iff, reduceCtorEq, imp_self, false_implies, and_true, implies_true, and_self]; done) | (simp [bR_iff, dec_iff, beqB_iff', andB_iff']; done)
                   refine bR_t ?_ ?_
                   · -- g31
                    first | rfl | (simp only [bR_iff, dec_iff, reduceCtorEq, imp_self, false_implies, and_true, implies_true, and_self]; done) | (simp [bR_iff, dec_iff, beqB_iff', andB_iff']; done)
                   refine req_i ?_ ?_
                   · -- r202
                    first | omega | assumption | grind
                   refine req_i ?_ ?_
                   · -- r203
                    first | omega | assumption | grind
                   refine req_i ?_ ?_
                   · -- r204
                    first | omega | ((try simp only [outL, outInv, outMea, List.cons.injEq, DV.b.injEq, Int.sub_add_cancel, and_true, List.length_take, List.take_length, List.take_take, Nat.min_self, List.length_drop, List.drop_zero, List.length_cons, List.length_nil]); first | done | omega | assumption | grind [toNat_succ])
                   refine req_i ?_ ?_
                   · -- r205
                    first | omega | ((try simp only [outL, outInv, outMea, List.cons.injEq, DV.b.injEq, Int.sub_add_cancel, and_true, List.length_take, List.take_length, List.take_take, Nat.min_self, List.length_drop, List.drop_zero, List.length_cons, List.length_nil]); first | done | omega | assumption | grind [toNat_succ])
                   rfl
                  ·
                   have d3h101 := dnN_f (l := l2) (n := n19 - n29) (by omega) h101
                   rw [show n19 - n29 + 1 = n19 + 1 - n29 by omega] at d3h101
                   have e3h101 : n19 + 1 - (n29 + 1) = n19 - n29 := by omega
                   refine bR_t ?_ ?_
                   · -- g32
                    first | rfl | (simp only [bR_iff, dec_iff, reduceCtorEq, imp_self, false_implies, and_true, implies_true, and_self]; done) | (simp [bR_iff, dec_iff, beqB_iff', andB_iff']; done)
                   refine bR_t ?_ ?_
                   · -- g33
                    first | rfl | (simp only [bR_iff, dec_iff, reduceCtorEq, imp_self, false_implies, and_true, implies_true, and_self]; done) | (simp [bR_iff, dec_iff, beqB_iff', andB_iff']; done)
                   refine req_i ?_ ?_
                   · -- r206
                    first | omega | assumption | grind
                   refine req_i ?_ ?_
                   · -- r207
                    first | omega | assumption | grind
                   refine req_i ?_ ?_
                   · -- r208
                    first | omega | ((try simp only [thL, thInv, thMea, List.cons.injEq, DV.b.injEq, Int.sub_add_cancel, and_true, List.length_take, List.take_length, List.take_take, Nat.min_self, List.length_drop, List.drop_zero, List.length_cons, List.length_nil]); first | done | omega | assumption | grind [toNat_succ])
                   refine req_i ?_ ?_
                   · -- r209
                    first | omega | ((try simp only [thL, thInv, thMea, List.cons.injEq, DV.b.injEq, Int.sub_add_cancel, and_true, List.length_take, List.take_length, List.take_take, Nat.min_self, List.length_drop, List.drop_zero, List.length_cons, List.length_nil]); first | done | omega | assumption | grind [toNat_succ])
                   rfl
               ·
                refine bR_t ?_ ?_
                · -- g34
                 first | rfl | (simp only [bR_iff, dec_iff, reduceCtorEq, imp_self, false_implies, and_true, implies_true, and_self]; done) | (simp [bR_iff, dec_iff, beqB_iff', andB_iff']; done)
                refine bR_t ?_ ?_
                · -- g35
                 first | rfl | (simp only [bR_iff, dec_iff, reduceCtorEq, imp_self, false_implies, and_true, implies_true, and_self]; done) | (simp [bR_iff, dec_iff, beqB_iff', andB_iff']; done)
                refine req_i ?_ ?_
                · -- r210
                 first | omega | assumption | grind
                refine req_i ?_ ?_
                · -- r211
                 first | omega | assumption | grind
                refine req_i ?_ ?_
                · -- r212
                 first | omega | ((try simp only [outL, outInv, outMea, List.cons.injEq, DV.b.injEq, Int.sub_add_cancel, and_true, List.length_take, List.take_length, List.take_take, Nat.min_self, List.length_drop, List.drop_zero, List.length_cons, List.length_nil]); first | done | omega | assumption | grind [toNat_succ])
                refine req_i ?_ ?_
                · -- r213
                 first | omega | ((try simp only [outL, outInv, outMea, List.cons.injEq, DV.b.injEq, Int.sub_add_cancel, and_true, List.length_take, List.take_length, List.take_take, Nat.min_self, List.length_drop, List.drop_zero, List.length_cons, List.length_nil]); first | done | omega | assumption | grind [toNat_succ])
                rfl
              ·
               refine bR_t ?_ ?_
               · -- g36
                first | rfl | (simp only [bR_iff, dec_iff, reduceCtorEq, imp_self, false_implies, and_true, implies_true, and_self]; done) | (simp [bR_iff, dec_iff, beqB_iff', andB_iff']; done)
               refine bR_t ?_ ?_
               · -- g37
                first | rfl | (simp only [bR_iff, dec_iff, reduceCtorEq, imp_self, false_implies, and_true, implies_true, and_self]; done) | (simp [bR_iff, dec_iff, beqB_iff', andB_iff']; done)
               refine req_i ?_ ?_
               · -- r214
                first | omega | assumption | grind
               refine req_i ?_ ?_
               · -- r215
                first | omega | assumption | grind
               refine req_i ?_ ?_
               · -- r216
                first | omega | ((try simp only [outL, outInv, outMea, List.cons.injEq, DV.b.injEq, Int.sub_add_cancel, and_true, List.length_take, List.take_length, List.take_take, Nat.min_self, List.length_drop, List.drop_zero, List.length_cons, List.length_nil]); first | done | omega | assumption | grind [toNat_succ])
               refine req_i ?_ ?_
               · -- r217
                first | omega | ((try simp only [outL, outInv, outMea, List.cons.injEq, DV.b.injEq, Int.sub_add_cancel, and_true, List.length_take, List.take_length, List.take_take, Nat.min_self, List.length_drop, List.drop_zero, List.length_cons, List.length_nil]); first | done | omega | assumption | grind [toNat_succ])
               rfl
            ·
             refine bR_t ?_ ?_
             · -- g38
              first | rfl | (simp only [bR_iff, dec_iff, reduceCtorEq, imp_self, false_implies, and_true, implies_true, and_self]; done) | (simp [bR_iff, dec_iff, beqB_iff', andB_iff']; done)
             refine bR_t ?_ ?_
             · -- g39
              first | rfl | (simp only [bR_iff, dec_iff, reduceCtorEq, imp_self, false_implies, and_true, implies_true, and_self]; done) | (simp [bR_iff, dec_iff, beqB_iff', andB_iff']; done)
             refine req_i ?_ ?_
             · -- r218
              first | omega | assumption | grind
             refine req_i ?_ ?_
             · -- r219
              first | omega | assumption | grind
             refine req_i ?_ ?_
             · -- r220
              first | omega | ((try simp only [kL, kInv, kMea, List.cons.injEq, DV.b.injEq, Int.sub_add_cancel, and_true, List.length_take, List.take_length, List.take_take, Nat.min_self, List.length_drop, List.drop_zero, List.length_cons, List.length_nil]); first | done | omega | assumption | grind [toNat_succ])
             refine req_i ?_ ?_
             · -- r221
              first | omega | ((try simp only [kL, kInv, kMea, List.cons.injEq, DV.b.injEq, Int.sub_add_cancel, and_true, List.length_take, List.take_length, List.take_take, Nat.min_self, List.length_drop, List.drop_zero, List.length_cons, List.length_nil]); first | done | omega | assumption | grind [toNat_succ])
             rfl
        ·
         have zh53 : (n23 + 1).toNat = 0 := by omega
         have uzh53 : upN l2 (n23 + 1).toNat = 0 := by rw [zh53]; rfl
         have dzh53 : dnN l2 (n23 + 1).toNat = 0 := by rw [zh53]; rfl
         have wzh53 : wN (1 + n4) (1 + n5) l2 (n23 + 1).toNat = false := by rw [zh53]; rfl
         refine req_i ?_ ?_
         · -- r222
          first | omega | ((try simp only [Nat.mul_eq]); first | done | omega | assumption | grind [toNat_succ])
         refine req_i ?_ ?_
         · -- r223
          first | omega | ((try simp only [Nat.zero_add]); first | done | omega | assumption | grind [toNat_succ])
         refine req_i ?_ ?_
         · -- r224
          first | omega | ((try simp only [List.length_take, List.take_length, List.take_take, Nat.min_self, List.length_drop, List.drop_zero, List.length_cons, List.length_nil]); first | done | omega | assumption | grind [toNat_succ])
         refine req_i ?_ ?_
         · -- r225
          first | omega | assumption | grind
         refine req_i ?_ ?_
         · -- r226
          first | omega | assumption | grind
         refine req_i ?_ ?_
         · -- r227
          first | omega | assumption | grind
         refine req_i ?_ ?_
         · -- r228
          first | omega | assumption | grind
         refine req_i ?_ ?_
         · -- r229
          first | omega | ((try simp only [dnL, dnInv, nMea, List.cons.injEq, DV.b.injEq, Int.sub_add_cancel, and_true, List.length_take, List.take_length, List.take_take, Nat.min_self, List.length_drop, List.drop_zero, List.length_cons, List.length_nil]); first | done | omega | assumption | grind [toNat_succ])
         refine all_i fun n30 => ?_
         refine imp_i fun h102 => ?_
         refine imp_i fun h103 => ?_
         refine all_i fun n31 => ?_
         refine imp_i fun h104 => ?_
         refine imp_i fun h105 => ?_
         refine imp_i fun h106 => ?_
         try simp only [dnL, dnInv, nMea, List.cons.injEq, DV.b.injEq, Int.sub_add_cancel, and_true, List.length_take, List.take_length, List.take_take, Nat.min_self, List.length_drop, List.drop_zero, List.length_cons, List.length_nil] at h106
         refine bR_dec (fun h107 => ?_) (fun h107 => ?_)
         ·
          have wih107 := wN_i (a := 1 + n4) (b := 1 + n5) (l := l2) (k := n31) (by omega)
          refine req_i ?_ ?_
          · -- r230
           first | omega | assumption | grind
          refine req_i ?_ ?_
          · -- r231
           first | omega | ((try simp only [Int.toNat_natCast, List.length_cons, List.length_nil]); first | done | omega | assumption | grind [toNat_succ])
          refine req_i ?_ ?_
          · -- r232
           first | omega | ((try simp only [Int.toNat_natCast, List.length_cons, List.length_nil, Nat.add_eq, Nat.zero_add]); first | done | omega | assumption | grind [toNat_succ])
          refine bR_i (fun h108 => ?_) (fun h108 => ?_)
          ·
           simp only [bR_iff, bR_iff_f, dec_iff, dec_f, Bool.false_eq_true, Bool.true_eq_false, false_implies, imp_false, and_true, true_and, implies_true, Classical.not_not] at h108
           have gfh108 : l2.getD n31.toNat false = false := by simpa using h108
           have uth108 := upN_f (l := l2) (n := n31) (by omega) gfh108
           have dth108 := dnN_f (l := l2) (n := n31) (by omega) gfh108
           refine bR_t ?_ ?_
           · -- g40
            first | rfl | (simp only [bR_iff, dec_iff, reduceCtorEq, imp_self, false_implies, and_true, implies_true, and_self]; done) | (simp [bR_iff, dec_iff, beqB_iff', andB_iff']; done)
           refine bR_t ?_ ?_
           · -- g41
            first | rfl | (simp only [bR_iff, dec_iff, reduceCtorEq, imp_self, false_implies, and_true, implies_true, and_self]; done) | (simp [bR_iff, dec_iff, beqB_iff', andB_iff']; done)
           refine req_i ?_ ?_
           · -- r233
            first | omega | assumption | grind
           refine req_i ?_ ?_
           · -- r234
            first | omega | assumption | grind
           refine req_i ?_ ?_
           · -- r235
            first | omega | assumption | grind
           refine req_i ?_ ?_
           · -- r236
            first | omega | assumption | grind
           refine req_i ?_ ?_
           · -- r237
            first | omega | ((try simp only [dnL, dnInv, nMea, List.cons.injEq, DV.b.injEq, Int.sub_add_cancel, and_true, List.length_take, List.take_length, List.take_take, Nat.min_self, List.length_drop, List.drop_zero, List.length_cons, List.length_nil]); first | done | omega | assumption | grind [toNat_succ])
           refine req_i ?_ ?_
           · -- r238
            first | omega | ((try simp only [dnL, dnInv, nMea, List.cons.injEq, DV.b.injEq, Int.sub_add_cancel, and_true, List.length_take, List.take_length, List.take_take, Nat.min_self, List.length_drop, List.drop_zero, List.length_cons, List.length_nil]); first | done | omega | assumption | grind [toNat_succ])
           rfl
          ·
           simp only [bR_iff, bR_iff_f, dec_iff, dec_f, Bool.false_eq_true, Bool.true_eq_false, false_implies, imp_false, and_true, true_and, implies_true, Classical.not_not] at h108
           have gfh108 : l2.getD n31.toNat false = true := by simpa using h108
           have uth108 := upN_t (l := l2) (n := n31) (by omega) gfh108
           have dth108 := dnN_t (l := l2) (n := n31) (by omega) gfh108
           refine bR_dec (fun h109 => ?_) (fun h109 => ?_)
           ·
            refine req_i ?_ ?_
            · -- r239
             first | omega | ((try simp only [Int.toNat_natCast, List.length_cons, List.length_nil]); first | done | omega | assumption | grind [toNat_succ])
            refine req_i ?_ ?_
            · -- r240
             first | omega | ((try simp only [Int.toNat_natCast, List.length_cons, List.length_nil, Nat.add_eq, Nat.zero_add]); first | done | omega | assumption | grind [toNat_succ])
            refine bR_i (fun h110 => ?_) (fun h110 => ?_)
            ·
             simp only [bR_iff, bR_iff_f, dec_iff, dec_f, Bool.false_eq_true, Bool.true_eq_false, false_implies, imp_false, and_true, true_and, implies_true, Classical.not_not] at h110
             refine req_i ?_ ?_
             · -- r241
              first | omega | ((try simp only [sigLP, List.cons.injEq, DV.b.injEq, Int.sub_add_cancel, and_true, List.length_cons, List.length_nil]); first | done | omega | assumption | grind [toNat_succ])
             rfl
            ·
             simp only [bR_iff, bR_iff_f, dec_iff, dec_f, Bool.false_eq_true, Bool.true_eq_false, false_implies, imp_false, and_true, true_and, implies_true, Classical.not_not] at h110
             refine req_i ?_ ?_
             · -- r242
              first | omega | ((try simp only [Nat.mul_eq]); first | done | omega | assumption | grind [toNat_succ])
             refine req_i ?_ ?_
             · -- r243
              first | omega | ((try simp only [Nat.zero_add]); first | done | omega | assumption | grind [toNat_succ])
             refine req_i ?_ ?_
             · -- r244
              first | omega | ((try simp only [List.length_take, List.take_length, List.take_take, Nat.min_self, List.length_drop, List.drop_zero, List.length_cons, List.length_nil]); first | done | omega | assumption | grind [toNat_succ])
             refine req_i ?_ ?_
             · -- r245
              first | omega | assumption | grind
             refine req_i ?_ ?_
             · -- r246
              first | omega | assumption | grind
             refine req_i ?_ ?_
             · -- r247
              first | omega | assumption | grind
             refine req_i ?_ ?_
             · -- r248
              first | omega | assumption | grind
             refine req_i ?_ ?_
             · -- r249
              first | omega | ((try simp only [thL, thInv, thMea, List.cons.injEq, DV.b.injEq, Int.sub_add_cancel, and_true, List.length_take, List.take_length, List.take_take, Nat.min_self, List.length_drop, List.drop_zero, List.length_cons, List.length_nil]); first | done | omega | assumption | grind [toNat_succ])
             refine all_i fun n32 => ?_
             refine imp_i fun h111 => ?_
             refine imp_i fun h112 => ?_
             refine imp_i fun h113 => ?_
             try simp only [thL, thInv, thMea, List.cons.injEq, DV.b.injEq, Int.sub_add_cancel, and_true, List.length_take, List.take_length, List.take_take, Nat.min_self, List.length_drop, List.drop_zero, List.length_cons, List.length_nil] at h113
             refine req_i ?_ ?_
             · -- r250
              first | omega | ((try simp only [Int.toNat_natCast, List.length_cons, List.length_nil]); first | done | omega | assumption | grind [toNat_succ])
             refine req_i ?_ ?_
             · -- r251
              first | omega | ((try simp only [Int.toNat_natCast, List.length_cons, List.length_nil, Nat.add_eq, Nat.zero_add]); first | done | omega | assumption | grind [toNat_succ])
             refine bR_i (fun h114 => ?_) (fun h114 => ?_)
             ·
              have wth114 := xs.symm.trans h114
              have wdh114 := w_dn' (by omega) (by omega) (by omega) wth114
              have wah114 : dnN l2 (n19 + 1).toNat ≠ n19 + 1 := fun q => by have := w_all' (b := 1 + n5) (a := 1 + n4) (by omega) (by omega) q; rw [wth114] at this; cases this
              refine bR_dec (fun h115 => ?_) (fun h115 => ?_)
              ·
               refine bR_dec (fun h116 => ?_) (fun h116 => ?_)
               ·
                have dbh116 := dnN_bd l2 (n19 + 1 - n32).toNat
                refine req_i ?_ ?_
                · -- r252
                 first | omega | ((try simp only [sigLP, List.cons.injEq, DV.b.injEq, Int.sub_add_cancel, and_true, List.length_cons, List.length_nil]); first | done | omega | assumption | grind [toNat_succ])
                rfl
               ·
                refine bR_dec (fun h117 => ?_) (fun h117 => ?_)
                ·
                 have z3h117 : (n19 + 1 - n32).toNat = 0 := by omega
                 have dz3h117 : dnN l2 (n19 + 1 - n32).toNat = 0 := by rw [z3h117]; rfl
                 refine req_i ?_ ?_
                 · -- r253
                  first | omega | ((try simp only [sigLP, List.cons.injEq, DV.b.injEq, Int.sub_add_cancel, and_true, List.length_cons, List.length_nil]); first | done | omega | assumption | grind [toNat_succ])
                 rfl
                ·
                 refine req_i ?_ ?_
                 · -- r254
                  first | omega | assumption | grind
                 refine req_i ?_ ?_
                 · -- r255
                  first | omega | ((try simp only [Int.toNat_natCast, List.length_cons, List.length_nil]); first | done | omega | assumption | grind [toNat_succ])
                 refine req_i ?_ ?_
                 · -- r256
                  first | omega | ((try simp only [Int.toNat_natCast, List.length_cons, List.length_nil, Nat.add_eq, Nat.zero_add]); first | done | omega | assumption | grind [toNat_succ])
                 refine bR_i (fun h118 => ?_) (fun h118 => ?_)
                 ·
                  refine bR_t ?_ ?_
                  · -- g42
                   first | rfl | (simp only [bR_iff, dec_iff, reduceCtorEq, imp_self, false_implies, and_true, implies_true, and_self]; done) | (simp [bR_iff, dec_iff, beqB_iff', andB_iff']; done)
                  refine bR_t ?_ ?_
                  · -- g43
                   first | rfl | (simp only [bR_iff, dec_iff, reduceCtorEq, imp_self, false_implies, and_true, implies_true, and_self]; done) | (simp [bR_iff, dec_iff, beqB_iff', andB_iff']; done)
                  refine req_i ?_ ?_
                  · -- r257
                   first | omega | assumption | grind
                  refine req_i ?_ ?_
                  · -- r258
                   first | omega | assumption | grind
                  refine req_i ?_ ?_
                  · -- r259
                   first | omega | ((try simp only [outL, outInv, outMea, List.cons.injEq, DV.b.injEq, Int.sub_add_cancel, and_true, List.length_take, List.take_length, List.take_take, Nat.min_self, List.length_drop, List.drop_zero, List.length_cons, List.length_nil]); first | done | omega | assumption | grind [toNat_succ])
                  refine req_i ?_ ?_
                  · -- r260
                   first | omega | ((try simp only [outL, outInv, outMea, List.cons.injEq, DV.b.injEq, Int.sub_add_cancel, and_true, List.length_take, List.take_length, List.take_take, Nat.min_self, List.length_drop, List.drop_zero, List.length_cons, List.length_nil]); first | done | omega | assumption | grind [toNat_succ])
                  rfl
                 ·
                  have d3h118 := dnN_f (l := l2) (n := n19 - n32) (by omega) h118
                  rw [show n19 - n32 + 1 = n19 + 1 - n32 by omega] at d3h118
                  have e3h118 : n19 + 1 - (n32 + 1) = n19 - n32 := by omega
                  refine bR_t ?_ ?_
                  · -- g44
                   first | rfl | (simp only [bR_iff, dec_iff, reduceCtorEq, imp_self, false_implies, and_true, implies_true, and_self]; done) | (simp [bR_iff, dec_iff, beqB_iff', andB_iff']; done)
                  refine bR_t ?_ ?_
                  · -- g45
                   first | rfl | (simp only [bR_iff, dec_iff, reduceCtorEq, imp_self, false_implies, and_true, implies_true, and_self]; done) | (simp [bR_iff, dec_iff, beqB_iff', andB_iff']; done)
                  refine req_i ?_ ?_
                  · -- r261
                   first | omega | assumption | grind
                  refine req_i ?_ ?_
                  · -- r262
                   first | omega | assumption | grind
                  refine req_i ?_ ?_
                  · -- r263
                   first | omega | ((try simp only [thL, thInv, thMea, List.cons.injEq, DV.b.injEq, Int.sub_add_cancel, and_true, List.length_take, List.take_length, List.take_take, Nat.min_self, List.length_drop, List.drop_zero, List.length_cons, List.length_nil]); first | done | omega | assumption | grind [toNat_succ])
                  refine req_i ?_ ?_
                  · -- r264
                   first | omega | ((try simp only [thL, thInv, thMea, List.cons.injEq, DV.b.injEq, Int.sub_add_cancel, and_true, List.length_take, List.take_length, List.take_take, Nat.min_self, List.length_drop, List.drop_zero, List.length_cons, List.length_nil]); first | done | omega | assumption | grind [toNat_succ])
                  rfl
              ·
               refine bR_t ?_ ?_
               · -- g46
                first | rfl | (simp only [bR_iff, dec_iff, reduceCtorEq, imp_self, false_implies, and_true, implies_true, and_self]; done) | (simp [bR_iff, dec_iff, beqB_iff', andB_iff']; done)
               refine bR_t ?_ ?_
               · -- g47
                first | rfl | (simp only [bR_iff, dec_iff, reduceCtorEq, imp_self, false_implies, and_true, implies_true, and_self]; done) | (simp [bR_iff, dec_iff, beqB_iff', andB_iff']; done)
               refine req_i ?_ ?_
               · -- r265
                first | omega | assumption | grind
               refine req_i ?_ ?_
               · -- r266
                first | omega | assumption | grind
               refine req_i ?_ ?_
               · -- r267
                first | omega | ((try simp only [outL, outInv, outMea, List.cons.injEq, DV.b.injEq, Int.sub_add_cancel, and_true, List.length_take, List.take_length, List.take_take, Nat.min_self, List.length_drop, List.drop_zero, List.length_cons, List.length_nil]); first | done | omega | assumption | grind [toNat_succ])
               refine req_i ?_ ?_
               · -- r268
                first | omega | ((try simp only [outL, outInv, outMea, List.cons.injEq, DV.b.injEq, Int.sub_add_cancel, and_true, List.length_take, List.take_length, List.take_take, Nat.min_self, List.length_drop, List.drop_zero, List.length_cons, List.length_nil]); first | done | omega | assumption | grind [toNat_succ])
               rfl
             ·
              refine bR_t ?_ ?_
              · -- g48
               first | rfl | (simp only [bR_iff, dec_iff, reduceCtorEq, imp_self, false_implies, and_true, implies_true, and_self]; done) | (simp [bR_iff, dec_iff, beqB_iff', andB_iff']; done)
              refine bR_t ?_ ?_
              · -- g49
               first | rfl | (simp only [bR_iff, dec_iff, reduceCtorEq, imp_self, false_implies, and_true, implies_true, and_self]; done) | (simp [bR_iff, dec_iff, beqB_iff', andB_iff']; done)
              refine req_i ?_ ?_
              · -- r269
               first | omega | assumption | grind
              refine req_i ?_ ?_
              · -- r270
               first | omega | assumption | grind
              refine req_i ?_ ?_
              · -- r271
               first | omega | ((try simp only [outL, outInv, outMea, List.cons.injEq, DV.b.injEq, Int.sub_add_cancel, and_true, List.length_take, List.take_length, List.take_take, Nat.min_self, List.length_drop, List.drop_zero, List.length_cons, List.length_nil]); first | done | omega | assumption | grind [toNat_succ])
              refine req_i ?_ ?_
              · -- r272
               first | omega | ((try simp only [outL, outInv, outMea, List.cons.injEq, DV.b.injEq, Int.sub_add_cancel, and_true, List.length_take, List.take_length, List.take_take, Nat.min_self, List.length_drop, List.drop_zero, List.length_cons, List.length_nil]); first | done | omega | assumption | grind [toNat_succ])
              rfl
           ·
            refine bR_dec (fun h119 => ?_) (fun h119 => ?_)
            ·
             refine req_i ?_ ?_
             · -- r273
              first | omega | ((try simp only [Int.toNat_natCast, List.length_cons, List.length_nil]); first | done | omega | assumption | grind [toNat_succ])
             refine req_i ?_ ?_
             · -- r274
              first | omega | ((try simp only [Int.toNat_natCast, List.length_cons, List.length_nil, Nat.add_eq, Nat.zero_add]); first | done | omega | assumption | grind [toNat_succ])
             refine bR_i (fun h120 => ?_) (fun h120 => ?_)
             ·
              simp only [bR_iff, bR_iff_f, dec_iff, dec_f, Bool.false_eq_true, Bool.true_eq_false, false_implies, imp_false, and_true, true_and, implies_true, Classical.not_not] at h120
              refine req_i ?_ ?_
              · -- r275
               first | omega | ((try simp only [sigLP, List.cons.injEq, DV.b.injEq, Int.sub_add_cancel, and_true, List.length_cons, List.length_nil]); first | done | omega | assumption | grind [toNat_succ])
              rfl
             ·
              simp only [bR_iff, bR_iff_f, dec_iff, dec_f, Bool.false_eq_true, Bool.true_eq_false, false_implies, imp_false, and_true, true_and, implies_true, Classical.not_not] at h120
              refine req_i ?_ ?_
              · -- r276
               first | omega | ((try simp only [Nat.mul_eq]); first | done | omega | assumption | grind [toNat_succ])
              refine req_i ?_ ?_
              · -- r277
               first | omega | ((try simp only [Nat.zero_add]); first | done | omega | assumption | grind [toNat_succ])
              refine req_i ?_ ?_
              · -- r278
               first | omega | ((try simp only [List.length_take, List.take_length, List.take_take, Nat.min_self, List.length_drop, List.drop_zero, List.length_cons, List.length_nil]); first | done | omega | assumption | grind [toNat_succ])
              refine req_i ?_ ?_
              · -- r279
               first | omega | assumption | grind
              refine req_i ?_ ?_
              · -- r280
               first | omega | assumption | grind
              refine req_i ?_ ?_
              · -- r281
               first | omega | assumption | grind
              refine req_i ?_ ?_
              · -- r282
               first | omega | assumption | grind
              refine req_i ?_ ?_
              · -- r283
               first | omega | ((try simp only [thL, thInv, thMea, List.cons.injEq, DV.b.injEq, Int.sub_add_cancel, and_true, List.length_take, List.take_length, List.take_take, Nat.min_self, List.length_drop, List.drop_zero, List.length_cons, List.length_nil]); first | done | omega | assumption | grind [toNat_succ])
              refine all_i fun n33 => ?_
              refine imp_i fun h121 => ?_
              refine imp_i fun h122 => ?_
              refine imp_i fun h123 => ?_
              try simp only [thL, thInv, thMea, List.cons.injEq, DV.b.injEq, Int.sub_add_cancel, and_true, List.length_take, List.take_length, List.take_take, Nat.min_self, List.length_drop, List.drop_zero, List.length_cons, List.length_nil] at h123
              refine req_i ?_ ?_
              · -- r284
               first | omega | ((try simp only [Int.toNat_natCast, List.length_cons, List.length_nil]); first | done | omega | assumption | grind [toNat_succ])
              refine req_i ?_ ?_
              · -- r285
               first | omega | ((try simp only [Int.toNat_natCast, List.length_cons, List.length_nil, Nat.add_eq, Nat.zero_add]); first | done | omega | assumption | grind [toNat_succ])
              refine bR_i (fun h124 => ?_) (fun h124 => ?_)
              ·
               have wth124 := xs.symm.trans h124
               have wdh124 := w_dn' (by omega) (by omega) (by omega) wth124
               have wah124 : dnN l2 (n19 + 1).toNat ≠ n19 + 1 := fun q => by have := w_all' (b := 1 + n5) (a := 1 + n4) (by omega) (by omega) q; rw [wth124] at this; cases this
               refine bR_dec (fun h125 => ?_) (fun h125 => ?_)
               ·
                refine bR_dec (fun h126 => ?_) (fun h126 => ?_)
                ·
                 have dbh126 := dnN_bd l2 (n19 + 1 - n33).toNat
                 refine req_i ?_ ?_
                 · -- r286
                  first | omega | ((try simp only [sigLP, List.cons.injEq, DV.b.injEq, Int.sub_add_cancel, and_true, List.length_cons, List.length_nil]); first | done | omega | assumption | grind [toNat_succ])
                 rfl
                ·
                 refine bR_dec (fun h127 => ?_) (fun h127 => ?_)
                 ·
                  have z3h127 : (n19 + 1 - n33).toNat = 0 := by omega
                  have dz3h127 : dnN l2 (n19 + 1 - n33).toNat = 0 := by rw [z3h127]; rfl
                  refine req_i ?_ ?_
                  · -- r287
                   first | omega | ((try simp only [sigLP, List.cons.injEq, DV.b.injEq, Int.sub_add_cancel, and_true, List.length_cons, List.length_nil]); first | done | omega | assumption | grind [toNat_succ])
                  rfl
                 ·
                  refine req_i ?_ ?_
                  · -- r288
                   first | omega | assumption | grind
                  refine req_i ?_ ?_
                  · -- r289
                   first | omega | ((try simp only [Int.toNat_natCast, List.length_cons, List.length_nil]); first | done | omega | assumption | grind [toNat_succ])
                  refine req_i ?_ ?_
                  · -- r290
                   first | omega | ((try simp only [Int.toNat_natCast, List.length_cons, List.length_nil, Nat.add_eq, Nat.zero_add]); first | done | omega | assumption | grind [toNat_succ])
                  refine bR_i (fun h128 => ?_) (fun h128 => ?_)
                  ·
                   refine bR_t ?_ ?_
                   · -- g50
                    first | rfl | (simp only [bR_iff, dec_iff, reduceCtorEq, imp_self, false_implies, and_true, implies_true, and_self]; done) | (simp [bR_iff, dec_iff, beqB_iff', andB_iff']; done)
                   refine bR_t ?_ ?_
                   · -- g51
                    first | rfl | (simp only [bR_iff, dec_iff, reduceCtorEq, imp_self, false_implies, and_true, implies_true, and_self]; done) | (simp [bR_iff, dec_iff, beqB_iff', andB_iff']; done)
                   refine req_i ?_ ?_
                   · -- r291
                    first | omega | assumption | grind
                   refine req_i ?_ ?_
                   · -- r292
                    first | omega | assumption | grind
                   refine req_i ?_ ?_
                   · -- r293
                    first | omega | ((try simp only [outL, outInv, outMea, List.cons.injEq, DV.b.injEq, Int.sub_add_cancel, and_true, List.length_take, List.take_length, List.take_take, Nat.min_self, List.length_drop, List.drop_zero, List.length_cons, List.length_nil]); first | done | omega | assumption | grind [toNat_succ])
                   refine req_i ?_ ?_
                   · -- r294
                    first | omega | ((try simp only [outL, outInv, outMea, List.cons.injEq, DV.b.injEq, Int.sub_add_cancel, and_true, List.length_take, List.take_length, List.take_take, Nat.min_self, List.length_drop, List.drop_zero, List.length_cons, List.length_nil]); first | done | omega | assumption | grind [toNat_succ])
                   rfl
                  ·
                   have d3h128 := dnN_f (l := l2) (n := n19 - n33) (by omega) h128
                   rw [show n19 - n33 + 1 = n19 + 1 - n33 by omega] at d3h128
                   have e3h128 : n19 + 1 - (n33 + 1) = n19 - n33 := by omega
                   refine bR_t ?_ ?_
                   · -- g52
                    first | rfl | (simp only [bR_iff, dec_iff, reduceCtorEq, imp_self, false_implies, and_true, implies_true, and_self]; done) | (simp [bR_iff, dec_iff, beqB_iff', andB_iff']; done)
                   refine bR_t ?_ ?_
                   · -- g53
                    first | rfl | (simp only [bR_iff, dec_iff, reduceCtorEq, imp_self, false_implies, and_true, implies_true, and_self]; done) | (simp [bR_iff, dec_iff, beqB_iff', andB_iff']; done)
                   refine req_i ?_ ?_
                   · -- r295
                    first | omega | assumption | grind
                   refine req_i ?_ ?_
                   · -- r296
                    first | omega | assumption | grind
                   refine req_i ?_ ?_
                   · -- r297
                    first | omega | ((try simp only [thL, thInv, thMea, List.cons.injEq, DV.b.injEq, Int.sub_add_cancel, and_true, List.length_take, List.take_length, List.take_take, Nat.min_self, List.length_drop, List.drop_zero, List.length_cons, List.length_nil]); first | done | omega | assumption | grind [toNat_succ])
                   refine req_i ?_ ?_
                   · -- r298
                    first | omega | ((try simp only [thL, thInv, thMea, List.cons.injEq, DV.b.injEq, Int.sub_add_cancel, and_true, List.length_take, List.take_length, List.take_take, Nat.min_self, List.length_drop, List.drop_zero, List.length_cons, List.length_nil]); first | done | omega | assumption | grind [toNat_succ])
                   rfl
               ·
                refine bR_t ?_ ?_
                · -- g54
                 first | rfl | (simp only [bR_iff, dec_iff, reduceCtorEq, imp_self, false_implies, and_true, implies_true, and_self]; done) | (simp [bR_iff, dec_iff, beqB_iff', andB_iff']; done)
                refine bR_t ?_ ?_
                · -- g55
                 first | rfl | (simp only [bR_iff, dec_iff, reduceCtorEq, imp_self, false_implies, and_true, implies_true, and_self]; done) | (simp [bR_iff, dec_iff, beqB_iff', andB_iff']; done)
                refine req_i ?_ ?_
                · -- r299
                 first | omega | assumption | grind
                refine req_i ?_ ?_
                · -- r300
                 first | omega | assumption | grind
                refine req_i ?_ ?_
                · -- r301
                 first | omega | ((try simp only [outL, outInv, outMea, List.cons.injEq, DV.b.injEq, Int.sub_add_cancel, and_true, List.length_take, List.take_length, List.take_take, Nat.min_self, List.length_drop, List.drop_zero, List.length_cons, List.length_nil]); first | done | omega | assumption | grind [toNat_succ])
                refine req_i ?_ ?_
                · -- r302
                 first | omega | ((try simp only [outL, outInv, outMea, List.cons.injEq, DV.b.injEq, Int.sub_add_cancel, and_true, List.length_take, List.take_length, List.take_take, Nat.min_self, List.length_drop, List.drop_zero, List.length_cons, List.length_nil]); first | done | omega | assumption | grind [toNat_succ])
                rfl
              ·
               refine bR_t ?_ ?_
               · -- g56
                first | rfl | (simp only [bR_iff, dec_iff, reduceCtorEq, imp_self, false_implies, and_true, implies_true, and_self]; done) | (simp [bR_iff, dec_iff, beqB_iff', andB_iff']; done)
               refine bR_t ?_ ?_
               · -- g57
                first | rfl | (simp only [bR_iff, dec_iff, reduceCtorEq, imp_self, false_implies, and_true, implies_true, and_self]; done) | (simp [bR_iff, dec_iff, beqB_iff', andB_iff']; done)
               refine req_i ?_ ?_
               · -- r303
                first | omega | assumption | grind
               refine req_i ?_ ?_
               · -- r304
                first | omega | assumption | grind
               refine req_i ?_ ?_
               · -- r305
                first | omega | ((try simp only [outL, outInv, outMea, List.cons.injEq, DV.b.injEq, Int.sub_add_cancel, and_true, List.length_take, List.take_length, List.take_take, Nat.min_self, List.length_drop, List.drop_zero, List.length_cons, List.length_nil]); first | done | omega | assumption | grind [toNat_succ])
               refine req_i ?_ ?_
               · -- r306
                first | omega | ((try simp only [outL, outInv, outMea, List.cons.injEq, DV.b.injEq, Int.sub_add_cancel, and_true, List.length_take, List.take_length, List.take_take, Nat.min_self, List.length_drop, List.drop_zero, List.length_cons, List.length_nil]); first | done | omega | assumption | grind [toNat_succ])
               rfl
            ·
             refine bR_t ?_ ?_
             · -- g58
              first | rfl | (simp only [bR_iff, dec_iff, reduceCtorEq, imp_self, false_implies, and_true, implies_true, and_self]; done) | (simp [bR_iff, dec_iff, beqB_iff', andB_iff']; done)
             refine bR_t ?_ ?_
             · -- g59
              first | rfl | (simp only [bR_iff, dec_iff, reduceCtorEq, imp_self, false_implies, and_true, implies_true, and_self]; done) | (simp [bR_iff, dec_iff, beqB_iff', andB_iff']; done)
             refine req_i ?_ ?_
             · -- r307
              first | omega | assumption | grind
             refine req_i ?_ ?_
             · -- r308
              first | omega | assumption | grind
             refine req_i ?_ ?_
             · -- r309
              first | omega | ((try simp only [kL, kInv, kMea, List.cons.injEq, DV.b.injEq, Int.sub_add_cancel, and_true, List.length_take, List.take_length, List.take_take, Nat.min_self, List.length_drop, List.drop_zero, List.length_cons, List.length_nil]); first | done | omega | assumption | grind [toNat_succ])
             refine req_i ?_ ?_
             · -- r310
              first | omega | ((try simp only [kL, kInv, kMea, List.cons.injEq, DV.b.injEq, Int.sub_add_cancel, and_true, List.length_take, List.take_length, List.take_take, Nat.min_self, List.length_drop, List.drop_zero, List.length_cons, List.length_nil]); first | done | omega | assumption | grind [toNat_succ])
             rfl
         ·
          have zh107 : (n31 + 1).toNat = 0 := by omega
          have uzh107 : upN l2 (n31 + 1).toNat = 0 := by rw [zh107]; rfl
          have dzh107 : dnN l2 (n31 + 1).toNat = 0 := by rw [zh107]; rfl
          have wzh107 : wN (1 + n4) (1 + n5) l2 (n31 + 1).toNat = false := by rw [zh107]; rfl
          refine bR_dec (fun h129 => ?_) (fun h129 => ?_)
          ·
           refine req_i ?_ ?_
           · -- r311
            first | omega | ((try simp only [Int.toNat_natCast, List.length_cons, List.length_nil]); first | done | omega | assumption | grind [toNat_succ])
           refine req_i ?_ ?_
           · -- r312
            first | omega | ((try simp only [Int.toNat_natCast, List.length_cons, List.length_nil, Nat.add_eq, Nat.zero_add]); first | done | omega | assumption | grind [toNat_succ])
           refine bR_i (fun h130 => ?_) (fun h130 => ?_)
           ·
            simp only [bR_iff, bR_iff_f, dec_iff, dec_f, Bool.false_eq_true, Bool.true_eq_false, false_implies, imp_false, and_true, true_and, implies_true, Classical.not_not] at h130
            refine req_i ?_ ?_
            · -- r313
             first | omega | ((try simp only [sigLP, List.cons.injEq, DV.b.injEq, Int.sub_add_cancel, and_true, List.length_cons, List.length_nil]); first | done | omega | assumption | grind [toNat_succ])
            rfl
           ·
            simp only [bR_iff, bR_iff_f, dec_iff, dec_f, Bool.false_eq_true, Bool.true_eq_false, false_implies, imp_false, and_true, true_and, implies_true, Classical.not_not] at h130
            refine req_i ?_ ?_
            · -- r314
             first | omega | ((try simp only [Nat.mul_eq]); first | done | omega | assumption | grind [toNat_succ])
            refine req_i ?_ ?_
            · -- r315
             first | omega | ((try simp only [Nat.zero_add]); first | done | omega | assumption | grind [toNat_succ])
            refine req_i ?_ ?_
            · -- r316
             first | omega | ((try simp only [List.length_take, List.take_length, List.take_take, Nat.min_self, List.length_drop, List.drop_zero, List.length_cons, List.length_nil]); first | done | omega | assumption | grind [toNat_succ])
            refine req_i ?_ ?_
            · -- r317
             first | omega | assumption | grind
            refine req_i ?_ ?_
            · -- r318
             first | omega | assumption | grind
            refine req_i ?_ ?_
            · -- r319
             first | omega | assumption | grind
            refine req_i ?_ ?_
            · -- r320
             first | omega | assumption | grind
            refine req_i ?_ ?_
            · -- r321
             first | omega | ((try simp only [thL, thInv, thMea, List.cons.injEq, DV.b.injEq, Int.sub_add_cancel, and_true, List.length_take, List.take_length, List.take_take, Nat.min_self, List.length_drop, List.drop_zero, List.length_cons, List.length_nil]); first | done | omega | assumption | grind [toNat_succ])
            refine all_i fun n34 => ?_
            refine imp_i fun h131 => ?_
            refine imp_i fun h132 => ?_
            refine imp_i fun h133 => ?_
            try simp only [thL, thInv, thMea, List.cons.injEq, DV.b.injEq, Int.sub_add_cancel, and_true, List.length_take, List.take_length, List.take_take, Nat.min_self, List.length_drop, List.drop_zero, List.length_cons, List.length_nil] at h133
            refine req_i ?_ ?_
            · -- r322
             first | omega | ((try simp only [Int.toNat_natCast, List.length_cons, List.length_nil]); first | done | omega | assumption | grind [toNat_succ])
            refine req_i ?_ ?_
            · -- r323
             first | omega | ((try simp only [Int.toNat_natCast, List.length_cons, List.length_nil, Nat.add_eq, Nat.zero_add]); first | done | omega | assumption | grind [toNat_succ])
            refine bR_i (fun h134 => ?_) (fun h134 => ?_)
            ·
             have wth134 := xs.symm.trans h134
             have wdh134 := w_dn' (by omega) (by omega) (by omega) wth134
             have wah134 : dnN l2 (n19 + 1).toNat ≠ n19 + 1 := fun q => by have := w_all' (b := 1 + n5) (a := 1 + n4) (by omega) (by omega) q; rw [wth134] at this; cases this
             refine bR_dec (fun h135 => ?_) (fun h135 => ?_)
             ·
              refine bR_dec (fun h136 => ?_) (fun h136 => ?_)
              ·
               have dbh136 := dnN_bd l2 (n19 + 1 - n34).toNat
               refine req_i ?_ ?_
               · -- r324
                first | omega | ((try simp only [sigLP, List.cons.injEq, DV.b.injEq, Int.sub_add_cancel, and_true, List.length_cons, List.length_nil]); first | done | omega | assumption | grind [toNat_succ])
               rfl
              ·
               refine bR_dec (fun h137 => ?_) (fun h137 => ?_)
               ·
                have z3h137 : (n19 + 1 - n34).toNat = 0 := by omega
                have dz3h137 : dnN l2 (n19 + 1 - n34).toNat = 0 := by rw [z3h137]; rfl
                refine req_i ?_ ?_
                · -- r325
                 first | omega | ((try simp only [sigLP, List.cons.injEq, DV.b.injEq, Int.sub_add_cancel, and_true, List.length_cons, List.length_nil]); first | done | omega | assumption | grind [toNat_succ])
                rfl
               ·
                refine req_i ?_ ?_
                · -- r326
                 first | omega | assumption | grind
                refine req_i ?_ ?_
                · -- r327
                 first | omega | ((try simp only [Int.toNat_natCast, List.length_cons, List.length_nil]); first | done | omega | assumption | grind [toNat_succ])
                refine req_i ?_ ?_
                · -- r328
                 first | omega | ((try simp only [Int.toNat_natCast, List.length_cons, List.length_nil, Nat.add_eq, Nat.zero_add]); first | done | omega | assumption | grind [toNat_succ])
                refine bR_i (fun h138 => ?_) (fun h138 => ?_)
                ·
                 refine bR_t ?_ ?_
                 · -- g60
                  first | rfl | (simp only [bR_iff, dec_iff, reduceCtorEq, imp_self, false_implies, and_true, implies_true, and_self]; done) | (simp [bR_iff, dec_iff, beqB_iff', andB_iff']; done)
                 refine bR_t ?_ ?_
                 · -- g61
                  first | rfl | (simp only [bR_iff, dec_iff, reduceCtorEq, imp_self, false_implies, and_true, implies_true, and_self]; done) | (simp [bR_iff, dec_iff, beqB_iff', andB_iff']; done)
                 refine req_i ?_ ?_
                 · -- r329
                  first | omega | assumption | grind
                 refine req_i ?_ ?_
                 · -- r330
                  first | omega | assumption | grind
                 refine req_i ?_ ?_
                 · -- r331
                  first | omega | ((try simp only [outL, outInv, outMea, List.cons.injEq, DV.b.injEq, Int.sub_add_cancel, and_true, List.length_take, List.take_length, List.take_take, Nat.min_self, List.length_drop, List.drop_zero, List.length_cons, List.length_nil]); first | done | omega | assumption | grind [toNat_succ])
                 refine req_i ?_ ?_
                 · -- r332
                  first | omega | ((try simp only [outL, outInv, outMea, List.cons.injEq, DV.b.injEq, Int.sub_add_cancel, and_true, List.length_take, List.take_length, List.take_take, Nat.min_self, List.length_drop, List.drop_zero, List.length_cons, List.length_nil]); first | done | omega | assumption | grind [toNat_succ])
                 rfl
                ·
                 have d3h138 := dnN_f (l := l2) (n := n19 - n34) (by omega) h138
                 rw [show n19 - n34 + 1 = n19 + 1 - n34 by omega] at d3h138
                 have e3h138 : n19 + 1 - (n34 + 1) = n19 - n34 := by omega
                 refine bR_t ?_ ?_
                 · -- g62
                  first | rfl | (simp only [bR_iff, dec_iff, reduceCtorEq, imp_self, false_implies, and_true, implies_true, and_self]; done) | (simp [bR_iff, dec_iff, beqB_iff', andB_iff']; done)
                 refine bR_t ?_ ?_
                 · -- g63
                  first | rfl | (simp only [bR_iff, dec_iff, reduceCtorEq, imp_self, false_implies, and_true, implies_true, and_self]; done) | (simp [bR_iff, dec_iff, beqB_iff', andB_iff']; done)
                 refine req_i ?_ ?_
                 · -- r333
                  first | omega | assumption | grind
                 refine req_i ?_ ?_
                 · -- r334
                  first | omega | assumption | grind
                 refine req_i ?_ ?_
                 · -- r335
                  first | omega | ((try simp only [thL, thInv, thMea, List.cons.injEq, DV.b.injEq, Int.sub_add_cancel, and_true, List.length_take, List.take_length, List.take_take, Nat.min_self, List.length_drop, List.drop_zero, List.length_cons, List.length_nil]); first | done | omega | assumption | grind [toNat_succ])
                 refine req_i ?_ ?_
                 · -- r336
                  first | omega | ((try simp only [thL, thInv, thMea, List.cons.injEq, DV.b.injEq, Int.sub_add_cancel, and_true, List.length_take, List.take_length, List.take_take, Nat.min_self, List.length_drop, List.drop_zero, List.length_cons, List.length_nil]); first | done | omega | assumption | grind [toNat_succ])
                 rfl
             ·
              refine bR_t ?_ ?_
              · -- g64
               first | rfl | (simp only [bR_iff, dec_iff, reduceCtorEq, imp_self, false_implies, and_true, implies_true, and_self]; done) | (simp [bR_iff, dec_iff, beqB_iff', andB_iff']; done)
              refine bR_t ?_ ?_
              · -- g65
               first | rfl | (simp only [bR_iff, dec_iff, reduceCtorEq, imp_self, false_implies, and_true, implies_true, and_self]; done) | (simp [bR_iff, dec_iff, beqB_iff', andB_iff']; done)
              refine req_i ?_ ?_
              · -- r337
               first | omega | assumption | grind
              refine req_i ?_ ?_
              · -- r338
               first | omega | assumption | grind
              refine req_i ?_ ?_
              · -- r339
               first | omega | ((try simp only [outL, outInv, outMea, List.cons.injEq, DV.b.injEq, Int.sub_add_cancel, and_true, List.length_take, List.take_length, List.take_take, Nat.min_self, List.length_drop, List.drop_zero, List.length_cons, List.length_nil]); first | done | omega | assumption | grind [toNat_succ])
              refine req_i ?_ ?_
              · -- r340
               first | omega | ((try simp only [outL, outInv, outMea, List.cons.injEq, DV.b.injEq, Int.sub_add_cancel, and_true, List.length_take, List.take_length, List.take_take, Nat.min_self, List.length_drop, List.drop_zero, List.length_cons, List.length_nil]); first | done | omega | assumption | grind [toNat_succ])
              rfl
            ·
             refine bR_t ?_ ?_
             · -- g66
              first | rfl | (simp only [bR_iff, dec_iff, reduceCtorEq, imp_self, false_implies, and_true, implies_true, and_self]; done) | (simp [bR_iff, dec_iff, beqB_iff', andB_iff']; done)
             refine bR_t ?_ ?_
             · -- g67
              first | rfl | (simp only [bR_iff, dec_iff, reduceCtorEq, imp_self, false_implies, and_true, implies_true, and_self]; done) | (simp [bR_iff, dec_iff, beqB_iff', andB_iff']; done)
             refine req_i ?_ ?_
             · -- r341
              first | omega | assumption | grind
             refine req_i ?_ ?_
             · -- r342
              first | omega | assumption | grind
             refine req_i ?_ ?_
             · -- r343
              first | omega | ((try simp only [outL, outInv, outMea, List.cons.injEq, DV.b.injEq, Int.sub_add_cancel, and_true, List.length_take, List.take_length, List.take_take, Nat.min_self, List.length_drop, List.drop_zero, List.length_cons, List.length_nil]); first | done | omega | assumption | grind [toNat_succ])
             refine req_i ?_ ?_
             · -- r344
              first | omega | ((try simp only [outL, outInv, outMea, List.cons.injEq, DV.b.injEq, Int.sub_add_cancel, and_true, List.length_take, List.take_length, List.take_take, Nat.min_self, List.length_drop, List.drop_zero, List.length_cons, List.length_nil]); first | done | omega | assumption | grind [toNat_succ])
             rfl
          ·
           refine bR_dec (fun h139 => ?_) (fun h139 => ?_)
           ·
            refine req_i ?_ ?_
            · -- r345
             first | omega | ((try simp only [Int.toNat_natCast, List.length_cons, List.length_nil]); first | done | omega | assumption | grind [toNat_succ])
            refine req_i ?_ ?_
            · -- r346
             first | omega | ((try simp only [Int.toNat_natCast, List.length_cons, List.length_nil, Nat.add_eq, Nat.zero_add]); first | done | omega | assumption | grind [toNat_succ])
            refine bR_i (fun h140 => ?_) (fun h140 => ?_)
            ·
             simp only [bR_iff, bR_iff_f, dec_iff, dec_f, Bool.false_eq_true, Bool.true_eq_false, false_implies, imp_false, and_true, true_and, implies_true, Classical.not_not] at h140
             refine req_i ?_ ?_
             · -- r347
              first | omega | ((try simp only [sigLP, List.cons.injEq, DV.b.injEq, Int.sub_add_cancel, and_true, List.length_cons, List.length_nil]); first | done | omega | assumption | grind [toNat_succ])
             rfl
            ·
             simp only [bR_iff, bR_iff_f, dec_iff, dec_f, Bool.false_eq_true, Bool.true_eq_false, false_implies, imp_false, and_true, true_and, implies_true, Classical.not_not] at h140
             refine req_i ?_ ?_
             · -- r348
              first | omega | ((try simp only [Nat.mul_eq]); first | done | omega | assumption | grind [toNat_succ])
             refine req_i ?_ ?_
             · -- r349
              first | omega | ((try simp only [Nat.zero_add]); first | done | omega | assumption | grind [toNat_succ])
             refine req_i ?_ ?_
             · -- r350
              first | omega | ((try simp only [List.length_take, List.take_length, List.take_take, Nat.min_self, List.length_drop, List.drop_zero, List.length_cons, List.length_nil]); first | done | omega | assumption | grind [toNat_succ])
             refine req_i ?_ ?_
             · -- r351
              first | omega | assumption | grind
             refine req_i ?_ ?_
             · -- r352
              first | omega | assumption | grind
             refine req_i ?_ ?_
             · -- r353
              first | omega | assumption | grind
             refine req_i ?_ ?_
             · -- r354
              first | omega | assumption | grind
             refine req_i ?_ ?_
             · -- r355
              first | omega | ((try simp only [thL, thInv, thMea, List.cons.injEq, DV.b.injEq, Int.sub_add_cancel, and_true, List.length_take, List.take_length, List.take_take, Nat.min_self, List.length_drop, List.drop_zero, List.length_cons, List.length_nil]); first | done | omega | assumption | grind [toNat_succ])
             refine all_i fun n35 => ?_
             refine imp_i fun h141 => ?_
             refine imp_i fun h142 => ?_
             refine imp_i fun h143 => ?_
             try simp only [thL, thInv, thMea, List.cons.injEq, DV.b.injEq, Int.sub_add_cancel, and_true, List.length_take, List.take_length, List.take_take, Nat.min_self, List.length_drop, List.drop_zero, List.length_cons, List.length_nil] at h143
             refine req_i ?_ ?_
             · -- r356
              first | omega | ((try simp only [Int.toNat_natCast, List.length_cons, List.length_nil]); first | done | omega | assumption | grind [toNat_succ])
             refine req_i ?_ ?_
             · -- r357
              first | omega | ((try simp only [Int.toNat_natCast, List.length_cons, List.length_nil, Nat.add_eq, Nat.zero_add]); first | done | omega | assumption | grind [toNat_succ])
             refine bR_i (fun h144 => ?_) (fun h144 => ?_)
             ·
              have wth144 := xs.symm.trans h144
              have wdh144 := w_dn' (by omega) (by omega) (by omega) wth144
              have wah144 : dnN l2 (n19 + 1).toNat ≠ n19 + 1 := fun q => by have := w_all' (b := 1 + n5) (a := 1 + n4) (by omega) (by omega) q; rw [wth144] at this; cases this
              refine bR_dec (fun h145 => ?_) (fun h145 => ?_)
              ·
               refine bR_dec (fun h146 => ?_) (fun h146 => ?_)
               ·
                have dbh146 := dnN_bd l2 (n19 + 1 - n35).toNat
                refine req_i ?_ ?_
                · -- r358
                 first | omega | ((try simp only [sigLP, List.cons.injEq, DV.b.injEq, Int.sub_add_cancel, and_true, List.length_cons, List.length_nil]); first | done | omega | assumption | grind [toNat_succ])
                rfl
               ·
                refine bR_dec (fun h147 => ?_) (fun h147 => ?_)
                ·
                 have z3h147 : (n19 + 1 - n35).toNat = 0 := by omega
                 have dz3h147 : dnN l2 (n19 + 1 - n35).toNat = 0 := by rw [z3h147]; rfl
                 refine req_i ?_ ?_
                 · -- r359
                  first | omega | ((try simp only [sigLP, List.cons.injEq, DV.b.injEq, Int.sub_add_cancel, and_true, List.length_cons, List.length_nil]); first | done | omega | assumption | grind [toNat_succ])
                 rfl
                ·
                 refine req_i ?_ ?_
                 · -- r360
                  first | omega | assumption | grind
                 refine req_i ?_ ?_
                 · -- r361
                  first | omega | ((try simp only [Int.toNat_natCast, List.length_cons, List.length_nil]); first | done | omega | assumption | grind [toNat_succ])
                 refine req_i ?_ ?_
                 · -- r362
                  first | omega | ((try simp only [Int.toNat_natCast, List.length_cons, List.length_nil, Nat.add_eq, Nat.zero_add]); first | done | omega | assumption | grind [toNat_succ])
                 refine bR_i (fun h148 => ?_) (fun h148 => ?_)
                 ·
                  refine bR_t ?_ ?_
                  · -- g68
                   first | rfl | (simp only [bR_iff, dec_iff, reduceCtorEq, imp_self, false_implies, and_true, implies_true, and_self]; done) | (simp [bR_iff, dec_iff, beqB_iff', andB_iff']; done)
                  refine bR_t ?_ ?_
                  · -- g69
                   first | rfl | (simp only [bR_iff, dec_iff, reduceCtorEq, imp_self, false_implies, and_true, implies_true, and_self]; done) | (simp [bR_iff, dec_iff, beqB_iff', andB_iff']; done)
                  refine req_i ?_ ?_
                  · -- r363
                   first | omega | assumption | grind
                  refine req_i ?_ ?_
                  · -- r364
                   first | omega | assumption | grind
                  refine req_i ?_ ?_
                  · -- r365
                   first | omega | ((try simp only [outL, outInv, outMea, List.cons.injEq, DV.b.injEq, Int.sub_add_cancel, and_true, List.length_take, List.take_length, List.take_take, Nat.min_self, List.length_drop, List.drop_zero, List.length_cons, List.length_nil]); first | done | omega | assumption | grind [toNat_succ])
                  refine req_i ?_ ?_
                  · -- r366
                   first | omega | ((try simp only [outL, outInv, outMea, List.cons.injEq, DV.b.injEq, Int.sub_add_cancel, and_true, List.length_take, List.take_length, List.take_take, Nat.min_self, List.length_drop, List.drop_zero, List.length_cons, List.length_nil]); first | done | omega | assumption | grind [toNat_succ])
                  rfl
                 ·
                  have d3h148 := dnN_f (l := l2) (n := n19 - n35) (by omega) h148
                  rw [show n19 - n35 + 1 = n19 + 1 - n35 by omega] at d3h148
                  have e3h148 : n19 + 1 - (n35 + 1) = n19 - n35 := by omega
                  refine bR_t ?_ ?_
                  · -- g70
                   first | rfl | (simp only [bR_iff, dec_iff, reduceCtorEq, imp_self, false_implies, and_true, implies_true, and_self]; done) | (simp [bR_iff, dec_iff, beqB_iff', andB_iff']; done)
                  refine bR_t ?_ ?_
                  · -- g71
                   first | rfl | (simp only [bR_iff, dec_iff, reduceCtorEq, imp_self, false_implies, and_true, implies_true, and_self]; done) | (simp [bR_iff, dec_iff, beqB_iff', andB_iff']; done)
                  refine req_i ?_ ?_
                  · -- r367
                   first | omega | assumption | grind
                  refine req_i ?_ ?_
                  · -- r368
                   first | omega | assumption | grind
                  refine req_i ?_ ?_
                  · -- r369
                   first | omega | ((try simp only [thL, thInv, thMea, List.cons.injEq, DV.b.injEq, Int.sub_add_cancel, and_true, List.length_take, List.take_length, List.take_take, Nat.min_self, List.length_drop, List.drop_zero, List.length_cons, List.length_nil]); first | done | omega | assumption | grind [toNat_succ])
                  refine req_i ?_ ?_
                  · -- r370
                   first | omega | ((try simp only [thL, thInv, thMea, List.cons.injEq, DV.b.injEq, Int.sub_add_cancel, and_true, List.length_take, List.take_length, List.take_take, Nat.min_self, List.length_drop, List.drop_zero, List.length_cons, List.length_nil]); first | done | omega | assumption | grind [toNat_succ])
                  rfl
              ·
               refine bR_t ?_ ?_
               · -- g72
                first | rfl | (simp only [bR_iff, dec_iff, reduceCtorEq, imp_self, false_implies, and_true, implies_true, and_self]; done) | (simp [bR_iff, dec_iff, beqB_iff', andB_iff']; done)
               refine bR_t ?_ ?_
               · -- g73
                first | rfl | (simp only [bR_iff, dec_iff, reduceCtorEq, imp_self, false_implies, and_true, implies_true, and_self]; done) | (simp [bR_iff, dec_iff, beqB_iff', andB_iff']; done)
               refine req_i ?_ ?_
               · -- r371
                first | omega | assumption | grind
               refine req_i ?_ ?_
               · -- r372
                first | omega | assumption | grind
               refine req_i ?_ ?_
               · -- r373
                first | omega | ((try simp only [outL, outInv, outMea, List.cons.injEq, DV.b.injEq, Int.sub_add_cancel, and_true, List.length_take, List.take_length, List.take_take, Nat.min_self, List.length_drop, List.drop_zero, List.length_cons, List.length_nil]); first | done | omega | assumption | grind [toNat_succ])
               refine req_i ?_ ?_
               · -- r374
                first | omega | ((try simp only [outL, outInv, outMea, List.cons.injEq, DV.b.injEq, Int.sub_add_cancel, and_true, List.length_take, List.take_length, List.take_take, Nat.min_self, List.length_drop, List.drop_zero, List.length_cons, List.length_nil]); first | done | omega | assumption | grind [toNat_succ])
               rfl
             ·
              refine bR_t ?_ ?_
              · -- g74
               first | rfl | (simp only [bR_iff, dec_iff, reduceCtorEq, imp_self, false_implies, and_true, implies_true, and_self]; done) | (simp [bR_iff, dec_iff, beqB_iff', andB_iff']; done)
              refine bR_t ?_ ?_
              · -- g75
               first | rfl | (simp only [bR_iff, dec_iff, reduceCtorEq, imp_self, false_implies, and_true, implies_true, and_self]; done) | (simp [bR_iff, dec_iff, beqB_iff', andB_iff']; done)
              refine req_i ?_ ?_
              · -- r375
               first | omega | assumption | grind
              refine req_i ?_ ?_
              · -- r376
               first | omega | assumption | grind
              refine req_i ?_ ?_
              · -- r377
               first | omega | ((try simp only [outL, outInv, outMea, List.cons.injEq, DV.b.injEq, Int.sub_add_cancel, and_true, List.length_take, List.take_length, List.take_take, Nat.min_self, List.length_drop, List.drop_zero, List.length_cons, List.length_nil]); first | done | omega | assumption | grind [toNat_succ])
              refine req_i ?_ ?_
              · -- r378
               first | omega | ((try simp only [outL, outInv, outMea, List.cons.injEq, DV.b.injEq, Int.sub_add_cancel, and_true, List.length_take, List.take_length, List.take_take, Nat.min_self, List.length_drop, List.drop_zero, List.length_cons, List.length_nil]); first | done | omega | assumption | grind [toNat_succ])
              rfl
           ·
            refine bR_t ?_ ?_
            · -- g76
             first | rfl | (simp only [bR_iff, dec_iff, reduceCtorEq, imp_self, false_implies, and_true, implies_true, and_self]; done) | (simp [bR_iff, dec_iff, beqB_iff', andB_iff']; done)
            refine bR_t ?_ ?_
            · -- g77
             first | rfl | (simp only [bR_iff, dec_iff, reduceCtorEq, imp_self, false_implies, and_true, implies_true, and_self]; done) | (simp [bR_iff, dec_iff, beqB_iff', andB_iff']; done)
            refine req_i ?_ ?_
            · -- r379
             first | omega | assumption | grind
            refine req_i ?_ ?_
            · -- r380
             first | omega | assumption | grind
            refine req_i ?_ ?_
            · -- r381
             first | omega | ((try simp only [kL, kInv, kMea, List.cons.injEq, DV.b.injEq, Int.sub_add_cancel, and_true, List.length_take, List.take_length, List.take_take, Nat.min_self, List.length_drop, List.drop_zero, List.length_cons, List.length_nil]); first | done | omega | assumption | grind [toNat_succ])
            refine req_i ?_ ?_
            · -- r382
             first | omega | ((try simp only [kL, kInv, kMea, List.cons.injEq, DV.b.injEq, Int.sub_add_cancel, and_true, List.length_take, List.take_length, List.take_take, Nat.min_self, List.length_drop, List.drop_zero, List.length_cons, List.length_nil]); first | done | omega | assumption | grind [toNat_succ])
            rfl
       ·
        have zh47 : (n21 + 1).toNat = 0 := by omega
        have uzh47 : upN l2 (n21 + 1).toNat = 0 := by rw [zh47]; rfl
        have dzh47 : dnN l2 (n21 + 1).toNat = 0 := by rw [zh47]; rfl
        have wzh47 : wN (1 + n4) (1 + n5) l2 (n21 + 1).toNat = false := by rw [zh47]; rfl
        refine req_i ?_ ?_
        · -- r383
         first | omega | ((try simp only [Int.toNat_natCast, List.length_cons, List.length_nil]); first | done | omega | assumption | grind [toNat_succ])
        refine req_i ?_ ?_
        · -- r384
         first | omega | ((try simp only [Int.toNat_natCast, List.length_cons, List.length_nil, Nat.add_eq, Nat.zero_add]); first | done | omega | assumption | grind [toNat_succ])
        refine bR_i (fun h149 => ?_) (fun h149 => ?_)
        ·
         simp only [bR_iff, bR_iff_f, dec_iff, dec_f, Bool.false_eq_true, Bool.true_eq_false, false_implies, imp_false, and_true, true_and, implies_true, Classical.not_not] at h149
         refine req_i ?_ ?_
         · -- r385
          first | omega | ((try simp only [sigLP, List.cons.injEq, DV.b.injEq, Int.sub_add_cancel, and_true, List.length_cons, List.length_nil]); first | done | omega | assumption | grind [toNat_succ])
         rfl
        ·
         simp only [bR_iff, bR_iff_f, dec_iff, dec_f, Bool.false_eq_true, Bool.true_eq_false, false_implies, imp_false, and_true, true_and, implies_true, Classical.not_not] at h149
         refine req_i ?_ ?_
         · -- r386
          first | omega | ((try simp only [Nat.mul_eq]); first | done | omega | assumption | grind [toNat_succ])
         refine req_i ?_ ?_
         · -- r387
          first | omega | ((try simp only [Nat.zero_add]); first | done | omega | assumption | grind [toNat_succ])
         refine req_i ?_ ?_
         · -- r388
          first | omega | ((try simp only [List.length_take, List.take_length, List.take_take, Nat.min_self, List.length_drop, List.drop_zero, List.length_cons, List.length_nil]); first | done | omega | assumption | grind [toNat_succ])
         refine req_i ?_ ?_
         · -- r389
          first | omega | assumption | grind
         refine req_i ?_ ?_
         · -- r390
          first | omega | assumption | grind
         refine req_i ?_ ?_
         · -- r391
          first | omega | assumption | grind
         refine req_i ?_ ?_
         · -- r392
          first | omega | assumption | grind
         refine req_i ?_ ?_
         · -- r393
          first | omega | ((try simp only [thL, thInv, thMea, List.cons.injEq, DV.b.injEq, Int.sub_add_cancel, and_true, List.length_take, List.take_length, List.take_take, Nat.min_self, List.length_drop, List.drop_zero, List.length_cons, List.length_nil]); first | done | omega | assumption | grind [toNat_succ])
         refine all_i fun n36 => ?_
         refine imp_i fun h150 => ?_
         refine imp_i fun h151 => ?_
         refine imp_i fun h152 => ?_
         try simp only [thL, thInv, thMea, List.cons.injEq, DV.b.injEq, Int.sub_add_cancel, and_true, List.length_take, List.take_length, List.take_take, Nat.min_self, List.length_drop, List.drop_zero, List.length_cons, List.length_nil] at h152
         refine req_i ?_ ?_
         · -- r394
          first | omega | ((try simp only [Int.toNat_natCast, List.length_cons, List.length_nil]); first | done | omega | assumption | grind [toNat_succ])
         refine req_i ?_ ?_
         · -- r395
          first | omega | ((try simp only [Int.toNat_natCast, List.length_cons, List.length_nil, Nat.add_eq, Nat.zero_add]); first | done | omega | assumption | grind [toNat_succ])
         refine bR_i (fun h153 => ?_) (fun h153 => ?_)
         ·
          have wth153 := xs.symm.trans h153
          have wdh153 := w_dn' (by omega) (by omega) (by omega) wth153
          have wah153 : dnN l2 (n19 + 1).toNat ≠ n19 + 1 := fun q => by have := w_all' (b := 1 + n5) (a := 1 + n4) (by omega) (by omega) q; rw [wth153] at this; cases this
          refine bR_dec (fun h154 => ?_) (fun h154 => ?_)
          ·
           refine bR_dec (fun h155 => ?_) (fun h155 => ?_)
           ·
            have dbh155 := dnN_bd l2 (n19 + 1 - n36).toNat
            refine req_i ?_ ?_
            · -- r396
             first | omega | ((try simp only [sigLP, List.cons.injEq, DV.b.injEq, Int.sub_add_cancel, and_true, List.length_cons, List.length_nil]); first | done | omega | assumption | grind [toNat_succ])
            rfl
           ·
            refine bR_dec (fun h156 => ?_) (fun h156 => ?_)
            ·
             have z3h156 : (n19 + 1 - n36).toNat = 0 := by omega
             have dz3h156 : dnN l2 (n19 + 1 - n36).toNat = 0 := by rw [z3h156]; rfl
             refine req_i ?_ ?_
             · -- r397
              first | omega | ((try simp only [sigLP, List.cons.injEq, DV.b.injEq, Int.sub_add_cancel, and_true, List.length_cons, List.length_nil]); first | done | omega | assumption | grind [toNat_succ])
             rfl
            ·
             refine req_i ?_ ?_
             · -- r398
              first | omega | assumption | grind
             refine req_i ?_ ?_
             · -- r399
              first | omega | ((try simp only [Int.toNat_natCast, List.length_cons, List.length_nil]); first | done | omega | assumption | grind [toNat_succ])
             refine req_i ?_ ?_
             · -- r400
              first | omega | ((try simp only [Int.toNat_natCast, List.length_cons, List.length_nil, Nat.add_eq, Nat.zero_add]); first | done | omega | assumption | grind [toNat_succ])
             refine bR_i (fun h157 => ?_) (fun h157 => ?_)
             ·
              refine bR_t ?_ ?_
              · -- g78
               first | rfl | (simp only [bR_iff, dec_iff, reduceCtorEq, imp_self, false_implies, and_true, implies_true, and_self]; done) | (simp [bR_iff, dec_iff, beqB_iff', andB_iff']; done)
              refine bR_t ?_ ?_
              · -- g79
               first | rfl | (simp only [bR_iff, dec_iff, reduceCtorEq, imp_self, false_implies, and_true, implies_true, and_self]; done) | (simp [bR_iff, dec_iff, beqB_iff', andB_iff']; done)
              refine req_i ?_ ?_
              · -- r401
               first | omega | assumption | grind
              refine req_i ?_ ?_
              · -- r402
               first | omega | assumption | grind
              refine req_i ?_ ?_
              · -- r403
               first | omega | ((try simp only [outL, outInv, outMea, List.cons.injEq, DV.b.injEq, Int.sub_add_cancel, and_true, List.length_take, List.take_length, List.take_take, Nat.min_self, List.length_drop, List.drop_zero, List.length_cons, List.length_nil]); first | done | omega | assumption | grind [toNat_succ])
              refine req_i ?_ ?_
              · -- r404
               first | omega | ((try simp only [outL, outInv, outMea, List.cons.injEq, DV.b.injEq, Int.sub_add_cancel, and_true, List.length_take, List.take_length, List.take_take, Nat.min_self, List.length_drop, List.drop_zero, List.length_cons, List.length_nil]); first | done | omega | assumption | grind [toNat_succ])
              rfl
             ·
              have d3h157 := dnN_f (l := l2) (n := n19 - n36) (by omega) h157
              rw [show n19 - n36 + 1 = n19 + 1 - n36 by omega] at d3h157
              have e3h157 : n19 + 1 - (n36 + 1) = n19 - n36 := by omega
              refine bR_t ?_ ?_
              · -- g80
               first | rfl | (simp only [bR_iff, dec_iff, reduceCtorEq, imp_self, false_implies, and_true, implies_true, and_self]; done) | (simp [bR_iff, dec_iff, beqB_iff', andB_iff']; done)
              refine bR_t ?_ ?_
              · -- g81
               first | rfl | (simp only [bR_iff, dec_iff, reduceCtorEq, imp_self, false_implies, and_true, implies_true, and_self]; done) | (simp [bR_iff, dec_iff, beqB_iff', andB_iff']; done)
              refine req_i ?_ ?_
              · -- r405
               first | omega | assumption | grind
              refine req_i ?_ ?_
              · -- r406
               first | omega | assumption | grind
              refine req_i ?_ ?_
              · -- r407
               first | omega | ((try simp only [thL, thInv, thMea, List.cons.injEq, DV.b.injEq, Int.sub_add_cancel, and_true, List.length_take, List.take_length, List.take_take, Nat.min_self, List.length_drop, List.drop_zero, List.length_cons, List.length_nil]); first | done | omega | assumption | grind [toNat_succ])
              refine req_i ?_ ?_
              · -- r408
               first | omega | ((try simp only [thL, thInv, thMea, List.cons.injEq, DV.b.injEq, Int.sub_add_cancel, and_true, List.length_take, List.take_length, List.take_take, Nat.min_self, List.length_drop, List.drop_zero, List.length_cons, List.length_nil]); first | done | omega | assumption | grind [toNat_succ])
              rfl
          ·
           refine bR_t ?_ ?_
           · -- g82
            first | rfl | (simp only [bR_iff, dec_iff, reduceCtorEq, imp_self, false_implies, and_true, implies_true, and_self]; done) | (simp [bR_iff, dec_iff, beqB_iff', andB_iff']; done)
           refine bR_t ?_ ?_
           · -- g83
            first | rfl | (simp only [bR_iff, dec_iff, reduceCtorEq, imp_self, false_implies, and_true, implies_true, and_self]; done) | (simp [bR_iff, dec_iff, beqB_iff', andB_iff']; done)
           refine req_i ?_ ?_
           · -- r409
            first | omega | assumption | grind
           refine req_i ?_ ?_
           · -- r410
            first | omega | assumption | grind
           refine req_i ?_ ?_
           · -- r411
            first | omega | ((try simp only [outL, outInv, outMea, List.cons.injEq, DV.b.injEq, Int.sub_add_cancel, and_true, List.length_take, List.take_length, List.take_take, Nat.min_self, List.length_drop, List.drop_zero, List.length_cons, List.length_nil]); first | done | omega | assumption | grind [toNat_succ])
           refine req_i ?_ ?_
           · -- r412
            first | omega | ((try simp only [outL, outInv, outMea, List.cons.injEq, DV.b.injEq, Int.sub_add_cancel, and_true, List.length_take, List.take_length, List.take_take, Nat.min_self, List.length_drop, List.drop_zero, List.length_cons, List.length_nil]); first | done | omega | assumption | grind [toNat_succ])
           rfl
         ·
          refine bR_t ?_ ?_
          · -- g84
           first | rfl | (simp only [bR_iff, dec_iff, reduceCtorEq, imp_self, false_implies, and_true, implies_true, and_self]; done) | (simp [bR_iff, dec_iff, beqB_iff', andB_iff']; done)
          refine bR_t ?_ ?_
          · -- g85
           first | rfl | (simp only [bR_iff, dec_iff, reduceCtorEq, imp_self, false_implies, and_true, implies_true, and_self]; done) | (simp [bR_iff, dec_iff, beqB_iff', andB_iff']; done)
          refine req_i ?_ ?_
          · -- r413
           first | omega | assumption | grind
          refine req_i ?_ ?_
          · -- r414
           first | omega | assumption | grind
          refine req_i ?_ ?_
          · -- r415
           first | omega | ((try simp only [outL, outInv, outMea, List.cons.injEq, DV.b.injEq, Int.sub_add_cancel, and_true, List.length_take, List.take_length, List.take_take, Nat.min_self, List.length_drop, List.drop_zero, List.length_cons, List.length_nil]); first | done | omega | assumption | grind [toNat_succ])
          refine req_i ?_ ?_
          · -- r416
           first | omega | ((try simp only [outL, outInv, outMea, List.cons.injEq, DV.b.injEq, Int.sub_add_cancel, and_true, List.length_take, List.take_length, List.take_take, Nat.min_self, List.length_drop, List.drop_zero, List.length_cons, List.length_nil]); first | done | omega | assumption | grind [toNat_succ])
          rfl
      ·
       refine req_i ?_ ?_
       · -- r417
        first | omega | ((try simp only [sigLP, List.cons.injEq, DV.b.injEq, Int.sub_add_cancel, and_true, List.length_cons, List.length_nil]); first | done | omega | assumption | grind [toNat_succ])
       rfl
theorem ext_LockProves : ∀ p ∈ ([(5, Ext.ctr (ctOf sigTrue0)), (21, Ext.ctr (ctOf sigPick)), (11, Ext.ctr (ctOf sigNew)), (18, Ext.ctr (ctOf sigRun))] : List (Nat × Ext)), ExtRow Try.prog p.1 p.2 := by
  intro p hp
  simp only [List.mem_cons, List.not_mem_nil, or_false] at hp
  rcases hp with rfl | rfl | rfl | rfl
  · trivial
  · trivial
  · trivial
  · trivial
theorem cts_LockProves : CtsOk Try.prog [(5, Ext.ctr (ctOf sigTrue0)), (21, Ext.ctr (ctOf sigPick)), (11, Ext.ctr (ctOf sigNew)), (18, Ext.ctr (ctOf sigRun))] := ctsOk_of (cs := [(5, sigTrue0), (21, sigPick), (11, sigNew), (18, sigRun)])
  (fun p hp => by
    simp only [List.mem_cons, List.not_mem_nil, or_false] at hp
    rcases hp with rfl | rfl | rfl | rfl
    · exact fn_known
    · exact fn_pick
    · exact fn_newL
    · exact fn_runL
)
  (fun f c h => by
    simp only [List.lookup_cons] at h
    repeat' split at h
    all_goals first | (cases h; done) | (rename_i e; have e := beq_iff_eq.1 e; subst e; cases h; exact ⟨_, by simp, rfl⟩))
theorem fn_LockProves : FnOk Try.prog 6 sigLP [] := fn_sound (by kernel_rfl) ext_LockProves cts_LockProves names vt_LockProves
end Go.Proofs.Ytlhcjklfcpbcaaa

