import Derived.Test.YtlhcjklfcpbcaaaSpec
import Derived.Test.YtlhcjklfcpbcaaaRows
import Derived.Test.YtlhcjklfcpbcaaaFnames
import Derived.Test.YtlhcjklfcpbcaaaFknown
import Derived.Test.YtlhcjklfcpbcaaaFpick
import Derived.Test.YtlhcjklfcpbcaaaFnewL
import Derived.Test.YtlhcjklfcpbcaaaFreachL
import Derived.Test.YtlhcjklfcpbcaaaFstepL
import Derived.Test.YtlhcjklfcpbcaaaFdown
namespace Go.Proofs.Ytlhcjklfcpbcaaa
open Go.Ev Go.Sp
set_option maxRecDepth 100000
theorem vc_LockReach : vcFn Try.prog [(5, Ext.ctr (ctOf sigTrue0)), (21, Ext.ctr (ctOf sigPick)), (11, Ext.ctr (ctOf sigNew)), (13, Ext.ctr (ctOf sigReach)), (9, Ext.ctr (ctOf sigStepL)), (22, Ext.ctr (ctOf sigDown))] tab [] 100 8 sigLR = (allB fun n0 : Int => 
impB ((-9223372036854775808 : Int) ≤ n0) (
impB (n0 ≤ (9223372036854775807 : Int)) (
allB fun n1 : Int => 
impB ((-9223372036854775808 : Int) ≤ n1) (
impB (n1 ≤ (9223372036854775807 : Int)) (
allB fun n2 : Int => 
impB ((-9223372036854775808 : Int) ≤ n2) (
impB (n2 ≤ (9223372036854775807 : Int)) (
allB fun n3 : Int => 
impB ((-9223372036854775808 : Int) ≤ n3) (
impB (n3 ≤ (9223372036854775807 : Int)) (
allB fun l4 : List Int => 
impB (l4.length ≤ (9223372036854775807 : Nat)) (
impB (∀ (y : Int), y ∈ l4 → (-9223372036854775808 : Int) ≤ y ∧ y ≤ (9223372036854775807 : Int)) (
impB (sigLR.pre [DV.n n0, DV.n n1, DV.n n2, DV.n n3, DV.l l4]) (
reqB (sigTrue0.pre []) (
allB fun b5 : Bool => 
impB (sigTrue0.post [] [DV.b b5]) (
bR (dec ((200 : Int) < (↑l4.length : Int))) (
 reqB (sigLR.post [DV.n n0, DV.n n1, DV.n n2, DV.n n3, DV.l l4] [DV.b b5]) (
 true)) (
 reqB ((-9223372036854775808 : Int) ≤ n2) (
 reqB (n2 ≤ (9223372036854775807 : Int)) (
 reqB (sigPick.pre [DV.n n2, DV.n (8 : Int)]) (
 allB fun n6 : Int => 
 impB ((0 : Int) ≤ n6) (
 impB (n6 ≤ (1000000 : Int)) (
 impB (sigPick.post [DV.n n2, DV.n (8 : Int)] [DV.n n6]) (
 reqB ((-9223372036854775808 : Int) ≤ n3) (
 reqB (n3 ≤ (9223372036854775807 : Int)) (
 reqB (sigPick.pre [DV.n n3, DV.n (129 : Int)]) (
 allB fun n7 : Int => 
 impB ((0 : Int) ≤ n7) (
 impB (n7 ≤ (1000000 : Int)) (
 impB (sigPick.post [DV.n n3, DV.n (129 : Int)] [DV.n n7]) (
 reqB ((-9223372036854775808 : Int) ≤ n0) (
 reqB (n0 ≤ (9223372036854775807 : Int)) (
 reqB (sigPick.pre [DV.n n0, DV.n (20 : Int)]) (
 allB fun n8 : Int => 
 impB ((0 : Int) ≤ n8) (
 impB (n8 ≤ (1000000 : Int)) (
 impB (sigPick.post [DV.n n0, DV.n (20 : Int)] [DV.n n8]) (
 reqB ((-9223372036854775808 : Int) ≤ n1) (
 reqB (n1 ≤ (9223372036854775807 : Int)) (
 reqB (sigPick.pre [DV.n n1, DV.n (20 : Int)]) (
 allB fun n9 : Int => 
 impB ((0 : Int) ≤ n9) (
 impB (n9 ≤ (1000000 : Int)) (
 impB (sigPick.post [DV.n n1, DV.n (20 : Int)] [DV.n n9]) (
 reqB ((1 : Int) ≤ (1 : Int) + n8) (
 reqB ((1 : Int) + n8 ≤ (100 : Int)) (
 reqB ((1 : Int) ≤ (1 : Int) + n9) (
 reqB ((1 : Int) + n9 ≤ (100 : Int)) (
 reqB (sigNew.pre [DV.n ((1 : Int) + n8), DV.n ((1 : Int) + n9)]) (
 allB fun n10 : Int => 
 impB ((1 : Int) ≤ n10) (
 impB (n10 ≤ (100 : Int)) (
 allB fun n11 : Int => 
 impB ((1 : Int) ≤ n11) (
 impB (n11 ≤ (100 : Int)) (
 allB fun n12 : Int => 
 impB ((0 : Int) ≤ n12) (
 impB (n12 ≤ (100 : Int)) (
 allB fun n13 : Int => 
 impB ((0 : Int) ≤ n13) (
 impB (n13 ≤ (100 : Int)) (
 allB fun b14 : Bool => 
 allB fun n15 : Int => 
 impB ((-9223372036854775808 : Int) ≤ n15) (
 impB (n15 ≤ (9223372036854775807 : Int)) (
 impB (sigNew.post [DV.n ((1 : Int) + n8), DV.n ((1 : Int) + n9)]
  [DV.n n10, DV.n n11, DV.n n12, DV.n n13, DV.b b14, DV.n n15]) (
 reqB ((1 : Int) ≤ n10) (
 reqB (n10 ≤ (100 : Int)) (
 reqB ((1 : Int) ≤ n11) (
 reqB (n11 ≤ (100 : Int)) (
 reqB ((0 : Int) ≤ n12) (
 reqB (n12 ≤ (100 : Int)) (
 reqB ((0 : Int) ≤ n13) (
 reqB (n13 ≤ (100 : Int)) (
 reqB ((1 : Int) ≤ (1 : Int) + n6) (
 reqB ((1 : Int) + n6 ≤ (8 : Int)) (
 reqB (sigReach.pre
  [DV.n n10, DV.n n11, DV.n n12, DV.n n13, DV.b b14, DV.n ((1 : Int) + n6)]) (
 allB fun n16 : Int => 
 impB ((0 : Int) ≤ n16) (
 impB (n16 ≤ (1000 : Int)) (
 allB fun n17 : Int => 
 impB ((-9223372036854775808 : Int) ≤ n17) (
 impB (n17 ≤ (9223372036854775807 : Int)) (
 impB (sigReach.post
  [DV.n n10, DV.n n11, DV.n n12, DV.n n13, DV.b b14, DV.n ((1 : Int) + n6)]
  [DV.n n16, DV.n n17]) (
 bR (dec (n15 ≠ (0 : Int))) (
  reqB (sigLR.post [DV.n n0, DV.n n1, DV.n n2, DV.n n3, DV.l l4] [DV.b Bool.false]) (
  true)) (
  bR (dec (n17 ≠ (0 : Int))) (
   reqB (sigLR.post [DV.n n0, DV.n n1, DV.n n2, DV.n n3, DV.l l4] [DV.b Bool.false]) (
   true)) (
   reqB ((-9223372036854775808 : Int) ≤ n7 - (64 : Int)) (
   reqB (n7 - (64 : Int) ≤ (9223372036854775807 : Int)) (
   reqB ((-9223372036854775808 : Int) ≤ (1 : Int) + n6) (
   reqB ((1 : Int) + n6 ≤ (9223372036854775807 : Int)) (
   reqB (((0 : Nat) + l4.length) * (1 : Nat) ≤ l4.length.mul (1 : Nat)) (
   reqB (l4.length ≤ (9223372036854775807 : Nat)) (
   reqB ((List.take l4.length (List.drop (0 : Nat) l4)).length = l4.length) (
   reqB (∀ (y : Int),
  y ∈ List.take l4.length (List.drop (0 : Nat) l4) → (-9223372036854775808 : Int) ≤ y ∧ y ≤ (9223372036854775807 : Int)) (
   reqB ((1 : Int) ≤ n10) (
   reqB (n10 ≤ (100 : Int)) (
   reqB ((1 : Int) ≤ n11) (
   reqB (n11 ≤ (100 : Int)) (
   reqB ((-9223372036854775808 : Int) ≤ n10) (
   reqB (n10 ≤ (9223372036854775807 : Int)) (
   reqB ((-9223372036854775808 : Int) ≤ n11) (
   reqB (n11 ≤ (9223372036854775807 : Int)) (
   reqB ((-9223372036854775808 : Int) ≤ n12) (
   reqB (n12 ≤ (9223372036854775807 : Int)) (
   reqB ((-9223372036854775808 : Int) ≤ n13) (
   reqB (n13 ≤ (9223372036854775807 : Int)) (
   reqB (reachLS.inv
  [DV.n (n7 - (64 : Int)), DV.n ((1 : Int) + n6), DV.l (List.take l4.length (List.drop (0 : Nat) l4)),
    DV.n n10, DV.n n11]
  [DV.n (0 : Int), DV.n (0 : Int), DV.n n10, DV.n n11, DV.n n12, DV.n n13,
    DV.b b14]) (
   allB fun n18 : Int => 
   impB ((-100000 : Int) ≤ n18) (
   impB (n18 ≤ (100000 : Int)) (
   allB fun n19 : Int => 
   impB ((0 : Int) ≤ n19) (
   impB (n19 ≤ (1000 : Int)) (
   allB fun n20 : Int => 
   impB ((-9223372036854775808 : Int) ≤ n20) (
   impB (n20 ≤ (9223372036854775807 : Int)) (
   allB fun n21 : Int => 
   impB ((-9223372036854775808 : Int) ≤ n21) (
   impB (n21 ≤ (9223372036854775807 : Int)) (
   allB fun n22 : Int => 
   impB ((-9223372036854775808 : Int) ≤ n22) (
   impB (n22 ≤ (9223372036854775807 : Int)) (
   allB fun n23 : Int => 
   impB ((-9223372036854775808 : Int) ≤ n23) (
   impB (n23 ≤ (9223372036854775807 : Int)) (
   allB fun b24 : Bool => 
   impB (reachLS.inv
  [DV.n (n7 - (64 : Int)), DV.n ((1 : Int) + n6), DV.l (List.take l4.length (List.drop (0 : Nat) l4)),
    DV.n n10, DV.n n11]
  [DV.n n18, DV.n n19, DV.n n20, DV.n n21, DV.n n22, DV.n n23, DV.b b24]) (
   bR (dec (n19 < (↑l4.length : Int))) (
    bR (dec (n18 < (1 : Int) + n6)) (
     reqB ((-9223372036854775808 : Int) ≤ n20) (
     reqB (n20 ≤ (9223372036854775807 : Int)) (
     reqB ((-9223372036854775808 : Int) ≤ n21) (
     reqB (n21 ≤ (9223372036854775807 : Int)) (
     reqB ((-9223372036854775808 : Int) ≤ n22) (
     reqB (n22 ≤ (9223372036854775807 : Int)) (
     reqB ((-9223372036854775808 : Int) ≤ n23) (
     reqB (n23 ≤ (9223372036854775807 : Int)) (
     reqB (sigStepL.pre
  [DV.n n20, DV.n n21, DV.n n22, DV.n n23, DV.b b24,
    DV.b (dec ((0 : Int) - n18 < (1 : Int) + n6))]) (
     allB fun n25 : Int => 
     impB ((-9223372036854775808 : Int) ≤ n25) (
     impB (n25 ≤ (9223372036854775807 : Int)) (
     allB fun n26 : Int => 
     impB ((-9223372036854775808 : Int) ≤ n26) (
     impB (n26 ≤ (9223372036854775807 : Int)) (
     allB fun n27 : Int => 
     impB ((-9223372036854775808 : Int) ≤ n27) (
     impB (n27 ≤ (9223372036854775807 : Int)) (
     allB fun n28 : Int => 
     impB ((-9223372036854775808 : Int) ≤ n28) (
     impB (n28 ≤ (9223372036854775807 : Int)) (
     allB fun b29 : Bool => 
     allB fun n30 : Int => 
     impB ((-9223372036854775808 : Int) ≤ n30) (
     impB (n30 ≤ (9223372036854775807 : Int)) (
     impB (sigStepL.post
  [DV.n n20, DV.n n21, DV.n n22, DV.n n23, DV.b b24,
    DV.b (dec ((0 : Int) - n18 < (1 : Int) + n6))]
  [DV.n n25, DV.n n26, DV.n n27, DV.n n28, DV.b b29, DV.n n30]) (
     bR (dec (n30 ≠ (0 : Int))) (
      reqB (sigLR.post [DV.n n0, DV.n n1, DV.n n2, DV.n n3, DV.l l4] [DV.b Bool.false]) (
      true)) (
      bR (b29) (
       bR (dec (n16 < n18)) (
        reqB (sigLR.post [DV.n n0, DV.n n1, DV.n n2, DV.n n3, DV.l l4] [DV.b Bool.false]) (
        true)) (
        bR (dec (n16 < (0 : Int) - n18)) (
         reqB (sigLR.post [DV.n n0, DV.n n1, DV.n n2, DV.n n3, DV.l l4] [DV.b Bool.false]) (
         true)) (
         reqB (n19.toNat < l4.length) (
         reqB (Nat.add (0 : Nat) n19.toNat < l4.length) (
         reqB ((-9223372036854775808 : Int) ≤ l4.getD (Nat.add (0 : Nat) n19.toNat) (0 : Int)) (
         reqB (l4.getD (Nat.add (0 : Nat) n19.toNat) (0 : Int) ≤ (9223372036854775807 : Int)) (
         reqB (sigPick.pre [DV.n (l4.getD (Nat.add (0 : Nat) n19.toNat) (0 : Int)), DV.n (3 : Int)]) (
         allB fun n31 : Int => 
         impB ((0 : Int) ≤ n31) (
         impB (n31 ≤ (1000000 : Int)) (
         impB (sigPick.post [DV.n (l4.getD (Nat.add (0 : Nat) n19.toNat) (0 : Int)), DV.n (3 : Int)] [DV.n n31]) (
         reqB ((-1000000 : Int) ≤ (n19 + (1 : Int)) * (n7 - (64 : Int))) (
         reqB ((n19 + (1 : Int)) * (n7 - (64 : Int)) ≤ (1000000 : Int)) (
         reqB (sigDown.pre [DV.n ((n19 + (1 : Int)) * (n7 - (64 : Int)))]) (
         allB fun n32 : Int => 
         impB ((-1000000 : Int) ≤ n32) (
         impB (n32 ≤ (1000000 : Int)) (
         impB (sigDown.post [DV.n ((n19 + (1 : Int)) * (n7 - (64 : Int)))] [DV.n n32]) (
         reqB ((-1000000 : Int) ≤ n19 * (n7 - (64 : Int))) (
         reqB (n19 * (n7 - (64 : Int)) ≤ (1000000 : Int)) (
         reqB (sigDown.pre [DV.n (n19 * (n7 - (64 : Int)))]) (
         allB fun n33 : Int => 
         impB ((-1000000 : Int) ≤ n33) (
         impB (n33 ≤ (1000000 : Int)) (
         impB (sigDown.post [DV.n (n19 * (n7 - (64 : Int)))] [DV.n n33]) (
         bR (bR (dec ((1 : Int) + n6 = (1 : Int) + n6)) (
          bR (dec (n7 - (64 : Int) = n7 - (64 : Int))) (
           bR (bR (dec ((0 : Nat) = (0 : Nat))) (
            dec (l4.length = l4.length)) (
            false)) (
            bR (bR (b5) (
             b5) (
             bR (b5) (
              false) (
              true))) (
             bR (dec (n16 = n16)) (
              true) (
              false)) (
             false)) (
            false)) (
           false)) (
          false)) (
          reqB ((-100000 : Int) ≤ n18 + n31 - (1 : Int) - (n32 - n33)) (
          reqB (n18 + n31 - (1 : Int) - (n32 - n33) ≤ (100000 : Int)) (
          reqB ((0 : Int) ≤ n19 + (1 : Int)) (
          reqB (n19 + (1 : Int) ≤ (1000 : Int)) (
          reqB ((-9223372036854775808 : Int) ≤ n25) (
          reqB (n25 ≤ (9223372036854775807 : Int)) (
          reqB ((-9223372036854775808 : Int) ≤ n26) (
          reqB (n26 ≤ (9223372036854775807 : Int)) (
          reqB ((-9223372036854775808 : Int) ≤ n27) (
          reqB (n27 ≤ (9223372036854775807 : Int)) (
          reqB ((-9223372036854775808 : Int) ≤ n28) (
          reqB (n28 ≤ (9223372036854775807 : Int)) (
          reqB (reachLS.inv
  [DV.n (n7 - (64 : Int)), DV.n ((1 : Int) + n6), DV.l (List.take l4.length (List.drop (0 : Nat) l4)),
    DV.n n10, DV.n n11]
  [DV.n (n18 + n31 - (1 : Int) - (n32 - n33)), DV.n (n19 + (1 : Int)), DV.n n25, DV.n n26,
    DV.n n27, DV.n n28, DV.b b29]) (
          reqB (reachLS.mea
    [DV.n (n7 - (64 : Int)), DV.n ((1 : Int) + n6),
      DV.l (List.take l4.length (List.drop (0 : Nat) l4)), DV.n n10, DV.n n11]
    [DV.n (n18 + n31 - (1 : Int) - (n32 - n33)), DV.n (n19 + (1 : Int)), DV.n n25, DV.n n26,
      DV.n n27, DV.n n28, DV.b b29] <
  reachLS.mea
    [DV.n (n7 - (64 : Int)), DV.n ((1 : Int) + n6),
      DV.l (List.take l4.length (List.drop (0 : Nat) l4)), DV.n n10, DV.n n11]
    [DV.n n18, DV.n n19, DV.n n20, DV.n n21, DV.n n22, DV.n n23, DV.b b24]) (
          true))))))))))))))) (
          false)))))))))))))))))))))))) (
       reqB (n19.toNat < l4.length) (
       reqB (Nat.add (0 : Nat) n19.toNat < l4.length) (
       reqB ((-9223372036854775808 : Int) ≤ l4.getD (Nat.add (0 : Nat) n19.toNat) (0 : Int)) (
       reqB (l4.getD (Nat.add (0 : Nat) n19.toNat) (0 : Int) ≤ (9223372036854775807 : Int)) (
       reqB (sigPick.pre [DV.n (l4.getD (Nat.add (0 : Nat) n19.toNat) (0 : Int)), DV.n (3 : Int)]) (
       allB fun n34 : Int => 
       impB ((0 : Int) ≤ n34) (
       impB (n34 ≤ (1000000 : Int)) (
       impB (sigPick.post [DV.n (l4.getD (Nat.add (0 : Nat) n19.toNat) (0 : Int)), DV.n (3 : Int)] [DV.n n34]) (
       reqB ((-1000000 : Int) ≤ (n19 + (1 : Int)) * (n7 - (64 : Int))) (
       reqB ((n19 + (1 : Int)) * (n7 - (64 : Int)) ≤ (1000000 : Int)) (
       reqB (sigDown.pre [DV.n ((n19 + (1 : Int)) * (n7 - (64 : Int)))]) (
       allB fun n35 : Int => 
       impB ((-1000000 : Int) ≤ n35) (
       impB (n35 ≤ (1000000 : Int)) (
       impB (sigDown.post [DV.n ((n19 + (1 : Int)) * (n7 - (64 : Int)))] [DV.n n35]) (
       reqB ((-1000000 : Int) ≤ n19 * (n7 - (64 : Int))) (
       reqB (n19 * (n7 - (64 : Int)) ≤ (1000000 : Int)) (
       reqB (sigDown.pre [DV.n (n19 * (n7 - (64 : Int)))]) (
       allB fun n36 : Int => 
       impB ((-1000000 : Int) ≤ n36) (
       impB (n36 ≤ (1000000 : Int)) (
       impB (sigDown.post [DV.n (n19 * (n7 - (64 : Int)))] [DV.n n36]) (
       bR (bR (dec ((1 : Int) + n6 = (1 : Int) + n6)) (
        bR (dec (n7 - (64 : Int) = n7 - (64 : Int))) (
         bR (bR (dec ((0 : Nat) = (0 : Nat))) (
          dec (l4.length = l4.length)) (
          false)) (
          bR (bR (b5) (
           b5) (
           bR (b5) (
            false) (
            true))) (
           bR (dec (n16 = n16)) (
            true) (
            false)) (
           false)) (
          false)) (
         false)) (
        false)) (
        reqB ((-100000 : Int) ≤ n18 + n34 - (1 : Int) - (n35 - n36)) (
        reqB (n18 + n34 - (1 : Int) - (n35 - n36) ≤ (100000 : Int)) (
        reqB ((0 : Int) ≤ n19 + (1 : Int)) (
        reqB (n19 + (1 : Int) ≤ (1000 : Int)) (
        reqB ((-9223372036854775808 : Int) ≤ n25) (
        reqB (n25 ≤ (9223372036854775807 : Int)) (
        reqB ((-9223372036854775808 : Int) ≤ n26) (
        reqB (n26 ≤ (9223372036854775807 : Int)) (
        reqB ((-9223372036854775808 : Int) ≤ n27) (
        reqB (n27 ≤ (9223372036854775807 : Int)) (
        reqB ((-9223372036854775808 : Int) ≤ n28) (
        reqB (n28 ≤ (9223372036854775807 : Int)) (
        reqB (reachLS.inv
  [DV.n (n7 - (64 : Int)), DV.n ((1 : Int) + n6), DV.l (List.take l4.length (List.drop (0 : Nat) l4)),
    DV.n n10, DV.n n11]
  [DV.n (n18 + n34 - (1 : Int) - (n35 - n36)), DV.n (n19 + (1 : Int)), DV.n n25, DV.n n26,
    DV.n n27, DV.n n28, DV.b b29]) (
        reqB (reachLS.mea
    [DV.n (n7 - (64 : Int)), DV.n ((1 : Int) + n6),
      DV.l (List.take l4.length (List.drop (0 : Nat) l4)), DV.n n10, DV.n n11]
    [DV.n (n18 + n34 - (1 : Int) - (n35 - n36)), DV.n (n19 + (1 : Int)), DV.n n25, DV.n n26,
      DV.n n27, DV.n n28, DV.b b29] <
  reachLS.mea
    [DV.n (n7 - (64 : Int)), DV.n ((1 : Int) + n6),
      DV.l (List.take l4.length (List.drop (0 : Nat) l4)), DV.n n10, DV.n n11]
    [DV.n n18, DV.n n19, DV.n n20, DV.n n21, DV.n n22, DV.n n23, DV.b b24]) (
        true))))))))))))))) (
        false)))))))))))))))))))))))))))))))))))))))))))) (
     reqB ((-9223372036854775808 : Int) ≤ n20) (
     reqB (n20 ≤ (9223372036854775807 : Int)) (
     reqB ((-9223372036854775808 : Int) ≤ n21) (
     reqB (n21 ≤ (9223372036854775807 : Int)) (
     reqB ((-9223372036854775808 : Int) ≤ n22) (
     reqB (n22 ≤ (9223372036854775807 : Int)) (
     reqB ((-9223372036854775808 : Int) ≤ n23) (
     reqB (n23 ≤ (9223372036854775807 : Int)) (
     reqB (sigStepL.pre
  [DV.n n20, DV.n n21, DV.n n22, DV.n n23, DV.b b24, DV.b Bool.false]) (
     allB fun n37 : Int => 
     impB ((-9223372036854775808 : Int) ≤ n37) (
     impB (n37 ≤ (9223372036854775807 : Int)) (
     allB fun n38 : Int => 
     impB ((-9223372036854775808 : Int) ≤ n38) (
     impB (n38 ≤ (9223372036854775807 : Int)) (
     allB fun n39 : Int => 
     impB ((-9223372036854775808 : Int) ≤ n39) (
     impB (n39 ≤ (9223372036854775807 : Int)) (
     allB fun n40 : Int => 
     impB ((-9223372036854775808 : Int) ≤ n40) (
     impB (n40 ≤ (9223372036854775807 : Int)) (
     allB fun b41 : Bool => 
     allB fun n42 : Int => 
     impB ((-9223372036854775808 : Int) ≤ n42) (
     impB (n42 ≤ (9223372036854775807 : Int)) (
     impB (sigStepL.post
  [DV.n n20, DV.n n21, DV.n n22, DV.n n23, DV.b b24, DV.b Bool.false]
  [DV.n n37, DV.n n38, DV.n n39, DV.n n40, DV.b b41, DV.n n42]) (
     bR (dec (n42 ≠ (0 : Int))) (
      reqB (sigLR.post [DV.n n0, DV.n n1, DV.n n2, DV.n n3, DV.l l4] [DV.b Bool.false]) (
      true)) (
      bR (b41) (
       bR (dec (n16 < n18)) (
        reqB (sigLR.post [DV.n n0, DV.n n1, DV.n n2, DV.n n3, DV.l l4] [DV.b Bool.false]) (
        true)) (
        bR (dec (n16 < (0 : Int) - n18)) (
         reqB (sigLR.post [DV.n n0, DV.n n1, DV.n n2, DV.n n3, DV.l l4] [DV.b Bool.false]) (
         true)) (
         reqB (n19.toNat < l4.length) (
         reqB (Nat.add (0 : Nat) n19.toNat < l4.length) (
         reqB ((-9223372036854775808 : Int) ≤ l4.getD (Nat.add (0 : Nat) n19.toNat) (0 : Int)) (
         reqB (l4.getD (Nat.add (0 : Nat) n19.toNat) (0 : Int) ≤ (9223372036854775807 : Int)) (
         reqB (sigPick.pre [DV.n (l4.getD (Nat.add (0 : Nat) n19.toNat) (0 : Int)), DV.n (3 : Int)]) (
         allB fun n43 : Int => 
         impB ((0 : Int) ≤ n43) (
         impB (n43 ≤ (1000000 : Int)) (
         impB (sigPick.post [DV.n (l4.getD (Nat.add (0 : Nat) n19.toNat) (0 : Int)), DV.n (3 : Int)] [DV.n n43]) (
         reqB ((-1000000 : Int) ≤ (n19 + (1 : Int)) * (n7 - (64 : Int))) (
         reqB ((n19 + (1 : Int)) * (n7 - (64 : Int)) ≤ (1000000 : Int)) (
         reqB (sigDown.pre [DV.n ((n19 + (1 : Int)) * (n7 - (64 : Int)))]) (
         allB fun n44 : Int => 
         impB ((-1000000 : Int) ≤ n44) (
         impB (n44 ≤ (1000000 : Int)) (
         impB (sigDown.post [DV.n ((n19 + (1 : Int)) * (n7 - (64 : Int)))] [DV.n n44]) (
         reqB ((-1000000 : Int) ≤ n19 * (n7 - (64 : Int))) (
         reqB (n19 * (n7 - (64 : Int)) ≤ (1000000 : Int)) (
         reqB (sigDown.pre [DV.n (n19 * (n7 - (64 : Int)))]) (
         allB fun n45 : Int => 
         impB ((-1000000 : Int) ≤ n45) (
         impB (n45 ≤ (1000000 : Int)) (
         impB (sigDown.post [DV.n (n19 * (n7 - (64 : Int)))] [DV.n n45]) (
         bR (bR (dec ((1 : Int) + n6 = (1 : Int) + n6)) (
          bR (dec (n7 - (64 : Int) = n7 - (64 : Int))) (
           bR (bR (dec ((0 : Nat) = (0 : Nat))) (
            dec (l4.length = l4.length)) (
            false)) (
            bR (bR (b5) (
             b5) (
             bR (b5) (
              false) (
              true))) (
             bR (dec (n16 = n16)) (
              true) (
              false)) (
             false)) (
            false)) (
           false)) (
          false)) (
          reqB ((-100000 : Int) ≤ n18 + n43 - (1 : Int) - (n44 - n45)) (
          reqB (n18 + n43 - (1 : Int) - (n44 - n45) ≤ (100000 : Int)) (
          reqB ((0 : Int) ≤ n19 + (1 : Int)) (
          reqB (n19 + (1 : Int) ≤ (1000 : Int)) (
          reqB ((-9223372036854775808 : Int) ≤ n37) (
          reqB (n37 ≤ (9223372036854775807 : Int)) (
          reqB ((-9223372036854775808 : Int) ≤ n38) (
          reqB (n38 ≤ (9223372036854775807 : Int)) (
          reqB ((-9223372036854775808 : Int) ≤ n39) (
          reqB (n39 ≤ (9223372036854775807 : Int)) (
          reqB ((-9223372036854775808 : Int) ≤ n40) (
          reqB (n40 ≤ (9223372036854775807 : Int)) (
          reqB (reachLS.inv
  [DV.n (n7 - (64 : Int)), DV.n ((1 : Int) + n6), DV.l (List.take l4.length (List.drop (0 : Nat) l4)),
    DV.n n10, DV.n n11]
  [DV.n (n18 + n43 - (1 : Int) - (n44 - n45)), DV.n (n19 + (1 : Int)), DV.n n37, DV.n n38,
    DV.n n39, DV.n n40, DV.b b41]) (
          reqB (reachLS.mea
    [DV.n (n7 - (64 : Int)), DV.n ((1 : Int) + n6),
      DV.l (List.take l4.length (List.drop (0 : Nat) l4)), DV.n n10, DV.n n11]
    [DV.n (n18 + n43 - (1 : Int) - (n44 - n45)), DV.n (n19 + (1 : Int)), DV.n n37, DV.n n38,
      DV.n n39, DV.n n40, DV.b b41] <
  reachLS.mea
    [DV.n (n7 - (64 : Int)), DV.n ((1 : Int) + n6),
      DV.l (List.take l4.length (List.drop (0 : Nat) l4)), DV.n n10, DV.n n11]
    [DV.n n18, DV.n n19, DV.n n20, DV.n n21, DV.n n22, DV.n n23, DV.b b24]) (
          true))))))))))))))) (
          false)))))))))))))))))))))))) (
       reqB (n19.toNat < l4.length) (
       reqB (Nat.add (0 : Nat) n19.toNat < l4.length) (
       reqB ((-9223372036854775808 : Int) ≤ l4.getD (Nat.add (0 : Nat) n19.toNat) (0 : Int)) (
       reqB (l4.getD (Nat.add (0 : Nat) n19.toNat) (0 : Int) ≤ (9223372036854775807 : Int)) (
       reqB (sigPick.pre [DV.n (l4.getD (Nat.add (0 : Nat) n19.toNat) (0 : Int)), DV.n (3 : Int)]) (
       allB fun n46 : Int => 
       impB ((0 : Int) ≤ n46) (
       impB (n46 ≤ (1000000 : Int)) (
       impB (sigPick.post [DV.n (l4.getD (Nat.add (0 : Nat) n19.toNat) (0 : Int)), DV.n (3 : Int)] [DV.n n46]) (
       reqB ((-1000000 : Int) ≤ (n19 + (1 : Int)) * (n7 - (64 : Int))) (
       reqB ((n19 + (1 : Int)) * (n7 - (64 : Int)) ≤ (1000000 : Int)) (
       reqB (sigDown.pre [DV.n ((n19 + (1 : Int)) * (n7 - (64 : Int)))]) (
       allB fun n47 : Int => 
       impB ((-1000000 : Int) ≤ n47) (
       impB (n47 ≤ (1000000 : Int)) (
       impB (sigDown.post [DV.n ((n19 + (1 : Int)) * (n7 - (64 : Int)))] [DV.n n47]) (
       reqB ((-1000000 : Int) ≤ n19 * (n7 - (64 : Int))) (
       reqB (n19 * (n7 - (64 : Int)) ≤ (1000000 : Int)) (
       reqB (sigDown.pre [DV.n (n19 * (n7 - (64 : Int)))]) (
       allB fun n48 : Int => 
       impB ((-1000000 : Int) ≤ n48) (
       impB (n48 ≤ (1000000 : Int)) (
       impB (sigDown.post [DV.n (n19 * (n7 - (64 : Int)))] [DV.n n48]) (
       bR (bR (dec ((1 : Int) + n6 = (1 : Int) + n6)) (
        bR (dec (n7 - (64 : Int) = n7 - (64 : Int))) (
         bR (bR (dec ((0 : Nat) = (0 : Nat))) (
          dec (l4.length = l4.length)) (
          false)) (
          bR (bR (b5) (
           b5) (
           bR (b5) (
            false) (
            true))) (
           bR (dec (n16 = n16)) (
            true) (
            false)) (
           false)) (
          false)) (
         false)) (
        false)) (
        reqB ((-100000 : Int) ≤ n18 + n46 - (1 : Int) - (n47 - n48)) (
        reqB (n18 + n46 - (1 : Int) - (n47 - n48) ≤ (100000 : Int)) (
        reqB ((0 : Int) ≤ n19 + (1 : Int)) (
        reqB (n19 + (1 : Int) ≤ (1000 : Int)) (
        reqB ((-9223372036854775808 : Int) ≤ n37) (
        reqB (n37 ≤ (9223372036854775807 : Int)) (
        reqB ((-9223372036854775808 : Int) ≤ n38) (
        reqB (n38 ≤ (9223372036854775807 : Int)) (
        reqB ((-9223372036854775808 : Int) ≤ n39) (
        reqB (n39 ≤ (9223372036854775807 : Int)) (
        reqB ((-9223372036854775808 : Int) ≤ n40) (
        reqB (n40 ≤ (9223372036854775807 : Int)) (
        reqB (reachLS.inv
  [DV.n (n7 - (64 : Int)), DV.n ((1 : Int) + n6), DV.l (List.take l4.length (List.drop (0 : Nat) l4)),
    DV.n n10, DV.n n11]
  [DV.n (n18 + n46 - (1 : Int) - (n47 - n48)), DV.n (n19 + (1 : Int)), DV.n n37, DV.n n38,
    DV.n n39, DV.n n40, DV.b b41]) (
        reqB (reachLS.mea
    [DV.n (n7 - (64 : Int)), DV.n ((1 : Int) + n6),
      DV.l (List.take l4.length (List.drop (0 : Nat) l4)), DV.n n10, DV.n n11]
    [DV.n (n18 + n46 - (1 : Int) - (n47 - n48)), DV.n (n19 + (1 : Int)), DV.n n37, DV.n n38,
      DV.n n39, DV.n n40, DV.b b41] <
  reachLS.mea
    [DV.n (n7 - (64 : Int)), DV.n ((1 : Int) + n6),
      DV.l (List.take l4.length (List.drop (0 : Nat) l4)), DV.n n10, DV.n n11]
    [DV.n n18, DV.n n19, DV.n n20, DV.n n21, DV.n n22, DV.n n23, DV.b b24]) (
        true))))))))))))))) (
        false))))))))))))))))))))))))))))))))))))))))))))) (
    reqB (sigLR.post [DV.n n0, DV.n n1, DV.n n2, DV.n n3, DV.l l4] [DV.b b5]) (
    true))))))))))))))))))))))))))))))))))))))))))))))))))))))))))))))))))))))))))))))))))))))))))))))))))))))))))))) := by kernel_rfl
set_option maxHeartbeats 8000000 in
theorem vt_LockReach : vcFn Try.prog [(5, Ext.ctr (ctOf sigTrue0)), (21, Ext.ctr (ctOf sigPick)), (11, Ext.ctr (ctOf sigNew)), (13, Ext.ctr (ctOf sigReach)), (9, Ext.ctr (ctOf sigStepL)), (22, Ext.ctr (ctOf sigDown))] tab [] 100 8 sigLR = true := by
  rw [vc_LockReach]
  try simp only [bR_same, dec_same, bR_true, bR_false]
  simp only [allB_iff, impB_iff, reqB_iff, bR_iff, bR_iff_f, dec_iff, dec_f, reduceCtorEq, imp_false, Classical.not_not, implies_true, true_and, and_true]
  simp only [sigLR, sigTrue0, sigPick, pickPost, sigNew, newPost, sigReach, reachPre, reachPost, sigStepL, stepLPost, sigDown, downPost, reachLS, reachInv, reachMea, wrap_i64, List.drop_zero, List.take_length, Nat.add_eq, Nat.mul_eq, Nat.sub_eq, Nat.zero_add, Nat.sub_zero, Nat.mul_one, List.cons.injEq, DV.b.injEq, and_true, reduceCtorEq, andB_iff', beqB_iff', dec_iff, imp_false]
  repeat' (first | intro _ | apply And.intro)
  all_goals first
    | omega
    | rfl
    | exact (getD_bd (by assumption) (by omega) (by omega)).1
    | exact (getD_bd (by assumption) (by omega) (by omega)).2
    | grind [mul_bd, fl_step, chk_new, chk_stp', near_test, near_step]
    | exact Int.le_trans (by omega) (mul_bd (by omega) (by omega) (by omega)).1
    | exact Int.le_trans (mul_bd (by omega) (by omega) (by omega)).2 (by omega)
    | exact ⟨by grind⟩
    | (rename (-64 ≤ _ ∧ _) => hi
       rename (chk _ _ _ _ _ = 0 → _) => hs
       obtain ⟨i1, i2, i3, i4, i5, i6, i7, i8, i9, i10, i11, i12, hn⟩ := hi
       subst i8 i9
       obtain ⟨_, _, _, hs⟩ := hs i10
       have z := chk_zero i10
       first
         | (rename (_ = _ % 3 ∧ _) => hm; obtain ⟨_, m1, m2⟩ := hm
            refine near_step2 hn hs ?_ ?_ ?_ ?_ m1 m2 ?_ <;> first | omega | (intro h; rw [dec_iff] at h; exact ⟨by omega, by omega⟩) | (intro h; cases h))
         | (exfalso
            have t := near_test hn hs (by first | (intro h; rw [dec_iff] at h; exact ⟨by omega, by omega⟩) | (intro h; cases h)) (by assumption) (by omega) (by omega) (by omega) (by omega) i1 i2
            omega))
    | skip
theorem ext_LockReach : ∀ p ∈ ([(5, Ext.ctr (ctOf sigTrue0)), (21, Ext.ctr (ctOf sigPick)), (11, Ext.ctr (ctOf sigNew)), (13, Ext.ctr (ctOf sigReach)), (9, Ext.ctr (ctOf sigStepL)), (22, Ext.ctr (ctOf sigDown))] : List (Nat × Ext)), ExtRow Try.prog p.1 p.2 := by
  intro p hp
  simp only [List.mem_cons, List.not_mem_nil, or_false] at hp
  rcases hp with rfl | rfl | rfl | rfl | rfl | rfl <;> trivial
theorem cts_LockReach : CtsOk Try.prog [(5, Ext.ctr (ctOf sigTrue0)), (21, Ext.ctr (ctOf sigPick)), (11, Ext.ctr (ctOf sigNew)), (13, Ext.ctr (ctOf sigReach)), (9, Ext.ctr (ctOf sigStepL)), (22, Ext.ctr (ctOf sigDown))] := ctsOk_of (cs := [(5, sigTrue0), (21, sigPick), (11, sigNew), (13, sigReach), (9, sigStepL), (22, sigDown)])
  (fun p hp => by
    simp only [List.mem_cons, List.not_mem_nil, or_false] at hp
    rcases hp with rfl | rfl | rfl | rfl | rfl | rfl
    · exact fn_known
    · exact fn_pick
    · exact fn_newL
    · exact fn_reachL
    · exact fn_stepL
    · exact fn_down
)
  (fun f c h => by
    simp only [List.lookup_cons] at h
    repeat' split at h
    all_goals first | (cases h; done) | (rename_i e; have e := beq_iff_eq.1 e; subst e; cases h; exact ⟨_, by simp, rfl⟩))
theorem fn_LockReach : FnOk Try.prog 8 sigLR [] := fn_sound (by kernel_rfl) ext_LockReach cts_LockReach names vt_LockReach
end Go.Proofs.Ytlhcjklfcpbcaaa
