import Derived.Test.YtlhcjklfcpbcaaaSpec
import Derived.Test.YtlhcjklfcpbcaaaRows
import Derived.Test.YtlhcjklfcpbcaaaFnames
import Derived.Test.YtlhcjklfcpbcaaaFknown
import Derived.Test.YtlhcjklfcpbcaaaFpick
import Derived.Test.YtlhcjklfcpbcaaaFnewL
import Derived.Test.YtlhcjklfcpbcaaaFrunL
import Derived.Test.YtlhcjklfcpbcaaaFsame
import Derived.Test.YtlhcjklfcpbcaaaFstepL
import Derived.Test.YtlhcjklfcpbcaaaFchkL
namespace Go.Proofs.Ytlhcjklfcpbcaaa
open Go.Ev Go.Sp
set_option maxRecDepth 100000
theorem vc_LockParts : vcFn Try.prog [(5, Ext.ctr (ctOf sigTrue0)), (21, Ext.ctr (ctOf sigPick)), (11, Ext.ctr (ctOf sigNew)), (18, Ext.ctr (ctOf sigRun)), (20, Ext.ctr (ctOf sigSame)), (9, Ext.ctr (ctOf sigStepL)), (15, Ext.ctr (ctOf sigChk))] tab [] 100 7 sigParts = (allB fun n0 : Int => 
impB ((-9223372036854775808 : Int) ≤ n0) (
impB (n0 ≤ (9223372036854775807 : Int)) (
allB fun n1 : Int => 
impB ((-9223372036854775808 : Int) ≤ n1) (
impB (n1 ≤ (9223372036854775807 : Int)) (
allB fun n2 : Int => 
impB ((-9223372036854775808 : Int) ≤ n2) (
impB (n2 ≤ (9223372036854775807 : Int)) (
allB fun l3 : List Bool => 
impB (l3.length ≤ (9223372036854775807 : Nat)) (
impB (sigParts.pre [DV.n n0, DV.n n1, DV.n n2, DV.lb l3]) (
reqB (sigTrue0.pre []) (
allB fun b4 : Bool => 
impB (sigTrue0.post [] [DV.b b4]) (
bR (dec ((200 : Int) < (↑l3.length : Int))) (
 reqB (sigParts.post [DV.n n0, DV.n n1, DV.n n2, DV.lb l3] [DV.b b4]) (
 true)) (
 reqB ((-9223372036854775808 : Int) ≤ n0) (
 reqB (n0 ≤ (9223372036854775807 : Int)) (
 reqB (sigPick.pre [DV.n n0, DV.n (100 : Int)]) (
 allB fun n5 : Int => 
 impB ((0 : Int) ≤ n5) (
 impB (n5 ≤ (1000000 : Int)) (
 impB (sigPick.post [DV.n n0, DV.n (100 : Int)] [DV.n n5]) (
 reqB ((-9223372036854775808 : Int) ≤ n1) (
 reqB (n1 ≤ (9223372036854775807 : Int)) (
 reqB (sigPick.pre [DV.n n1, DV.n (100 : Int)]) (
 allB fun n6 : Int => 
 impB ((0 : Int) ≤ n6) (
 impB (n6 ≤ (1000000 : Int)) (
 impB (sigPick.post [DV.n n1, DV.n (100 : Int)] [DV.n n6]) (
 reqB ((1 : Int) ≤ (1 : Int) + n5) (
 reqB ((1 : Int) + n5 ≤ (100 : Int)) (
 reqB ((1 : Int) ≤ (1 : Int) + n6) (
 reqB ((1 : Int) + n6 ≤ (100 : Int)) (
 reqB (sigNew.pre [DV.n ((1 : Int) + n5), DV.n ((1 : Int) + n6)]) (
 allB fun n7 : Int => 
 impB ((1 : Int) ≤ n7) (
 impB (n7 ≤ (100 : Int)) (
 allB fun n8 : Int => 
 impB ((1 : Int) ≤ n8) (
 impB (n8 ≤ (100 : Int)) (
 allB fun n9 : Int => 
 impB ((0 : Int) ≤ n9) (
 impB (n9 ≤ (100 : Int)) (
 allB fun n10 : Int => 
 impB ((0 : Int) ≤ n10) (
 impB (n10 ≤ (100 : Int)) (
 allB fun b11 : Bool => 
 allB fun n12 : Int => 
 impB ((-9223372036854775808 : Int) ≤ n12) (
 impB (n12 ≤ (9223372036854775807 : Int)) (
 impB (sigNew.post [DV.n ((1 : Int) + n5), DV.n ((1 : Int) + n6)]
  [DV.n n7, DV.n n8, DV.n n9, DV.n n10, DV.b b11, DV.n n12]) (
 allB fun n13 : Int => 
 impB (n13 = Go.IntKind.i64.wrap ((↑l3.length : Int) + (1 : Int))) (
 impB (Int.negSucc (9223372036854775807 : Nat) ≤ n13) (
 impB (n13 ≤ Int.ofNat (9223372036854775807 : Nat)) (
 reqB ((-9223372036854775808 : Int) ≤ n2) (
 reqB (n2 ≤ (9223372036854775807 : Int)) (
 reqB ((1 : Int) ≤ n13) (
 reqB (n13 ≤ (1000000 : Int)) (
 reqB (sigPick.pre [DV.n n2, DV.n n13]) (
 allB fun n14 : Int => 
 impB ((0 : Int) ≤ n14) (
 impB (n14 ≤ (1000000 : Int)) (
 impB (sigPick.post [DV.n n2, DV.n n13] [DV.n n14]) (
 reqB ((-9223372036854775808 : Int) ≤ n7) (
 reqB (n7 ≤ (9223372036854775807 : Int)) (
 reqB ((-9223372036854775808 : Int) ≤ n8) (
 reqB (n8 ≤ (9223372036854775807 : Int)) (
 reqB ((-9223372036854775808 : Int) ≤ n9) (
 reqB (n9 ≤ (9223372036854775807 : Int)) (
 reqB ((-9223372036854775808 : Int) ≤ n10) (
 reqB (n10 ≤ (9223372036854775807 : Int)) (
 reqB (((0 : Nat) + l3.length) * (1 : Nat) ≤ l3.length.mul (1 : Nat)) (
 reqB (l3.length ≤ (9223372036854775807 : Nat)) (
 reqB ((List.take l3.length (List.drop (0 : Nat) l3)).length = l3.length) (
 reqB (sigRun.pre
  [DV.n n7, DV.n n8, DV.n n9, DV.n n10, DV.b b11,
    DV.lb (List.take l3.length (List.drop (0 : Nat) l3))]) (
 allB fun n15 : Int => 
 impB ((-9223372036854775808 : Int) ≤ n15) (
 impB (n15 ≤ (9223372036854775807 : Int)) (
 allB fun n16 : Int => 
 impB ((-9223372036854775808 : Int) ≤ n16) (
 impB (n16 ≤ (9223372036854775807 : Int)) (
 allB fun n17 : Int => 
 impB ((-9223372036854775808 : Int) ≤ n17) (
 impB (n17 ≤ (9223372036854775807 : Int)) (
 allB fun n18 : Int => 
 impB ((-9223372036854775808 : Int) ≤ n18) (
 impB (n18 ≤ (9223372036854775807 : Int)) (
 allB fun b19 : Bool => 
 allB fun l20 : List Bool => 
 impB (l20.length ≤ (10000 : Nat)) (
 allB fun n21 : Int => 
 impB ((-9223372036854775808 : Int) ≤ n21) (
 impB (n21 ≤ (9223372036854775807 : Int)) (
 impB (sigRun.post
  [DV.n n7, DV.n n8, DV.n n9, DV.n n10, DV.b b11,
    DV.lb (List.take l3.length (List.drop (0 : Nat) l3))]
  [DV.n n15, DV.n n16, DV.n n17, DV.n n18, DV.b b19, DV.lb l20, DV.n n21]) (
 reqB ((0 : Nat) ≤ n14.toNat) (
 reqB (n14.toNat ≤ l3.length) (
 reqB ((-9223372036854775808 : Int) ≤ n7) (
 reqB (n7 ≤ (9223372036854775807 : Int)) (
 reqB ((-9223372036854775808 : Int) ≤ n8) (
 reqB (n8 ≤ (9223372036854775807 : Int)) (
 reqB ((-9223372036854775808 : Int) ≤ n9) (
 reqB (n9 ≤ (9223372036854775807 : Int)) (
 reqB ((-9223372036854775808 : Int) ≤ n10) (
 reqB (n10 ≤ (9223372036854775807 : Int)) (
 reqB (((0 : Nat) + n14.toNat.sub (0 : Nat)) * (1 : Nat) ≤ l3.length.mul (1 : Nat)) (
 reqB (n14.toNat.sub (0 : Nat) ≤ (9223372036854775807 : Nat)) (
 reqB ((List.take (n14.toNat.sub (0 : Nat)) (List.drop (0 : Nat) l3)).length = n14.toNat.sub (0 : Nat)) (
 reqB (sigRun.pre
  [DV.n n7, DV.n n8, DV.n n9, DV.n n10, DV.b b11,
    DV.lb (List.take (n14.toNat.sub (0 : Nat)) (List.drop (0 : Nat) l3))]) (
 allB fun n22 : Int => 
 impB ((-9223372036854775808 : Int) ≤ n22) (
 impB (n22 ≤ (9223372036854775807 : Int)) (
 allB fun n23 : Int => 
 impB ((-9223372036854775808 : Int) ≤ n23) (
 impB (n23 ≤ (9223372036854775807 : Int)) (
 allB fun n24 : Int => 
 impB ((-9223372036854775808 : Int) ≤ n24) (
 impB (n24 ≤ (9223372036854775807 : Int)) (
 allB fun n25 : Int => 
 impB ((-9223372036854775808 : Int) ≤ n25) (
 impB (n25 ≤ (9223372036854775807 : Int)) (
 allB fun b26 : Bool => 
 allB fun l27 : List Bool => 
 impB (l27.length ≤ (10000 : Nat)) (
 allB fun n28 : Int => 
 impB ((-9223372036854775808 : Int) ≤ n28) (
 impB (n28 ≤ (9223372036854775807 : Int)) (
 impB (sigRun.post
  [DV.n n7, DV.n n8, DV.n n9, DV.n n10, DV.b b11,
    DV.lb (List.take (n14.toNat.sub (0 : Nat)) (List.drop (0 : Nat) l3))]
  [DV.n n22, DV.n n23, DV.n n24, DV.n n25, DV.b b26, DV.lb l27, DV.n n28]) (
 reqB (n14.toNat ≤ l3.length) (
 reqB (l3.length ≤ l3.length) (
 reqB ((-9223372036854775808 : Int) ≤ n22) (
 reqB (n22 ≤ (9223372036854775807 : Int)) (
 reqB ((-9223372036854775808 : Int) ≤ n23) (
 reqB (n23 ≤ (9223372036854775807 : Int)) (
 reqB ((-9223372036854775808 : Int) ≤ n24) (
 reqB (n24 ≤ (9223372036854775807 : Int)) (
 reqB ((-9223372036854775808 : Int) ≤ n25) (
 reqB (n25 ≤ (9223372036854775807 : Int)) (
 reqB ((Nat.add (0 : Nat) n14.toNat + l3.length.sub n14.toNat) * (1 : Nat) ≤ l3.length.mul (1 : Nat)) (
 reqB (l3.length.sub n14.toNat ≤ (9223372036854775807 : Nat)) (
 reqB ((List.take (l3.length.sub n14.toNat) (List.drop (Nat.add (0 : Nat) n14.toNat) l3)).length = l3.length.sub n14.toNat) (
 reqB (sigRun.pre
  [DV.n n22, DV.n n23, DV.n n24, DV.n n25, DV.b b26,
    DV.lb (List.take (l3.length.sub n14.toNat) (List.drop (Nat.add (0 : Nat) n14.toNat) l3))]) (
 allB fun n29 : Int => 
 impB ((-9223372036854775808 : Int) ≤ n29) (
 impB (n29 ≤ (9223372036854775807 : Int)) (
 allB fun n30 : Int => 
 impB ((-9223372036854775808 : Int) ≤ n30) (
 impB (n30 ≤ (9223372036854775807 : Int)) (
 allB fun n31 : Int => 
 impB ((-9223372036854775808 : Int) ≤ n31) (
 impB (n31 ≤ (9223372036854775807 : Int)) (
 allB fun n32 : Int => 
 impB ((-9223372036854775808 : Int) ≤ n32) (
 impB (n32 ≤ (9223372036854775807 : Int)) (
 allB fun b33 : Bool => 
 allB fun l34 : List Bool => 
 impB (l34.length ≤ (10000 : Nat)) (
 allB fun n35 : Int => 
 impB ((-9223372036854775808 : Int) ≤ n35) (
 impB (n35 ≤ (9223372036854775807 : Int)) (
 impB (sigRun.post
  [DV.n n22, DV.n n23, DV.n n24, DV.n n25, DV.b b26,
    DV.lb (List.take (l3.length.sub n14.toNat) (List.drop (Nat.add (0 : Nat) n14.toNat) l3))]
  [DV.n n29, DV.n n30, DV.n n31, DV.n n32, DV.b b33, DV.lb l34, DV.n n35]) (
 bR (dec (n12 ≠ (0 : Int))) (
  reqB (sigParts.post [DV.n n0, DV.n n1, DV.n n2, DV.lb l3] [DV.b Bool.false]) (
  true)) (
  bR (dec (n21 ≠ (0 : Int))) (
   reqB (sigParts.post [DV.n n0, DV.n n1, DV.n n2, DV.lb l3] [DV.b Bool.false]) (
   true)) (
   bR (dec (n28 ≠ (0 : Int))) (
    reqB (sigParts.post [DV.n n0, DV.n n1, DV.n n2, DV.lb l3] [DV.b Bool.false]) (
    true)) (
    bR (dec (n35 ≠ (0 : Int))) (
     reqB (sigParts.post [DV.n n0, DV.n n1, DV.n n2, DV.lb l3] [DV.b Bool.false]) (
     true)) (
     bR (dec ((↑l20.length : Int) ≠ (↑l3.length : Int))) (
      reqB (sigParts.post [DV.n n0, DV.n n1, DV.n n2, DV.lb l3] [DV.b Bool.false]) (
      true)) (
      bR (bR (bR (dec (n15 = n29)) (
       bR (dec (n16 = n30)) (
        bR (dec (n17 = n31)) (
         bR (dec (n18 = n32)) (
          bR (bR (b19) (
           b33) (
           bR (b33) (
            false) (
            true))) (
           true) (
           false)) (
          false)) (
         false)) (
        false)) (
       false)) (
       false) (
       true)) (
       reqB (sigParts.post [DV.n n0, DV.n n1, DV.n n2, DV.lb l3] [DV.b Bool.false]) (
       true)) (
       reqB (((0 : Nat) + l27.length) * (0 + (1 : Nat)) ≤ l27.length.mul (1 : Nat)) (
       reqB ((0 : Nat) + l27.length ≤ (1000000 : Nat)) (
       reqB (((0 : Nat) + l34.length) * (0 + (1 : Nat)) ≤ l34.length.mul (1 : Nat)) (
       reqB (l27.length + l34.length ≤ (1000000 : Nat)) (
       reqB (((0 : Nat) + l27.length) * (0 + (1 : Nat)) ≤ l27.length.mul (0 + (1 : Nat))) (
       reqB (((0 : Nat) + l20.length) * (1 : Nat) ≤ l20.length.mul (1 : Nat)) (
       reqB (l20.length ≤ (9223372036854775807 : Nat)) (
       reqB ((List.take l20.length (List.drop (0 : Nat) l20)).length = l20.length) (
       reqB (((0 : Nat) + l27.length.add l34.length) * (1 : Nat) ≤ (l27.length.add l34.length).mul (0 + (1 : Nat))) (
       reqB (l27.length.add l34.length ≤ (9223372036854775807 : Nat)) (
       reqB ((List.take (l27.length.add l34.length)
      (List.drop (0 : Nat)
        (List.take l27.length (List.drop (0 : Nat) (List.take l27.length (List.drop (0 : Nat) l27))) ++
          List.take l34.length (List.drop (0 : Nat) l34)))).length =
  l27.length.add l34.length) (
       reqB (sigSame.pre
  [DV.lb (List.take l20.length (List.drop (0 : Nat) l20)),
    DV.lb
      (List.take (l27.length.add l34.length)
        (List.drop (0 : Nat)
          (List.take l27.length (List.drop (0 : Nat) (List.take l27.length (List.drop (0 : Nat) l27))) ++
            List.take l34.length (List.drop (0 : Nat) l34))))]) (
       allB fun b36 : Bool => 
       impB (sigSame.post
  [DV.lb (List.take l20.length (List.drop (0 : Nat) l20)),
    DV.lb
      (List.take (l27.length.add l34.length)
        (List.drop (0 : Nat)
          (List.take l27.length (List.drop (0 : Nat) (List.take l27.length (List.drop (0 : Nat) l27))) ++
            List.take l34.length (List.drop (0 : Nat) l34))))]
  [DV.b b36]) (
       bR (bR (b36) (
        false) (
        true)) (
        reqB (sigParts.post [DV.n n0, DV.n n1, DV.n n2, DV.lb l3] [DV.b Bool.false]) (
        true)) (
        reqB (((0 : Nat) + l3.length) * (1 : Nat) ≤ l3.length.mul (1 : Nat)) (
        reqB (l3.length ≤ (9223372036854775807 : Nat)) (
        reqB ((List.take l3.length (List.drop (0 : Nat) l3)).length = l3.length) (
        reqB (((0 : Nat) + l20.length) * (1 : Nat) ≤ l20.length.mul (1 : Nat)) (
        reqB (l20.length ≤ (10000 : Nat)) (
        reqB ((List.take l20.length (List.drop (0 : Nat) l20)).length = l20.length) (
        reqB ((1 : Int) ≤ n7) (
        reqB (n7 ≤ (100 : Int)) (
        reqB ((1 : Int) ≤ n8) (
        reqB (n8 ≤ (100 : Int)) (
        reqB ((-9223372036854775808 : Int) ≤ n7) (
        reqB (n7 ≤ (9223372036854775807 : Int)) (
        reqB ((-9223372036854775808 : Int) ≤ n8) (
        reqB (n8 ≤ (9223372036854775807 : Int)) (
        reqB ((-9223372036854775808 : Int) ≤ n9) (
        reqB (n9 ≤ (9223372036854775807 : Int)) (
        reqB ((-9223372036854775808 : Int) ≤ n10) (
        reqB (n10 ≤ (9223372036854775807 : Int)) (
        reqB (partsL.inv
  [DV.lb (List.take l3.length (List.drop (0 : Nat) l3)),
    DV.lb (List.take l20.length (List.drop (0 : Nat) l20)), DV.n n7, DV.n n8]
  [DV.n (0 : Int), DV.n n7, DV.n n8, DV.n n9, DV.n n10, DV.b b11]) (
        allB fun n37 : Int => 
        impB ((0 : Int) ≤ n37) (
        impB (n37 ≤ (1000 : Int)) (
        allB fun n38 : Int => 
        impB ((-9223372036854775808 : Int) ≤ n38) (
        impB (n38 ≤ (9223372036854775807 : Int)) (
        allB fun n39 : Int => 
        impB ((-9223372036854775808 : Int) ≤ n39) (
        impB (n39 ≤ (9223372036854775807 : Int)) (
        allB fun n40 : Int => 
        impB ((-9223372036854775808 : Int) ≤ n40) (
        impB (n40 ≤ (9223372036854775807 : Int)) (
        allB fun n41 : Int => 
        impB ((-9223372036854775808 : Int) ≤ n41) (
        impB (n41 ≤ (9223372036854775807 : Int)) (
        allB fun b42 : Bool => 
        impB (partsL.inv
  [DV.lb (List.take l3.length (List.drop (0 : Nat) l3)),
    DV.lb (List.take l20.length (List.drop (0 : Nat) l20)), DV.n n7, DV.n n8]
  [DV.n n37, DV.n n38, DV.n n39, DV.n n40, DV.n n41, DV.b b42]) (
        bR (dec (n37 < (↑l3.length : Int))) (
         reqB (n37.toNat < l3.length) (
         reqB (Nat.add (0 : Nat) n37.toNat < l3.length) (
         reqB ((-9223372036854775808 : Int) ≤ n38) (
         reqB (n38 ≤ (9223372036854775807 : Int)) (
         reqB ((-9223372036854775808 : Int) ≤ n39) (
         reqB (n39 ≤ (9223372036854775807 : Int)) (
         reqB ((-9223372036854775808 : Int) ≤ n40) (
         reqB (n40 ≤ (9223372036854775807 : Int)) (
         reqB ((-9223372036854775808 : Int) ≤ n41) (
         reqB (n41 ≤ (9223372036854775807 : Int)) (
         reqB (sigStepL.pre
  [DV.n n38, DV.n n39, DV.n n40, DV.n n41, DV.b b42,
    DV.b (l3.getD (Nat.add (0 : Nat) n37.toNat) Bool.false)]) (
         allB fun n43 : Int => 
         impB ((-9223372036854775808 : Int) ≤ n43) (
         impB (n43 ≤ (9223372036854775807 : Int)) (
         allB fun n44 : Int => 
         impB ((-9223372036854775808 : Int) ≤ n44) (
         impB (n44 ≤ (9223372036854775807 : Int)) (
         allB fun n45 : Int => 
         impB ((-9223372036854775808 : Int) ≤ n45) (
         impB (n45 ≤ (9223372036854775807 : Int)) (
         allB fun n46 : Int => 
         impB ((-9223372036854775808 : Int) ≤ n46) (
         impB (n46 ≤ (9223372036854775807 : Int)) (
         allB fun b47 : Bool => 
         allB fun n48 : Int => 
         impB ((-9223372036854775808 : Int) ≤ n48) (
         impB (n48 ≤ (9223372036854775807 : Int)) (
         impB (sigStepL.post
  [DV.n n38, DV.n n39, DV.n n40, DV.n n41, DV.b b42,
    DV.b (l3.getD (Nat.add (0 : Nat) n37.toNat) Bool.false)]
  [DV.n n43, DV.n n44, DV.n n45, DV.n n46, DV.b b47, DV.n n48]) (
         bR (dec (n48 ≠ (0 : Int))) (
          reqB (sigParts.post [DV.n n0, DV.n n1, DV.n n2, DV.lb l3] [DV.b Bool.false]) (
          true)) (
          reqB (n37.toNat < l20.length) (
          reqB (Nat.add (0 : Nat) n37.toNat < l20.length) (
          bR (bR (bR (b47) (
           l20.getD (Nat.add (0 : Nat) n37.toNat) Bool.false) (
           bR (l20.getD (Nat.add (0 : Nat) n37.toNat) Bool.false) (
            false) (
            true))) (
           false) (
           true)) (
           reqB (sigParts.post [DV.n n0, DV.n n1, DV.n n2, DV.lb l3] [DV.b Bool.false]) (
           true)) (
           reqB ((-9223372036854775808 : Int) ≤ n43) (
           reqB (n43 ≤ (9223372036854775807 : Int)) (
           reqB ((-9223372036854775808 : Int) ≤ n44) (
           reqB (n44 ≤ (9223372036854775807 : Int)) (
           reqB ((-9223372036854775808 : Int) ≤ n45) (
           reqB (n45 ≤ (9223372036854775807 : Int)) (
           reqB ((-9223372036854775808 : Int) ≤ n46) (
           reqB (n46 ≤ (9223372036854775807 : Int)) (
           reqB (sigChk.pre [DV.n n43, DV.n n44, DV.n n45, DV.n n46, DV.b b47]) (
           allB fun n49 : Int => 
           impB ((-9223372036854775808 : Int) ≤ n49) (
           impB (n49 ≤ (9223372036854775807 : Int)) (
           impB (sigChk.post [DV.n n43, DV.n n44, DV.n n45, DV.n n46, DV.b b47] [DV.n n49]) (
           bR (dec (n49 ≠ (0 : Int))) (
            reqB (sigParts.post [DV.n n0, DV.n n1, DV.n n2, DV.lb l3] [DV.b Bool.false]) (
            true)) (
            bR (bR (bR (dec ((0 : Nat) = (0 : Nat))) (
             dec (l3.length = l3.length)) (
             false)) (
             bR (bR (b4) (
              b4) (
              bR (b4) (
               false) (
               true))) (
              bR (bR (dec ((0 : Nat) = (0 : Nat))) (
               dec (l20.length = l20.length)) (
               false)) (
               true) (
               false)) (
              false)) (
             false)) (
             bR (bR (bR (dec (l20.length.mul (1 : Nat) = l20.length.mul (1 : Nat))) (
              dec ([Col.b l20] = [Col.b l20])) (
              false)) (
              bR (bR (dec (n15 = n15)) (
               bR (dec (n16 = n16)) (
                bR (dec (n17 = n17)) (
                 bR (dec (n18 = n18)) (
                  bR (bR (b19) (
                   b19) (
                   bR (b19) (
                    false) (
                    true))) (
                   true) (
                   false)) (
                  false)) (
                 false)) (
                false)) (
               false)) (
               bR (bR (dec (l27.length.mul (1 : Nat) = l27.length.mul (1 : Nat))) (
                dec ([Col.b l27] = [Col.b l27])) (
                false)) (
                bR (bR (dec (n22 = n22)) (
                 bR (dec (n23 = n23)) (
                  bR (dec (n24 = n24)) (
                   bR (dec (n25 = n25)) (
                    bR (bR (b26) (
                     b26) (
                     bR (b26) (
                      false) (
                      true))) (
                     true) (
                     false)) (
                    false)) (
                   false)) (
                  false)) (
                 false)) (
                 bR (bR (dec (l34.length.mul (1 : Nat) = l34.length.mul (1 : Nat))) (
                  dec ([Col.b l34] = [Col.b l34])) (
                  false)) (
                  bR (bR (dec (n29 = n29)) (
                   bR (dec (n30 = n30)) (
                    bR (dec (n31 = n31)) (
                     bR (dec (n32 = n32)) (
                      bR (bR (b33) (
                       b33) (
                       bR (b33) (
                        false) (
                        true))) (
                       true) (
                       false)) (
                      false)) (
                     false)) (
                    false)) (
                   false)) (
                   bR (bR (dec ((l27.length.add l34.length).mul (0 + (1 : Nat)) = (l27.length.add l34.length).mul (0 + (1 : Nat)))) (
                    dec ([Col.b
      (List.take l27.length (List.drop (0 : Nat) (List.take l27.length (List.drop (0 : Nat) l27))) ++
        List.take l34.length (List.drop (0 : Nat) l34))] =
  [Col.b
      (List.take l27.length (List.drop (0 : Nat) (List.take l27.length (List.drop (0 : Nat) l27))) ++
        List.take l34.length (List.drop (0 : Nat) l34))])) (
                    false)) (
                    true) (
                    false)) (
                   false)) (
                  false)) (
                 false)) (
                false)) (
               false)) (
              false)) (
              reqB ((0 : Int) ≤ n37 + (1 : Int)) (
              reqB (n37 + (1 : Int) ≤ (1000 : Int)) (
              reqB ((-9223372036854775808 : Int) ≤ n43) (
              reqB (n43 ≤ (9223372036854775807 : Int)) (
              reqB ((-9223372036854775808 : Int) ≤ n44) (
              reqB (n44 ≤ (9223372036854775807 : Int)) (
              reqB ((-9223372036854775808 : Int) ≤ n45) (
              reqB (n45 ≤ (9223372036854775807 : Int)) (
              reqB ((-9223372036854775808 : Int) ≤ n46) (
              reqB (n46 ≤ (9223372036854775807 : Int)) (
              reqB (partsL.inv
  [DV.lb (List.take l3.length (List.drop (0 : Nat) l3)),
    DV.lb (List.take l20.length (List.drop (0 : Nat) l20)), DV.n n7, DV.n n8]
  [DV.n (n37 + (1 : Int)), DV.n n43, DV.n n44, DV.n n45, DV.n n46, DV.b b47]) (
              reqB (partsL.mea
    [DV.lb (List.take l3.length (List.drop (0 : Nat) l3)),
      DV.lb (List.take l20.length (List.drop (0 : Nat) l20)), DV.n n7, DV.n n8]
    [DV.n (n37 + (1 : Int)), DV.n n43, DV.n n44, DV.n n45, DV.n n46, DV.b b47] <
  partsL.mea
    [DV.lb (List.take l3.length (List.drop (0 : Nat) l3)),
      DV.lb (List.take l20.length (List.drop (0 : Nat) l20)), DV.n n7, DV.n n8]
    [DV.n n37, DV.n n38, DV.n n39, DV.n n40, DV.n n41, DV.b b42]) (
              true))))))))))))) (
              false)) (
             false))))))))))))))))))))))))))))))))))))))))) (
         bR (b4) (
          reqB (sigParts.post [DV.n n0, DV.n n1, DV.n n2, DV.lb l3]
  [DV.b
      (andB (dec (n38 = n15))
        (andB (dec (n39 = n16))
          (andB (dec (n40 = n17))
            (andB (dec (n41 = n18)) (andB (beqB b42 b19) Bool.true)))))]) (
          true)) (
          reqB (sigParts.post [DV.n n0, DV.n n1, DV.n n2, DV.lb l3] [DV.b Bool.false]) (
          true)))))))))))))))))))))))))))))))))))))))))))))))))))))))))))))))))))))))))))))))))))))))))))))))))))))))))))))))))))))))))))))))))))))))))))))))))))))))))))))))))))))))))))))))))))) := by kernel_rfl
set_option maxHeartbeats 8000000 in
theorem vt_LockParts : vcFn Try.prog [(5, Ext.ctr (ctOf sigTrue0)), (21, Ext.ctr (ctOf sigPick)), (11, Ext.ctr (ctOf sigNew)), (18, Ext.ctr (ctOf sigRun)), (20, Ext.ctr (ctOf sigSame)), (9, Ext.ctr (ctOf sigStepL)), (15, Ext.ctr (ctOf sigChk))] tab [] 100 7 sigParts = true := by
  rw [vc_LockParts]
  try simp only [bR_same, dec_same, bR_true, bR_false]
  simp only [allB_iff, impB_iff, reqB_iff, bR_iff, bR_iff_f, dec_iff, dec_f, reduceCtorEq, imp_false, Classical.not_not, implies_true, true_and, and_true]
  simp only [sigParts, sigTrue0, sigPick, pickPost, sigNew, newPost, sigRun, sigSame, samePost, sigStepL, stepLPost, sigChk, chkPost, partsL, partsInv, partsMea, wrap_i64, List.drop_zero, List.take_length, Nat.add_eq, Nat.mul_eq, Nat.sub_eq, Nat.zero_add, Nat.sub_zero, Nat.mul_one, List.cons.injEq, DV.b.injEq, and_true, reduceCtorEq, andB_iff', beqB_iff', dec_iff]
  repeat' (first | intro _ | apply And.intro)
  all_goals first
    | omega
    | rfl
    | (simp only [List.length_take, List.length_drop, List.length_append]; omega)
    | (rename runPost _ _ => H3; revert H3; rename runPost _ _ => H2; revert H2; rename runPost _ _ => H1; intro H2 H3
       have HH := parts_run H1 H2 H3 (by omega) (by omega) (by omega) (by omega) (by omega) (by omega) (by grind) (by omega)
       clear H1 H2 H3
       first
         | omega
         | grind [outS_get, outS_length, take_next, take_all, runS_snoc, runS, outS, chk_runS]
         | (obtain ⟨t1, t2, t3, t4, t5, t6, t7, t8, t9, t10, t11, t12, t13, t14⟩ := HH
            subst t4 t5 t6 t7 t8
            first
              | (simp only [ne_self, not_true_eq_false, not_false_eq_true, and_true, implies_true, true_implies, imp_self, and_self, forall_const] at *; done)
              | grind [ne_self]
              | grind [take_all]
              | grind [outS_get, take_next, runS_snoc, chk_runS, chk_stp']))
    | skip
theorem ext_LockParts : ∀ p ∈ ([(5, Ext.ctr (ctOf sigTrue0)), (21, Ext.ctr (ctOf sigPick)), (11, Ext.ctr (ctOf sigNew)), (18, Ext.ctr (ctOf sigRun)), (20, Ext.ctr (ctOf sigSame)), (9, Ext.ctr (ctOf sigStepL)), (15, Ext.ctr (ctOf sigChk))] : List (Nat × Ext)), ExtRow Try.prog p.1 p.2 := by
  intro p hp
  simp only [List.mem_cons, List.not_mem_nil, or_false] at hp
  rcases hp with rfl | rfl | rfl | rfl | rfl | rfl | rfl <;> trivial
theorem cts_LockParts : CtsOk Try.prog [(5, Ext.ctr (ctOf sigTrue0)), (21, Ext.ctr (ctOf sigPick)), (11, Ext.ctr (ctOf sigNew)), (18, Ext.ctr (ctOf sigRun)), (20, Ext.ctr (ctOf sigSame)), (9, Ext.ctr (ctOf sigStepL)), (15, Ext.ctr (ctOf sigChk))] := ctsOk_of (cs := [(5, sigTrue0), (21, sigPick), (11, sigNew), (18, sigRun), (20, sigSame), (9, sigStepL), (15, sigChk)])
  (fun p hp => by
    simp only [List.mem_cons, List.not_mem_nil, or_false] at hp
    rcases hp with rfl | rfl | rfl | rfl | rfl | rfl | rfl
    · exact fn_known
    · exact fn_pick
    · exact fn_newL
    · exact fn_runL
    · exact fn_same
    · exact fn_stepL
    · exact fn_chkL
)
  (fun f c h => by
    simp only [List.lookup_cons] at h
    repeat' split at h
    all_goals first | (cases h; done) | (rename_i e; have e := beq_iff_eq.1 e; subst e; cases h; exact ⟨_, by simp, rfl⟩))
theorem fn_LockParts : FnOk Try.prog 7 sigParts [] := fn_sound (by kernel_rfl) ext_LockParts cts_LockParts names vt_LockParts
end Go.Proofs.Ytlhcjklfcpbcaaa
