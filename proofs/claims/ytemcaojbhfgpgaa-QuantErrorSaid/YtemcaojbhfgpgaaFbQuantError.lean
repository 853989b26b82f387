import Derived.Test.YtemcaojbhfgpgaaSpec13e
import Derived.Test.YtemcaojbhfgpgaaRows
import Derived.Test.YtemcaojbhfgpgaaFaQuantError
namespace Go.Proofs.Ytemcaojbhfgpgaa
open Go.Ev Go.Sp
set_option maxRecDepth 100000
theorem vc_QuantError : vcFn Try.prog [(3, Ext.ctr (ctOf sigTrue0)), (29, Ext.ctr (ctOf (sigPickN 4398046511104))), (10, Ext.ctr (ctOf sigLevel)), (12, Ext.ctr (ctOf sigCoarse)), (23, Ext.ctr (ctOf sigQuan)), (11, Ext.ctr (ctOf sigRest))] tab [] 100 7 sigQE = (allB fun n0 : Int => 
impB ((-9223372036854775808 : Int) ≤ n0) (
impB (n0 ≤ (9223372036854775807 : Int)) (
allB fun n1 : Int => 
impB ((-9223372036854775808 : Int) ≤ n1) (
impB (n1 ≤ (9223372036854775807 : Int)) (
allB fun n2 : Int => 
impB ((-9223372036854775808 : Int) ≤ n2) (
impB (n2 ≤ (9223372036854775807 : Int)) (
allB fun n3 : Int => 
impB ((-9223372036854775808 : Int) ≤ n3) (
impB (n3 ≤ (9223372036854775807 : Int)) (
impB (sigQE.pre [DV.n n0, DV.n n1, DV.n n2, DV.n n3]) (
reqB (sigTrue0.pre []) (
allB fun b4 : Bool => 
impB (sigTrue0.post [] [DV.b b4]) (
reqB ((-9223372036854775808 : Int) ≤ n0) (
reqB (n0 ≤ (9223372036854775807 : Int)) (
reqB ((sigPickN (4398046511104 : Int)).pre [DV.n n0, DV.n (7 : Int)]) (
allB fun n5 : Int => 
impB ((0 : Int) ≤ n5) (
impB (n5 ≤ (4398046511104 : Int)) (
impB ((sigPickN (4398046511104 : Int)).post [DV.n n0, DV.n (7 : Int)] [DV.n n5]) (
reqB ((-9223372036854775808 : Int) ≤ n1) (
reqB (n1 ≤ (9223372036854775807 : Int)) (
reqB ((sigPickN (4398046511104 : Int)).pre [DV.n n1, DV.n (31 : Int)]) (
allB fun n6 : Int => 
impB ((0 : Int) ≤ n6) (
impB (n6 ≤ (4398046511104 : Int)) (
impB ((sigPickN (4398046511104 : Int)).post [DV.n n1, DV.n (31 : Int)] [DV.n n6]) (
reqB ((-9223372036854775808 : Int) ≤ n2) (
reqB (n2 ≤ (9223372036854775807 : Int)) (
reqB ((sigPickN (4398046511104 : Int)).pre [DV.n n2, DV.n (2199023255552 : Int)]) (
allB fun n7 : Int => 
impB ((0 : Int) ≤ n7) (
impB (n7 ≤ (4398046511104 : Int)) (
impB ((sigPickN (4398046511104 : Int)).post [DV.n n2, DV.n (2199023255552 : Int)] [DV.n n7]) (
reqB ((-9223372036854775808 : Int) ≤ n3) (
reqB (n3 ≤ (9223372036854775807 : Int)) (
reqB ((sigPickN (4398046511104 : Int)).pre [DV.n n3, DV.n (2199023255552 : Int)]) (
allB fun n8 : Int => 
impB ((0 : Int) ≤ n8) (
impB (n8 ≤ (4398046511104 : Int)) (
impB ((sigPickN (4398046511104 : Int)).post [DV.n n3, DV.n (2199023255552 : Int)] [DV.n n8]) (
reqB ((2 : Int) ≤ (2 : Int) + n5) (
reqB ((2 : Int) + n5 ≤ (8 : Int)) (
reqB ((0 : Int) ≤ n6) (
reqB (n6 ≤ (30 : Int)) (
reqB ((-70368744177664 : Int) ≤ n7 - (1099511627776 : Int)) (
reqB (n7 - (1099511627776 : Int) ≤ (70368744177664 : Int)) (
reqB (sigLevel.pre [DV.n ((2 : Int) + n5), DV.n n6, DV.n (n7 - (1099511627776 : Int))]) (
allB fun n9 : Int => 
impB ((-127 : Int) ≤ n9) (
impB (n9 ≤ (127 : Int)) (
allB fun b10 : Bool => 
allB fun n11 : Int => 
impB ((0 : Int) ≤ n11) (
impB (n11 ≤ (18 : Int)) (
impB (sigLevel.post [DV.n ((2 : Int) + n5), DV.n n6, DV.n (n7 - (1099511627776 : Int))]
  [DV.n n9, DV.b b10, DV.n n11]) (
reqB ((2 : Int) ≤ (2 : Int) + n5) (
reqB ((2 : Int) + n5 ≤ (8 : Int)) (
reqB ((0 : Int) ≤ n6) (
reqB (n6 ≤ (30 : Int)) (
reqB ((-70368744177664 : Int) ≤ (0 : Int) - (n7 - (1099511627776 : Int))) (
reqB ((0 : Int) - (n7 - (1099511627776 : Int)) ≤ (70368744177664 : Int)) (
reqB (sigLevel.pre [DV.n ((2 : Int) + n5), DV.n n6, DV.n ((0 : Int) - (n7 - (1099511627776 : Int)))]) (
allB fun n12 : Int => 
impB ((-127 : Int) ≤ n12) (
impB (n12 ≤ (127 : Int)) (
allB fun b13 : Bool => 
allB fun n14 : Int => 
impB ((0 : Int) ≤ n14) (
impB (n14 ≤ (18 : Int)) (
impB (sigLevel.post [DV.n ((2 : Int) + n5), DV.n n6, DV.n ((0 : Int) - (n7 - (1099511627776 : Int)))]
  [DV.n n12, DV.b b13, DV.n n14]) (
reqB ((2 : Int) ≤ (2 : Int) + n5) (
reqB ((2 : Int) + n5 ≤ (8 : Int)) (
reqB ((0 : Int) ≤ n6) (
reqB (n6 ≤ (30 : Int)) (
reqB ((-70368744177664 : Int) ≤ n8 - (1099511627776 : Int)) (
reqB (n8 - (1099511627776 : Int) ≤ (70368744177664 : Int)) (
reqB (sigLevel.pre [DV.n ((2 : Int) + n5), DV.n n6, DV.n (n8 - (1099511627776 : Int))]) (
allB fun n15 : Int => 
impB ((-127 : Int) ≤ n15) (
impB (n15 ≤ (127 : Int)) (
allB fun b16 : Bool => 
allB fun n17 : Int => 
impB ((0 : Int) ≤ n17) (
impB (n17 ≤ (18 : Int)) (
impB (sigLevel.post [DV.n ((2 : Int) + n5), DV.n n6, DV.n (n8 - (1099511627776 : Int))]
  [DV.n n15, DV.b b16, DV.n n17]) (
reqB ((2 : Int) ≤ (2 : Int) + n5) (
reqB ((2 : Int) + n5 ≤ (8 : Int)) (
reqB ((0 : Int) ≤ n6) (
reqB (n6 ≤ (30 : Int)) (
reqB (sigCoarse.pre [DV.n ((2 : Int) + n5), DV.n n6]) (
allB fun n18 : Int => 
impB ((0 : Int) ≤ n18) (
impB (n18 ≤ (536870912 : Int)) (
allB fun n19 : Int => 
impB ((0 : Int) ≤ n19) (
impB (n19 ≤ (18 : Int)) (
impB (sigCoarse.post [DV.n ((2 : Int) + n5), DV.n n6] [DV.n n18, DV.n n19]) (
bR (dec (n11 ≠ (0 : Int))) (
 reqB (sigQE.post [DV.n n0, DV.n n1, DV.n n2, DV.n n3] [DV.b Bool.false]) (
 true)) (
 bR (dec (n14 ≠ (0 : Int))) (
  reqB (sigQE.post [DV.n n0, DV.n n1, DV.n n2, DV.n n3] [DV.b Bool.false]) (
  true)) (
  bR (dec (n17 ≠ (0 : Int))) (
   reqB (sigQE.post [DV.n n0, DV.n n1, DV.n n2, DV.n n3] [DV.b Bool.false]) (
   true)) (
   bR (dec (n19 ≠ (0 : Int))) (
    reqB (sigQE.post [DV.n n0, DV.n n1, DV.n n2, DV.n n3] [DV.b Bool.false]) (
    true)) (
    bR (dec (n9 ≠ (0 : Int) - n12)) (
     reqB (sigQE.post [DV.n n0, DV.n n1, DV.n n2, DV.n n3] [DV.b Bool.false]) (
     true)) (
     bR (dec (n7 - (1099511627776 : Int) ≤ n8 - (1099511627776 : Int))) (
      bR (dec (n15 < n9)) (
       reqB (sigQE.post [DV.n n0, DV.n n1, DV.n n2, DV.n n3] [DV.b Bool.false]) (
       true)) (
       bR (dec (n8 - (1099511627776 : Int) ≤ n7 - (1099511627776 : Int))) (
        bR (dec (n9 < n15)) (
         reqB (sigQE.post [DV.n n0, DV.n n1, DV.n n2, DV.n n3] [DV.b Bool.false]) (
         true)) (
         reqB ((1 : Nat) ≤ (300 : Nat)) (
         reqB ([n7 - (1099511627776 : Int)].length = (1 : Nat)) (
         reqB (∀ (y : Int), y ∈ [n7 - (1099511627776 : Int)] → (-9223372036854775808 : Int) ≤ y ∧ y ≤ (9223372036854775807 : Int)) (
         reqB ([n8 - (1099511627776 : Int)].length = (1 : Nat)) (
         reqB (∀ (y : Int), y ∈ [n8 - (1099511627776 : Int)] → (-9223372036854775808 : Int) ≤ y ∧ y ≤ (9223372036854775807 : Int)) (
         reqB ((-9223372036854775808 : Int) ≤ (2 : Int) + n5) (
         reqB ((2 : Int) + n5 ≤ (9223372036854775807 : Int)) (
         reqB ((-9223372036854775808 : Int) ≤ n6) (
         reqB (n6 ≤ (9223372036854775807 : Int)) (
         reqB (sigQuan.pre
  [DV.l [n7 - (1099511627776 : Int)], DV.l [n8 - (1099511627776 : Int)], DV.n ((2 : Int) + n5),
    DV.n n6]) (
         allB fun l20 : List Int => 
         impB (l20.length ≤ (300 : Nat)) (
         impB (∀ (y : Int), y ∈ l20 → (-9223372036854775808 : Int) ≤ y ∧ y ≤ (9223372036854775807 : Int)) (
         allB fun l21 : List Int => 
         impB (l21.length = l20.length) (
         impB (∀ (y : Int), y ∈ l21 → (-9223372036854775808 : Int) ≤ y ∧ y ≤ (9223372036854775807 : Int)) (
         allB fun n22 : Int => 
         impB ((0 : Int) ≤ n22) (
         impB (n22 ≤ (300 : Int)) (
         allB fun n23 : Int => 
         impB ((0 : Int) ≤ n23) (
         impB (n23 ≤ (18 : Int)) (
         impB (sigQuan.post
  [DV.l [n7 - (1099511627776 : Int)], DV.l [n8 - (1099511627776 : Int)], DV.n ((2 : Int) + n5),
    DV.n n6]
  [DV.l l20, DV.l l21, DV.n n22, DV.n n23]) (
         reqB (((0 : Nat) + l20.length) * (2 : Nat) ≤ l20.length.mul (2 : Nat)) (
         reqB (l20.length ≤ (300 : Nat)) (
         reqB ((List.take l20.length (List.drop (0 : Nat) l20)).length = l20.length) (
         reqB (∀ (y : Int),
  y ∈ List.take l20.length (List.drop (0 : Nat) l20) →
    (-9223372036854775808 : Int) ≤ y ∧ y ≤ (9223372036854775807 : Int)) (
         reqB ((List.take l20.length (List.drop (0 : Nat) l21)).length = l20.length) (
         reqB (∀ (y : Int),
  y ∈ List.take l20.length (List.drop (0 : Nat) l21) →
    (-9223372036854775808 : Int) ≤ y ∧ y ≤ (9223372036854775807 : Int)) (
         reqB ((-9223372036854775808 : Int) ≤ (2 : Int) + n5) (
         reqB ((2 : Int) + n5 ≤ (9223372036854775807 : Int)) (
         reqB ((-9223372036854775808 : Int) ≤ n6) (
         reqB (n6 ≤ (9223372036854775807 : Int)) (
         reqB (sigRest.pre
  [DV.l (List.take l20.length (List.drop (0 : Nat) l20)),
    DV.l (List.take l20.length (List.drop (0 : Nat) l21)), DV.n ((2 : Int) + n5), DV.n n6]) (
         allB fun l24 : List Int => 
         impB (l24.length ≤ (300 : Nat)) (
         impB (∀ (y : Int), y ∈ l24 → (-9223372036854775808 : Int) ≤ y ∧ y ≤ (9223372036854775807 : Int)) (
         allB fun l25 : List Int => 
         impB (l25.length = l24.length) (
         impB (∀ (y : Int), y ∈ l25 → (-9223372036854775808 : Int) ≤ y ∧ y ≤ (9223372036854775807 : Int)) (
         allB fun n26 : Int => 
         impB ((0 : Int) ≤ n26) (
         impB (n26 ≤ (18 : Int)) (
         impB (sigRest.post
  [DV.l (List.take l20.length (List.drop (0 : Nat) l20)),
    DV.l (List.take l20.length (List.drop (0 : Nat) l21)), DV.n ((2 : Int) + n5), DV.n n6]
  [DV.l l24, DV.l l25, DV.n n26]) (
         bR (dec (n23 ≠ (0 : Int))) (
          reqB (sigQE.post [DV.n n0, DV.n n1, DV.n n2, DV.n n3] [DV.b Bool.false]) (
          true)) (
          bR (dec (n26 ≠ (0 : Int))) (
           reqB (sigQE.post [DV.n n0, DV.n n1, DV.n n2, DV.n n3] [DV.b Bool.false]) (
           true)) (
           bR (dec ((↑l24.length : Int) ≠ (1 : Int))) (
            reqB (sigQE.post [DV.n n0, DV.n n1, DV.n n2, DV.n n3] [DV.b Bool.false]) (
            true)) (
            bR (b10) (
             bR (bR (bR (dec (n22 = (1 : Int))) (
              true) (
              false)) (
              false) (
              true)) (
              reqB (sigQE.post [DV.n n0, DV.n n1, DV.n n2, DV.n n3] [DV.b Bool.false]) (
              true)) (
              reqB ((0 : Nat) < l24.length) (
              reqB ((0 : Nat) < l24.length) (
              allB fun n27 : Int => 
              impB (n27 = Go.IntKind.i64.wrap (l24.getD (0 : Nat) (0 : Int) - (n7 - (1099511627776 : Int)))) (
              impB (Int.negSucc (9223372036854775807 : Nat) ≤ n27) (
              impB (n27 ≤ Int.ofNat (9223372036854775807 : Nat)) (
              bR (b4) (
               reqB ((0 : Nat) < l24.length) (
               reqB ((0 : Nat) < l24.length) (
               allB fun n28 : Int => 
               impB (n28 = Go.IntKind.i64.wrap (n9 * opI (SO.shl Go.IntKind.i64) (1 : Int) n6)) (
               impB (Int.negSucc (9223372036854775807 : Nat) ≤ n28) (
               impB (n28 ≤ Int.ofNat (9223372036854775807 : Nat)) (
               bR (dec (l24.getD (0 : Nat) (0 : Int) = n28)) (
                reqB ((0 : Nat) < l24.length) (
                reqB ((0 : Nat) < l25.length) (
                allB fun n29 : Int => 
                impB (n29 = Go.IntKind.i64.wrap (n15 * opI (SO.shl Go.IntKind.i64) (1 : Int) n6)) (
                impB (Int.negSucc (9223372036854775807 : Nat) ≤ n29) (
                impB (n29 ≤ Int.ofNat (9223372036854775807 : Nat)) (
                bR (dec (l25.getD (0 : Nat) (0 : Int) = n29)) (
                 bR (b10) (
                  reqB (sigQE.post [DV.n n0, DV.n n1, DV.n n2, DV.n n3] [DV.b Bool.true]) (
                  true)) (
                  allB fun n30 : Int => 
                  impB (n30 = Go.IntKind.i64.wrap ((0 : Int) - n27)) (
                  impB (Int.negSucc (9223372036854775807 : Nat) ≤ n30) (
                  impB (n30 ≤ Int.ofNat (9223372036854775807 : Nat)) (
                  reqB (sigQE.post [DV.n n0, DV.n n1, DV.n n2, DV.n n3]
  [DV.b (dec (Max.max n27 n30 ≤ n18))]) (
                  true)))))) (
                 reqB (sigQE.post [DV.n n0, DV.n n1, DV.n n2, DV.n n3] [DV.b Bool.false]) (
                 true)))))))) (
                reqB (sigQE.post [DV.n n0, DV.n n1, DV.n n2, DV.n n3] [DV.b Bool.false]) (
                true)))))))) (
               reqB (sigQE.post [DV.n n0, DV.n n1, DV.n n2, DV.n n3] [DV.b Bool.false]) (
               true))))))))) (
             bR (bR (bR (dec (n22 = (1 : Int))) (
              b16) (
              bR (b16) (
               false) (
               true))) (
              false) (
              true)) (
              reqB (sigQE.post [DV.n n0, DV.n n1, DV.n n2, DV.n n3] [DV.b Bool.false]) (
              true)) (
              reqB ((0 : Nat) < l24.length) (
              reqB ((0 : Nat) < l24.length) (
              allB fun n31 : Int => 
              impB (n31 = Go.IntKind.i64.wrap (l24.getD (0 : Nat) (0 : Int) - (n7 - (1099511627776 : Int)))) (
              impB (Int.negSucc (9223372036854775807 : Nat) ≤ n31) (
              impB (n31 ≤ Int.ofNat (9223372036854775807 : Nat)) (
              bR (b4) (
               reqB ((0 : Nat) < l24.length) (
               reqB ((0 : Nat) < l24.length) (
               allB fun n32 : Int => 
               impB (n32 = Go.IntKind.i64.wrap (n9 * opI (SO.shl Go.IntKind.i64) (1 : Int) n6)) (
               impB (Int.negSucc (9223372036854775807 : Nat) ≤ n32) (
               impB (n32 ≤ Int.ofNat (9223372036854775807 : Nat)) (
               bR (dec (l24.getD (0 : Nat) (0 : Int) = n32)) (
                reqB ((0 : Nat) < l24.length) (
                reqB ((0 : Nat) < l25.length) (
                allB fun n33 : Int => 
                impB (n33 = Go.IntKind.i64.wrap (n15 * opI (SO.shl Go.IntKind.i64) (1 : Int) n6)) (
                impB (Int.negSucc (9223372036854775807 : Nat) ≤ n33) (
                impB (n33 ≤ Int.ofNat (9223372036854775807 : Nat)) (
                bR (dec (l25.getD (0 : Nat) (0 : Int) = n33)) (
                 bR (b10) (
                  reqB (sigQE.post [DV.n n0, DV.n n1, DV.n n2, DV.n n3] [DV.b Bool.true]) (
                  true)) (
                  allB fun n34 : Int => 
                  impB (n34 = Go.IntKind.i64.wrap ((0 : Int) - n31)) (
                  impB (Int.negSucc (9223372036854775807 : Nat) ≤ n34) (
                  impB (n34 ≤ Int.ofNat (9223372036854775807 : Nat)) (
                  reqB (sigQE.post [DV.n n0, DV.n n1, DV.n n2, DV.n n3]
  [DV.b (dec (Max.max n31 n34 ≤ n18))]) (
                  true)))))) (
                 reqB (sigQE.post [DV.n n0, DV.n n1, DV.n n2, DV.n n3] [DV.b Bool.false]) (
                 true)))))))) (
                reqB (sigQE.post [DV.n n0, DV.n n1, DV.n n2, DV.n n3] [DV.b Bool.false]) (
                true)))))))) (
               reqB (sigQE.post [DV.n n0, DV.n n1, DV.n n2, DV.n n3] [DV.b Bool.false]) (
               true))))))))))))))))))))))))))))))))))))))))))))))))))) (
        reqB ((1 : Nat) ≤ (300 : Nat)) (
        reqB ([n7 - (1099511627776 : Int)].length = (1 : Nat)) (
        reqB (∀ (y : Int), y ∈ [n7 - (1099511627776 : Int)] → (-9223372036854775808 : Int) ≤ y ∧ y ≤ (9223372036854775807 : Int)) (
        reqB ([n8 - (1099511627776 : Int)].length = (1 : Nat)) (
        reqB (∀ (y : Int), y ∈ [n8 - (1099511627776 : Int)] → (-9223372036854775808 : Int) ≤ y ∧ y ≤ (9223372036854775807 : Int)) (
        reqB ((-9223372036854775808 : Int) ≤ (2 : Int) + n5) (
        reqB ((2 : Int) + n5 ≤ (9223372036854775807 : Int)) (
        reqB ((-9223372036854775808 : Int) ≤ n6) (
        reqB (n6 ≤ (9223372036854775807 : Int)) (
        reqB (sigQuan.pre
  [DV.l [n7 - (1099511627776 : Int)], DV.l [n8 - (1099511627776 : Int)], DV.n ((2 : Int) + n5),
    DV.n n6]) (
        allB fun l35 : List Int => 
        impB (l35.length ≤ (300 : Nat)) (
        impB (∀ (y : Int), y ∈ l35 → (-9223372036854775808 : Int) ≤ y ∧ y ≤ (9223372036854775807 : Int)) (
        allB fun l36 : List Int => 
        impB (l36.length = l35.length) (
        impB (∀ (y : Int), y ∈ l36 → (-9223372036854775808 : Int) ≤ y ∧ y ≤ (9223372036854775807 : Int)) (
        allB fun n37 : Int => 
        impB ((0 : Int) ≤ n37) (
        impB (n37 ≤ (300 : Int)) (
        allB fun n38 : Int => 
        impB ((0 : Int) ≤ n38) (
        impB (n38 ≤ (18 : Int)) (
        impB (sigQuan.post
  [DV.l [n7 - (1099511627776 : Int)], DV.l [n8 - (1099511627776 : Int)], DV.n ((2 : Int) + n5),
    DV.n n6]
  [DV.l l35, DV.l l36, DV.n n37, DV.n n38]) (
        reqB (((0 : Nat) + l35.length) * (2 : Nat) ≤ l35.length.mul (2 : Nat)) (
        reqB (l35.length ≤ (300 : Nat)) (
        reqB ((List.take l35.length (List.drop (0 : Nat) l35)).length = l35.length) (
        reqB (∀ (y : Int),
  y ∈ List.take l35.length (List.drop (0 : Nat) l35) →
    (-9223372036854775808 : Int) ≤ y ∧ y ≤ (9223372036854775807 : Int)) (
        reqB ((List.take l35.length (List.drop (0 : Nat) l36)).length = l35.length) (
        reqB (∀ (y : Int),
  y ∈ List.take l35.length (List.drop (0 : Nat) l36) →
    (-9223372036854775808 : Int) ≤ y ∧ y ≤ (9223372036854775807 : Int)) (
        reqB ((-9223372036854775808 : Int) ≤ (2 : Int) + n5) (
        reqB ((2 : Int) + n5 ≤ (9223372036854775807 : Int)) (
        reqB ((-9223372036854775808 : Int) ≤ n6) (
        reqB (n6 ≤ (9223372036854775807 : Int)) (
        reqB (sigRest.pre
  [DV.l (List.take l35.length (List.drop (0 : Nat) l35)),
    DV.l (List.take l35.length (List.drop (0 : Nat) l36)), DV.n ((2 : Int) + n5), DV.n n6]) (
        allB fun l39 : List Int => 
        impB (l39.length ≤ (300 : Nat)) (
        impB (∀ (y : Int), y ∈ l39 → (-9223372036854775808 : Int) ≤ y ∧ y ≤ (9223372036854775807 : Int)) (
        allB fun l40 : List Int => 
        impB (l40.length = l39.length) (
        impB (∀ (y : Int), y ∈ l40 → (-9223372036854775808 : Int) ≤ y ∧ y ≤ (9223372036854775807 : Int)) (
        allB fun n41 : Int => 
        impB ((0 : Int) ≤ n41) (
        impB (n41 ≤ (18 : Int)) (
        impB (sigRest.post
  [DV.l (List.take l35.length (List.drop (0 : Nat) l35)),
    DV.l (List.take l35.length (List.drop (0 : Nat) l36)), DV.n ((2 : Int) + n5), DV.n n6]
  [DV.l l39, DV.l l40, DV.n n41]) (
        bR (dec (n38 ≠ (0 : Int))) (
         reqB (sigQE.post [DV.n n0, DV.n n1, DV.n n2, DV.n n3] [DV.b Bool.false]) (
         true)) (
         bR (dec (n41 ≠ (0 : Int))) (
          reqB (sigQE.post [DV.n n0, DV.n n1, DV.n n2, DV.n n3] [DV.b Bool.false]) (
          true)) (
          bR (dec ((↑l39.length : Int) ≠ (1 : Int))) (
           reqB (sigQE.post [DV.n n0, DV.n n1, DV.n n2, DV.n n3] [DV.b Bool.false]) (
           true)) (
           bR (b10) (
            bR (bR (bR (dec (n37 = (1 : Int))) (
             true) (
             false)) (
             false) (
             true)) (
             reqB (sigQE.post [DV.n n0, DV.n n1, DV.n n2, DV.n n3] [DV.b Bool.false]) (
             true)) (
             reqB ((0 : Nat) < l39.length) (
             reqB ((0 : Nat) < l39.length) (
             allB fun n42 : Int => 
             impB (n42 = Go.IntKind.i64.wrap (l39.getD (0 : Nat) (0 : Int) - (n7 - (1099511627776 : Int)))) (
             impB (Int.negSucc (9223372036854775807 : Nat) ≤ n42) (
             impB (n42 ≤ Int.ofNat (9223372036854775807 : Nat)) (
             bR (b4) (
              reqB ((0 : Nat) < l39.length) (
              reqB ((0 : Nat) < l39.length) (
              allB fun n43 : Int => 
              impB (n43 = Go.IntKind.i64.wrap (n9 * opI (SO.shl Go.IntKind.i64) (1 : Int) n6)) (
              impB (Int.negSucc (9223372036854775807 : Nat) ≤ n43) (
              impB (n43 ≤ Int.ofNat (9223372036854775807 : Nat)) (
              bR (dec (l39.getD (0 : Nat) (0 : Int) = n43)) (
               reqB ((0 : Nat) < l39.length) (
               reqB ((0 : Nat) < l40.length) (
               allB fun n44 : Int => 
               impB (n44 = Go.IntKind.i64.wrap (n15 * opI (SO.shl Go.IntKind.i64) (1 : Int) n6)) (
               impB (Int.negSucc (9223372036854775807 : Nat) ≤ n44) (
               impB (n44 ≤ Int.ofNat (9223372036854775807 : Nat)) (
               bR (dec (l40.getD (0 : Nat) (0 : Int) = n44)) (
                bR (b10) (
                 reqB (sigQE.post [DV.n n0, DV.n n1, DV.n n2, DV.n n3] [DV.b Bool.true]) (
                 true)) (
                 allB fun n45 : Int => 
                 impB (n45 = Go.IntKind.i64.wrap ((0 : Int) - n42)) (
                 impB (Int.negSucc (9223372036854775807 : Nat) ≤ n45) (
                 impB (n45 ≤ Int.ofNat (9223372036854775807 : Nat)) (
                 reqB (sigQE.post [DV.n n0, DV.n n1, DV.n n2, DV.n n3]
  [DV.b (dec (Max.max n42 n45 ≤ n18))]) (
                 true)))))) (
                reqB (sigQE.post [DV.n n0, DV.n n1, DV.n n2, DV.n n3] [DV.b Bool.false]) (
                true)))))))) (
               reqB (sigQE.post [DV.n n0, DV.n n1, DV.n n2, DV.n n3] [DV.b Bool.false]) (
               true)))))))) (
              reqB (sigQE.post [DV.n n0, DV.n n1, DV.n n2, DV.n n3] [DV.b Bool.false]) (
              true))))))))) (
            bR (bR (bR (dec (n37 = (1 : Int))) (
             b16) (
             bR (b16) (
              false) (
              true))) (
             false) (
             true)) (
             reqB (sigQE.post [DV.n n0, DV.n n1, DV.n n2, DV.n n3] [DV.b Bool.false]) (
             true)) (
             reqB ((0 : Nat) < l39.length) (
             reqB ((0 : Nat) < l39.length) (
             allB fun n46 : Int => 
             impB (n46 = Go.IntKind.i64.wrap (l39.getD (0 : Nat) (0 : Int) - (n7 - (1099511627776 : Int)))) (
             impB (Int.negSucc (9223372036854775807 : Nat) ≤ n46) (
             impB (n46 ≤ Int.ofNat (9223372036854775807 : Nat)) (
             bR (b4) (
              reqB ((0 : Nat) < l39.length) (
              reqB ((0 : Nat) < l39.length) (
              allB fun n47 : Int => 
              impB (n47 = Go.IntKind.i64.wrap (n9 * opI (SO.shl Go.IntKind.i64) (1 : Int) n6)) (
              impB (Int.negSucc (9223372036854775807 : Nat) ≤ n47) (
              impB (n47 ≤ Int.ofNat (9223372036854775807 : Nat)) (
              bR (dec (l39.getD (0 : Nat) (0 : Int) = n47)) (
               reqB ((0 : Nat) < l39.length) (
               reqB ((0 : Nat) < l40.length) (
               allB fun n48 : Int => 
               impB (n48 = Go.IntKind.i64.wrap (n15 * opI (SO.shl Go.IntKind.i64) (1 : Int) n6)) (
               impB (Int.negSucc (9223372036854775807 : Nat) ≤ n48) (
               impB (n48 ≤ Int.ofNat (9223372036854775807 : Nat)) (
               bR (dec (l40.getD (0 : Nat) (0 : Int) = n48)) (
                bR (b10) (
                 reqB (sigQE.post [DV.n n0, DV.n n1, DV.n n2, DV.n n3] [DV.b Bool.true]) (
                 true)) (
                 allB fun n49 : Int => 
                 impB (n49 = Go.IntKind.i64.wrap ((0 : Int) - n46)) (
                 impB (Int.negSucc (9223372036854775807 : Nat) ≤ n49) (
                 impB (n49 ≤ Int.ofNat (9223372036854775807 : Nat)) (
                 reqB (sigQE.post [DV.n n0, DV.n n1, DV.n n2, DV.n n3]
  [DV.b (dec (Max.max n46 n49 ≤ n18))]) (
                 true)))))) (
                reqB (sigQE.post [DV.n n0, DV.n n1, DV.n n2, DV.n n3] [DV.b Bool.false]) (
                true)))))))) (
               reqB (sigQE.post [DV.n n0, DV.n n1, DV.n n2, DV.n n3] [DV.b Bool.false]) (
               true)))))))) (
              reqB (sigQE.post [DV.n n0, DV.n n1, DV.n n2, DV.n n3] [DV.b Bool.false]) (
              true)))))))))))))))))))))))))))))))))))))))))))))))))))) (
      bR (dec (n8 - (1099511627776 : Int) ≤ n7 - (1099511627776 : Int))) (
       bR (dec (n9 < n15)) (
        reqB (sigQE.post [DV.n n0, DV.n n1, DV.n n2, DV.n n3] [DV.b Bool.false]) (
        true)) (
        reqB ((1 : Nat) ≤ (300 : Nat)) (
        reqB ([n7 - (1099511627776 : Int)].length = (1 : Nat)) (
        reqB (∀ (y : Int), y ∈ [n7 - (1099511627776 : Int)] → (-9223372036854775808 : Int) ≤ y ∧ y ≤ (9223372036854775807 : Int)) (
        reqB ([n8 - (1099511627776 : Int)].length = (1 : Nat)) (
        reqB (∀ (y : Int), y ∈ [n8 - (1099511627776 : Int)] → (-9223372036854775808 : Int) ≤ y ∧ y ≤ (9223372036854775807 : Int)) (
        reqB ((-9223372036854775808 : Int) ≤ (2 : Int) + n5) (
        reqB ((2 : Int) + n5 ≤ (9223372036854775807 : Int)) (
        reqB ((-9223372036854775808 : Int) ≤ n6) (
        reqB (n6 ≤ (9223372036854775807 : Int)) (
        reqB (sigQuan.pre
  [DV.l [n7 - (1099511627776 : Int)], DV.l [n8 - (1099511627776 : Int)], DV.n ((2 : Int) + n5),
    DV.n n6]) (
        allB fun l50 : List Int => 
        impB (l50.length ≤ (300 : Nat)) (
        impB (∀ (y : Int), y ∈ l50 → (-9223372036854775808 : Int) ≤ y ∧ y ≤ (9223372036854775807 : Int)) (
        allB fun l51 : List Int => 
        impB (l51.length = l50.length) (
        impB (∀ (y : Int), y ∈ l51 → (-9223372036854775808 : Int) ≤ y ∧ y ≤ (9223372036854775807 : Int)) (
        allB fun n52 : Int => 
        impB ((0 : Int) ≤ n52) (
        impB (n52 ≤ (300 : Int)) (
        allB fun n53 : Int => 
        impB ((0 : Int) ≤ n53) (
        impB (n53 ≤ (18 : Int)) (
        impB (sigQuan.post
  [DV.l [n7 - (1099511627776 : Int)], DV.l [n8 - (1099511627776 : Int)], DV.n ((2 : Int) + n5),
    DV.n n6]
  [DV.l l50, DV.l l51, DV.n n52, DV.n n53]) (
        reqB (((0 : Nat) + l50.length) * (2 : Nat) ≤ l50.length.mul (2 : Nat)) (
        reqB (l50.length ≤ (300 : Nat)) (
        reqB ((List.take l50.length (List.drop (0 : Nat) l50)).length = l50.length) (
        reqB (∀ (y : Int),
  y ∈ List.take l50.length (List.drop (0 : Nat) l50) →
    (-9223372036854775808 : Int) ≤ y ∧ y ≤ (9223372036854775807 : Int)) (
        reqB ((List.take l50.length (List.drop (0 : Nat) l51)).length = l50.length) (
        reqB (∀ (y : Int),
  y ∈ List.take l50.length (List.drop (0 : Nat) l51) →
    (-9223372036854775808 : Int) ≤ y ∧ y ≤ (9223372036854775807 : Int)) (
        reqB ((-9223372036854775808 : Int) ≤ (2 : Int) + n5) (
        reqB ((2 : Int) + n5 ≤ (9223372036854775807 : Int)) (
        reqB ((-9223372036854775808 : Int) ≤ n6) (
        reqB (n6 ≤ (9223372036854775807 : Int)) (
        reqB (sigRest.pre
  [DV.l (List.take l50.length (List.drop (0 : Nat) l50)),
    DV.l (List.take l50.length (List.drop (0 : Nat) l51)), DV.n ((2 : Int) + n5), DV.n n6]) (
        allB fun l54 : List Int => 
        impB (l54.length ≤ (300 : Nat)) (
        impB (∀ (y : Int), y ∈ l54 → (-9223372036854775808 : Int) ≤ y ∧ y ≤ (9223372036854775807 : Int)) (
        allB fun l55 : List Int => 
        impB (l55.length = l54.length) (
        impB (∀ (y : Int), y ∈ l55 → (-9223372036854775808 : Int) ≤ y ∧ y ≤ (9223372036854775807 : Int)) (
        allB fun n56 : Int => 
        impB ((0 : Int) ≤ n56) (
        impB (n56 ≤ (18 : Int)) (
        impB (sigRest.post
  [DV.l (List.take l50.length (List.drop (0 : Nat) l50)),
    DV.l (List.take l50.length (List.drop (0 : Nat) l51)), DV.n ((2 : Int) + n5), DV.n n6]
  [DV.l l54, DV.l l55, DV.n n56]) (
        bR (dec (n53 ≠ (0 : Int))) (
         reqB (sigQE.post [DV.n n0, DV.n n1, DV.n n2, DV.n n3] [DV.b Bool.false]) (
         true)) (
         bR (dec (n56 ≠ (0 : Int))) (
          reqB (sigQE.post [DV.n n0, DV.n n1, DV.n n2, DV.n n3] [DV.b Bool.false]) (
          true)) (
          bR (dec ((↑l54.length : Int) ≠ (1 : Int))) (
           reqB (sigQE.post [DV.n n0, DV.n n1, DV.n n2, DV.n n3] [DV.b Bool.false]) (
           true)) (
           bR (b10) (
            bR (bR (bR (dec (n52 = (1 : Int))) (
             true) (
             false)) (
             false) (
             true)) (
             reqB (sigQE.post [DV.n n0, DV.n n1, DV.n n2, DV.n n3] [DV.b Bool.false]) (
             true)) (
             reqB ((0 : Nat) < l54.length) (
             reqB ((0 : Nat) < l54.length) (
             allB fun n57 : Int => 
             impB (n57 = Go.IntKind.i64.wrap (l54.getD (0 : Nat) (0 : Int) - (n7 - (1099511627776 : Int)))) (
             impB (Int.negSucc (9223372036854775807 : Nat) ≤ n57) (
             impB (n57 ≤ Int.ofNat (9223372036854775807 : Nat)) (
             bR (b4) (
              reqB ((0 : Nat) < l54.length) (
              reqB ((0 : Nat) < l54.length) (
              allB fun n58 : Int => 
              impB (n58 = Go.IntKind.i64.wrap (n9 * opI (SO.shl Go.IntKind.i64) (1 : Int) n6)) (
              impB (Int.negSucc (9223372036854775807 : Nat) ≤ n58) (
              impB (n58 ≤ Int.ofNat (9223372036854775807 : Nat)) (
              bR (dec (l54.getD (0 : Nat) (0 : Int) = n58)) (
               reqB ((0 : Nat) < l54.length) (
               reqB ((0 : Nat) < l55.length) (
               allB fun n59 : Int => 
               impB (n59 = Go.IntKind.i64.wrap (n15 * opI (SO.shl Go.IntKind.i64) (1 : Int) n6)) (
               impB (Int.negSucc (9223372036854775807 : Nat) ≤ n59) (
               impB (n59 ≤ Int.ofNat (9223372036854775807 : Nat)) (
               bR (dec (l55.getD (0 : Nat) (0 : Int) = n59)) (
                bR (b10) (
                 reqB (sigQE.post [DV.n n0, DV.n n1, DV.n n2, DV.n n3] [DV.b Bool.true]) (
                 true)) (
                 allB fun n60 : Int => 
                 impB (n60 = Go.IntKind.i64.wrap ((0 : Int) - n57)) (
                 impB (Int.negSucc (9223372036854775807 : Nat) ≤ n60) (
                 impB (n60 ≤ Int.ofNat (9223372036854775807 : Nat)) (
                 reqB (sigQE.post [DV.n n0, DV.n n1, DV.n n2, DV.n n3]
  [DV.b (dec (Max.max n57 n60 ≤ n18))]) (
                 true)))))) (
                reqB (sigQE.post [DV.n n0, DV.n n1, DV.n n2, DV.n n3] [DV.b Bool.false]) (
                true)))))))) (
               reqB (sigQE.post [DV.n n0, DV.n n1, DV.n n2, DV.n n3] [DV.b Bool.false]) (
               true)))))))) (
              reqB (sigQE.post [DV.n n0, DV.n n1, DV.n n2, DV.n n3] [DV.b Bool.false]) (
              true))))))))) (
            bR (bR (bR (dec (n52 = (1 : Int))) (
             b16) (
             bR (b16) (
              false) (
              true))) (
             false) (
             true)) (
             reqB (sigQE.post [DV.n n0, DV.n n1, DV.n n2, DV.n n3] [DV.b Bool.false]) (
             true)) (
             reqB ((0 : Nat) < l54.length) (
             reqB ((0 : Nat) < l54.length) (
             allB fun n61 : Int => 
             impB (n61 = Go.IntKind.i64.wrap (l54.getD (0 : Nat) (0 : Int) - (n7 - (1099511627776 : Int)))) (
             impB (Int.negSucc (9223372036854775807 : Nat) ≤ n61) (
             impB (n61 ≤ Int.ofNat (9223372036854775807 : Nat)) (
             bR (b4) (
              reqB ((0 : Nat) < l54.length) (
              reqB ((0 : Nat) < l54.length) (
              allB fun n62 : Int => 
              impB (n62 = Go.IntKind.i64.wrap (n9 * opI (SO.shl Go.IntKind.i64) (1 : Int) n6)) (
              impB (Int.negSucc (9223372036854775807 : Nat) ≤ n62) (
              impB (n62 ≤ Int.ofNat (9223372036854775807 : Nat)) (
              bR (dec (l54.getD (0 : Nat) (0 : Int) = n62)) (
               reqB ((0 : Nat) < l54.length) (
               reqB ((0 : Nat) < l55.length) (
               allB fun n63 : Int => 
               impB (n63 = Go.IntKind.i64.wrap (n15 * opI (SO.shl Go.IntKind.i64) (1 : Int) n6)) (
               impB (Int.negSucc (9223372036854775807 : Nat) ≤ n63) (
               impB (n63 ≤ Int.ofNat (9223372036854775807 : Nat)) (
               bR (dec (l55.getD (0 : Nat) (0 : Int) = n63)) (
                bR (b10) (
                 reqB (sigQE.post [DV.n n0, DV.n n1, DV.n n2, DV.n n3] [DV.b Bool.true]) (
                 true)) (
                 allB fun n64 : Int => 
                 impB (n64 = Go.IntKind.i64.wrap ((0 : Int) - n61)) (
                 impB (Int.negSucc (9223372036854775807 : Nat) ≤ n64) (
                 impB (n64 ≤ Int.ofNat (9223372036854775807 : Nat)) (
                 reqB (sigQE.post [DV.n n0, DV.n n1, DV.n n2, DV.n n3]
  [DV.b (dec (Max.max n61 n64 ≤ n18))]) (
                 true)))))) (
                reqB (sigQE.post [DV.n n0, DV.n n1, DV.n n2, DV.n n3] [DV.b Bool.false]) (
                true)))))))) (
               reqB (sigQE.post [DV.n n0, DV.n n1, DV.n n2, DV.n n3] [DV.b Bool.false]) (
               true)))))))) (
              reqB (sigQE.post [DV.n n0, DV.n n1, DV.n n2, DV.n n3] [DV.b Bool.false]) (
              true))))))))))))))))))))))))))))))))))))))))))))))))))) (
       reqB ((1 : Nat) ≤ (300 : Nat)) (
       reqB ([n7 - (1099511627776 : Int)].length = (1 : Nat)) (
       reqB (∀ (y : Int), y ∈ [n7 - (1099511627776 : Int)] → (-9223372036854775808 : Int) ≤ y ∧ y ≤ (9223372036854775807 : Int)) (
       reqB ([n8 - (1099511627776 : Int)].length = (1 : Nat)) (
       reqB (∀ (y : Int), y ∈ [n8 - (1099511627776 : Int)] → (-9223372036854775808 : Int) ≤ y ∧ y ≤ (9223372036854775807 : Int)) (
       reqB ((-9223372036854775808 : Int) ≤ (2 : Int) + n5) (
       reqB ((2 : Int) + n5 ≤ (9223372036854775807 : Int)) (
       reqB ((-9223372036854775808 : Int) ≤ n6) (
       reqB (n6 ≤ (9223372036854775807 : Int)) (
       reqB (sigQuan.pre
  [DV.l [n7 - (1099511627776 : Int)], DV.l [n8 - (1099511627776 : Int)], DV.n ((2 : Int) + n5),
    DV.n n6]) (
       allB fun l65 : List Int => 
       impB (l65.length ≤ (300 : Nat)) (
       impB (∀ (y : Int), y ∈ l65 → (-9223372036854775808 : Int) ≤ y ∧ y ≤ (9223372036854775807 : Int)) (
       allB fun l66 : List Int => 
       impB (l66.length = l65.length) (
       impB (∀ (y : Int), y ∈ l66 → (-9223372036854775808 : Int) ≤ y ∧ y ≤ (9223372036854775807 : Int)) (
       allB fun n67 : Int => 
       impB ((0 : Int) ≤ n67) (
       impB (n67 ≤ (300 : Int)) (
       allB fun n68 : Int => 
       impB ((0 : Int) ≤ n68) (
       impB (n68 ≤ (18 : Int)) (
       impB (sigQuan.post
  [DV.l [n7 - (1099511627776 : Int)], DV.l [n8 - (1099511627776 : Int)], DV.n ((2 : Int) + n5),
    DV.n n6]
  [DV.l l65, DV.l l66, DV.n n67, DV.n n68]) (
       reqB (((0 : Nat) + l65.length) * (2 : Nat) ≤ l65.length.mul (2 : Nat)) (
       reqB (l65.length ≤ (300 : Nat)) (
       reqB ((List.take l65.length (List.drop (0 : Nat) l65)).length = l65.length) (
       reqB (∀ (y : Int),
  y ∈ List.take l65.length (List.drop (0 : Nat) l65) →
    (-9223372036854775808 : Int) ≤ y ∧ y ≤ (9223372036854775807 : Int)) (
       reqB ((List.take l65.length (List.drop (0 : Nat) l66)).length = l65.length) (
       reqB (∀ (y : Int),
  y ∈ List.take l65.length (List.drop (0 : Nat) l66) →
    (-9223372036854775808 : Int) ≤ y ∧ y ≤ (9223372036854775807 : Int)) (
       reqB ((-9223372036854775808 : Int) ≤ (2 : Int) + n5) (
       reqB ((2 : Int) + n5 ≤ (9223372036854775807 : Int)) (
       reqB ((-9223372036854775808 : Int) ≤ n6) (
       reqB (n6 ≤ (9223372036854775807 : Int)) (
       reqB (sigRest.pre
  [DV.l (List.take l65.length (List.drop (0 : Nat) l65)),
    DV.l (List.take l65.length (List.drop (0 : Nat) l66)), DV.n ((2 : Int) + n5), DV.n n6]) (
       allB fun l69 : List Int => 
       impB (l69.length ≤ (300 : Nat)) (
       impB (∀ (y : Int), y ∈ l69 → (-9223372036854775808 : Int) ≤ y ∧ y ≤ (9223372036854775807 : Int)) (
       allB fun l70 : List Int => 
       impB (l70.length = l69.length) (
       impB (∀ (y : Int), y ∈ l70 → (-9223372036854775808 : Int) ≤ y ∧ y ≤ (9223372036854775807 : Int)) (
       allB fun n71 : Int => 
       impB ((0 : Int) ≤ n71) (
       impB (n71 ≤ (18 : Int)) (
       impB (sigRest.post
  [DV.l (List.take l65.length (List.drop (0 : Nat) l65)),
    DV.l (List.take l65.length (List.drop (0 : Nat) l66)), DV.n ((2 : Int) + n5), DV.n n6]
  [DV.l l69, DV.l l70, DV.n n71]) (
       bR (dec (n68 ≠ (0 : Int))) (
        reqB (sigQE.post [DV.n n0, DV.n n1, DV.n n2, DV.n n3] [DV.b Bool.false]) (
        true)) (
        bR (dec (n71 ≠ (0 : Int))) (
         reqB (sigQE.post [DV.n n0, DV.n n1, DV.n n2, DV.n n3] [DV.b Bool.false]) (
         true)) (
         bR (dec ((↑l69.length : Int) ≠ (1 : Int))) (
          reqB (sigQE.post [DV.n n0, DV.n n1, DV.n n2, DV.n n3] [DV.b Bool.false]) (
          true)) (
          bR (b10) (
           bR (bR (bR (dec (n67 = (1 : Int))) (
            true) (
            false)) (
            false) (
            true)) (
            reqB (sigQE.post [DV.n n0, DV.n n1, DV.n n2, DV.n n3] [DV.b Bool.false]) (
            true)) (
            reqB ((0 : Nat) < l69.length) (
            reqB ((0 : Nat) < l69.length) (
            allB fun n72 : Int => 
            impB (n72 = Go.IntKind.i64.wrap (l69.getD (0 : Nat) (0 : Int) - (n7 - (1099511627776 : Int)))) (
            impB (Int.negSucc (9223372036854775807 : Nat) ≤ n72) (
            impB (n72 ≤ Int.ofNat (9223372036854775807 : Nat)) (
            bR (b4) (
             reqB ((0 : Nat) < l69.length) (
             reqB ((0 : Nat) < l69.length) (
             allB fun n73 : Int => 
             impB (n73 = Go.IntKind.i64.wrap (n9 * opI (SO.shl Go.IntKind.i64) (1 : Int) n6)) (
             impB (Int.negSucc (9223372036854775807 : Nat) ≤ n73) (
             impB (n73 ≤ Int.ofNat (9223372036854775807 : Nat)) (
             bR (dec (l69.getD (0 : Nat) (0 : Int) = n73)) (
              reqB ((0 : Nat) < l69.length) (
              reqB ((0 : Nat) < l70.length) (
              allB fun n74 : Int => 
              impB (n74 = Go.IntKind.i64.wrap (n15 * opI (SO.shl Go.IntKind.i64) (1 : Int) n6)) (
              impB (Int.negSucc (9223372036854775807 : Nat) ≤ n74) (
              impB (n74 ≤ Int.ofNat (9223372036854775807 : Nat)) (
              bR (dec (l70.getD (0 : Nat) (0 : Int) = n74)) (
               bR (b10) (
                reqB (sigQE.post [DV.n n0, DV.n n1, DV.n n2, DV.n n3] [DV.b Bool.true]) (
                true)) (
                allB fun n75 : Int => 
                impB (n75 = Go.IntKind.i64.wrap ((0 : Int) - n72)) (
                impB (Int.negSucc (9223372036854775807 : Nat) ≤ n75) (
                impB (n75 ≤ Int.ofNat (9223372036854775807 : Nat)) (
                reqB (sigQE.post [DV.n n0, DV.n n1, DV.n n2, DV.n n3]
  [DV.b (dec (Max.max n72 n75 ≤ n18))]) (
                true)))))) (
               reqB (sigQE.post [DV.n n0, DV.n n1, DV.n n2, DV.n n3] [DV.b Bool.false]) (
               true)))))))) (
              reqB (sigQE.post [DV.n n0, DV.n n1, DV.n n2, DV.n n3] [DV.b Bool.false]) (
              true)))))))) (
             reqB (sigQE.post [DV.n n0, DV.n n1, DV.n n2, DV.n n3] [DV.b Bool.false]) (
             true))))))))) (
           bR (bR (bR (dec (n67 = (1 : Int))) (
            b16) (
            bR (b16) (
             false) (
             true))) (
            false) (
            true)) (
            reqB (sigQE.post [DV.n n0, DV.n n1, DV.n n2, DV.n n3] [DV.b Bool.false]) (
            true)) (
            reqB ((0 : Nat) < l69.length) (
            reqB ((0 : Nat) < l69.length) (
            allB fun n76 : Int => 
            impB (n76 = Go.IntKind.i64.wrap (l69.getD (0 : Nat) (0 : Int) - (n7 - (1099511627776 : Int)))) (
            impB (Int.negSucc (9223372036854775807 : Nat) ≤ n76) (
            impB (n76 ≤ Int.ofNat (9223372036854775807 : Nat)) (
            bR (b4) (
             reqB ((0 : Nat) < l69.length) (
             reqB ((0 : Nat) < l69.length) (
             allB fun n77 : Int => 
             impB (n77 = Go.IntKind.i64.wrap (n9 * opI (SO.shl Go.IntKind.i64) (1 : Int) n6)) (
             impB (Int.negSucc (9223372036854775807 : Nat) ≤ n77) (
             impB (n77 ≤ Int.ofNat (9223372036854775807 : Nat)) (
             bR (dec (l69.getD (0 : Nat) (0 : Int) = n77)) (
              reqB ((0 : Nat) < l69.length) (
              reqB ((0 : Nat) < l70.length) (
              allB fun n78 : Int => 
              impB (n78 = Go.IntKind.i64.wrap (n15 * opI (SO.shl Go.IntKind.i64) (1 : Int) n6)) (
              impB (Int.negSucc (9223372036854775807 : Nat) ≤ n78) (
              impB (n78 ≤ Int.ofNat (9223372036854775807 : Nat)) (
              bR (dec (l70.getD (0 : Nat) (0 : Int) = n78)) (
               bR (b10) (
                reqB (sigQE.post [DV.n n0, DV.n n1, DV.n n2, DV.n n3] [DV.b Bool.true]) (
                true)) (
                allB fun n79 : Int => 
                impB (n79 = Go.IntKind.i64.wrap ((0 : Int) - n76)) (
                impB (Int.negSucc (9223372036854775807 : Nat) ≤ n79) (
                impB (n79 ≤ Int.ofNat (9223372036854775807 : Nat)) (
                reqB (sigQE.post [DV.n n0, DV.n n1, DV.n n2, DV.n n3]
  [DV.b (dec (Max.max n76 n79 ≤ n18))]) (
                true)))))) (
               reqB (sigQE.post [DV.n n0, DV.n n1, DV.n n2, DV.n n3] [DV.b Bool.false]) (
               true)))))))) (
              reqB (sigQE.post [DV.n n0, DV.n n1, DV.n n2, DV.n n3] [DV.b Bool.false]) (
              true)))))))) (
             reqB (sigQE.post [DV.n n0, DV.n n1, DV.n n2, DV.n n3] [DV.b Bool.false]) (
             true)))))))))))))))))))))))))))))))))))))))))))))))))))))))))))))))))))))))))))))))))))))))))))))))))))))))))))))))))))))))))))))))))))))))))) := by kernel_rfl
set_option maxHeartbeats 8000000 in
theorem vt_QuantError : vcFn Try.prog [(3, Ext.ctr (ctOf sigTrue0)), (29, Ext.ctr (ctOf (sigPickN 4398046511104))), (10, Ext.ctr (ctOf sigLevel)), (12, Ext.ctr (ctOf sigCoarse)), (23, Ext.ctr (ctOf sigQuan)), (11, Ext.ctr (ctOf sigRest))] tab [] 100 7 sigQE = true := by
  rw [vc_QuantError]
  try simp only [Int.toNat_natCast, List.length_set, List.length_replicate, List.length_take, List.length_drop, List.length_append, List.length_cons, List.length_nil, Nat.min_self, List.take_take, lenCols_i, lenCols_b, List.drop_zero, List.take_length, Nat.add_eq, Nat.mul_eq, Nat.sub_eq, Nat.zero_add, Nat.sub_zero, Nat.mul_one]
  refine all_i fun n0 => ?_
  refine imp_i fun h0 => ?_
  refine imp_i fun h1 => ?_
  refine all_i fun n1 => ?_
  refine imp_i fun h2 => ?_
  refine imp_i fun h3 => ?_
  refine all_i fun n2 => ?_
  refine imp_i fun h4 => ?_
  refine imp_i fun h5 => ?_
  refine all_i fun n3 => ?_
  refine imp_i fun h6 => ?_
  refine imp_i fun h7 => ?_
  refine imp_i fun h8 => ?_
  try simp only [sigQE, List.cons.injEq, DV.b.injEq, and_true, List.length_cons, List.length_nil] at h8
  refine req_i ?_ ?_
  · -- r0
    first | omega | assumption | grind
  refine all_i fun b4 => ?_
  refine imp_i fun h9 => ?_
  try simp only [sigTrue0, List.cons.injEq, DV.b.injEq, and_true, List.length_cons, List.length_nil] at h9
  refine req_i ?_ ?_
  · -- r1
    first | omega | assumption | grind
  refine req_i ?_ ?_
  · -- r2
    first | omega | assumption | grind
  refine req_i ?_ ?_
  · -- r3
    first | trivial | assumption | (simp only [sigPickN, pickPost, List.cons.injEq, DV.b.injEq, and_true, List.length_cons, List.length_nil]; done) | ((try simp only [sigPickN, pickPost, List.cons.injEq, DV.b.injEq, and_true, List.length_cons, List.length_nil]); first | omega | assumption | grind)
  refine all_i fun n5 => ?_
  refine imp_i fun h10 => ?_
  refine imp_i fun h11 => ?_
  refine imp_i fun h12 => ?_
  try simp only [sigPickN, pickPost, List.cons.injEq, DV.b.injEq, and_true, List.length_cons, List.length_nil] at h12
  refine req_i ?_ ?_
  · -- r4
    first | omega | assumption | grind
  refine req_i ?_ ?_
  · -- r5
    first | omega | assumption | grind
  refine req_i ?_ ?_
  · -- r6
    first | trivial | assumption | (simp only [sigPickN, pickPost, List.cons.injEq, DV.b.injEq, and_true, List.length_cons, List.length_nil]; done) | ((try simp only [sigPickN, pickPost, List.cons.injEq, DV.b.injEq, and_true, List.length_cons, List.length_nil]); first | omega | assumption | grind)
  refine all_i fun n6 => ?_
  refine imp_i fun h13 => ?_
  refine imp_i fun h14 => ?_
  refine imp_i fun h15 => ?_
  try simp only [sigPickN, pickPost, List.cons.injEq, DV.b.injEq, and_true, List.length_cons, List.length_nil] at h15
  refine req_i ?_ ?_
  · -- r7
    first | omega | assumption | grind
  refine req_i ?_ ?_
  · -- r8
    first | omega | assumption | grind
  refine req_i ?_ ?_
  · -- r9
    first | trivial | assumption | (simp only [sigPickN, pickPost, List.cons.injEq, DV.b.injEq, and_true, List.length_cons, List.length_nil]; done) | ((try simp only [sigPickN, pickPost, List.cons.injEq, DV.b.injEq, and_true, List.length_cons, List.length_nil]); first | omega | assumption | grind)
  refine all_i fun n7 => ?_
  refine imp_i fun h16 => ?_
  refine imp_i fun h17 => ?_
  refine imp_i fun h18 => ?_
  try simp only [sigPickN, pickPost, List.cons.injEq, DV.b.injEq, and_true, List.length_cons, List.length_nil] at h18
  refine req_i ?_ ?_
  · -- r10
    first | omega | assumption | grind
  refine req_i ?_ ?_
  · -- r11
    first | omega | assumption | grind
  refine req_i ?_ ?_
  · -- r12
    first | trivial | assumption | (simp only [sigPickN, pickPost, List.cons.injEq, DV.b.injEq, and_true, List.length_cons, List.length_nil]; done) | ((try simp only [sigPickN, pickPost, List.cons.injEq, DV.b.injEq, and_true, List.length_cons, List.length_nil]); first | omega | assumption | grind)
  refine all_i fun n8 => ?_
  refine imp_i fun h19 => ?_
  refine imp_i fun h20 => ?_
  refine imp_i fun h21 => ?_
  try simp only [sigPickN, pickPost, List.cons.injEq, DV.b.injEq, and_true, List.length_cons, List.length_nil] at h21
  refine req_i ?_ ?_
  · -- r13
    first | omega | assumption | grind
  refine req_i ?_ ?_
  · -- r14
    first | omega | assumption | grind
  refine req_i ?_ ?_
  · -- r15
    first | omega | assumption | grind
  refine req_i ?_ ?_
  · -- r16
    first | omega | assumption | grind
  refine req_i ?_ ?_
  · -- r17
    first | omega | assumption | grind
  refine req_i ?_ ?_
  · -- r18
    first | omega | assumption | grind
  refine req_i ?_ ?_
  · -- r19
    first | trivial | assumption | (simp only [sigLevel, levelPost, List.cons.injEq, DV.b.injEq, and_true, List.length_cons, List.length_nil]; done) | ((try simp only [sigLevel, levelPost, List.cons.injEq, DV.b.injEq, and_true, List.length_cons, List.length_nil]); first | omega | assumption | grind)
  refine all_i fun n9 => ?_
  refine imp_i fun h22 => ?_
  refine imp_i fun h23 => ?_
  refine all_i fun b10 => ?_
  refine all_i fun n11 => ?_
  refine imp_i fun h24 => ?_
  refine imp_i fun h25 => ?_
  refine imp_i fun h26 => ?_
  try simp only [sigLevel, levelPost, List.cons.injEq, DV.b.injEq, and_true, List.length_cons, List.length_nil] at h26
  refine req_i ?_ ?_
  · -- r20
    first | omega | assumption | grind
  refine req_i ?_ ?_
  · -- r21
    first | omega | assumption | grind
  refine req_i ?_ ?_
  · -- r22
    first | omega | assumption | grind
  refine req_i ?_ ?_
  · -- r23
    first | omega | assumption | grind
  refine req_i ?_ ?_
  · -- r24
    first | omega | assumption | grind
  refine req_i ?_ ?_
  · -- r25
    first | omega | assumption | grind
  refine req_i ?_ ?_
  · -- r26
    first | trivial | assumption | (simp only [sigLevel, levelPost, List.cons.injEq, DV.b.injEq, and_true, List.length_cons, List.length_nil]; done) | ((try simp only [sigLevel, levelPost, List.cons.injEq, DV.b.injEq, and_true, List.length_cons, List.length_nil]); first | omega | assumption | grind)
  refine all_i fun n12 => ?_
  refine imp_i fun h27 => ?_
  refine imp_i fun h28 => ?_
  refine all_i fun b13 => ?_
  refine all_i fun n14 => ?_
  refine imp_i fun h29 => ?_
  refine imp_i fun h30 => ?_
  refine imp_i fun h31 => ?_
  try simp only [sigLevel, levelPost, List.cons.injEq, DV.b.injEq, and_true, List.length_cons, List.length_nil] at h31
  rw [show (0 : Int) - (n7 - 1099511627776) = -(n7 - 1099511627776) by omega, lev_odd (by omega) (by omega)] at h31
  refine req_i ?_ ?_
  · -- r27
    first | omega | assumption | grind
  refine req_i ?_ ?_
  · -- r28
    first | omega | assumption | grind
  refine req_i ?_ ?_
  · -- r29
    first | omega | assumption | grind
  refine req_i ?_ ?_
  · -- r30
    first | omega | assumption | grind
  refine req_i ?_ ?_
  · -- r31
    first | omega | assumption | grind
  refine req_i ?_ ?_
  · -- r32
    first | omega | assumption | grind
  refine req_i ?_ ?_
  · -- r33
    first | trivial | assumption | (simp only [sigLevel, levelPost, List.cons.injEq, DV.b.injEq, and_true, List.length_cons, List.length_nil]; done) | ((try simp only [sigLevel, levelPost, List.cons.injEq, DV.b.injEq, and_true, List.length_cons, List.length_nil]); first | omega | assumption | grind)
  refine all_i fun n15 => ?_
  refine imp_i fun h32 => ?_
  refine imp_i fun h33 => ?_
  refine all_i fun b16 => ?_
  refine all_i fun n17 => ?_
  refine imp_i fun h34 => ?_
  refine imp_i fun h35 => ?_
  refine imp_i fun h36 => ?_
  try simp only [sigLevel, levelPost, List.cons.injEq, DV.b.injEq, and_true, List.length_cons, List.length_nil] at h36
  have mo := lev_mono (b := 2 + n5) (n := n6) (x := n7 - 1099511627776) (y := n8 - 1099511627776)
  have mo2 := lev_mono (b := 2 + n5) (n := n6) (x := n8 - 1099511627776) (y := n7 - 1099511627776)
  have qb := qq_bd (b := 2 + n5) (by omega) (by omega)
  have lb1 := lev_bd (b := 2 + n5) (n := n6) (x := n7 - 1099511627776) (by omega) (by omega)
  have lb2 := lev_bd (b := 2 + n5) (n := n6) (x := n8 - 1099511627776) (by omega) (by omega)
  have nr := hv_near (x := n7 - 1099511627776) (n := n6)
  have rb1 := rest_bd (x := n9) (n := n6) (by omega) (by omega) (by omega) (by omega)
  have rb2 := rest_bd (x := n15) (n := n6) (by omega) (by omega) (by omega) (by omega)
  have sh := shl_one (n := n6) (by omega) (by omega)
  refine req_i ?_ ?_
  · -- r34
    first | omega | assumption | grind
  refine req_i ?_ ?_
  · -- r35
    first | omega | assumption | grind
  refine req_i ?_ ?_
  · -- r36
    first | omega | assumption | grind
  refine req_i ?_ ?_
  · -- r37
    first | omega | assumption | grind
  refine req_i ?_ ?_
  · -- r38
    first | trivial | assumption | (simp only [sigCoarse, coarsePost, List.cons.injEq, DV.b.injEq, and_true, List.length_cons, List.length_nil]; done) | ((try simp only [sigCoarse, coarsePost, List.cons.injEq, DV.b.injEq, and_true, List.length_cons, List.length_nil]); first | omega | assumption | grind)
  refine all_i fun n18 => ?_
  refine imp_i fun h37 => ?_
  refine imp_i fun h38 => ?_
  refine all_i fun n19 => ?_
  refine imp_i fun h39 => ?_
  refine imp_i fun h40 => ?_
  refine imp_i fun h41 => ?_
  try simp only [sigCoarse, coarsePost, List.cons.injEq, DV.b.injEq, and_true, List.length_cons, List.length_nil] at h41
  simp only [sh]
  refine bR_dec (fun h42 => ?_) (fun h42 => ?_)
  ·
    refine req_i ?_ ?_
    · -- r39
      first | omega | ((try simp only [sigQE, List.cons.injEq, DV.b.injEq, and_true, List.length_cons, List.length_nil]); first | done | omega | assumption | grind [getD_set, getD_rep, toNat_succ, cntN_yes, cntN_no])
    rfl
  ·
    refine bR_dec (fun h43 => ?_) (fun h43 => ?_)
    ·
      refine req_i ?_ ?_
      · -- r40
        first | omega | ((try simp only [sigQE, List.cons.injEq, DV.b.injEq, and_true, List.length_cons, List.length_nil]); first | done | omega | assumption | grind [getD_set, getD_rep, toNat_succ, cntN_yes, cntN_no])
      rfl
    ·
      refine bR_dec (fun h44 => ?_) (fun h44 => ?_)
      ·
        refine req_i ?_ ?_
        · -- r41
          first | omega | ((try simp only [sigQE, List.cons.injEq, DV.b.injEq, and_true, List.length_cons, List.length_nil]); first | done | omega | assumption | grind [getD_set, getD_rep, toNat_succ, cntN_yes, cntN_no])
        rfl
      ·
        refine bR_dec (fun h45 => ?_) (fun h45 => ?_)
        ·
          refine req_i ?_ ?_
          · -- r42
            first | omega | ((try simp only [sigQE, List.cons.injEq, DV.b.injEq, and_true, List.length_cons, List.length_nil]); first | done | omega | assumption | grind [getD_set, getD_rep, toNat_succ, cntN_yes, cntN_no])
          rfl
        ·
          refine bR_dec (fun h46 => ?_) (fun h46 => ?_)
          ·
            refine req_i ?_ ?_
            · -- r43
              first | omega | ((try simp only [sigQE, List.cons.injEq, DV.b.injEq, and_true, List.length_cons, List.length_nil]); first | done | omega | assumption | grind [getD_set, getD_rep, toNat_succ, cntN_yes, cntN_no])
            rfl
          ·
            refine bR_dec (fun h47 => ?_) (fun h47 => ?_)
            ·
              refine bR_dec (fun h48 => ?_) (fun h48 => ?_)
              ·
                refine req_i ?_ ?_
                · -- r44
                  first | omega | ((try simp only [sigQE, List.cons.injEq, DV.b.injEq, and_true, List.length_cons, List.length_nil]); first | done | omega | assumption | grind [getD_set, getD_rep, toNat_succ, cntN_yes, cntN_no])
                rfl
              ·
                refine bR_dec (fun h49 => ?_) (fun h49 => ?_)
                ·
                  refine bR_dec (fun h50 => ?_) (fun h50 => ?_)
                  ·
                    refine req_i ?_ ?_
                    · -- r45
                      first | omega | ((try simp only [sigQE, List.cons.injEq, DV.b.injEq, and_true, List.length_cons, List.length_nil]); first | done | omega | assumption | grind [getD_set, getD_rep, toNat_succ, cntN_yes, cntN_no])
                    rfl
                  ·
                    refine req_i ?_ ?_
                    · -- r46
                      first | omega | assumption | grind
                    refine req_i ?_ ?_
                    · -- r47
                      first | omega | ((try simp only [List.length_cons, List.length_nil]); first | done | omega | assumption | grind [getD_set, getD_rep, toNat_succ, cntN_yes, cntN_no])
                    refine req_i ?_ ?_
                    · -- r48
                      first | assumption | exact rep_bd (by omega) (by omega) | exact set_bd (by assumption) (by omega) (by omega) | exact take_bd (by assumption) | ((try simp only [List.length_cons, List.length_nil]); first | assumption | exact rep_bd (by omega) (by omega) | exact set_bd (by assumption) (by omega) (by omega) | exact take_bd (by assumption) | grind [getD_set, getD_rep, toNat_succ, cntN_yes, cntN_no])
                    refine req_i ?_ ?_
                    · -- r49
                      first | omega | ((try simp only [List.length_cons, List.length_nil]); first | done | omega | assumption | grind [getD_set, getD_rep, toNat_succ, cntN_yes, cntN_no])
                    refine req_i ?_ ?_
                    · -- r50
                      first | assumption | exact rep_bd (by omega) (by omega) | exact set_bd (by assumption) (by omega) (by omega) | exact take_bd (by assumption) | ((try simp only [List.length_cons, List.length_nil]); first | assumption | exact rep_bd (by omega) (by omega) | exact set_bd (by assumption) (by omega) (by omega) | exact take_bd (by assumption) | grind [getD_set, getD_rep, toNat_succ, cntN_yes, cntN_no])
                    refine req_i ?_ ?_
                    · -- r51
                      first | omega | assumption | grind
                    refine req_i ?_ ?_
                    · -- r52
                      first | omega | assumption | grind
                    refine req_i ?_ ?_
                    · -- r53
                      first | omega | assumption | grind
                    refine req_i ?_ ?_
                    · -- r54
                      first | omega | assumption | grind
                    refine req_i ?_ ?_
                    · -- r55
                      first | omega | ((try simp only [sigQuan, quanPost, List.cons.injEq, DV.b.injEq, and_true, List.length_cons, List.length_nil]); first | done | omega | assumption | grind [getD_set, getD_rep, toNat_succ, cntN_yes, cntN_no])
                    refine all_i fun l20 => ?_
                    refine imp_i fun h51 => ?_
                    refine imp_i fun h52 => ?_
                    refine all_i fun l21 => ?_
                    refine imp_i fun h53 => ?_
                    have tkl21 := take_eq h53
                    try simp only [tkl21]
                    refine imp_i fun h54 => ?_
                    refine all_i fun n22 => ?_
                    refine imp_i fun h55 => ?_
                    refine imp_i fun h56 => ?_
                    refine all_i fun n23 => ?_
                    refine imp_i fun h57 => ?_
                    refine imp_i fun h58 => ?_
                    refine imp_i fun h59 => ?_
                    try simp only [Int.toNat_natCast, List.length_set, List.length_replicate, List.length_take, List.length_drop, List.length_append, List.length_cons, List.length_nil, Nat.min_self, List.take_take, lenCols_i, lenCols_b, List.drop_zero, List.take_length, Nat.add_eq, Nat.mul_eq, Nat.sub_eq, Nat.zero_add, Nat.sub_zero, Nat.mul_one] at h59
                    have Q := quan1 (by omega) (by omega) (by omega) (by omega) (by omega) h59
                    refine req_i ?_ ?_
                    · -- r56
                      first | omega | ((try simp only [Nat.mul_eq]); first | done | omega | assumption | grind [getD_set, getD_rep, toNat_succ, cntN_yes, cntN_no])
                    refine req_i ?_ ?_
                    · -- r57
                      first | omega | ((try simp only [Nat.zero_add]); first | done | omega | assumption | grind [getD_set, getD_rep, toNat_succ, cntN_yes, cntN_no])
                    refine req_i ?_ ?_
                    · -- r58
                      first | omega | ((try simp only [List.length_take, List.take_length, List.take_take, Nat.min_self, List.length_drop, List.drop_zero, List.length_cons, List.length_nil]); first | done | omega | assumption | grind [getD_set, getD_rep, toNat_succ, cntN_yes, cntN_no])
                    refine req_i ?_ ?_
                    · -- r59
                      first | assumption | exact rep_bd (by omega) (by omega) | exact set_bd (by assumption) (by omega) (by omega) | exact take_bd (by assumption) | ((try simp only [List.length_take, List.take_length, List.take_take, Nat.min_self, List.length_drop, List.drop_zero, List.length_cons, List.length_nil]); first | assumption | exact rep_bd (by omega) (by omega) | exact set_bd (by assumption) (by omega) (by omega) | exact take_bd (by assumption) | grind [getD_set, getD_rep, toNat_succ, cntN_yes, cntN_no])
                    refine req_i ?_ ?_
                    · -- r60
                      first | omega | ((try simp only [List.length_take, List.take_length, List.take_take, Nat.min_self, List.length_drop, List.drop_zero, List.length_cons, List.length_nil]); first | done | omega | assumption | grind [getD_set, getD_rep, toNat_succ, cntN_yes, cntN_no])
                    refine req_i ?_ ?_
                    · -- r61
                      first | assumption | exact rep_bd (by omega) (by omega) | exact set_bd (by assumption) (by omega) (by omega) | exact take_bd (by assumption) | ((try simp only [List.length_take, List.take_length, List.take_take, Nat.min_self, List.length_drop, List.drop_zero, List.length_cons, List.length_nil]); first | assumption | exact rep_bd (by omega) (by omega) | exact set_bd (by assumption) (by omega) (by omega) | exact take_bd (by assumption) | grind [getD_set, getD_rep, toNat_succ, cntN_yes, cntN_no])
                    refine req_i ?_ ?_
                    · -- r62
                      first | omega | assumption | grind
                    refine req_i ?_ ?_
                    · -- r63
                      first | omega | assumption | grind
                    refine req_i ?_ ?_
                    · -- r64
                      first | omega | assumption | grind
                    refine req_i ?_ ?_
                    · -- r65
                      first | omega | assumption | grind
                    refine req_i ?_ ?_
                    · -- r66
                      first | omega | ((try simp only [sigRest, restPost, List.cons.injEq, DV.b.injEq, and_true, List.length_take, List.take_length, List.take_take, Nat.min_self, List.length_drop, List.drop_zero, List.length_cons, List.length_nil]); first | done | omega | assumption | grind [getD_set, getD_rep, toNat_succ, cntN_yes, cntN_no])
                    refine all_i fun l24 => ?_
                    refine imp_i fun h60 => ?_
                    refine imp_i fun h61 => ?_
                    refine all_i fun l25 => ?_
                    refine imp_i fun h62 => ?_
                    have tkl25 := take_eq h62
                    try simp only [tkl25]
                    refine imp_i fun h63 => ?_
                    refine all_i fun n26 => ?_
                    refine imp_i fun h64 => ?_
                    refine imp_i fun h65 => ?_
                    refine imp_i fun h66 => ?_
                    try simp only [Int.toNat_natCast, List.length_set, List.length_replicate, List.length_take, List.length_drop, List.length_append, List.length_cons, List.length_nil, Nat.min_self, List.take_take, lenCols_i, lenCols_b, List.drop_zero, List.take_length, Nat.add_eq, Nat.mul_eq, Nat.sub_eq, Nat.zero_add, Nat.sub_zero, Nat.mul_one] at h66
                    have R := rest1 (by omega) (by omega) (by omega) (by omega) (by omega) (by omega) h66
                    rw [Q.2.2.1, Q.2.2.2.1, ← h26.1, ← h36.1] at R
                    refine bR_dec (fun h67 => ?_) (fun h67 => ?_)
                    ·
                      refine req_i ?_ ?_
                      · -- r67
                        first | omega | ((try simp only [sigQE, List.cons.injEq, DV.b.injEq, and_true, List.length_cons, List.length_nil]); first | done | omega | assumption | grind [getD_set, getD_rep, toNat_succ, cntN_yes, cntN_no])
                      rfl
                    ·
                      refine bR_dec (fun h68 => ?_) (fun h68 => ?_)
                      ·
                        refine req_i ?_ ?_
                        · -- r68
                          first | omega | ((try simp only [sigQE, List.cons.injEq, DV.b.injEq, and_true, List.length_cons, List.length_nil]); first | done | omega | assumption | grind [getD_set, getD_rep, toNat_succ, cntN_yes, cntN_no])
                        rfl
                      ·
                        refine bR_dec (fun h69 => ?_) (fun h69 => ?_)
                        ·
                          refine req_i ?_ ?_
                          · -- r69
                            first | omega | ((try simp only [sigQE, List.cons.injEq, DV.b.injEq, and_true, List.length_cons, List.length_nil]); first | done | omega | assumption | grind [getD_set, getD_rep, toNat_succ, cntN_yes, cntN_no])
                          rfl
                        ·
                          refine bR_i (fun h70 => ?_) (fun h70 => ?_)
                          ·
                            have lxh70 := h26.2.1.1 h70
                            refine bR_i (fun h71 => ?_) (fun h71 => ?_)
                            ·
                              simp only [bR_iff, bR_iff_f, dec_iff, dec_f, Bool.false_eq_true, Bool.true_eq_false, false_implies, imp_false, and_true, true_and, implies_true, Classical.not_not] at h71
                              refine req_i ?_ ?_
                              · -- r70
                                first | omega | ((try simp only [sigQE, List.cons.injEq, DV.b.injEq, and_true, List.length_cons, List.length_nil]); first | done | omega | assumption | grind [getD_set, getD_rep, toNat_succ, cntN_yes, cntN_no])
                              rfl
                            ·
                              simp only [bR_iff, bR_iff_f, dec_iff, dec_f, Bool.false_eq_true, Bool.true_eq_false, false_implies, imp_false, and_true, true_and, implies_true, Classical.not_not] at h71
                              refine req_i ?_ ?_
                              · -- r71
                                first | omega | ((try simp only [Nat.zero_add]); first | done | omega | assumption | grind [getD_set, getD_rep, toNat_succ, cntN_yes, cntN_no])
                              refine req_i ?_ ?_
                              · -- r72
                                first | omega | ((try simp only [Nat.zero_add]); first | done | omega | assumption | grind [getD_set, getD_rep, toNat_succ, cntN_yes, cntN_no])
                              refine all_i fun n27 => ?_
                              refine imp_i fun h72 => ?_
                              simp only [wrap_i64] at h72
                              refine imp_i fun h73 => ?_
                              refine imp_i fun h74 => ?_
                              refine bR_i (fun h75 => ?_) (fun h75 => ?_)
                              ·
                                refine req_i ?_ ?_
                                · -- r73
                                  first | omega | ((try simp only [Nat.zero_add]); first | done | omega | assumption | grind [getD_set, getD_rep, toNat_succ, cntN_yes, cntN_no])
                                refine req_i ?_ ?_
                                · -- r74
                                  first | omega | ((try simp only [Nat.zero_add]); first | done | omega | assumption | grind [getD_set, getD_rep, toNat_succ, cntN_yes, cntN_no])
                                refine all_i fun n28 => ?_
                                refine imp_i fun h76 => ?_
                                simp only [wrap_i64] at h76
                                refine imp_i fun h77 => ?_
                                refine imp_i fun h78 => ?_
                                refine bR_dec (fun h79 => ?_) (fun h79 => ?_)
                                ·
                                  refine req_i ?_ ?_
                                  · -- r75
                                    first | omega | ((try simp only [Nat.zero_add]); first | done | omega | assumption | grind [getD_set, getD_rep, toNat_succ, cntN_yes, cntN_no])
                                  refine req_i ?_ ?_
                                  · -- r76
                                    first | omega | ((try simp only [Nat.zero_add]); first | done | omega | assumption | grind [getD_set, getD_rep, toNat_succ, cntN_yes, cntN_no])
                                  refine all_i fun n29 => ?_
                                  refine imp_i fun h80 => ?_
                                  simp only [wrap_i64] at h80
                                  refine imp_i fun h81 => ?_
                                  refine imp_i fun h82 => ?_
                                  refine bR_dec (fun h83 => ?_) (fun h83 => ?_)
                                  ·
                                    refine bR_i (fun h84 => ?_) (fun h84 => absurd (h70.symm.trans h84) (by decide))
                                    refine req_i ?_ ?_
                                    · -- r77
                                      first | omega | ((try simp only [sigQE, List.cons.injEq, DV.b.injEq, and_true, List.length_cons, List.length_nil]); first | done | omega | assumption | grind [getD_set, getD_rep, toNat_succ, cntN_yes, cntN_no])
                                    rfl
                                  ·
                                    refine req_i ?_ ?_
                                    · -- r78
                                      first | omega | ((try simp only [sigQE, List.cons.injEq, DV.b.injEq, and_true, List.length_cons, List.length_nil]); first | done | omega | assumption | grind [getD_set, getD_rep, toNat_succ, cntN_yes, cntN_no])
                                    rfl
                                ·
                                  refine req_i ?_ ?_
                                  · -- r79
                                    first | omega | ((try simp only [sigQE, List.cons.injEq, DV.b.injEq, and_true, List.length_cons, List.length_nil]); first | done | omega | assumption | grind [getD_set, getD_rep, toNat_succ, cntN_yes, cntN_no])
                                  rfl
                              ·
                                refine req_i ?_ ?_
                                · -- r80
                                  first | omega | ((try simp only [sigQE, List.cons.injEq, DV.b.injEq, and_true, List.length_cons, List.length_nil]); first | done | omega | assumption | grind [getD_set, getD_rep, toNat_succ, cntN_yes, cntN_no])
                                rfl
                          ·
                            have lxh70 := mt h26.2.1.2 (by rw [h70]; decide)
                            have lyh70 : n9 = hv (n7 - 1099511627776) n6 := by omega
                            rw [← lyh70] at nr
                            refine bR_i (fun h85 => ?_) (fun h85 => ?_)
                            ·
                              simp only [bR_iff, bR_iff_f, dec_iff, dec_f, Bool.false_eq_true, Bool.true_eq_false, false_implies, imp_false, and_true, true_and, implies_true, Classical.not_not] at h85
                              refine req_i ?_ ?_
                              · -- r81
                                first | omega | ((try simp only [sigQE, List.cons.injEq, DV.b.injEq, and_true, List.length_cons, List.length_nil]); first | done | omega | assumption | grind [getD_set, getD_rep, toNat_succ, cntN_yes, cntN_no])
                              rfl
                            ·
                              simp only [bR_iff, bR_iff_f, dec_iff, dec_f, Bool.false_eq_true, Bool.true_eq_false, false_implies, imp_false, and_true, true_and, implies_true, Classical.not_not] at h85
                              refine req_i ?_ ?_
                              · -- r82
                                first | omega | ((try simp only [Nat.zero_add]); first | done | omega | assumption | grind [getD_set, getD_rep, toNat_succ, cntN_yes, cntN_no])
                              refine req_i ?_ ?_
                              · -- r83
                                first | omega | ((try simp only [Nat.zero_add]); first | done | omega | assumption | grind [getD_set, getD_rep, toNat_succ, cntN_yes, cntN_no])
                              refine all_i fun n31 => ?_
                              refine imp_i fun h86 => ?_
                              simp only [wrap_i64] at h86
                              refine imp_i fun h87 => ?_
                              refine imp_i fun h88 => ?_
                              refine bR_i (fun h89 => ?_) (fun h89 => ?_)
                              ·
                                refine req_i ?_ ?_
                                · -- r84
                                  first | omega | ((try simp only [Nat.zero_add]); first | done | omega | assumption | grind [getD_set, getD_rep, toNat_succ, cntN_yes, cntN_no])
                                refine req_i ?_ ?_
                                · -- r85
                                  first | omega | ((try simp only [Nat.zero_add]); first | done | omega | assumption | grind [getD_set, getD_rep, toNat_succ, cntN_yes, cntN_no])
                                refine all_i fun n32 => ?_
                                refine imp_i fun h90 => ?_
                                simp only [wrap_i64] at h90
                                refine imp_i fun h91 => ?_
                                refine imp_i fun h92 => ?_
                                refine bR_dec (fun h93 => ?_) (fun h93 => ?_)
                                ·
                                  refine req_i ?_ ?_
                                  · -- r86
                                    first | omega | ((try simp only [Nat.zero_add]); first | done | omega | assumption | grind [getD_set, getD_rep, toNat_succ, cntN_yes, cntN_no])
                                  refine req_i ?_ ?_
                                  · -- r87
                                    first | omega | ((try simp only [Nat.zero_add]); first | done | omega | assumption | grind [getD_set, getD_rep, toNat_succ, cntN_yes, cntN_no])
                                  refine all_i fun n33 => ?_
                                  refine imp_i fun h94 => ?_
                                  simp only [wrap_i64] at h94
                                  refine imp_i fun h95 => ?_
                                  refine imp_i fun h96 => ?_
                                  refine bR_dec (fun h97 => ?_) (fun h97 => ?_)
                                  ·
                                    refine bR_i (fun h98 => absurd (h98.symm.trans h70) (by decide)) (fun h98 => ?_)
                                    refine all_i fun n34 => ?_
                                    refine imp_i fun h99 => ?_
                                    simp only [wrap_i64] at h99
                                    refine imp_i fun h100 => ?_
                                    refine imp_i fun h101 => ?_
                                    refine req_i ?_ ?_
                                    · -- r88
                                      first | omega | ((try simp only [sigQE, List.cons.injEq, DV.b.injEq, and_true, List.length_cons, List.length_nil, dec_iff]); first | done | omega | assumption | grind [getD_set, getD_rep, toNat_succ, cntN_yes, cntN_no])
                                    rfl
                                  ·
                                    refine req_i ?_ ?_
                                    · -- r89
                                      first | omega | ((try simp only [sigQE, List.cons.injEq, DV.b.injEq, and_true, List.length_cons, List.length_nil]); first | done | omega | assumption | grind [getD_set, getD_rep, toNat_succ, cntN_yes, cntN_no])
                                    rfl
                                ·
                                  refine req_i ?_ ?_
                                  · -- r90
                                    first | omega | ((try simp only [sigQE, List.cons.injEq, DV.b.injEq, and_true, List.length_cons, List.length_nil]); first | done | omega | assumption | grind [getD_set, getD_rep, toNat_succ, cntN_yes, cntN_no])
                                  rfl
                              ·
                                refine req_i ?_ ?_
                                · -- r91
                                  first | omega | ((try simp only [sigQE, List.cons.injEq, DV.b.injEq, and_true, List.length_cons, List.length_nil]); first | done | omega | assumption | grind [getD_set, getD_rep, toNat_succ, cntN_yes, cntN_no])
                                rfl
                ·
                  refine req_i ?_ ?_
                  · -- r92
                    first | omega | assumption | grind
                  refine req_i ?_ ?_
                  · -- r93
                    first | omega | ((try simp only [List.length_cons, List.length_nil]); first | done | omega | assumption | grind [getD_set, getD_rep, toNat_succ, cntN_yes, cntN_no])
                  refine req_i ?_ ?_
                  · -- r94
                    first | assumption | exact rep_bd (by omega) (by omega) | exact set_bd (by assumption) (by omega) (by omega) | exact take_bd (by assumption) | ((try simp only [List.length_cons, List.length_nil]); first | assumption | exact rep_bd (by omega) (by omega) | exact set_bd (by assumption) (by omega) (by omega) | exact take_bd (by assumption) | grind [getD_set, getD_rep, toNat_succ, cntN_yes, cntN_no])
                  refine req_i ?_ ?_
                  · -- r95
                    first | omega | ((try simp only [List.length_cons, List.length_nil]); first | done | omega | assumption | grind [getD_set, getD_rep, toNat_succ, cntN_yes, cntN_no])
                  refine req_i ?_ ?_
                  · -- r96
                    first | assumption | exact rep_bd (by omega) (by omega) | exact set_bd (by assumption) (by omega) (by omega) | exact take_bd (by assumption) | ((try simp only [List.length_cons, List.length_nil]); first | assumption | exact rep_bd (by omega) (by omega) | exact set_bd (by assumption) (by omega) (by omega) | exact take_bd (by assumption) | grind [getD_set, getD_rep, toNat_succ, cntN_yes, cntN_no])
                  refine req_i ?_ ?_
                  · -- r97
                    first | omega | assumption | grind
                  refine req_i ?_ ?_
                  · -- r98
                    first | omega | assumption | grind
                  refine req_i ?_ ?_
                  · -- r99
                    first | omega | assumption | grind
                  refine req_i ?_ ?_
                  · -- r100
                    first | omega | assumption | grind
                  refine req_i ?_ ?_
                  · -- r101
                    first | omega | ((try simp only [sigQuan, quanPost, List.cons.injEq, DV.b.injEq, and_true, List.length_cons, List.length_nil]); first | done | omega | assumption | grind [getD_set, getD_rep, toNat_succ, cntN_yes, cntN_no])
                  refine all_i fun l35 => ?_
                  refine imp_i fun h102 => ?_
                  refine imp_i fun h103 => ?_
                  refine all_i fun l36 => ?_
                  refine imp_i fun h104 => ?_
                  have tkl36 := take_eq h104
                  try simp only [tkl36]
                  refine imp_i fun h105 => ?_
                  refine all_i fun n37 => ?_
                  refine imp_i fun h106 => ?_
                  refine imp_i fun h107 => ?_
                  refine all_i fun n38 => ?_
                  refine imp_i fun h108 => ?_
                  refine imp_i fun h109 => ?_
                  refine imp_i fun h110 => ?_
                  try simp only [Int.toNat_natCast, List.length_set, List.length_replicate, List.length_take, List.length_drop, List.length_append, List.length_cons, List.length_nil, Nat.min_self, List.take_take, lenCols_i, lenCols_b, List.drop_zero, List.take_length, Nat.add_eq, Nat.mul_eq, Nat.sub_eq, Nat.zero_add, Nat.sub_zero, Nat.mul_one] at h110
                  have Q := quan1 (by omega) (by omega) (by omega) (by omega) (by omega) h110
                  refine req_i ?_ ?_
                  · -- r102
                    first | omega | ((try simp only [Nat.mul_eq]); first | done | omega | assumption | grind [getD_set, getD_rep, toNat_succ, cntN_yes, cntN_no])
                  refine req_i ?_ ?_
                  · -- r103
                    first | omega | ((try simp only [Nat.zero_add]); first | done | omega | assumption | grind [getD_set, getD_rep, toNat_succ, cntN_yes, cntN_no])
                  refine req_i ?_ ?_
                  · -- r104
                    first | omega | ((try simp only [List.length_take, List.take_length, List.take_take, Nat.min_self, List.length_drop, List.drop_zero, List.length_cons, List.length_nil]); first | done | omega | assumption | grind [getD_set, getD_rep, toNat_succ, cntN_yes, cntN_no])
                  refine req_i ?_ ?_
                  · -- r105
                    first | assumption | exact rep_bd (by omega) (by omega) | exact set_bd (by assumption) (by omega) (by omega) | exact take_bd (by assumption) | ((try simp only [List.length_take, List.take_length, List.take_take, Nat.min_self, List.length_drop, List.drop_zero, List.length_cons, List.length_nil]); first | assumption | exact rep_bd (by omega) (by omega) | exact set_bd (by assumption) (by omega) (by omega) | exact take_bd (by assumption) | grind [getD_set, getD_rep, toNat_succ, cntN_yes, cntN_no])
                  refine req_i ?_ ?_
                  · -- r106
                    first | omega | ((try simp only [List.length_take, List.take_length, List.take_take, Nat.min_self, List.length_drop, List.drop_zero, List.length_cons, List.length_nil]); first | done | omega | assumption | grind [getD_set, getD_rep, toNat_succ, cntN_yes, cntN_no])
                  refine req_i ?_ ?_
                  · -- r107
                    first | assumption | exact rep_bd (by omega) (by omega) | exact set_bd (by assumption) (by omega) (by omega) | exact take_bd (by assumption) | ((try simp only [List.length_take, List.take_length, List.take_take, Nat.min_self, List.length_drop, List.drop_zero, List.length_cons, List.length_nil]); first | assumption | exact rep_bd (by omega) (by omega) | exact set_bd (by assumption) (by omega) (by omega) | exact take_bd (by assumption) | grind [getD_set, getD_rep, toNat_succ, cntN_yes, cntN_no])
                  refine req_i ?_ ?_
                  · -- r108
                    first | omega | assumption | grind
                  refine req_i ?_ ?_
                  · -- r109
                    first | omega | assumption | grind
                  refine req_i ?_ ?_
                  · -- r110
                    first | omega | assumption | grind
                  refine req_i ?_ ?_
                  · -- r111
                    first | omega | assumption | grind
                  refine req_i ?_ ?_
                  · -- r112
                    first | omega | ((try simp only [sigRest, restPost, List.cons.injEq, DV.b.injEq, and_true, List.length_take, List.take_length, List.take_take, Nat.min_self, List.length_drop, List.drop_zero, List.length_cons, List.length_nil]); first | done | omega | assumption | grind [getD_set, getD_rep, toNat_succ, cntN_yes, cntN_no])
                  refine all_i fun l39 => ?_
                  refine imp_i fun h111 => ?_
                  refine imp_i fun h112 => ?_
                  refine all_i fun l40 => ?_
                  refine imp_i fun h113 => ?_
                  have tkl40 := take_eq h113
                  try simp only [tkl40]
                  refine imp_i fun h114 => ?_
                  refine all_i fun n41 => ?_
                  refine imp_i fun h115 => ?_
                  refine imp_i fun h116 => ?_
                  refine imp_i fun h117 => ?_
                  try simp only [Int.toNat_natCast, List.length_set, List.length_replicate, List.length_take, List.length_drop, List.length_append, List.length_cons, List.length_nil, Nat.min_self, List.take_take, lenCols_i, lenCols_b, List.drop_zero, List.take_length, Nat.add_eq, Nat.mul_eq, Nat.sub_eq, Nat.zero_add, Nat.sub_zero, Nat.mul_one] at h117
                  have R := rest1 (by omega) (by omega) (by omega) (by omega) (by omega) (by omega) h117
                  rw [Q.2.2.1, Q.2.2.2.1, ← h26.1, ← h36.1] at R
                  refine bR_dec (fun h118 => ?_) (fun h118 => ?_)
                  ·
                    refine req_i ?_ ?_
                    · -- r113
                      first | omega | ((try simp only [sigQE, List.cons.injEq, DV.b.injEq, and_true, List.length_cons, List.length_nil]); first | done | omega | assumption | grind [getD_set, getD_rep, toNat_succ, cntN_yes, cntN_no])
                    rfl
                  ·
                    refine bR_dec (fun h119 => ?_) (fun h119 => ?_)
                    ·
                      refine req_i ?_ ?_
                      · -- r114
                        first | omega | ((try simp only [sigQE, List.cons.injEq, DV.b.injEq, and_true, List.length_cons, List.length_nil]); first | done | omega | assumption | grind [getD_set, getD_rep, toNat_succ, cntN_yes, cntN_no])
                      rfl
                    ·
                      refine bR_dec (fun h120 => ?_) (fun h120 => ?_)
                      ·
                        refine req_i ?_ ?_
                        · -- r115
                          first | omega | ((try simp only [sigQE, List.cons.injEq, DV.b.injEq, and_true, List.length_cons, List.length_nil]); first | done | omega | assumption | grind [getD_set, getD_rep, toNat_succ, cntN_yes, cntN_no])
                        rfl
                      ·
                        refine bR_i (fun h121 => ?_) (fun h121 => ?_)
                        ·
                          have lxh121 := h26.2.1.1 h121
                          refine bR_i (fun h122 => ?_) (fun h122 => ?_)
                          ·
                            simp only [bR_iff, bR_iff_f, dec_iff, dec_f, Bool.false_eq_true, Bool.true_eq_false, false_implies, imp_false, and_true, true_and, implies_true, Classical.not_not] at h122
                            refine req_i ?_ ?_
                            · -- r116
                              first | omega | ((try simp only [sigQE, List.cons.injEq, DV.b.injEq, and_true, List.length_cons, List.length_nil]); first | done | omega | assumption | grind [getD_set, getD_rep, toNat_succ, cntN_yes, cntN_no])
                            rfl
                          ·
                            simp only [bR_iff, bR_iff_f, dec_iff, dec_f, Bool.false_eq_true, Bool.true_eq_false, false_implies, imp_false, and_true, true_and, implies_true, Classical.not_not] at h122
                            refine req_i ?_ ?_
                            · -- r117
                              first | omega | ((try simp only [Nat.zero_add]); first | done | omega | assumption | grind [getD_set, getD_rep, toNat_succ, cntN_yes, cntN_no])
                            refine req_i ?_ ?_
                            · -- r118
                              first | omega | ((try simp only [Nat.zero_add]); first | done | omega | assumption | grind [getD_set, getD_rep, toNat_succ, cntN_yes, cntN_no])
                            refine all_i fun n42 => ?_
                            refine imp_i fun h123 => ?_
                            simp only [wrap_i64] at h123
                            refine imp_i fun h124 => ?_
                            refine imp_i fun h125 => ?_
                            refine bR_i (fun h126 => ?_) (fun h126 => ?_)
                            ·
                              refine req_i ?_ ?_
                              · -- r119
                                first | omega | ((try simp only [Nat.zero_add]); first | done | omega | assumption | grind [getD_set, getD_rep, toNat_succ, cntN_yes, cntN_no])
                              refine req_i ?_ ?_
                              · -- r120
                                first | omega | ((try simp only [Nat.zero_add]); first | done | omega | assumption | grind [getD_set, getD_rep, toNat_succ, cntN_yes, cntN_no])
                              refine all_i fun n43 => ?_
                              refine imp_i fun h127 => ?_
                              simp only [wrap_i64] at h127
                              refine imp_i fun h128 => ?_
                              refine imp_i fun h129 => ?_
                              refine bR_dec (fun h130 => ?_) (fun h130 => ?_)
                              ·
                                refine req_i ?_ ?_
                                · -- r121
                                  first | omega | ((try simp only [Nat.zero_add]); first | done | omega | assumption | grind [getD_set, getD_rep, toNat_succ, cntN_yes, cntN_no])
                                refine req_i ?_ ?_
                                · -- r122
                                  first | omega | ((try simp only [Nat.zero_add]); first | done | omega | assumption | grind [getD_set, getD_rep, toNat_succ, cntN_yes, cntN_no])
                                refine all_i fun n44 => ?_
                                refine imp_i fun h131 => ?_
                                simp only [wrap_i64] at h131
                                refine imp_i fun h132 => ?_
                                refine imp_i fun h133 => ?_
                                refine bR_dec (fun h134 => ?_) (fun h134 => ?_)
                                ·
                                  refine bR_i (fun h135 => ?_) (fun h135 => absurd (h121.symm.trans h135) (by decide))
                                  refine req_i ?_ ?_
                                  · -- r123
                                    first | omega | ((try simp only [sigQE, List.cons.injEq, DV.b.injEq, and_true, List.length_cons, List.length_nil]); first | done | omega | assumption | grind [getD_set, getD_rep, toNat_succ, cntN_yes, cntN_no])
                                  rfl
                                ·
                                  refine req_i ?_ ?_
                                  · -- r124
                                    first | omega | ((try simp only [sigQE, List.cons.injEq, DV.b.injEq, and_true, List.length_cons, List.length_nil]); first | done | omega | assumption | grind [getD_set, getD_rep, toNat_succ, cntN_yes, cntN_no])
                                  rfl
                              ·
                                refine req_i ?_ ?_
                                · -- r125
                                  first | omega | ((try simp only [sigQE, List.cons.injEq, DV.b.injEq, and_true, List.length_cons, List.length_nil]); first | done | omega | assumption | grind [getD_set, getD_rep, toNat_succ, cntN_yes, cntN_no])
                                rfl
                            ·
                              refine req_i ?_ ?_
                              · -- r126
                                first | omega | ((try simp only [sigQE, List.cons.injEq, DV.b.injEq, and_true, List.length_cons, List.length_nil]); first | done | omega | assumption | grind [getD_set, getD_rep, toNat_succ, cntN_yes, cntN_no])
                              rfl
                        ·
                          have lxh121 := mt h26.2.1.2 (by rw [h121]; decide)
                          have lyh121 : n9 = hv (n7 - 1099511627776) n6 := by omega
                          rw [← lyh121] at nr
                          refine bR_i (fun h136 => ?_) (fun h136 => ?_)
                          ·
                            simp only [bR_iff, bR_iff_f, dec_iff, dec_f, Bool.false_eq_true, Bool.true_eq_false, false_implies, imp_false, and_true, true_and, implies_true, Classical.not_not] at h136
                            refine req_i ?_ ?_
                            · -- r127
                              first | omega | ((try simp only [sigQE, List.cons.injEq, DV.b.injEq, and_true, List.length_cons, List.length_nil]); first | done | omega | assumption | grind [getD_set, getD_rep, toNat_succ, cntN_yes, cntN_no])
                            rfl
                          ·
                            simp only [bR_iff, bR_iff_f, dec_iff, dec_f, Bool.false_eq_true, Bool.true_eq_false, false_implies, imp_false, and_true, true_and, implies_true, Classical.not_not] at h136
                            refine req_i ?_ ?_
                            · -- r128
                              first | omega | ((try simp only [Nat.zero_add]); first | done | omega | assumption | grind [getD_set, getD_rep, toNat_succ, cntN_yes, cntN_no])
                            refine req_i ?_ ?_
                            · -- r129
                              first | omega | ((try simp only [Nat.zero_add]); first | done | omega | assumption | grind [getD_set, getD_rep, toNat_succ, cntN_yes, cntN_no])
                            refine all_i fun n46 => ?_
                            refine imp_i fun h137 => ?_
                            simp only [wrap_i64] at h137
                            refine imp_i fun h138 => ?_
                            refine imp_i fun h139 => ?_
                            refine bR_i (fun h140 => ?_) (fun h140 => ?_)
                            ·
                              refine req_i ?_ ?_
                              · -- r130
                                first | omega | ((try simp only [Nat.zero_add]); first | done | omega | assumption | grind [getD_set, getD_rep, toNat_succ, cntN_yes, cntN_no])
                              refine req_i ?_ ?_
                              · -- r131
                                first | omega | ((try simp only [Nat.zero_add]); first | done | omega | assumption | grind [getD_set, getD_rep, toNat_succ, cntN_yes, cntN_no])
                              refine all_i fun n47 => ?_
                              refine imp_i fun h141 => ?_
                              simp only [wrap_i64] at h141
                              refine imp_i fun h142 => ?_
                              refine imp_i fun h143 => ?_
                              refine bR_dec (fun h144 => ?_) (fun h144 => ?_)
                              ·
                                refine req_i ?_ ?_
                                · -- r132
                                  first | omega | ((try simp only [Nat.zero_add]); first | done | omega | assumption | grind [getD_set, getD_rep, toNat_succ, cntN_yes, cntN_no])
                                refine req_i ?_ ?_
                                · -- r133
                                  first | omega | ((try simp only [Nat.zero_add]); first | done | omega | assumption | grind [getD_set, getD_rep, toNat_succ, cntN_yes, cntN_no])
                                refine all_i fun n48 => ?_
                                refine imp_i fun h145 => ?_
                                simp only [wrap_i64] at h145
                                refine imp_i fun h146 => ?_
                                refine imp_i fun h147 => ?_
                                refine bR_dec (fun h148 => ?_) (fun h148 => ?_)
                                ·
                                  refine bR_i (fun h149 => absurd (h149.symm.trans h121) (by decide)) (fun h149 => ?_)
                                  refine all_i fun n49 => ?_
                                  refine imp_i fun h150 => ?_
                                  simp only [wrap_i64] at h150
                                  refine imp_i fun h151 => ?_
                                  refine imp_i fun h152 => ?_
                                  refine req_i ?_ ?_
                                  · -- r134
                                    first | omega | ((try simp only [sigQE, List.cons.injEq, DV.b.injEq, and_true, List.length_cons, List.length_nil, dec_iff]); first | done | omega | assumption | grind [getD_set, getD_rep, toNat_succ, cntN_yes, cntN_no])
                                  rfl
                                ·
                                  refine req_i ?_ ?_
                                  · -- r135
                                    first | omega | ((try simp only [sigQE, List.cons.injEq, DV.b.injEq, and_true, List.length_cons, List.length_nil]); first | done | omega | assumption | grind [getD_set, getD_rep, toNat_succ, cntN_yes, cntN_no])
                                  rfl
                              ·
                                refine req_i ?_ ?_
                                · -- r136
                                  first | omega | ((try simp only [sigQE, List.cons.injEq, DV.b.injEq, and_true, List.length_cons, List.length_nil]); first | done | omega | assumption | grind [getD_set, getD_rep, toNat_succ, cntN_yes, cntN_no])
                                rfl
                            ·
                              refine req_i ?_ ?_
                              · -- r137
                                first | omega | ((try simp only [sigQE, List.cons.injEq, DV.b.injEq, and_true, List.length_cons, List.length_nil]); first | done | omega | assumption | grind [getD_set, getD_rep, toNat_succ, cntN_yes, cntN_no])
                              rfl
            ·
              refine bR_dec (fun h153 => ?_) (fun h153 => ?_)
              ·
                refine bR_dec (fun h154 => ?_) (fun h154 => ?_)
                ·
                  refine req_i ?_ ?_
                  · -- r138
                    first | omega | ((try simp only [sigQE, List.cons.injEq, DV.b.injEq, and_true, List.length_cons, List.length_nil]); first | done | omega | assumption | grind [getD_set, getD_rep, toNat_succ, cntN_yes, cntN_no])
                  rfl
                ·
                  refine req_i ?_ ?_
                  · -- r139
                    first | omega | assumption | grind
                  refine req_i ?_ ?_
                  · -- r140
                    first | omega | ((try simp only [List.length_cons, List.length_nil]); first | done | omega | assumption | grind [getD_set, getD_rep, toNat_succ, cntN_yes, cntN_no])
                  refine req_i ?_ ?_
                  · -- r141
                    first | assumption | exact rep_bd (by omega) (by omega) | exact set_bd (by assumption) (by omega) (by omega) | exact take_bd (by assumption) | ((try simp only [List.length_cons, List.length_nil]); first | assumption | exact rep_bd (by omega) (by omega) | exact set_bd (by assumption) (by omega) (by omega) | exact take_bd (by assumption) | grind [getD_set, getD_rep, toNat_succ, cntN_yes, cntN_no])
                  refine req_i ?_ ?_
                  · -- r142
                    first | omega | ((try simp only [List.length_cons, List.length_nil]); first | done | omega | assumption | grind [getD_set, getD_rep, toNat_succ, cntN_yes, cntN_no])
                  refine req_i ?_ ?_
                  · -- r143
                    first | assumption | exact rep_bd (by omega) (by omega) | exact set_bd (by assumption) (by omega) (by omega) | exact take_bd (by assumption) | ((try simp only [List.length_cons, List.length_nil]); first | assumption | exact rep_bd (by omega) (by omega) | exact set_bd (by assumption) (by omega) (by omega) | exact take_bd (by assumption) | grind [getD_set, getD_rep, toNat_succ, cntN_yes, cntN_no])
                  refine req_i ?_ ?_
                  · -- r144
                    first | omega | assumption | grind
                  refine req_i ?_ ?_
                  · -- r145
                    first | omega | assumption | grind
                  refine req_i ?_ ?_
                  · -- r146
                    first | omega | assumption | grind
                  refine req_i ?_ ?_
                  · -- r147
                    first | omega | assumption | grind
                  refine req_i ?_ ?_
                  · -- r148
                    first | omega | ((try simp only [sigQuan, quanPost, List.cons.injEq, DV.b.injEq, and_true, List.length_cons, List.length_nil]); first | done | omega | assumption | grind [getD_set, getD_rep, toNat_succ, cntN_yes, cntN_no])
                  refine all_i fun l50 => ?_
                  refine imp_i fun h155 => ?_
                  refine imp_i fun h156 => ?_
                  refine all_i fun l51 => ?_
                  refine imp_i fun h157 => ?_
                  have tkl51 := take_eq h157
                  try simp only [tkl51]
                  refine imp_i fun h158 => ?_
                  refine all_i fun n52 => ?_
                  refine imp_i fun h159 => ?_
                  refine imp_i fun h160 => ?_
                  refine all_i fun n53 => ?_
                  refine imp_i fun h161 => ?_
                  refine imp_i fun h162 => ?_
                  refine imp_i fun h163 => ?_
                  try simp only [Int.toNat_natCast, List.length_set, List.length_replicate, List.length_take, List.length_drop, List.length_append, List.length_cons, List.length_nil, Nat.min_self, List.take_take, lenCols_i, lenCols_b, List.drop_zero, List.take_length, Nat.add_eq, Nat.mul_eq, Nat.sub_eq, Nat.zero_add, Nat.sub_zero, Nat.mul_one] at h163
                  have Q := quan1 (by omega) (by omega) (by omega) (by omega) (by omega) h163
                  refine req_i ?_ ?_
                  · -- r149
                    first | omega | ((try simp only [Nat.mul_eq]); first | done | omega | assumption | grind [getD_set, getD_rep, toNat_succ, cntN_yes, cntN_no])
                  refine req_i ?_ ?_
                  · -- r150
                    first | omega | ((try simp only [Nat.zero_add]); first | done | omega | assumption | grind [getD_set, getD_rep, toNat_succ, cntN_yes, cntN_no])
                  refine req_i ?_ ?_
                  · -- r151
                    first | omega | ((try simp only [List.length_take, List.take_length, List.take_take, Nat.min_self, List.length_drop, List.drop_zero, List.length_cons, List.length_nil]); first | done | omega | assumption | grind [getD_set, getD_rep, toNat_succ, cntN_yes, cntN_no])
                  refine req_i ?_ ?_
                  · -- r152
                    first | assumption | exact rep_bd (by omega) (by omega) | exact set_bd (by assumption) (by omega) (by omega) | exact take_bd (by assumption) | ((try simp only [List.length_take, List.take_length, List.take_take, Nat.min_self, List.length_drop, List.drop_zero, List.length_cons, List.length_nil]); first | assumption | exact rep_bd (by omega) (by omega) | exact set_bd (by assumption) (by omega) (by omega) | exact take_bd (by assumption) | grind [getD_set, getD_rep, toNat_succ, cntN_yes, cntN_no])
                  refine req_i ?_ ?_
                  · -- r153
                    first | omega | ((try simp only [List.length_take, List.take_length, List.take_take, Nat.min_self, List.length_drop, List.drop_zero, List.length_cons, List.length_nil]); first | done | omega | assumption | grind [getD_set, getD_rep, toNat_succ, cntN_yes, cntN_no])
                  refine req_i ?_ ?_
                  · -- r154
                    first | assumption | exact rep_bd (by omega) (by omega) | exact set_bd (by assumption) (by omega) (by omega) | exact take_bd (by assumption) | ((try simp only [List.length_take, List.take_length, List.take_take, Nat.min_self, List.length_drop, List.drop_zero, List.length_cons, List.length_nil]); first | assumption | exact rep_bd (by omega) (by omega) | exact set_bd (by assumption) (by omega) (by omega) | exact take_bd (by assumption) | grind [getD_set, getD_rep, toNat_succ, cntN_yes, cntN_no])
                  refine req_i ?_ ?_
                  · -- r155
                    first | omega | assumption | grind
                  refine req_i ?_ ?_
                  · -- r156
                    first | omega | assumption | grind
                  refine req_i ?_ ?_
                  · -- r157
                    first | omega | assumption | grind
                  refine req_i ?_ ?_
                  · -- r158
                    first | omega | assumption | grind
                  refine req_i ?_ ?_
                  · -- r159
                    first | omega | ((try simp only [sigRest, restPost, List.cons.injEq, DV.b.injEq, and_true, List.length_take, List.take_length, List.take_take, Nat.min_self, List.length_drop, List.drop_zero, List.length_cons, List.length_nil]); first | done | omega | assumption | grind [getD_set, getD_rep, toNat_succ, cntN_yes, cntN_no])
                  refine all_i fun l54 => ?_
                  refine imp_i fun h164 => ?_
                  refine imp_i fun h165 => ?_
                  refine all_i fun l55 => ?_
                  refine imp_i fun h166 => ?_
                  have tkl55 := take_eq h166
                  try simp only [tkl55]
                  refine imp_i fun h167 => ?_
                  refine all_i fun n56 => ?_
                  refine imp_i fun h168 => ?_
                  refine imp_i fun h169 => ?_
                  refine imp_i fun h170 => ?_
                  try simp only [Int.toNat_natCast, List.length_set, List.length_replicate, List.length_take, List.length_drop, List.length_append, List.length_cons, List.length_nil, Nat.min_self, List.take_take, lenCols_i, lenCols_b, List.drop_zero, List.take_length, Nat.add_eq, Nat.mul_eq, Nat.sub_eq, Nat.zero_add, Nat.sub_zero, Nat.mul_one] at h170
                  have R := rest1 (by omega) (by omega) (by omega) (by omega) (by omega) (by omega) h170
                  rw [Q.2.2.1, Q.2.2.2.1, ← h26.1, ← h36.1] at R
                  refine bR_dec (fun h171 => ?_) (fun h171 => ?_)
                  ·
                    refine req_i ?_ ?_
                    · -- r160
                      first | omega | ((try simp only [sigQE, List.cons.injEq, DV.b.injEq, and_true, List.length_cons, List.length_nil]); first | done | omega | assumption | grind [getD_set, getD_rep, toNat_succ, cntN_yes, cntN_no])
                    rfl
                  ·
                    refine bR_dec (fun h172 => ?_) (fun h172 => ?_)
                    ·
                      refine req_i ?_ ?_
                      · -- r161
                        first | omega | ((try simp only [sigQE, List.cons.injEq, DV.b.injEq, and_true, List.length_cons, List.length_nil]); first | done | omega | assumption | grind [getD_set, getD_rep, toNat_succ, cntN_yes, cntN_no])
                      rfl
                    ·
                      refine bR_dec (fun h173 => ?_) (fun h173 => ?_)
                      ·
                        refine req_i ?_ ?_
                        · -- r162
                          first | omega | ((try simp only [sigQE, List.cons.injEq, DV.b.injEq, and_true, List.length_cons, List.length_nil]); first | done | omega | assumption | grind [getD_set, getD_rep, toNat_succ, cntN_yes, cntN_no])
                        rfl
                      ·
                        refine bR_i (fun h174 => ?_) (fun h174 => ?_)
                        ·
                          have lxh174 := h26.2.1.1 h174
                          refine bR_i (fun h175 => ?_) (fun h175 => ?_)
                          ·
                            simp only [bR_iff, bR_iff_f, dec_iff, dec_f, Bool.false_eq_true, Bool.true_eq_false, false_implies, imp_false, and_true, true_and, implies_true, Classical.not_not] at h175
                            refine req_i ?_ ?_
                            · -- r163
                              first | omega | ((try simp only [sigQE, List.cons.injEq, DV.b.injEq, and_true, List.length_cons, List.length_nil]); first | done | omega | assumption | grind [getD_set, getD_rep, toNat_succ, cntN_yes, cntN_no])
                            rfl
                          ·
                            simp only [bR_iff, bR_iff_f, dec_iff, dec_f, Bool.false_eq_true, Bool.true_eq_false, false_implies, imp_false, and_true, true_and, implies_true, Classical.not_not] at h175
                            refine req_i ?_ ?_
                            · -- r164
                              first | omega | ((try simp only [Nat.zero_add]); first | done | omega | assumption | grind [getD_set, getD_rep, toNat_succ, cntN_yes, cntN_no])
                            refine req_i ?_ ?_
                            · -- r165
                              first | omega | ((try simp only [Nat.zero_add]); first | done | omega | assumption | grind [getD_set, getD_rep, toNat_succ, cntN_yes, cntN_no])
                            refine all_i fun n57 => ?_
                            refine imp_i fun h176 => ?_
                            simp only [wrap_i64] at h176
                            refine imp_i fun h177 => ?_
                            refine imp_i fun h178 => ?_
                            refine bR_i (fun h179 => ?_) (fun h179 => ?_)
                            ·
                              refine req_i ?_ ?_
                              · -- r166
                                first | omega | ((try simp only [Nat.zero_add]); first | done | omega | assumption | grind [getD_set, getD_rep, toNat_succ, cntN_yes, cntN_no])
                              refine req_i ?_ ?_
                              · -- r167
                                first | omega | ((try simp only [Nat.zero_add]); first | done | omega | assumption | grind [getD_set, getD_rep, toNat_succ, cntN_yes, cntN_no])
                              refine all_i fun n58 => ?_
                              refine imp_i fun h180 => ?_
                              simp only [wrap_i64] at h180
                              refine imp_i fun h181 => ?_
                              refine imp_i fun h182 => ?_
                              refine bR_dec (fun h183 => ?_) (fun h183 => ?_)
                              ·
                                refine req_i ?_ ?_
                                · -- r168
                                  first | omega | ((try simp only [Nat.zero_add]); first | done | omega | assumption | grind [getD_set, getD_rep, toNat_succ, cntN_yes, cntN_no])
                                refine req_i ?_ ?_
                                · -- r169
                                  first | omega | ((try simp only [Nat.zero_add]); first | done | omega | assumption | grind [getD_set, getD_rep, toNat_succ, cntN_yes, cntN_no])
                                refine all_i fun n59 => ?_
                                refine imp_i fun h184 => ?_
                                simp only [wrap_i64] at h184
                                refine imp_i fun h185 => ?_
                                refine imp_i fun h186 => ?_
                                refine bR_dec (fun h187 => ?_) (fun h187 => ?_)
                                ·
                                  refine bR_i (fun h188 => ?_) (fun h188 => absurd (h174.symm.trans h188) (by decide))
                                  refine req_i ?_ ?_
                                  · -- r170
                                    first | omega | ((try simp only [sigQE, List.cons.injEq, DV.b.injEq, and_true, List.length_cons, List.length_nil]); first | done | omega | assumption | grind [getD_set, getD_rep, toNat_succ, cntN_yes, cntN_no])
                                  rfl
                                ·
                                  refine req_i ?_ ?_
                                  · -- r171
                                    first | omega | ((try simp only [sigQE, List.cons.injEq, DV.b.injEq, and_true, List.length_cons, List.length_nil]); first | done | omega | assumption | grind [getD_set, getD_rep, toNat_succ, cntN_yes, cntN_no])
                                  rfl
                              ·
                                refine req_i ?_ ?_
                                · -- r172
                                  first | omega | ((try simp only [sigQE, List.cons.injEq, DV.b.injEq, and_true, List.length_cons, List.length_nil]); first | done | omega | assumption | grind [getD_set, getD_rep, toNat_succ, cntN_yes, cntN_no])
                                rfl
                            ·
                              refine req_i ?_ ?_
                              · -- r173
                                first | omega | ((try simp only [sigQE, List.cons.injEq, DV.b.injEq, and_true, List.length_cons, List.length_nil]); first | done | omega | assumption | grind [getD_set, getD_rep, toNat_succ, cntN_yes, cntN_no])
                              rfl
                        ·
                          have lxh174 := mt h26.2.1.2 (by rw [h174]; decide)
                          have lyh174 : n9 = hv (n7 - 1099511627776) n6 := by omega
                          rw [← lyh174] at nr
                          refine bR_i (fun h189 => ?_) (fun h189 => ?_)
                          ·
                            simp only [bR_iff, bR_iff_f, dec_iff, dec_f, Bool.false_eq_true, Bool.true_eq_false, false_implies, imp_false, and_true, true_and, implies_true, Classical.not_not] at h189
                            refine req_i ?_ ?_
                            · -- r174
                              first | omega | ((try simp only [sigQE, List.cons.injEq, DV.b.injEq, and_true, List.length_cons, List.length_nil]); first | done | omega | assumption | grind [getD_set, getD_rep, toNat_succ, cntN_yes, cntN_no])
                            rfl
                          ·
                            simp only [bR_iff, bR_iff_f, dec_iff, dec_f, Bool.false_eq_true, Bool.true_eq_false, false_implies, imp_false, and_true, true_and, implies_true, Classical.not_not] at h189
                            refine req_i ?_ ?_
                            · -- r175
                              first | omega | ((try simp only [Nat.zero_add]); first | done | omega | assumption | grind [getD_set, getD_rep, toNat_succ, cntN_yes, cntN_no])
                            refine req_i ?_ ?_
                            · -- r176
                              first | omega | ((try simp only [Nat.zero_add]); first | done | omega | assumption | grind [getD_set, getD_rep, toNat_succ, cntN_yes, cntN_no])
                            refine all_i fun n61 => ?_
                            refine imp_i fun h190 => ?_
                            simp only [wrap_i64] at h190
                            refine imp_i fun h191 => ?_
                            refine imp_i fun h192 => ?_
                            refine bR_i (fun h193 => ?_) (fun h193 => ?_)
                            ·
                              refine req_i ?_ ?_
                              · -- r177
                                first | omega | ((try simp only [Nat.zero_add]); first | done | omega | assumption | grind [getD_set, getD_rep, toNat_succ, cntN_yes, cntN_no])
                              refine req_i ?_ ?_
                              · -- r178
                                first | omega | ((try simp only [Nat.zero_add]); first | done | omega | assumption | grind [getD_set, getD_rep, toNat_succ, cntN_yes, cntN_no])
                              refine all_i fun n62 => ?_
                              refine imp_i fun h194 => ?_
                              simp only [wrap_i64] at h194
                              refine imp_i fun h195 => ?_
                              refine imp_i fun h196 => ?_
                              refine bR_dec (fun h197 => ?_) (fun h197 => ?_)
                              ·
                                refine req_i ?_ ?_
                                · -- r179
                                  first | omega | ((try simp only [Nat.zero_add]); first | done | omega | assumption | grind [getD_set, getD_rep, toNat_succ, cntN_yes, cntN_no])
                                refine req_i ?_ ?_
                                · -- r180
                                  first | omega | ((try simp only [Nat.zero_add]); first | done | omega | assumption | grind [getD_set, getD_rep, toNat_succ, cntN_yes, cntN_no])
                                refine all_i fun n63 => ?_
                                refine imp_i fun h198 => ?_
                                simp only [wrap_i64] at h198
                                refine imp_i fun h199 => ?_
                                refine imp_i fun h200 => ?_
                                refine bR_dec (fun h201 => ?_) (fun h201 => ?_)
                                ·
                                  refine bR_i (fun h202 => absurd (h202.symm.trans h174) (by decide)) (fun h202 => ?_)
                                  refine all_i fun n64 => ?_
                                  refine imp_i fun h203 => ?_
                                  simp only [wrap_i64] at h203
                                  refine imp_i fun h204 => ?_
                                  refine imp_i fun h205 => ?_
                                  refine req_i ?_ ?_
                                  · -- r181
                                    first | omega | ((try simp only [sigQE, List.cons.injEq, DV.b.injEq, and_true, List.length_cons, List.length_nil, dec_iff]); first | done | omega | assumption | grind [getD_set, getD_rep, toNat_succ, cntN_yes, cntN_no])
                                  rfl
                                ·
                                  refine req_i ?_ ?_
                                  · -- r182
                                    first | omega | ((try simp only [sigQE, List.cons.injEq, DV.b.injEq, and_true, List.length_cons, List.length_nil]); first | done | omega | assumption | grind [getD_set, getD_rep, toNat_succ, cntN_yes, cntN_no])
                                  rfl
                              ·
                                refine req_i ?_ ?_
                                · -- r183
                                  first | omega | ((try simp only [sigQE, List.cons.injEq, DV.b.injEq, and_true, List.length_cons, List.length_nil]); first | done | omega | assumption | grind [getD_set, getD_rep, toNat_succ, cntN_yes, cntN_no])
                                rfl
                            ·
                              refine req_i ?_ ?_
                              · -- r184
                                first | omega | ((try simp only [sigQE, List.cons.injEq, DV.b.injEq, and_true, List.length_cons, List.length_nil]); first | done | omega | assumption | grind [getD_set, getD_rep, toNat_succ, cntN_yes, cntN_no])
                              rfl
              ·
                refine req_i ?_ ?_
                · -- r185
                  first | omega | assumption | grind
                refine req_i ?_ ?_
                · -- r186
                  first | omega | ((try simp only [List.length_cons, List.length_nil]); first | done | omega | assumption | grind [getD_set, getD_rep, toNat_succ, cntN_yes, cntN_no])
                refine req_i ?_ ?_
                · -- r187
                  first | assumption | exact rep_bd (by omega) (by omega) | exact set_bd (by assumption) (by omega) (by omega) | exact take_bd (by assumption) | ((try simp only [List.length_cons, List.length_nil]); first | assumption | exact rep_bd (by omega) (by omega) | exact set_bd (by assumption) (by omega) (by omega) | exact take_bd (by assumption) | grind [getD_set, getD_rep, toNat_succ, cntN_yes, cntN_no])
                refine req_i ?_ ?_
                · -- r188
                  first | omega | ((try simp only [List.length_cons, List.length_nil]); first | done | omega | assumption | grind [getD_set, getD_rep, toNat_succ, cntN_yes, cntN_no])
                refine req_i ?_ ?_
                · -- r189
                  first | assumption | exact rep_bd (by omega) (by omega) | exact set_bd (by assumption) (by omega) (by omega) | exact take_bd (by assumption) | ((try simp only [List.length_cons, List.length_nil]); first | assumption | exact rep_bd (by omega) (by omega) | exact set_bd (by assumption) (by omega) (by omega) | exact take_bd (by assumption) | grind [getD_set, getD_rep, toNat_succ, cntN_yes, cntN_no])
                refine req_i ?_ ?_
                · -- r190
                  first | omega | assumption | grind
                refine req_i ?_ ?_
                · -- r191
                  first | omega | assumption | grind
                refine req_i ?_ ?_
                · -- r192
                  first | omega | assumption | grind
                refine req_i ?_ ?_
                · -- r193
                  first | omega | assumption | grind
                refine req_i ?_ ?_
                · -- r194
                  first | omega | ((try simp only [sigQuan, quanPost, List.cons.injEq, DV.b.injEq, and_true, List.length_cons, List.length_nil]); first | done | omega | assumption | grind [getD_set, getD_rep, toNat_succ, cntN_yes, cntN_no])
                refine all_i fun l65 => ?_
                refine imp_i fun h206 => ?_
                refine imp_i fun h207 => ?_
                refine all_i fun l66 => ?_
                refine imp_i fun h208 => ?_
                have tkl66 := take_eq h208
                try simp only [tkl66]
                refine imp_i fun h209 => ?_
                refine all_i fun n67 => ?_
                refine imp_i fun h210 => ?_
                refine imp_i fun h211 => ?_
                refine all_i fun n68 => ?_
                refine imp_i fun h212 => ?_
                refine imp_i fun h213 => ?_
                refine imp_i fun h214 => ?_
                try simp only [Int.toNat_natCast, List.length_set, List.length_replicate, List.length_take, List.length_drop, List.length_append, List.length_cons, List.length_nil, Nat.min_self, List.take_take, lenCols_i, lenCols_b, List.drop_zero, List.take_length, Nat.add_eq, Nat.mul_eq, Nat.sub_eq, Nat.zero_add, Nat.sub_zero, Nat.mul_one] at h214
                have Q := quan1 (by omega) (by omega) (by omega) (by omega) (by omega) h214
                refine req_i ?_ ?_
                · -- r195
                  first | omega | ((try simp only [Nat.mul_eq]); first | done | omega | assumption | grind [getD_set, getD_rep, toNat_succ, cntN_yes, cntN_no])
                refine req_i ?_ ?_
                · -- r196
                  first | omega | ((try simp only [Nat.zero_add]); first | done | omega | assumption | grind [getD_set, getD_rep, toNat_succ, cntN_yes, cntN_no])
                refine req_i ?_ ?_
                · -- r197
                  first | omega | ((try simp only [List.length_take, List.take_length, List.take_take, Nat.min_self, List.length_drop, List.drop_zero, List.length_cons, List.length_nil]); first | done | omega | assumption | grind [getD_set, getD_rep, toNat_succ, cntN_yes, cntN_no])
                refine req_i ?_ ?_
                · -- r198
                  first | assumption | exact rep_bd (by omega) (by omega) | exact set_bd (by assumption) (by omega) (by omega) | exact take_bd (by assumption) | ((try simp only [List.length_take, List.take_length, List.take_take, Nat.min_self, List.length_drop, List.drop_zero, List.length_cons, List.length_nil]); first | assumption | exact rep_bd (by omega) (by omega) | exact set_bd (by assumption) (by omega) (by omega) | exact take_bd (by assumption) | grind [getD_set, getD_rep, toNat_succ, cntN_yes, cntN_no])
                refine req_i ?_ ?_
                · -- r199
                  first | omega | ((try simp only [List.length_take, List.take_length, List.take_take, Nat.min_self, List.length_drop, List.drop_zero, List.length_cons, List.length_nil]); first | done | omega | assumption | grind [getD_set, getD_rep, toNat_succ, cntN_yes, cntN_no])
                refine req_i ?_ ?_
                · -- r200
                  first | assumption | exact rep_bd (by omega) (by omega) | exact set_bd (by assumption) (by omega) (by omega) | exact take_bd (by assumption) | ((try simp only [List.length_take, List.take_length, List.take_take, Nat.min_self, List.length_drop, List.drop_zero, List.length_cons, List.length_nil]); first | assumption | exact rep_bd (by omega) (by omega) | exact set_bd (by assumption) (by omega) (by omega) | exact take_bd (by assumption) | grind [getD_set, getD_rep, toNat_succ, cntN_yes, cntN_no])
                refine req_i ?_ ?_
                · -- r201
                  first | omega | assumption | grind
                refine req_i ?_ ?_
                · -- r202
                  first | omega | assumption | grind
                refine req_i ?_ ?_
                · -- r203
                  first | omega | assumption | grind
                refine req_i ?_ ?_
                · -- r204
                  first | omega | assumption | grind
                refine req_i ?_ ?_
                · -- r205
                  first | omega | ((try simp only [sigRest, restPost, List.cons.injEq, DV.b.injEq, and_true, List.length_take, List.take_length, List.take_take, Nat.min_self, List.length_drop, List.drop_zero, List.length_cons, List.length_nil]); first | done | omega | assumption | grind [getD_set, getD_rep, toNat_succ, cntN_yes, cntN_no])
                refine all_i fun l69 => ?_
                refine imp_i fun h215 => ?_
                refine imp_i fun h216 => ?_
                refine all_i fun l70 => ?_
                refine imp_i fun h217 => ?_
                have tkl70 := take_eq h217
                try simp only [tkl70]
                refine imp_i fun h218 => ?_
                refine all_i fun n71 => ?_
                refine imp_i fun h219 => ?_
                refine imp_i fun h220 => ?_
                refine imp_i fun h221 => ?_
                try simp only [Int.toNat_natCast, List.length_set, List.length_replicate, List.length_take, List.length_drop, List.length_append, List.length_cons, List.length_nil, Nat.min_self, List.take_take, lenCols_i, lenCols_b, List.drop_zero, List.take_length, Nat.add_eq, Nat.mul_eq, Nat.sub_eq, Nat.zero_add, Nat.sub_zero, Nat.mul_one] at h221
                have R := rest1 (by omega) (by omega) (by omega) (by omega) (by omega) (by omega) h221
                rw [Q.2.2.1, Q.2.2.2.1, ← h26.1, ← h36.1] at R
                refine bR_dec (fun h222 => ?_) (fun h222 => ?_)
                ·
                  refine req_i ?_ ?_
                  · -- r206
                    first | omega | ((try simp only [sigQE, List.cons.injEq, DV.b.injEq, and_true, List.length_cons, List.length_nil]); first | done | omega | assumption | grind [getD_set, getD_rep, toNat_succ, cntN_yes, cntN_no])
                  rfl
                ·
                  refine bR_dec (fun h223 => ?_) (fun h223 => ?_)
                  ·
                    refine req_i ?_ ?_
                    · -- r207
                      first | omega | ((try simp only [sigQE, List.cons.injEq, DV.b.injEq, and_true, List.length_cons, List.length_nil]); first | done | omega | assumption | grind [getD_set, getD_rep, toNat_succ, cntN_yes, cntN_no])
                    rfl
                  ·
                    refine bR_dec (fun h224 => ?_) (fun h224 => ?_)
                    ·
                      refine req_i ?_ ?_
                      · -- r208
                        first | omega | ((try simp only [sigQE, List.cons.injEq, DV.b.injEq, and_true, List.length_cons, List.length_nil]); first | done | omega | assumption | grind [getD_set, getD_rep, toNat_succ, cntN_yes, cntN_no])
                      rfl
                    ·
                      refine bR_i (fun h225 => ?_) (fun h225 => ?_)
                      ·
                        have lxh225 := h26.2.1.1 h225
                        refine bR_i (fun h226 => ?_) (fun h226 => ?_)
                        ·
                          simp only [bR_iff, bR_iff_f, dec_iff, dec_f, Bool.false_eq_true, Bool.true_eq_false, false_implies, imp_false, and_true, true_and, implies_true, Classical.not_not] at h226
                          refine req_i ?_ ?_
                          · -- r209
                            first | omega | ((try simp only [sigQE, List.cons.injEq, DV.b.injEq, and_true, List.length_cons, List.length_nil]); first | done | omega | assumption | grind [getD_set, getD_rep, toNat_succ, cntN_yes, cntN_no])
                          rfl
                        ·
                          simp only [bR_iff, bR_iff_f, dec_iff, dec_f, Bool.false_eq_true, Bool.true_eq_false, false_implies, imp_false, and_true, true_and, implies_true, Classical.not_not] at h226
                          refine req_i ?_ ?_
                          · -- r210
                            first | omega | ((try simp only [Nat.zero_add]); first | done | omega | assumption | grind [getD_set, getD_rep, toNat_succ, cntN_yes, cntN_no])
                          refine req_i ?_ ?_
                          · -- r211
                            first | omega | ((try simp only [Nat.zero_add]); first | done | omega | assumption | grind [getD_set, getD_rep, toNat_succ, cntN_yes, cntN_no])
                          refine all_i fun n72 => ?_
                          refine imp_i fun h227 => ?_
                          simp only [wrap_i64] at h227
                          refine imp_i fun h228 => ?_
                          refine imp_i fun h229 => ?_
                          refine bR_i (fun h230 => ?_) (fun h230 => ?_)
                          ·
                            refine req_i ?_ ?_
                            · -- r212
                              first | omega | ((try simp only [Nat.zero_add]); first | done | omega | assumption | grind [getD_set, getD_rep, toNat_succ, cntN_yes, cntN_no])
                            refine req_i ?_ ?_
                            · -- r213
                              first | omega | ((try simp only [Nat.zero_add]); first | done | omega | assumption | grind [getD_set, getD_rep, toNat_succ, cntN_yes, cntN_no])
                            refine all_i fun n73 => ?_
                            refine imp_i fun h231 => ?_
                            simp only [wrap_i64] at h231
                            refine imp_i fun h232 => ?_
                            refine imp_i fun h233 => ?_
                            refine bR_dec (fun h234 => ?_) (fun h234 => ?_)
                            ·
                              refine req_i ?_ ?_
                              · -- r214
                                first | omega | ((try simp only [Nat.zero_add]); first | done | omega | assumption | grind [getD_set, getD_rep, toNat_succ, cntN_yes, cntN_no])
                              refine req_i ?_ ?_
                              · -- r215
                                first | omega | ((try simp only [Nat.zero_add]); first | done | omega | assumption | grind [getD_set, getD_rep, toNat_succ, cntN_yes, cntN_no])
                              refine all_i fun n74 => ?_
                              refine imp_i fun h235 => ?_
                              simp only [wrap_i64] at h235
                              refine imp_i fun h236 => ?_
                              refine imp_i fun h237 => ?_
                              refine bR_dec (fun h238 => ?_) (fun h238 => ?_)
                              ·
                                refine bR_i (fun h239 => ?_) (fun h239 => absurd (h225.symm.trans h239) (by decide))
                                refine req_i ?_ ?_
                                · -- r216
                                  first | omega | ((try simp only [sigQE, List.cons.injEq, DV.b.injEq, and_true, List.length_cons, List.length_nil]); first | done | omega | assumption | grind [getD_set, getD_rep, toNat_succ, cntN_yes, cntN_no])
                                rfl
                              ·
                                refine req_i ?_ ?_
                                · -- r217
                                  first | omega | ((try simp only [sigQE, List.cons.injEq, DV.b.injEq, and_true, List.length_cons, List.length_nil]); first | done | omega | assumption | grind [getD_set, getD_rep, toNat_succ, cntN_yes, cntN_no])
                                rfl
                            ·
                              refine req_i ?_ ?_
                              · -- r218
                                first | omega | ((try simp only [sigQE, List.cons.injEq, DV.b.injEq, and_true, List.length_cons, List.length_nil]); first | done | omega | assumption | grind [getD_set, getD_rep, toNat_succ, cntN_yes, cntN_no])
                              rfl
                          ·
                            refine req_i ?_ ?_
                            · -- r219
                              first | omega | ((try simp only [sigQE, List.cons.injEq, DV.b.injEq, and_true, List.length_cons, List.length_nil]); first | done | omega | assumption | grind [getD_set, getD_rep, toNat_succ, cntN_yes, cntN_no])
                            rfl
                      ·
                        have lxh225 := mt h26.2.1.2 (by rw [h225]; decide)
                        have lyh225 : n9 = hv (n7 - 1099511627776) n6 := by omega
                        rw [← lyh225] at nr
                        refine bR_i (fun h240 => ?_) (fun h240 => ?_)
                        ·
                          simp only [bR_iff, bR_iff_f, dec_iff, dec_f, Bool.false_eq_true, Bool.true_eq_false, false_implies, imp_false, and_true, true_and, implies_true, Classical.not_not] at h240
                          refine req_i ?_ ?_
                          · -- r220
                            first | omega | ((try simp only [sigQE, List.cons.injEq, DV.b.injEq, and_true, List.length_cons, List.length_nil]); first | done | omega | assumption | grind [getD_set, getD_rep, toNat_succ, cntN_yes, cntN_no])
                          rfl
                        ·
                          simp only [bR_iff, bR_iff_f, dec_iff, dec_f, Bool.false_eq_true, Bool.true_eq_false, false_implies, imp_false, and_true, true_and, implies_true, Classical.not_not] at h240
                          refine req_i ?_ ?_
                          · -- r221
                            first | omega | ((try simp only [Nat.zero_add]); first | done | omega | assumption | grind [getD_set, getD_rep, toNat_succ, cntN_yes, cntN_no])
                          refine req_i ?_ ?_
                          · -- r222
                            first | omega | ((try simp only [Nat.zero_add]); first | done | omega | assumption | grind [getD_set, getD_rep, toNat_succ, cntN_yes, cntN_no])
                          refine all_i fun n76 => ?_
                          refine imp_i fun h241 => ?_
                          simp only [wrap_i64] at h241
                          refine imp_i fun h242 => ?_
                          refine imp_i fun h243 => ?_
                          refine bR_i (fun h244 => ?_) (fun h244 => ?_)
                          ·
                            refine req_i ?_ ?_
                            · -- r223
                              first | omega | ((try simp only [Nat.zero_add]); first | done | omega | assumption | grind [getD_set, getD_rep, toNat_succ, cntN_yes, cntN_no])
                            refine req_i ?_ ?_
                            · -- r224
                              first | omega | ((try simp only [Nat.zero_add]); first | done | omega | assumption | grind [getD_set, getD_rep, toNat_succ, cntN_yes, cntN_no])
                            refine all_i fun n77 => ?_
                            refine imp_i fun h245 => ?_
                            simp only [wrap_i64] at h245
                            refine imp_i fun h246 => ?_
                            refine imp_i fun h247 => ?_
                            refine bR_dec (fun h248 => ?_) (fun h248 => ?_)
                            ·
                              refine req_i ?_ ?_
                              · -- r225
                                first | omega | ((try simp only [Nat.zero_add]); first | done | omega | assumption | grind [getD_set, getD_rep, toNat_succ, cntN_yes, cntN_no])
                              refine req_i ?_ ?_
                              · -- r226
                                first | omega | ((try simp only [Nat.zero_add]); first | done | omega | assumption | grind [getD_set, getD_rep, toNat_succ, cntN_yes, cntN_no])
                              refine all_i fun n78 => ?_
                              refine imp_i fun h249 => ?_
                              simp only [wrap_i64] at h249
                              refine imp_i fun h250 => ?_
                              refine imp_i fun h251 => ?_
                              refine bR_dec (fun h252 => ?_) (fun h252 => ?_)
                              ·
                                refine bR_i (fun h253 => absurd (h253.symm.trans h225) (by decide)) (fun h253 => ?_)
                                refine all_i fun n79 => ?_
                                refine imp_i fun h254 => ?_
                                simp only [wrap_i64] at h254
                                refine imp_i fun h255 => ?_
                                refine imp_i fun h256 => ?_
                                refine req_i ?_ ?_
                                · -- r227
                                  first | omega | ((try simp only [sigQE, List.cons.injEq, DV.b.injEq, and_true, List.length_cons, List.length_nil, dec_iff]); first | done | omega | assumption | grind [getD_set, getD_rep, toNat_succ, cntN_yes, cntN_no])
                                rfl
                              ·
                                refine req_i ?_ ?_
                                · -- r228
                                  first | omega | ((try simp only [sigQE, List.cons.injEq, DV.b.injEq, and_true, List.length_cons, List.length_nil]); first | done | omega | assumption | grind [getD_set, getD_rep, toNat_succ, cntN_yes, cntN_no])
                                rfl
                            ·
                              refine req_i ?_ ?_
                              · -- r229
                                first | omega | ((try simp only [sigQE, List.cons.injEq, DV.b.injEq, and_true, List.length_cons, List.length_nil]); first | done | omega | assumption | grind [getD_set, getD_rep, toNat_succ, cntN_yes, cntN_no])
                              rfl
                          ·
                            refine req_i ?_ ?_
                            · -- r230
                              first | omega | ((try simp only [sigQE, List.cons.injEq, DV.b.injEq, and_true, List.length_cons, List.length_nil]); first | done | omega | assumption | grind [getD_set, getD_rep, toNat_succ, cntN_yes, cntN_no])
                            rfl
theorem ext_QuantError : ∀ p ∈ ([(3, Ext.ctr (ctOf sigTrue0)), (29, Ext.ctr (ctOf (sigPickN 4398046511104))), (10, Ext.ctr (ctOf sigLevel)), (12, Ext.ctr (ctOf sigCoarse)), (23, Ext.ctr (ctOf sigQuan)), (11, Ext.ctr (ctOf sigRest))] : List (Nat × Ext)), ExtRow Try.prog p.1 p.2 := by
  intro p hp
  simp only [List.mem_cons, List.not_mem_nil, or_false] at hp
  rcases hp with rfl | rfl | rfl | rfl | rfl | rfl <;> trivial
theorem cts_QuantError : CtsOk Try.prog [(3, Ext.ctr (ctOf sigTrue0)), (29, Ext.ctr (ctOf (sigPickN 4398046511104))), (10, Ext.ctr (ctOf sigLevel)), (12, Ext.ctr (ctOf sigCoarse)), (23, Ext.ctr (ctOf sigQuan)), (11, Ext.ctr (ctOf sigRest))] := ctsOk_of (cs := [(3, sigTrue0), (29, (sigPickN 4398046511104)), (10, sigLevel), (12, sigCoarse), (23, sigQuan), (11, sigRest)])
  (fun p hp => by
    simp only [List.mem_cons, List.not_mem_nil, or_false] at hp
    rcases hp with rfl | rfl | rfl | rfl | rfl | rfl
    · exact fn_known
    · exact fn_turn
    · exact fn_level
    · exact fn_coarse
    · exact fn_quan
    · exact fn_rest
)
  (fun f c h => by
    simp only [List.lookup_cons] at h
    repeat' split at h
    all_goals first | (cases h; done) | (rename_i e; have e := beq_iff_eq.1 e; subst e; cases h; exact ⟨_, by simp, rfl⟩))
theorem fn_QuantError : FnOk Try.prog 7 sigQE [] := fn_sound (by kernel_rfl) ext_QuantError cts_QuantError names vt_QuantError
end Go.Proofs.Ytemcaojbhfgpgaa

