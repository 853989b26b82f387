import Derived.Test.YtemcaojbhfgpgaaSpec13e
import Derived.Test.YtemcaojbhfgpgaaRows
import Derived.Test.YtemcaojbhfgpgaaFnames
import Derived.Test.YtemcaojbhfgpgaaFchkA
import Derived.Test.YtemcaojbhfgpgaaFlev
import Derived.Test.YtemcaojbhfgpgaaFlost
namespace Go.Proofs.Ytemcaojbhfgpgaa
open Go.Ev Go.Sp
set_option maxRecDepth 100000
theorem vc_quan : vcFn Try.prog [(31, Ext.ctr (ctOf sigChkA)), (32, Ext.ctr (ctOf sigLev)), (33, Ext.ctr (ctOf sigLost))] tabQ [] 100 23 sigQuan = (allB fun l0 : List Int => 
impB (l0.length ≤ (300 : Nat)) (
impB (∀ (y : Int), y ∈ l0 → (-9223372036854775808 : Int) ≤ y ∧ y ≤ (9223372036854775807 : Int)) (
allB fun l1 : List Int => 
impB (l1.length = l0.length) (
impB (∀ (y : Int), y ∈ l1 → (-9223372036854775808 : Int) ≤ y ∧ y ≤ (9223372036854775807 : Int)) (
allB fun n2 : Int => 
impB ((-9223372036854775808 : Int) ≤ n2) (
impB (n2 ≤ (9223372036854775807 : Int)) (
allB fun n3 : Int => 
impB ((-9223372036854775808 : Int) ≤ n3) (
impB (n3 ≤ (9223372036854775807 : Int)) (
impB (sigQuan.pre [DV.l l0, DV.l l1, DV.n n2, DV.n n3]) (
reqB (((0 : Nat) + l0.length) * (2 : Nat) ≤ l0.length.mul (2 : Nat)) (
reqB (l0.length ≤ (9223372036854775807 : Nat)) (
reqB ((List.take l0.length (List.drop (0 : Nat) l0)).length = l0.length) (
reqB (∀ (y : Int),
  y ∈ List.take l0.length (List.drop (0 : Nat) l0) → (-9223372036854775808 : Int) ≤ y ∧ y ≤ (9223372036854775807 : Int)) (
reqB ((List.take l0.length (List.drop (0 : Nat) l1)).length = l0.length) (
reqB (∀ (y : Int),
  y ∈ List.take l0.length (List.drop (0 : Nat) l1) → (-9223372036854775808 : Int) ≤ y ∧ y ≤ (9223372036854775807 : Int)) (
reqB ((-9223372036854775808 : Int) ≤ n2) (
reqB (n2 ≤ (9223372036854775807 : Int)) (
reqB ((-9223372036854775808 : Int) ≤ n3) (
reqB (n3 ≤ (9223372036854775807 : Int)) (
reqB (sigChkA.pre
  [DV.l (List.take l0.length (List.drop (0 : Nat) l0)), DV.l (List.take l0.length (List.drop (0 : Nat) l1)),
    DV.n n2, DV.n n3]) (
allB fun n4 : Int => 
impB ((0 : Int) ≤ n4) (
impB (n4 ≤ (18 : Int)) (
impB (sigChkA.post
  [DV.l (List.take l0.length (List.drop (0 : Nat) l0)), DV.l (List.take l0.length (List.drop (0 : Nat) l1)),
    DV.n n2, DV.n n3]
  [DV.n n4]) (
bR (dec (n4 ≠ (0 : Int))) (
 reqB ((0 : Int) ≤ n4) (
 reqB (n4 ≤ (18 : Int)) (
 reqB (sigQuan.post [DV.l l0, DV.l l1, DV.n n2, DV.n n3]
  [DV.l [], DV.l [], DV.n (0 : Int), DV.n n4]) (
 true)))) (
 reqB ((↑l0.length : Int).toNat ≤ (↑l0.length : Int).toNat) (
 reqB ((↑l0.length : Int).toNat ≤ (1000000 : Nat)) (
 reqB (((0 : Nat) + l0.length) * (2 : Nat) ≤ l0.length.mul (2 : Nat)) (
 reqB (l0.length ≤ (300 : Nat)) (
 reqB ((List.take l0.length (List.drop (0 : Nat) l0)).length = l0.length) (
 reqB (∀ (y : Int),
  y ∈ List.take l0.length (List.drop (0 : Nat) l0) → (-9223372036854775808 : Int) ≤ y ∧ y ≤ (9223372036854775807 : Int)) (
 reqB ((List.take l0.length (List.drop (0 : Nat) l1)).length = l0.length) (
 reqB (∀ (y : Int),
  y ∈ List.take l0.length (List.drop (0 : Nat) l1) → (-9223372036854775808 : Int) ≤ y ∧ y ≤ (9223372036854775807 : Int)) (
 reqB ((-9223372036854775808 : Int) ≤ n2) (
 reqB (n2 ≤ (9223372036854775807 : Int)) (
 reqB ((-9223372036854775808 : Int) ≤ n3) (
 reqB (n3 ≤ (9223372036854775807 : Int)) (
 reqB (lenCols
    [Col.i Go.IntKind.i64 (Int.negSucc (9223372036854775807 : Nat)) (Int.ofNat (9223372036854775807 : Nat))
        (List.replicate (↑l0.length : Int).toNat (0 : Int)),
      Col.i Go.IntKind.i64 (Int.negSucc (9223372036854775807 : Nat)) (Int.ofNat (9223372036854775807 : Nat))
        (List.replicate (↑l0.length : Int).toNat (0 : Int))] ≤
  (300 : Nat)) (
 reqB ((List.replicate (↑l0.length : Int).toNat (0 : Int)).length =
  lenCols
    [Col.i Go.IntKind.i64 (Int.negSucc (9223372036854775807 : Nat)) (Int.ofNat (9223372036854775807 : Nat))
        (List.replicate (↑l0.length : Int).toNat (0 : Int)),
      Col.i Go.IntKind.i64 (Int.negSucc (9223372036854775807 : Nat)) (Int.ofNat (9223372036854775807 : Nat))
        (List.replicate (↑l0.length : Int).toNat (0 : Int))]) (
 reqB (∀ (y : Int),
  y ∈ List.replicate (↑l0.length : Int).toNat (0 : Int) →
    (-9223372036854775808 : Int) ≤ y ∧ y ≤ (9223372036854775807 : Int)) (
 reqB ((List.replicate (↑l0.length : Int).toNat (0 : Int)).length =
  lenCols
    [Col.i Go.IntKind.i64 (Int.negSucc (9223372036854775807 : Nat)) (Int.ofNat (9223372036854775807 : Nat))
        (List.replicate (↑l0.length : Int).toNat (0 : Int)),
      Col.i Go.IntKind.i64 (Int.negSucc (9223372036854775807 : Nat)) (Int.ofNat (9223372036854775807 : Nat))
        (List.replicate (↑l0.length : Int).toNat (0 : Int))]) (
 reqB (∀ (y : Int),
  y ∈ List.replicate (↑l0.length : Int).toNat (0 : Int) →
    (-9223372036854775808 : Int) ≤ y ∧ y ≤ (9223372036854775807 : Int)) (
 reqB ((mapL (4 : Nat) (5 : Nat) mapInv).inv
  [DV.l (List.take l0.length (List.drop (0 : Nat) l0)), DV.l (List.take l0.length (List.drop (0 : Nat) l1)),
    DV.n n2, DV.n n3]
  [DV.n (0 : Int), DV.l (List.replicate (↑l0.length : Int).toNat (0 : Int)),
    DV.l (List.replicate (↑l0.length : Int).toNat (0 : Int))]) (
 allB fun n5 : Int => 
 impB ((0 : Int) ≤ n5) (
 impB (n5 ≤ (300 : Int)) (
 allB fun l6 : List Int => 
 impB (l6.length ≤ (300 : Nat)) (
 impB (∀ (y : Int), y ∈ l6 → (-9223372036854775808 : Int) ≤ y ∧ y ≤ (9223372036854775807 : Int)) (
 allB fun l7 : List Int => 
 impB (l7.length = l6.length) (
 impB (∀ (y : Int), y ∈ l7 → (-9223372036854775808 : Int) ≤ y ∧ y ≤ (9223372036854775807 : Int)) (
 impB ((mapL (4 : Nat) (5 : Nat) mapInv).inv
  [DV.l (List.take l0.length (List.drop (0 : Nat) l0)), DV.l (List.take l0.length (List.drop (0 : Nat) l1)),
    DV.n n2, DV.n n3]
  [DV.n n5, DV.l l6, DV.l l7]) (
 bR (dec (n5 < (↑l0.length : Int))) (
  reqB (n5.toNat < l0.length) (
  reqB (Nat.add (0 : Nat) n5.toNat < l0.length) (
  reqB (Nat.add (0 : Nat) n5.toNat < l1.length) (
  reqB ((2 : Int) ≤ n2) (
  reqB (n2 ≤ (8 : Int)) (
  reqB ((0 : Int) ≤ n3) (
  reqB (n3 ≤ (30 : Int)) (
  reqB ((-70368744177664 : Int) ≤ l0.getD (Nat.add (0 : Nat) n5.toNat) (0 : Int)) (
  reqB (l0.getD (Nat.add (0 : Nat) n5.toNat) (0 : Int) ≤ (70368744177664 : Int)) (
  reqB (sigLev.pre [DV.n n2, DV.n n3, DV.n (l0.getD (Nat.add (0 : Nat) n5.toNat) (0 : Int))]) (
  allB fun n8 : Int => 
  impB ((-127 : Int) ≤ n8) (
  impB (n8 ≤ (127 : Int)) (
  impB (sigLev.post [DV.n n2, DV.n n3, DV.n (l0.getD (Nat.add (0 : Nat) n5.toNat) (0 : Int))]
  [DV.n n8]) (
  reqB ((2 : Int) ≤ n2) (
  reqB (n2 ≤ (8 : Int)) (
  reqB ((0 : Int) ≤ n3) (
  reqB (n3 ≤ (30 : Int)) (
  reqB ((-70368744177664 : Int) ≤ l1.getD (Nat.add (0 : Nat) n5.toNat) (0 : Int)) (
  reqB (l1.getD (Nat.add (0 : Nat) n5.toNat) (0 : Int) ≤ (70368744177664 : Int)) (
  reqB (sigLev.pre [DV.n n2, DV.n n3, DV.n (l1.getD (Nat.add (0 : Nat) n5.toNat) (0 : Int))]) (
  allB fun n9 : Int => 
  impB ((-127 : Int) ≤ n9) (
  impB (n9 ≤ (127 : Int)) (
  impB (sigLev.post [DV.n n2, DV.n n3, DV.n (l1.getD (Nat.add (0 : Nat) n5.toNat) (0 : Int))]
  [DV.n n9]) (
  reqB (n5.toNat < (↑l0.length : Int).toNat) (
  reqB (Nat.add (0 : Nat) n5.toNat < l6.length) (
  reqB (Nat.add (0 : Nat) n5.toNat < l7.length) (
  bR (bR (bR (dec ((0 : Nat) = (0 : Nat))) (
   dec ((↑l0.length : Int).toNat = (↑l0.length : Int).toNat)) (
   false)) (
   bR (bR (dec ((0 : Nat) = (0 : Nat))) (
    dec (l0.length = l0.length)) (
    false)) (
    bR (dec ((↑l0.length : Int) = (↑l0.length : Int))) (
     true) (
     false)) (
    false)) (
   false)) (
   bR (bR (bR (dec (n2 = n2)) (
    bR (dec (n3 = n3)) (
     true) (
     false)) (
    false)) (
    true) (
    false)) (
    reqB ((0 : Int) ≤ n5 + (1 : Int)) (
    reqB (n5 + (1 : Int) ≤ (300 : Int)) (
    reqB (lenCols
    [Col.i Go.IntKind.i64 (-9223372036854775808 : Int) (9223372036854775807 : Int)
        (l6.set (Nat.add (0 : Nat) n5.toNat) n8),
      Col.i Go.IntKind.i64 (-9223372036854775808 : Int) (9223372036854775807 : Int)
        (l7.set (Nat.add (0 : Nat) n5.toNat) n9)] ≤
  (300 : Nat)) (
    reqB ((l6.set (Nat.add (0 : Nat) n5.toNat) n8).length =
  lenCols
    [Col.i Go.IntKind.i64 (-9223372036854775808 : Int) (9223372036854775807 : Int)
        (l6.set (Nat.add (0 : Nat) n5.toNat) n8),
      Col.i Go.IntKind.i64 (-9223372036854775808 : Int) (9223372036854775807 : Int)
        (l7.set (Nat.add (0 : Nat) n5.toNat) n9)]) (
    reqB (∀ (y : Int),
  y ∈ l6.set (Nat.add (0 : Nat) n5.toNat) n8 → (-9223372036854775808 : Int) ≤ y ∧ y ≤ (9223372036854775807 : Int)) (
    reqB ((l7.set (Nat.add (0 : Nat) n5.toNat) n9).length =
  lenCols
    [Col.i Go.IntKind.i64 (-9223372036854775808 : Int) (9223372036854775807 : Int)
        (l6.set (Nat.add (0 : Nat) n5.toNat) n8),
      Col.i Go.IntKind.i64 (-9223372036854775808 : Int) (9223372036854775807 : Int)
        (l7.set (Nat.add (0 : Nat) n5.toNat) n9)]) (
    reqB (∀ (y : Int),
  y ∈ l7.set (Nat.add (0 : Nat) n5.toNat) n9 → (-9223372036854775808 : Int) ≤ y ∧ y ≤ (9223372036854775807 : Int)) (
    reqB ((mapL (4 : Nat) (5 : Nat) mapInv).inv
  [DV.l (List.take l0.length (List.drop (0 : Nat) l0)), DV.l (List.take l0.length (List.drop (0 : Nat) l1)),
    DV.n n2, DV.n n3]
  [DV.n (n5 + (1 : Int)), DV.l (l6.set (Nat.add (0 : Nat) n5.toNat) n8),
    DV.l (l7.set (Nat.add (0 : Nat) n5.toNat) n9)]) (
    reqB ((mapL (4 : Nat) (5 : Nat) mapInv).mea
    [DV.l (List.take l0.length (List.drop (0 : Nat) l0)),
      DV.l (List.take l0.length (List.drop (0 : Nat) l1)), DV.n n2, DV.n n3]
    [DV.n (n5 + (1 : Int)), DV.l (l6.set (Nat.add (0 : Nat) n5.toNat) n8),
      DV.l (l7.set (Nat.add (0 : Nat) n5.toNat) n9)] <
  (mapL (4 : Nat) (5 : Nat) mapInv).mea
    [DV.l (List.take l0.length (List.drop (0 : Nat) l0)),
      DV.l (List.take l0.length (List.drop (0 : Nat) l1)), DV.n n2, DV.n n3]
    [DV.n n5, DV.l l6, DV.l l7]) (
    true)))))))))) (
    false)) (
   false)))))))))))))))))))))))))))) (
  reqB (((0 : Nat) + l0.length) * (2 : Nat) ≤ l0.length.mul (2 : Nat)) (
  reqB (l0.length ≤ (300 : Nat)) (
  reqB ((List.take l0.length (List.drop (0 : Nat) l0)).length = l0.length) (
  reqB (∀ (y : Int),
  y ∈ List.take l0.length (List.drop (0 : Nat) l0) → (-9223372036854775808 : Int) ≤ y ∧ y ≤ (9223372036854775807 : Int)) (
  reqB ((List.take l0.length (List.drop (0 : Nat) l1)).length = l0.length) (
  reqB (∀ (y : Int),
  y ∈ List.take l0.length (List.drop (0 : Nat) l1) → (-9223372036854775808 : Int) ≤ y ∧ y ≤ (9223372036854775807 : Int)) (
  reqB ((-9223372036854775808 : Int) ≤ n2) (
  reqB (n2 ≤ (9223372036854775807 : Int)) (
  reqB ((-9223372036854775808 : Int) ≤ n3) (
  reqB (n3 ≤ (9223372036854775807 : Int)) (
  reqB ((losL (26 : Nat)).inv
  [DV.l (List.take l0.length (List.drop (0 : Nat) l0)), DV.l (List.take l0.length (List.drop (0 : Nat) l1)),
    DV.n n2, DV.n n3]
  [DV.n (0 : Int), DV.n (0 : Int)]) (
  allB fun n10 : Int => 
  impB ((0 : Int) ≤ n10) (
  impB (n10 ≤ (300 : Int)) (
  allB fun n11 : Int => 
  impB ((0 : Int) ≤ n11) (
  impB (n11 ≤ (300 : Int)) (
  impB ((losL (26 : Nat)).inv
  [DV.l (List.take l0.length (List.drop (0 : Nat) l0)), DV.l (List.take l0.length (List.drop (0 : Nat) l1)),
    DV.n n2, DV.n n3]
  [DV.n n10, DV.n n11]) (
  bR (dec (n10 < (↑l0.length : Int))) (
   reqB (n10.toNat < l0.length) (
   reqB (Nat.add (0 : Nat) n10.toNat < l0.length) (
   reqB (Nat.add (0 : Nat) n10.toNat < l1.length) (
   reqB ((2 : Int) ≤ n2) (
   reqB (n2 ≤ (8 : Int)) (
   reqB ((0 : Int) ≤ n3) (
   reqB (n3 ≤ (30 : Int)) (
   reqB ((-70368744177664 : Int) ≤ l0.getD (Nat.add (0 : Nat) n10.toNat) (0 : Int)) (
   reqB (l0.getD (Nat.add (0 : Nat) n10.toNat) (0 : Int) ≤ (70368744177664 : Int)) (
   reqB (sigLost.pre [DV.n n2, DV.n n3, DV.n (l0.getD (Nat.add (0 : Nat) n10.toNat) (0 : Int))]) (
   allB fun b12 : Bool => 
   impB (sigLost.post [DV.n n2, DV.n n3, DV.n (l0.getD (Nat.add (0 : Nat) n10.toNat) (0 : Int))]
  [DV.b b12]) (
   bR (b12) (
    bR (bR (bR (bR (bR (false) (
     false) (
     true)) (
     true) (
     false)) (
     true) (
     false)) (
     bR (bR (dec ((0 : Nat) = (0 : Nat))) (
      dec (l0.length = l0.length)) (
      false)) (
      bR (dec ((↑l0.length : Int) = (↑l0.length : Int))) (
       true) (
       false)) (
      false)) (
     false)) (
     bR (bR (bR (dec (n2 = n2)) (
      bR (dec (n3 = n3)) (
       true) (
       false)) (
      false)) (
      bR (bR (dec (n2 = n2)) (
       bR (dec (n3 = n3)) (
        true) (
        false)) (
       false)) (
       bR (bR (dec (l6.length.mul (2 : Nat) = l6.length.mul (2 : Nat))) (
        dec ([Col.i Go.IntKind.i64 (-9223372036854775808 : Int) (9223372036854775807 : Int) l6,
    Col.i Go.IntKind.i64 (-9223372036854775808 : Int) (9223372036854775807 : Int) l7] =
  [Col.i Go.IntKind.i64 (-9223372036854775808 : Int) (9223372036854775807 : Int) l6,
    Col.i Go.IntKind.i64 (-9223372036854775808 : Int) (9223372036854775807 : Int) l7])) (
        false)) (
        bR (bR (dec (n2 = n2)) (
         bR (dec (n3 = n3)) (
          true) (
          false)) (
         false)) (
         true) (
         false)) (
        false)) (
       false)) (
      false)) (
      reqB ((0 : Int) ≤ n10 + (1 : Int)) (
      reqB (n10 + (1 : Int) ≤ (300 : Int)) (
      reqB ((0 : Int) ≤ n11 + (1 : Int)) (
      reqB (n11 + (1 : Int) ≤ (300 : Int)) (
      reqB ((losL (26 : Nat)).inv
  [DV.l (List.take l0.length (List.drop (0 : Nat) l0)), DV.l (List.take l0.length (List.drop (0 : Nat) l1)),
    DV.n n2, DV.n n3]
  [DV.n (n10 + (1 : Int)), DV.n (n11 + (1 : Int))]) (
      reqB ((losL (26 : Nat)).mea
    [DV.l (List.take l0.length (List.drop (0 : Nat) l0)),
      DV.l (List.take l0.length (List.drop (0 : Nat) l1)), DV.n n2, DV.n n3]
    [DV.n (n10 + (1 : Int)), DV.n (n11 + (1 : Int))] <
  (losL (26 : Nat)).mea
    [DV.l (List.take l0.length (List.drop (0 : Nat) l0)),
      DV.l (List.take l0.length (List.drop (0 : Nat) l1)), DV.n n2, DV.n n3]
    [DV.n n10, DV.n n11]) (
      true))))))) (
      false)) (
     false)) (
    reqB ((2 : Int) ≤ n2) (
    reqB (n2 ≤ (8 : Int)) (
    reqB ((0 : Int) ≤ n3) (
    reqB (n3 ≤ (30 : Int)) (
    reqB ((-70368744177664 : Int) ≤ l1.getD (Nat.add (0 : Nat) n10.toNat) (0 : Int)) (
    reqB (l1.getD (Nat.add (0 : Nat) n10.toNat) (0 : Int) ≤ (70368744177664 : Int)) (
    reqB (sigLost.pre [DV.n n2, DV.n n3, DV.n (l1.getD (Nat.add (0 : Nat) n10.toNat) (0 : Int))]) (
    allB fun b13 : Bool => 
    impB (sigLost.post [DV.n n2, DV.n n3, DV.n (l1.getD (Nat.add (0 : Nat) n10.toNat) (0 : Int))]
  [DV.b b13]) (
    bR (b13) (
     bR (bR (bR (bR (bR (false) (
      false) (
      true)) (
      true) (
      false)) (
      true) (
      false)) (
      bR (bR (dec ((0 : Nat) = (0 : Nat))) (
       dec (l0.length = l0.length)) (
       false)) (
       bR (dec ((↑l0.length : Int) = (↑l0.length : Int))) (
        true) (
        false)) (
       false)) (
      false)) (
      bR (bR (bR (dec (n2 = n2)) (
       bR (dec (n3 = n3)) (
        true) (
        false)) (
       false)) (
       bR (bR (dec (n2 = n2)) (
        bR (dec (n3 = n3)) (
         true) (
         false)) (
        false)) (
        bR (bR (dec (l6.length.mul (2 : Nat) = l6.length.mul (2 : Nat))) (
         dec ([Col.i Go.IntKind.i64 (-9223372036854775808 : Int) (9223372036854775807 : Int) l6,
    Col.i Go.IntKind.i64 (-9223372036854775808 : Int) (9223372036854775807 : Int) l7] =
  [Col.i Go.IntKind.i64 (-9223372036854775808 : Int) (9223372036854775807 : Int) l6,
    Col.i Go.IntKind.i64 (-9223372036854775808 : Int) (9223372036854775807 : Int) l7])) (
         false)) (
         bR (bR (dec (n2 = n2)) (
          bR (dec (n3 = n3)) (
           true) (
           false)) (
          false)) (
          true) (
          false)) (
         false)) (
        false)) (
       false)) (
       reqB ((0 : Int) ≤ n10 + (1 : Int)) (
       reqB (n10 + (1 : Int) ≤ (300 : Int)) (
       reqB ((0 : Int) ≤ n11 + (1 : Int)) (
       reqB (n11 + (1 : Int) ≤ (300 : Int)) (
       reqB ((losL (26 : Nat)).inv
  [DV.l (List.take l0.length (List.drop (0 : Nat) l0)), DV.l (List.take l0.length (List.drop (0 : Nat) l1)),
    DV.n n2, DV.n n3]
  [DV.n (n10 + (1 : Int)), DV.n (n11 + (1 : Int))]) (
       reqB ((losL (26 : Nat)).mea
    [DV.l (List.take l0.length (List.drop (0 : Nat) l0)),
      DV.l (List.take l0.length (List.drop (0 : Nat) l1)), DV.n n2, DV.n n3]
    [DV.n (n10 + (1 : Int)), DV.n (n11 + (1 : Int))] <
  (losL (26 : Nat)).mea
    [DV.l (List.take l0.length (List.drop (0 : Nat) l0)),
      DV.l (List.take l0.length (List.drop (0 : Nat) l1)), DV.n n2, DV.n n3]
    [DV.n n10, DV.n n11]) (
       true))))))) (
       false)) (
      false)) (
     bR (bR (bR (bR (bR (false) (
      false) (
      true)) (
      true) (
      false)) (
      true) (
      false)) (
      bR (bR (dec ((0 : Nat) = (0 : Nat))) (
       dec (l0.length = l0.length)) (
       false)) (
       bR (dec ((↑l0.length : Int) = (↑l0.length : Int))) (
        true) (
        false)) (
       false)) (
      false)) (
      bR (bR (bR (dec (n2 = n2)) (
       bR (dec (n3 = n3)) (
        true) (
        false)) (
       false)) (
       bR (bR (dec (n2 = n2)) (
        bR (dec (n3 = n3)) (
         true) (
         false)) (
        false)) (
        bR (bR (dec (l6.length.mul (2 : Nat) = l6.length.mul (2 : Nat))) (
         dec ([Col.i Go.IntKind.i64 (-9223372036854775808 : Int) (9223372036854775807 : Int) l6,
    Col.i Go.IntKind.i64 (-9223372036854775808 : Int) (9223372036854775807 : Int) l7] =
  [Col.i Go.IntKind.i64 (-9223372036854775808 : Int) (9223372036854775807 : Int) l6,
    Col.i Go.IntKind.i64 (-9223372036854775808 : Int) (9223372036854775807 : Int) l7])) (
         false)) (
         bR (bR (dec (n2 = n2)) (
          bR (dec (n3 = n3)) (
           true) (
           false)) (
          false)) (
          true) (
          false)) (
         false)) (
        false)) (
       false)) (
       reqB ((0 : Int) ≤ n10 + (1 : Int)) (
       reqB (n10 + (1 : Int) ≤ (300 : Int)) (
       reqB ((0 : Int) ≤ n11) (
       reqB (n11 ≤ (300 : Int)) (
       reqB ((losL (26 : Nat)).inv
  [DV.l (List.take l0.length (List.drop (0 : Nat) l0)), DV.l (List.take l0.length (List.drop (0 : Nat) l1)),
    DV.n n2, DV.n n3]
  [DV.n (n10 + (1 : Int)), DV.n n11]) (
       reqB ((losL (26 : Nat)).mea
    [DV.l (List.take l0.length (List.drop (0 : Nat) l0)),
      DV.l (List.take l0.length (List.drop (0 : Nat) l1)), DV.n n2, DV.n n3]
    [DV.n (n10 + (1 : Int)), DV.n n11] <
  (losL (26 : Nat)).mea
    [DV.l (List.take l0.length (List.drop (0 : Nat) l0)),
      DV.l (List.take l0.length (List.drop (0 : Nat) l1)), DV.n n2, DV.n n3]
    [DV.n n10, DV.n n11]) (
       true))))))) (
       false)) (
      false))))))))))))))))))))))) (
   reqB (((0 : Nat) + (↑l0.length : Int).toNat) * (2 : Nat) ≤ l6.length.mul (2 : Nat)) (
   reqB ((↑l0.length : Int).toNat ≤ (300 : Nat)) (
   reqB ((List.take (↑l0.length : Int).toNat (List.drop (0 : Nat) l6)).length = (↑l0.length : Int).toNat) (
   reqB (∀ (y : Int),
  y ∈ List.take (↑l0.length : Int).toNat (List.drop (0 : Nat) l6) →
    (-9223372036854775808 : Int) ≤ y ∧ y ≤ (9223372036854775807 : Int)) (
   reqB ((List.take (↑l0.length : Int).toNat (List.drop (0 : Nat) l7)).length = (↑l0.length : Int).toNat) (
   reqB (∀ (y : Int),
  y ∈ List.take (↑l0.length : Int).toNat (List.drop (0 : Nat) l7) →
    (-9223372036854775808 : Int) ≤ y ∧ y ≤ (9223372036854775807 : Int)) (
   reqB ((0 : Int) ≤ n11) (
   reqB (n11 ≤ (300 : Int)) (
   reqB (sigQuan.post [DV.l l0, DV.l l1, DV.n n2, DV.n n3]
  [DV.l (List.take (↑l0.length : Int).toNat (List.drop (0 : Nat) l6)),
    DV.l (List.take (↑l0.length : Int).toNat (List.drop (0 : Nat) l7)), DV.n n11, DV.n (0 : Int)]) (
   true))))))))))))))))))))))))))))))))))))))))))))))))))))))))))))))))))))))))))))) := by kernel_rfl
set_option maxHeartbeats 8000000 in
theorem vt_quan : vcFn Try.prog [(31, Ext.ctr (ctOf sigChkA)), (32, Ext.ctr (ctOf sigLev)), (33, Ext.ctr (ctOf sigLost))] tabQ [] 100 23 sigQuan = true := by
  rw [vc_quan]
  try simp only [Int.toNat_natCast, List.length_set, List.length_replicate, List.length_take, List.length_drop, List.length_append, List.length_cons, List.length_nil, Nat.min_self, List.take_take, lenCols_i, lenCols_b, List.drop_zero, List.take_length, Nat.add_eq, Nat.mul_eq, Nat.sub_eq, Nat.zero_add, Nat.sub_zero, Nat.mul_one]
  refine all_i fun l0 => ?_
  refine imp_i fun h0 => ?_
  refine imp_i fun h1 => ?_
  refine all_i fun l1 => ?_
  refine imp_i fun h2 => ?_
  have tkl1 := take_eq h2
  try simp only [tkl1]
  refine imp_i fun h3 => ?_
  refine all_i fun n2 => ?_
  refine imp_i fun h4 => ?_
  refine imp_i fun h5 => ?_
  refine all_i fun n3 => ?_
  refine imp_i fun h6 => ?_
  refine imp_i fun h7 => ?_
  refine imp_i fun h8 => ?_
  try simp only [sigQuan, quanPost, List.cons.injEq, DV.b.injEq, and_true, List.length_cons, List.length_nil] at h8
  refine req_i ?_ ?_
  · -- r0
    first | omega | ((try simp only [Nat.mul_eq]); first | done | omega | assumption | grind [getD_set, getD_rep, toNat_succ, cntN_yes, cntN_no])
  refine req_i ?_ ?_
  · -- r1
    first | omega | ((try simp only [Nat.zero_add]); first | done | omega | assumption | grind [getD_set, getD_rep, toNat_succ, cntN_yes, cntN_no])
  refine req_i ?_ ?_
  · -- r2
    first | omega | ((try simp only [List.length_take, List.take_length, List.take_take, Nat.min_self, List.length_drop, List.drop_zero, List.length_cons, List.length_nil]); first | done | omega | assumption | grind [getD_set, getD_rep, toNat_succ, cntN_yes, cntN_no])
  refine req_i ?_ ?_
  · -- r3
    first | assumption | exact rep_bd (by omega) (by omega) | exact set_bd (by assumption) (by omega) (by omega) | exact take_bd (by assumption) | ((try simp only [List.length_take, List.take_length, List.take_take, Nat.min_self, List.length_drop, List.drop_zero, List.length_cons, List.length_nil]); first | assumption | exact rep_bd (by omega) (by omega) | exact set_bd (by assumption) (by omega) (by omega) | exact take_bd (by assumption) | grind [getD_set, getD_rep, toNat_succ, cntN_yes, cntN_no])
  refine req_i ?_ ?_
  · -- r4
    first | omega | ((try simp only [List.length_take, List.take_length, List.take_take, Nat.min_self, List.length_drop, List.drop_zero, List.length_cons, List.length_nil]); first | done | omega | assumption | grind [getD_set, getD_rep, toNat_succ, cntN_yes, cntN_no])
  refine req_i ?_ ?_
  · -- r5
    first | assumption | exact rep_bd (by omega) (by omega) | exact set_bd (by assumption) (by omega) (by omega) | exact take_bd (by assumption) | ((try simp only [List.length_take, List.take_length, List.take_take, Nat.min_self, List.length_drop, List.drop_zero, List.length_cons, List.length_nil]); first | assumption | exact rep_bd (by omega) (by omega) | exact set_bd (by assumption) (by omega) (by omega) | exact take_bd (by assumption) | grind [getD_set, getD_rep, toNat_succ, cntN_yes, cntN_no])
  refine req_i ?_ ?_
  · -- r6
    first | omega | assumption | grind
  refine req_i ?_ ?_
  · -- r7
    first | omega | assumption | grind
  refine req_i ?_ ?_
  · -- r8
    first | omega | assumption | grind
  refine req_i ?_ ?_
  · -- r9
    first | omega | assumption | grind
  refine req_i ?_ ?_
  · -- r10
    first | omega | ((try simp only [sigChkA, chkAPost, List.cons.injEq, DV.b.injEq, and_true, List.length_take, List.take_length, List.take_take, Nat.min_self, List.length_drop, List.drop_zero, List.length_cons, List.length_nil]); first | done | omega | assumption | grind [getD_set, getD_rep, toNat_succ, cntN_yes, cntN_no])
  refine all_i fun n4 => ?_
  refine imp_i fun h9 => ?_
  refine imp_i fun h10 => ?_
  refine imp_i fun h11 => ?_
  try simp only [sigChkA, chkAPost, List.cons.injEq, DV.b.injEq, and_true, List.length_take, List.take_length, List.take_take, Nat.min_self, List.length_drop, List.drop_zero, List.length_cons, List.length_nil] at h11
  refine bR_dec (fun h12 => ?_) (fun h12 => ?_)
  ·
    refine req_i ?_ ?_
    · -- r11
      first | omega | assumption | grind
    refine req_i ?_ ?_
    · -- r12
      first | omega | assumption | grind
    refine req_i ?_ ?_
    · -- r13
      first | omega | ((try simp only [sigQuan, quanPost, List.cons.injEq, DV.b.injEq, and_true, List.length_cons, List.length_nil]); first | done | omega | assumption | grind [getD_set, getD_rep, toNat_succ, cntN_yes, cntN_no])
    rfl
  ·
    obtain ⟨G, L, I⟩ := errS_ok (b := n2) (n := n3) (m := 70368744177664) (s := l0) (t := l1) (by omega)
    have cz : cntN (lostAt n2 n3 l0 l1) 0 = 0 := rfl
    refine req_i ?_ ?_
    · -- r14
      first | omega | ((try simp only [Int.toNat_natCast, List.length_cons, List.length_nil]); first | done | omega | assumption | grind [getD_set, getD_rep, toNat_succ, cntN_yes, cntN_no])
    refine req_i ?_ ?_
    · -- r15
      first | omega | ((try simp only [Int.toNat_natCast, List.length_cons, List.length_nil]); first | done | omega | assumption | grind [getD_set, getD_rep, toNat_succ, cntN_yes, cntN_no])
    refine req_i ?_ ?_
    · -- r16
      first | omega | ((try simp only [Nat.mul_eq]); first | done | omega | assumption | grind [getD_set, getD_rep, toNat_succ, cntN_yes, cntN_no])
    refine req_i ?_ ?_
    · -- r17
      first | omega | ((try simp only [Nat.zero_add]); first | done | omega | assumption | grind [getD_set, getD_rep, toNat_succ, cntN_yes, cntN_no])
    refine req_i ?_ ?_
    · -- r18
      first | omega | ((try simp only [List.length_take, List.take_length, List.take_take, Nat.min_self, List.length_drop, List.drop_zero, List.length_cons, List.length_nil]); first | done | omega | assumption | grind [getD_set, getD_rep, toNat_succ, cntN_yes, cntN_no])
    refine req_i ?_ ?_
    · -- r19
      first | assumption | exact rep_bd (by omega) (by omega) | exact set_bd (by assumption) (by omega) (by omega) | exact take_bd (by assumption) | ((try simp only [List.length_take, List.take_length, List.take_take, Nat.min_self, List.length_drop, List.drop_zero, List.length_cons, List.length_nil]); first | assumption | exact rep_bd (by omega) (by omega) | exact set_bd (by assumption) (by omega) (by omega) | exact take_bd (by assumption) | grind [getD_set, getD_rep, toNat_succ, cntN_yes, cntN_no])
    refine req_i ?_ ?_
    · -- r20
      first | omega | ((try simp only [List.length_take, List.take_length, List.take_take, Nat.min_self, List.length_drop, List.drop_zero, List.length_cons, List.length_nil]); first | done | omega | assumption | grind [getD_set, getD_rep, toNat_succ, cntN_yes, cntN_no])
    refine req_i ?_ ?_
    · -- r21
      first | assumption | exact rep_bd (by omega) (by omega) | exact set_bd (by assumption) (by omega) (by omega) | exact take_bd (by assumption) | ((try simp only [List.length_take, List.take_length, List.take_take, Nat.min_self, List.length_drop, List.drop_zero, List.length_cons, List.length_nil]); first | assumption | exact rep_bd (by omega) (by omega) | exact set_bd (by assumption) (by omega) (by omega) | exact take_bd (by assumption) | grind [getD_set, getD_rep, toNat_succ, cntN_yes, cntN_no])
    refine req_i ?_ ?_
    · -- r22
      first | omega | assumption | grind
    refine req_i ?_ ?_
    · -- r23
      first | omega | assumption | grind
    refine req_i ?_ ?_
    · -- r24
      first | omega | assumption | grind
    refine req_i ?_ ?_
    · -- r25
      first | omega | assumption | grind
    refine req_i ?_ ?_
    · -- r26
      first | omega | ((try simp only [Int.toNat_natCast, List.length_replicate, List.length_cons, List.length_nil, lenCols_i, lenCols_b]); first | done | omega | assumption | grind [getD_set, getD_rep, toNat_succ, cntN_yes, cntN_no])
    refine req_i ?_ ?_
    · -- r27
      first | omega | ((try simp only [Int.toNat_natCast, List.length_replicate, List.length_cons, List.length_nil, lenCols_i, lenCols_b]); first | done | omega | assumption | grind [getD_set, getD_rep, toNat_succ, cntN_yes, cntN_no])
    refine req_i ?_ ?_
    · -- r28
      first | assumption | exact rep_bd (by omega) (by omega) | exact set_bd (by assumption) (by omega) (by omega) | exact take_bd (by assumption) | ((try simp only [Int.toNat_natCast, List.length_replicate, List.length_cons, List.length_nil]); first | assumption | exact rep_bd (by omega) (by omega) | exact set_bd (by assumption) (by omega) (by omega) | exact take_bd (by assumption) | grind [getD_set, getD_rep, toNat_succ, cntN_yes, cntN_no])
    refine req_i ?_ ?_
    · -- r29
      first | omega | ((try simp only [Int.toNat_natCast, List.length_replicate, List.length_cons, List.length_nil, lenCols_i, lenCols_b]); first | done | omega | assumption | grind [getD_set, getD_rep, toNat_succ, cntN_yes, cntN_no])
    refine req_i ?_ ?_
    · -- r30
      first | assumption | exact rep_bd (by omega) (by omega) | exact set_bd (by assumption) (by omega) (by omega) | exact take_bd (by assumption) | ((try simp only [Int.toNat_natCast, List.length_replicate, List.length_cons, List.length_nil]); first | assumption | exact rep_bd (by omega) (by omega) | exact set_bd (by assumption) (by omega) (by omega) | exact take_bd (by assumption) | grind [getD_set, getD_rep, toNat_succ, cntN_yes, cntN_no])
    refine req_i ?_ ?_
    · -- r31
      first | omega | ((try simp only [mapL, mapInv, mea0, List.cons.injEq, DV.b.injEq, and_true, Int.toNat_natCast, List.length_replicate, List.length_take, List.take_length, List.take_take, Nat.min_self, List.length_drop, List.drop_zero, List.length_cons, List.length_nil]); first | done | omega | assumption | grind [getD_set, getD_rep, toNat_succ, cntN_yes, cntN_no])
    refine all_i fun n5 => ?_
    refine imp_i fun h13 => ?_
    refine imp_i fun h14 => ?_
    refine all_i fun l6 => ?_
    refine imp_i fun h15 => ?_
    refine imp_i fun h16 => ?_
    refine all_i fun l7 => ?_
    refine imp_i fun h17 => ?_
    have tkl7 := take_eq h17
    try simp only [tkl7]
    refine imp_i fun h18 => ?_
    refine imp_i fun h19 => ?_
    try simp only [mapL, mapInv, mea0, List.cons.injEq, DV.b.injEq, and_true, List.length_take, List.take_length, List.take_take, Nat.min_self, List.length_drop, List.drop_zero, List.length_cons, List.length_nil] at h19
    refine bR_dec (fun h20 => ?_) (fun h20 => ?_)
    ·
      have ib := inS_bd I (i := n5) (by omega)
      refine req_i ?_ ?_
      · -- r32
        first | omega | ((try simp only [Int.toNat_natCast, List.length_cons, List.length_nil]); first | done | omega | assumption | grind [getD_set, getD_rep, toNat_succ, cntN_yes, cntN_no])
      refine req_i ?_ ?_
      · -- r33
        first | omega | ((try simp only [Int.toNat_natCast, List.length_cons, List.length_nil, Nat.add_eq, Nat.zero_add]); first | done | omega | assumption | grind [getD_set, getD_rep, toNat_succ, cntN_yes, cntN_no])
      refine req_i ?_ ?_
      · -- r34
        first | omega | ((try simp only [Int.toNat_natCast, List.length_cons, List.length_nil, Nat.add_eq, Nat.zero_add]); first | done | omega | assumption | grind [getD_set, getD_rep, toNat_succ, cntN_yes, cntN_no])
      refine req_i ?_ ?_
      · -- r35
        first | omega | assumption | grind
      refine req_i ?_ ?_
      · -- r36
        first | omega | assumption | grind
      refine req_i ?_ ?_
      · -- r37
        first | omega | assumption | grind
      refine req_i ?_ ?_
      · -- r38
        first | omega | assumption | grind
      refine req_i ?_ ?_
      · -- r39
        first | omega | assumption | grind
      refine req_i ?_ ?_
      · -- r40
        first | omega | assumption | grind
      refine req_i ?_ ?_
      · -- r41
        first | trivial | assumption | (simp only [sigLev, levPost, List.cons.injEq, DV.b.injEq, and_true, Int.toNat_natCast, List.length_cons, List.length_nil, Nat.add_eq, Nat.zero_add]; done) | ((try simp only [sigLev, levPost, List.cons.injEq, DV.b.injEq, and_true, Int.toNat_natCast, List.length_cons, List.length_nil, Nat.add_eq, Nat.zero_add]); first | omega | assumption | grind)
      refine all_i fun n8 => ?_
      refine imp_i fun h21 => ?_
      refine imp_i fun h22 => ?_
      refine imp_i fun h23 => ?_
      try simp only [sigLev, levPost, List.cons.injEq, DV.b.injEq, and_true, Int.toNat_natCast, List.length_cons, List.length_nil, Nat.add_eq, Nat.zero_add] at h23
      refine req_i ?_ ?_
      · -- r42
        first | omega | assumption | grind
      refine req_i ?_ ?_
      · -- r43
        first | omega | assumption | grind
      refine req_i ?_ ?_
      · -- r44
        first | omega | assumption | grind
      refine req_i ?_ ?_
      · -- r45
        first | omega | assumption | grind
      refine req_i ?_ ?_
      · -- r46
        first | omega | assumption | grind
      refine req_i ?_ ?_
      · -- r47
        first | omega | assumption | grind
      refine req_i ?_ ?_
      · -- r48
        first | trivial | assumption | (simp only [sigLev, levPost, List.cons.injEq, DV.b.injEq, and_true, Int.toNat_natCast, List.length_cons, List.length_nil, Nat.add_eq, Nat.zero_add]; done) | ((try simp only [sigLev, levPost, List.cons.injEq, DV.b.injEq, and_true, Int.toNat_natCast, List.length_cons, List.length_nil, Nat.add_eq, Nat.zero_add]); first | omega | assumption | grind)
      refine all_i fun n9 => ?_
      refine imp_i fun h24 => ?_
      refine imp_i fun h25 => ?_
      refine imp_i fun h26 => ?_
      try simp only [sigLev, levPost, List.cons.injEq, DV.b.injEq, and_true, Int.toNat_natCast, List.length_cons, List.length_nil, Nat.add_eq, Nat.zero_add] at h26
      refine req_i ?_ ?_
      · -- r49
        first | omega | ((try simp only [Int.toNat_natCast, List.length_cons, List.length_nil]); first | done | omega | assumption | grind [getD_set, getD_rep, toNat_succ, cntN_yes, cntN_no])
      refine req_i ?_ ?_
      · -- r50
        first | omega | ((try simp only [Int.toNat_natCast, List.length_cons, List.length_nil, Nat.add_eq, Nat.zero_add]); first | done | omega | assumption | grind [getD_set, getD_rep, toNat_succ, cntN_yes, cntN_no])
      refine req_i ?_ ?_
      · -- r51
        first | omega | ((try simp only [Int.toNat_natCast, List.length_cons, List.length_nil, Nat.add_eq, Nat.zero_add]); first | done | omega | assumption | grind [getD_set, getD_rep, toNat_succ, cntN_yes, cntN_no])
      refine bR_t ?_ ?_
      · -- g0
        first | rfl | (simp only [bR_iff, bR_iff_f, dec_iff, dec_f, beqB_iff', andB_iff', reduceCtorEq, imp_self, false_implies, and_true, true_and, implies_true, and_self]; done) | (simp [bR_iff, dec_iff, beqB_iff', andB_iff']; done) | (simp [bR_iff, dec_iff, beqB_iff', andB_iff']; omega)
      refine bR_t ?_ ?_
      · -- g1
        first | rfl | (simp only [bR_iff, bR_iff_f, dec_iff, dec_f, beqB_iff', andB_iff', reduceCtorEq, imp_self, false_implies, and_true, true_and, implies_true, and_self]; done) | (simp [bR_iff, dec_iff, beqB_iff', andB_iff']; done) | (simp [bR_iff, dec_iff, beqB_iff', andB_iff']; omega)
      refine req_i ?_ ?_
      · -- r52
        first | omega | assumption | grind
      refine req_i ?_ ?_
      · -- r53
        first | omega | assumption | grind
      refine req_i ?_ ?_
      · -- r54
        first | omega | ((try simp only [Int.toNat_natCast, List.length_set, List.length_cons, List.length_nil, lenCols_i, lenCols_b, Nat.add_eq, Nat.zero_add]); first | done | omega | assumption | grind [getD_set, getD_rep, toNat_succ, cntN_yes, cntN_no])
      refine req_i ?_ ?_
      · -- r55
        first | omega | ((try simp only [Int.toNat_natCast, List.length_set, List.length_cons, List.length_nil, lenCols_i, lenCols_b, Nat.add_eq, Nat.zero_add]); first | done | omega | assumption | grind [getD_set, getD_rep, toNat_succ, cntN_yes, cntN_no])
      refine req_i ?_ ?_
      · -- r56
        first | assumption | exact rep_bd (by omega) (by omega) | exact set_bd (by assumption) (by omega) (by omega) | exact take_bd (by assumption) | ((try simp only [Int.toNat_natCast, List.length_set, List.length_cons, List.length_nil, Nat.add_eq, Nat.zero_add]); first | assumption | exact rep_bd (by omega) (by omega) | exact set_bd (by assumption) (by omega) (by omega) | exact take_bd (by assumption) | grind [getD_set, getD_rep, toNat_succ, cntN_yes, cntN_no])
      refine req_i ?_ ?_
      · -- r57
        first | omega | ((try simp only [Int.toNat_natCast, List.length_set, List.length_cons, List.length_nil, lenCols_i, lenCols_b, Nat.add_eq, Nat.zero_add]); first | done | omega | assumption | grind [getD_set, getD_rep, toNat_succ, cntN_yes, cntN_no])
      refine req_i ?_ ?_
      · -- r58
        first | assumption | exact rep_bd (by omega) (by omega) | exact set_bd (by assumption) (by omega) (by omega) | exact take_bd (by assumption) | ((try simp only [Int.toNat_natCast, List.length_set, List.length_cons, List.length_nil, Nat.add_eq, Nat.zero_add]); first | assumption | exact rep_bd (by omega) (by omega) | exact set_bd (by assumption) (by omega) (by omega) | exact take_bd (by assumption) | grind [getD_set, getD_rep, toNat_succ, cntN_yes, cntN_no])
      refine req_i ?_ ?_
      · -- r59
        first | omega | ((try simp only [mapL, mapInv, mea0, List.cons.injEq, DV.b.injEq, and_true, Int.toNat_natCast, List.length_set, List.length_take, List.take_length, List.take_take, Nat.min_self, List.length_drop, List.drop_zero, List.length_cons, List.length_nil, Nat.add_eq, Nat.zero_add]); first | done | omega | assumption | grind [getD_set, getD_rep, toNat_succ, cntN_yes, cntN_no])
      refine req_i ?_ ?_
      · -- r60
        first | omega | ((try simp only [mapL, mapInv, mea0, List.cons.injEq, DV.b.injEq, and_true, Int.toNat_natCast, List.length_set, List.length_take, List.take_length, List.take_take, Nat.min_self, List.length_drop, List.drop_zero, List.length_cons, List.length_nil, Nat.add_eq, Nat.zero_add]); first | done | omega | assumption | grind [getD_set, getD_rep, toNat_succ, cntN_yes, cntN_no])
      rfl
    ·
      refine req_i ?_ ?_
      · -- r61
        first | omega | ((try simp only [Nat.mul_eq]); first | done | omega | assumption | grind [getD_set, getD_rep, toNat_succ, cntN_yes, cntN_no])
      refine req_i ?_ ?_
      · -- r62
        first | omega | ((try simp only [Nat.zero_add]); first | done | omega | assumption | grind [getD_set, getD_rep, toNat_succ, cntN_yes, cntN_no])
      refine req_i ?_ ?_
      · -- r63
        first | omega | ((try simp only [List.length_take, List.take_length, List.take_take, Nat.min_self, List.length_drop, List.drop_zero, List.length_cons, List.length_nil]); first | done | omega | assumption | grind [getD_set, getD_rep, toNat_succ, cntN_yes, cntN_no])
      refine req_i ?_ ?_
      · -- r64
        first | assumption | exact rep_bd (by omega) (by omega) | exact set_bd (by assumption) (by omega) (by omega) | exact take_bd (by assumption) | ((try simp only [List.length_take, List.take_length, List.take_take, Nat.min_self, List.length_drop, List.drop_zero, List.length_cons, List.length_nil]); first | assumption | exact rep_bd (by omega) (by omega) | exact set_bd (by assumption) (by omega) (by omega) | exact take_bd (by assumption) | grind [getD_set, getD_rep, toNat_succ, cntN_yes, cntN_no])
      refine req_i ?_ ?_
      · -- r65
        first | omega | ((try simp only [List.length_take, List.take_length, List.take_take, Nat.min_self, List.length_drop, List.drop_zero, List.length_cons, List.length_nil]); first | done | omega | assumption | grind [getD_set, getD_rep, toNat_succ, cntN_yes, cntN_no])
      refine req_i ?_ ?_
      · -- r66
        first | assumption | exact rep_bd (by omega) (by omega) | exact set_bd (by assumption) (by omega) (by omega) | exact take_bd (by assumption) | ((try simp only [List.length_take, List.take_length, List.take_take, Nat.min_self, List.length_drop, List.drop_zero, List.length_cons, List.length_nil]); first | assumption | exact rep_bd (by omega) (by omega) | exact set_bd (by assumption) (by omega) (by omega) | exact take_bd (by assumption) | grind [getD_set, getD_rep, toNat_succ, cntN_yes, cntN_no])
      refine req_i ?_ ?_
      · -- r67
        first | omega | assumption | grind
      refine req_i ?_ ?_
      · -- r68
        first | omega | assumption | grind
      refine req_i ?_ ?_
      · -- r69
        first | omega | assumption | grind
      refine req_i ?_ ?_
      · -- r70
        first | omega | assumption | grind
      refine req_i ?_ ?_
      · -- r71
        first | omega | ((try simp only [losL, losInv, mea0, List.cons.injEq, DV.b.injEq, and_true, List.length_take, List.take_length, List.take_take, Nat.min_self, List.length_drop, List.drop_zero, List.length_cons, List.length_nil]); first | done | omega | assumption | grind [getD_set, getD_rep, toNat_succ, cntN_yes, cntN_no])
      refine all_i fun n10 => ?_
      refine imp_i fun h27 => ?_
      refine imp_i fun h28 => ?_
      refine all_i fun n11 => ?_
      refine imp_i fun h29 => ?_
      refine imp_i fun h30 => ?_
      refine imp_i fun h31 => ?_
      try simp only [losL, losInv, mea0, List.cons.injEq, DV.b.injEq, and_true, List.length_take, List.take_length, List.take_take, Nat.min_self, List.length_drop, List.drop_zero, List.length_cons, List.length_nil] at h31
      refine bR_dec (fun h32 => ?_) (fun h32 => ?_)
      ·
        have ib := inS_bd I (i := n10) (by omega)
        have cb := cntN_bd (p := lostAt n2 n3 l0 l1) (n := n10.toNat)
        refine req_i ?_ ?_
        · -- r72
          first | omega | ((try simp only [Int.toNat_natCast, List.length_cons, List.length_nil]); first | done | omega | assumption | grind [getD_set, getD_rep, toNat_succ, cntN_yes, cntN_no])
        refine req_i ?_ ?_
        · -- r73
          first | omega | ((try simp only [Int.toNat_natCast, List.length_cons, List.length_nil, Nat.add_eq, Nat.zero_add]); first | done | omega | assumption | grind [getD_set, getD_rep, toNat_succ, cntN_yes, cntN_no])
        refine req_i ?_ ?_
        · -- r74
          first | omega | ((try simp only [Int.toNat_natCast, List.length_cons, List.length_nil, Nat.add_eq, Nat.zero_add]); first | done | omega | assumption | grind [getD_set, getD_rep, toNat_succ, cntN_yes, cntN_no])
        refine req_i ?_ ?_
        · -- r75
          first | omega | assumption | grind
        refine req_i ?_ ?_
        · -- r76
          first | omega | assumption | grind
        refine req_i ?_ ?_
        · -- r77
          first | omega | assumption | grind
        refine req_i ?_ ?_
        · -- r78
          first | omega | assumption | grind
        refine req_i ?_ ?_
        · -- r79
          first | omega | assumption | grind
        refine req_i ?_ ?_
        · -- r80
          first | omega | assumption | grind
        refine req_i ?_ ?_
        · -- r81
          first | trivial | assumption | (simp only [sigLost, lostPost, List.cons.injEq, DV.b.injEq, and_true, Int.toNat_natCast, List.length_cons, List.length_nil, Nat.add_eq, Nat.zero_add]; done) | ((try simp only [sigLost, lostPost, List.cons.injEq, DV.b.injEq, and_true, Int.toNat_natCast, List.length_cons, List.length_nil, Nat.add_eq, Nat.zero_add]); first | omega | assumption | grind)
        refine all_i fun b12 => ?_
        refine imp_i fun h33 => ?_
        try simp only [sigLost, lostPost, List.cons.injEq, DV.b.injEq, and_true, Int.toNat_natCast, List.length_cons, List.length_nil, Nat.add_eq, Nat.zero_add] at h33
        refine bR_i (fun h34 => ?_) (fun h34 => ?_)
        ·
          have cs := cntN_yes (p := lostAt n2 n3 l0 l1) (n := n10.toNat) (.inl (h33.1 h34))
          refine bR_t ?_ ?_
          · -- g2
            first | rfl | (simp only [bR_iff, bR_iff_f, dec_iff, dec_f, beqB_iff', andB_iff', reduceCtorEq, imp_self, false_implies, and_true, true_and, implies_true, and_self]; done) | (simp [bR_iff, dec_iff, beqB_iff', andB_iff']; done) | (simp [bR_iff, dec_iff, beqB_iff', andB_iff']; omega)
          refine bR_t ?_ ?_
          · -- g3
            first | rfl | (simp only [bR_iff, bR_iff_f, dec_iff, dec_f, beqB_iff', andB_iff', reduceCtorEq, imp_self, false_implies, and_true, true_and, implies_true, and_self]; done) | (simp [bR_iff, dec_iff, beqB_iff', andB_iff']; done) | (simp [bR_iff, dec_iff, beqB_iff', andB_iff']; omega)
          refine req_i ?_ ?_
          · -- r82
            first | omega | assumption | grind
          refine req_i ?_ ?_
          · -- r83
            first | omega | assumption | grind
          refine req_i ?_ ?_
          · -- r84
            first | omega | assumption | grind
          refine req_i ?_ ?_
          · -- r85
            first | omega | assumption | grind
          refine req_i ?_ ?_
          · -- r86
            first | omega | ((try simp only [losL, losInv, mea0, List.cons.injEq, DV.b.injEq, and_true, List.length_take, List.take_length, List.take_take, Nat.min_self, List.length_drop, List.drop_zero, List.length_cons, List.length_nil]); first | done | omega | assumption | grind [getD_set, getD_rep, toNat_succ, cntN_yes, cntN_no])
          refine req_i ?_ ?_
          · -- r87
            first | omega | ((try simp only [losL, losInv, mea0, List.cons.injEq, DV.b.injEq, and_true, List.length_take, List.take_length, List.take_take, Nat.min_self, List.length_drop, List.drop_zero, List.length_cons, List.length_nil]); first | done | omega | assumption | grind [getD_set, getD_rep, toNat_succ, cntN_yes, cntN_no])
          rfl
        ·
          refine req_i ?_ ?_
          · -- r88
            first | omega | assumption | grind
          refine req_i ?_ ?_
          · -- r89
            first | omega | assumption | grind
          refine req_i ?_ ?_
          · -- r90
            first | omega | assumption | grind
          refine req_i ?_ ?_
          · -- r91
            first | omega | assumption | grind
          refine req_i ?_ ?_
          · -- r92
            first | omega | assumption | grind
          refine req_i ?_ ?_
          · -- r93
            first | omega | assumption | grind
          refine req_i ?_ ?_
          · -- r94
            first | trivial | assumption | (simp only [sigLost, lostPost, List.cons.injEq, DV.b.injEq, and_true, Int.toNat_natCast, List.length_cons, List.length_nil, Nat.add_eq, Nat.zero_add]; done) | ((try simp only [sigLost, lostPost, List.cons.injEq, DV.b.injEq, and_true, Int.toNat_natCast, List.length_cons, List.length_nil, Nat.add_eq, Nat.zero_add]); first | omega | assumption | grind)
          refine all_i fun b13 => ?_
          refine imp_i fun h35 => ?_
          try simp only [sigLost, lostPost, List.cons.injEq, DV.b.injEq, and_true, Int.toNat_natCast, List.length_cons, List.length_nil, Nat.add_eq, Nat.zero_add] at h35
          refine bR_i (fun h36 => ?_) (fun h36 => ?_)
          ·
            have cs := cntN_yes (p := lostAt n2 n3 l0 l1) (n := n10.toNat) (.inr (h35.1 h36))
            refine bR_t ?_ ?_
            · -- g4
              first | rfl | (simp only [bR_iff, bR_iff_f, dec_iff, dec_f, beqB_iff', andB_iff', reduceCtorEq, imp_self, false_implies, and_true, true_and, implies_true, and_self]; done) | (simp [bR_iff, dec_iff, beqB_iff', andB_iff']; done) | (simp [bR_iff, dec_iff, beqB_iff', andB_iff']; omega)
            refine bR_t ?_ ?_
            · -- g5
              first | rfl | (simp only [bR_iff, bR_iff_f, dec_iff, dec_f, beqB_iff', andB_iff', reduceCtorEq, imp_self, false_implies, and_true, true_and, implies_true, and_self]; done) | (simp [bR_iff, dec_iff, beqB_iff', andB_iff']; done) | (simp [bR_iff, dec_iff, beqB_iff', andB_iff']; omega)
            refine req_i ?_ ?_
            · -- r95
              first | omega | assumption | grind
            refine req_i ?_ ?_
            · -- r96
              first | omega | assumption | grind
            refine req_i ?_ ?_
            · -- r97
              first | omega | assumption | grind
            refine req_i ?_ ?_
            · -- r98
              first | omega | assumption | grind
            refine req_i ?_ ?_
            · -- r99
              first | omega | ((try simp only [losL, losInv, mea0, List.cons.injEq, DV.b.injEq, and_true, List.length_take, List.take_length, List.take_take, Nat.min_self, List.length_drop, List.drop_zero, List.length_cons, List.length_nil]); first | done | omega | assumption | grind [getD_set, getD_rep, toNat_succ, cntN_yes, cntN_no])
            refine req_i ?_ ?_
            · -- r100
              first | omega | ((try simp only [losL, losInv, mea0, List.cons.injEq, DV.b.injEq, and_true, List.length_take, List.take_length, List.take_take, Nat.min_self, List.length_drop, List.drop_zero, List.length_cons, List.length_nil]); first | done | omega | assumption | grind [getD_set, getD_rep, toNat_succ, cntN_yes, cntN_no])
            rfl
          ·
            have cs := cntN_no (p := lostAt n2 n3 l0 l1) (n := n10.toNat) (fun g => by rcases g with g | g; exact absurd (h33.2 g) (by rw [h34]; decide); exact absurd (h35.2 g) (by rw [h36]; decide))
            refine bR_t ?_ ?_
            · -- g6
              first | rfl | (simp only [bR_iff, bR_iff_f, dec_iff, dec_f, beqB_iff', andB_iff', reduceCtorEq, imp_self, false_implies, and_true, true_and, implies_true, and_self]; done) | (simp [bR_iff, dec_iff, beqB_iff', andB_iff']; done) | (simp [bR_iff, dec_iff, beqB_iff', andB_iff']; omega)
            refine bR_t ?_ ?_
            · -- g7
              first | rfl | (simp only [bR_iff, bR_iff_f, dec_iff, dec_f, beqB_iff', andB_iff', reduceCtorEq, imp_self, false_implies, and_true, true_and, implies_true, and_self]; done) | (simp [bR_iff, dec_iff, beqB_iff', andB_iff']; done) | (simp [bR_iff, dec_iff, beqB_iff', andB_iff']; omega)
            refine req_i ?_ ?_
            · -- r101
              first | omega | assumption | grind
            refine req_i ?_ ?_
            · -- r102
              first | omega | assumption | grind
            refine req_i ?_ ?_
            · -- r103
              first | omega | assumption | grind
            refine req_i ?_ ?_
            · -- r104
              first | omega | assumption | grind
            refine req_i ?_ ?_
            · -- r105
              first | omega | ((try simp only [losL, losInv, mea0, List.cons.injEq, DV.b.injEq, and_true, List.length_take, List.take_length, List.take_take, Nat.min_self, List.length_drop, List.drop_zero, List.length_cons, List.length_nil]); first | done | omega | assumption | grind [getD_set, getD_rep, toNat_succ, cntN_yes, cntN_no])
            refine req_i ?_ ?_
            · -- r106
              first | omega | ((try simp only [losL, losInv, mea0, List.cons.injEq, DV.b.injEq, and_true, List.length_take, List.take_length, List.take_take, Nat.min_self, List.length_drop, List.drop_zero, List.length_cons, List.length_nil]); first | done | omega | assumption | grind [getD_set, getD_rep, toNat_succ, cntN_yes, cntN_no])
            rfl
      ·
        refine req_i ?_ ?_
        · -- r107
          first | omega | ((try simp only [Int.toNat_natCast, List.length_cons, List.length_nil, Nat.mul_eq]); first | done | omega | assumption | grind [getD_set, getD_rep, toNat_succ, cntN_yes, cntN_no])
        refine req_i ?_ ?_
        · -- r108
          first | omega | ((try simp only [Int.toNat_natCast, List.length_cons, List.length_nil]); first | done | omega | assumption | grind [getD_set, getD_rep, toNat_succ, cntN_yes, cntN_no])
        refine req_i ?_ ?_
        · -- r109
          first | omega | ((try simp only [Int.toNat_natCast, List.length_take, List.take_length, List.take_take, Nat.min_self, List.length_drop, List.drop_zero, List.length_cons, List.length_nil]); first | done | omega | assumption | grind [getD_set, getD_rep, toNat_succ, cntN_yes, cntN_no])
        refine req_i ?_ ?_
        · -- r110
          first | assumption | exact rep_bd (by omega) (by omega) | exact set_bd (by assumption) (by omega) (by omega) | exact take_bd (by assumption) | ((try simp only [Int.toNat_natCast, List.length_take, List.take_length, List.take_take, Nat.min_self, List.length_drop, List.drop_zero, List.length_cons, List.length_nil]); first | assumption | exact rep_bd (by omega) (by omega) | exact set_bd (by assumption) (by omega) (by omega) | exact take_bd (by assumption) | grind [getD_set, getD_rep, toNat_succ, cntN_yes, cntN_no])
        refine req_i ?_ ?_
        · -- r111
          first | omega | ((try simp only [Int.toNat_natCast, List.length_take, List.take_length, List.take_take, Nat.min_self, List.length_drop, List.drop_zero, List.length_cons, List.length_nil]); first | done | omega | assumption | grind [getD_set, getD_rep, toNat_succ, cntN_yes, cntN_no])
        refine req_i ?_ ?_
        · -- r112
          first | assumption | exact rep_bd (by omega) (by omega) | exact set_bd (by assumption) (by omega) (by omega) | exact take_bd (by assumption) | ((try simp only [Int.toNat_natCast, List.length_take, List.take_length, List.take_take, Nat.min_self, List.length_drop, List.drop_zero, List.length_cons, List.length_nil]); first | assumption | exact rep_bd (by omega) (by omega) | exact set_bd (by assumption) (by omega) (by omega) | exact take_bd (by assumption) | grind [getD_set, getD_rep, toNat_succ, cntN_yes, cntN_no])
        refine req_i ?_ ?_
        · -- r113
          first | omega | assumption | grind
        refine req_i ?_ ?_
        · -- r114
          first | omega | assumption | grind
        refine req_i ?_ ?_
        · -- r115
          first | omega | ((try simp only [sigQuan, quanPost, List.cons.injEq, DV.b.injEq, and_true, Int.toNat_natCast, List.length_take, List.take_length, List.take_take, Nat.min_self, List.length_drop, List.drop_zero, List.length_cons, List.length_nil]); first | done | omega | assumption | grind [getD_set, getD_rep, toNat_succ, cntN_yes, cntN_no])
        rfl
theorem ext_quan : ∀ p ∈ ([(31, Ext.ctr (ctOf sigChkA)), (32, Ext.ctr (ctOf sigLev)), (33, Ext.ctr (ctOf sigLost))] : List (Nat × Ext)), ExtRow Try.prog p.1 p.2 := by
  intro p hp
  simp only [List.mem_cons, List.not_mem_nil, or_false] at hp
  rcases hp with rfl | rfl | rfl <;> trivial
theorem cts_quan : CtsOk Try.prog [(31, Ext.ctr (ctOf sigChkA)), (32, Ext.ctr (ctOf sigLev)), (33, Ext.ctr (ctOf sigLost))] := ctsOk_of (cs := [(31, sigChkA), (32, sigLev), (33, sigLost)])
  (fun p hp => by
    simp only [List.mem_cons, List.not_mem_nil, or_false] at hp
    rcases hp with rfl | rfl | rfl
    · exact fn_chkA
    · exact fn_lev
    · exact fn_lost
)
  (fun f c h => by
    simp only [List.lookup_cons] at h
    repeat' split at h
    all_goals first | (cases h; done) | (rename_i e; have e := beq_iff_eq.1 e; subst e; cases h; exact ⟨_, by simp, rfl⟩))
theorem fn_quan : FnOk Try.prog 23 sigQuan [] := fn_sound (by kernel_rfl) ext_quan cts_quan names vt_quan
end Go.Proofs.Ytemcaojbhfgpgaa
