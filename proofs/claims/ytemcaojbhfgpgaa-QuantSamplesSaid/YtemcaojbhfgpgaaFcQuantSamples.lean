import Derived.Test.YtemcaojbhfgpgaaSpec13e
import Derived.Test.YtemcaojbhfgpgaaRows
import Derived.Test.YtemcaojbhfgpgaaFbQuantSamples
namespace Go.Proofs.Ytemcaojbhfgpgaa
open Go.Ev Go.Sp
set_option maxRecDepth 100000
theorem vc_QuantSamples : vcFn Try.prog [(17, Ext.ctr (ctOf sigTrue0)), (23, Ext.ctr (ctOf sigQuan)), (24, Ext.ctr (ctOf sigQuan)), (11, Ext.ctr (ctOf sigRest)), (25, Ext.ctr (ctOf sigRest)), (16, Ext.ctr (ctOf sigCount)), (26, Ext.ctr (ctOf sigCount)), (13, Ext.ctr (ctOf sigSamP)), (18, Ext.ctr (ctOf sigEqu))] tab [] 100 5 sigQS = (allB fun l0 : List Int => 
impB (l0.length ≤ (9223372036854775807 : Nat)) (
impB (∀ (y : Int), y ∈ l0 → (-9223372036854775808 : Int) ≤ y ∧ y ≤ (9223372036854775807 : Int)) (
allB fun l1 : List Int => 
impB (l1.length = l0.length) (
impB (∀ (y : Int), y ∈ l1 → (-9223372036854775808 : Int) ≤ y ∧ y ≤ (9223372036854775807 : Int)) (
allB fun n2 : Int => 
impB ((-9223372036854775808 : Int) ≤ n2) (
impB (n2 ≤ (9223372036854775807 : Int)) (
allB fun n3 : Int => 
impB ((-9223372036854775808 : Int) ≤ n3) (
impB (n3 ≤ (9223372036854775807 : Int)) (
impB (sigQS.pre [DV.l l0, DV.l l1, DV.n n2, DV.n n3]) (
bR (dec ((300 : Int) < (↑l0.length : Int))) (
 reqB (sigTrue0.pre []) (
 allB fun b4 : Bool => 
 impB (sigTrue0.post [] [DV.b b4]) (
 reqB (sigQS.post [DV.l l0, DV.l l1, DV.n n2, DV.n n3] [DV.b b4]) (
 true)))) (
 reqB (((0 : Nat) + l0.length) * (2 : Nat) ≤ l0.length.mul (2 : Nat)) (
 reqB (l0.length ≤ (300 : Nat)) (
 reqB ((List.take l0.length (List.drop (0 : Nat) l0)).length = l0.length) (
 reqB (∀ (y : Int),
  y ∈ List.take l0.length (List.drop (0 : Nat) l0) → (-9223372036854775808 : Int) ≤ y ∧ y ≤ (9223372036854775807 : Int)) (
 reqB ((List.take l0.length (List.drop (0 : Nat) l1)).length = l0.length) (
 reqB (∀ (y : Int),
  y ∈ List.take l0.length (List.drop (0 : Nat) l1) → (-9223372036854775808 : Int) ≤ y ∧ y ≤ (9223372036854775807 : Int)) (
 reqB ((-9223372036854775808 : Int) ≤ n2) (
 reqB (n2 ≤ (9223372036854775807 : Int)) (
 reqB ((-9223372036854775808 : Int) ≤ n3) (
 reqB (n3 ≤ (9223372036854775807 : Int)) (
 reqB (sigQuan.pre
  [DV.l (List.take l0.length (List.drop (0 : Nat) l0)), DV.l (List.take l0.length (List.drop (0 : Nat) l1)),
    DV.n n2, DV.n n3]) (
 allB fun l5 : List Int => 
 impB (l5.length ≤ (300 : Nat)) (
 impB (∀ (y : Int), y ∈ l5 → (-9223372036854775808 : Int) ≤ y ∧ y ≤ (9223372036854775807 : Int)) (
 allB fun l6 : List Int => 
 impB (l6.length = l5.length) (
 impB (∀ (y : Int), y ∈ l6 → (-9223372036854775808 : Int) ≤ y ∧ y ≤ (9223372036854775807 : Int)) (
 allB fun n7 : Int => 
 impB ((0 : Int) ≤ n7) (
 impB (n7 ≤ (300 : Int)) (
 allB fun n8 : Int => 
 impB ((0 : Int) ≤ n8) (
 impB (n8 ≤ (18 : Int)) (
 impB (sigQuan.post
  [DV.l (List.take l0.length (List.drop (0 : Nat) l0)), DV.l (List.take l0.length (List.drop (0 : Nat) l1)),
    DV.n n2, DV.n n3]
  [DV.l l5, DV.l l6, DV.n n7, DV.n n8]) (
 reqB (((0 : Nat) + l0.length) * (2 : Nat) ≤ l0.length.mul (2 : Nat)) (
 reqB (l0.length ≤ (300 : Nat)) (
 reqB ((List.take l0.length (List.drop (0 : Nat) l0)).length = l0.length) (
 reqB (∀ (y : Int),
  y ∈ List.take l0.length (List.drop (0 : Nat) l0) → (-9223372036854775808 : Int) ≤ y ∧ y ≤ (9223372036854775807 : Int)) (
 reqB ((List.take l0.length (List.drop (0 : Nat) l1)).length = l0.length) (
 reqB (∀ (y : Int),
  y ∈ List.take l0.length (List.drop (0 : Nat) l1) → (-9223372036854775808 : Int) ≤ y ∧ y ≤ (9223372036854775807 : Int)) (
 reqB ((-9223372036854775808 : Int) ≤ n2) (
 reqB (n2 ≤ (9223372036854775807 : Int)) (
 reqB ((-9223372036854775808 : Int) ≤ n3) (
 reqB (n3 ≤ (9223372036854775807 : Int)) (
 reqB (sigQuan.pre
  [DV.l (List.take l0.length (List.drop (0 : Nat) l0)), DV.l (List.take l0.length (List.drop (0 : Nat) l1)),
    DV.n n2, DV.n n3]) (
 allB fun l9 : List Int => 
 impB (l9.length ≤ (300 : Nat)) (
 impB (∀ (y : Int), y ∈ l9 → (-9223372036854775808 : Int) ≤ y ∧ y ≤ (9223372036854775807 : Int)) (
 allB fun l10 : List Int => 
 impB (l10.length = l9.length) (
 impB (∀ (y : Int), y ∈ l10 → (-9223372036854775808 : Int) ≤ y ∧ y ≤ (9223372036854775807 : Int)) (
 allB fun n11 : Int => 
 impB ((0 : Int) ≤ n11) (
 impB (n11 ≤ (300 : Int)) (
 allB fun n12 : Int => 
 impB ((0 : Int) ≤ n12) (
 impB (n12 ≤ (18 : Int)) (
 impB (sigQuan.post
  [DV.l (List.take l0.length (List.drop (0 : Nat) l0)), DV.l (List.take l0.length (List.drop (0 : Nat) l1)),
    DV.n n2, DV.n n3]
  [DV.l l9, DV.l l10, DV.n n11, DV.n n12]) (
 reqB (((0 : Nat) + l0.length) * (2 : Nat) ≤ l0.length.mul (2 : Nat)) (
 reqB (l0.length ≤ (300 : Nat)) (
 reqB ((List.take l0.length (List.drop (0 : Nat) l0)).length = l0.length) (
 reqB (∀ (y : Int),
  y ∈ List.take l0.length (List.drop (0 : Nat) l0) → (-9223372036854775808 : Int) ≤ y ∧ y ≤ (9223372036854775807 : Int)) (
 reqB ((List.take l0.length (List.drop (0 : Nat) l1)).length = l0.length) (
 reqB (∀ (y : Int),
  y ∈ List.take l0.length (List.drop (0 : Nat) l1) → (-9223372036854775808 : Int) ≤ y ∧ y ≤ (9223372036854775807 : Int)) (
 reqB ((-9223372036854775808 : Int) ≤ n2) (
 reqB (n2 ≤ (9223372036854775807 : Int)) (
 reqB ((-9223372036854775808 : Int) ≤ n3) (
 reqB (n3 ≤ (9223372036854775807 : Int)) (
 reqB (sigRest.pre
  [DV.l (List.take l0.length (List.drop (0 : Nat) l0)), DV.l (List.take l0.length (List.drop (0 : Nat) l1)),
    DV.n n2, DV.n n3]) (
 allB fun l13 : List Int => 
 impB (l13.length ≤ (300 : Nat)) (
 impB (∀ (y : Int), y ∈ l13 → (-9223372036854775808 : Int) ≤ y ∧ y ≤ (9223372036854775807 : Int)) (
 allB fun l14 : List Int => 
 impB (l14.length = l13.length) (
 impB (∀ (y : Int), y ∈ l14 → (-9223372036854775808 : Int) ≤ y ∧ y ≤ (9223372036854775807 : Int)) (
 allB fun n15 : Int => 
 impB ((0 : Int) ≤ n15) (
 impB (n15 ≤ (18 : Int)) (
 impB (sigRest.post
  [DV.l (List.take l0.length (List.drop (0 : Nat) l0)), DV.l (List.take l0.length (List.drop (0 : Nat) l1)),
    DV.n n2, DV.n n3]
  [DV.l l13, DV.l l14, DV.n n15]) (
 reqB (((0 : Nat) + l0.length) * (2 : Nat) ≤ l0.length.mul (2 : Nat)) (
 reqB (l0.length ≤ (300 : Nat)) (
 reqB ((List.take l0.length (List.drop (0 : Nat) l0)).length = l0.length) (
 reqB (∀ (y : Int),
  y ∈ List.take l0.length (List.drop (0 : Nat) l0) → (-9223372036854775808 : Int) ≤ y ∧ y ≤ (9223372036854775807 : Int)) (
 reqB ((List.take l0.length (List.drop (0 : Nat) l1)).length = l0.length) (
 reqB (∀ (y : Int),
  y ∈ List.take l0.length (List.drop (0 : Nat) l1) → (-9223372036854775808 : Int) ≤ y ∧ y ≤ (9223372036854775807 : Int)) (
 reqB ((-9223372036854775808 : Int) ≤ n2) (
 reqB (n2 ≤ (9223372036854775807 : Int)) (
 reqB ((-9223372036854775808 : Int) ≤ n3) (
 reqB (n3 ≤ (9223372036854775807 : Int)) (
 reqB (sigRest.pre
  [DV.l (List.take l0.length (List.drop (0 : Nat) l0)), DV.l (List.take l0.length (List.drop (0 : Nat) l1)),
    DV.n n2, DV.n n3]) (
 allB fun l16 : List Int => 
 impB (l16.length ≤ (300 : Nat)) (
 impB (∀ (y : Int), y ∈ l16 → (-9223372036854775808 : Int) ≤ y ∧ y ≤ (9223372036854775807 : Int)) (
 allB fun l17 : List Int => 
 impB (l17.length = l16.length) (
 impB (∀ (y : Int), y ∈ l17 → (-9223372036854775808 : Int) ≤ y ∧ y ≤ (9223372036854775807 : Int)) (
 allB fun n18 : Int => 
 impB ((0 : Int) ≤ n18) (
 impB (n18 ≤ (18 : Int)) (
 impB (sigRest.post
  [DV.l (List.take l0.length (List.drop (0 : Nat) l0)), DV.l (List.take l0.length (List.drop (0 : Nat) l1)),
    DV.n n2, DV.n n3]
  [DV.l l16, DV.l l17, DV.n n18]) (
 reqB (((0 : Nat) + l0.length) * (2 : Nat) ≤ l0.length.mul (2 : Nat)) (
 reqB (l0.length ≤ (300 : Nat)) (
 reqB ((List.take l0.length (List.drop (0 : Nat) l0)).length = l0.length) (
 reqB (∀ (y : Int),
  y ∈ List.take l0.length (List.drop (0 : Nat) l0) → (-9223372036854775808 : Int) ≤ y ∧ y ≤ (9223372036854775807 : Int)) (
 reqB ((List.take l0.length (List.drop (0 : Nat) l1)).length = l0.length) (
 reqB (∀ (y : Int),
  y ∈ List.take l0.length (List.drop (0 : Nat) l1) → (-9223372036854775808 : Int) ≤ y ∧ y ≤ (9223372036854775807 : Int)) (
 reqB ((-9223372036854775808 : Int) ≤ n2) (
 reqB (n2 ≤ (9223372036854775807 : Int)) (
 reqB ((-9223372036854775808 : Int) ≤ n3) (
 reqB (n3 ≤ (9223372036854775807 : Int)) (
 reqB (sigCount.pre
  [DV.l (List.take l0.length (List.drop (0 : Nat) l0)), DV.l (List.take l0.length (List.drop (0 : Nat) l1)),
    DV.n n2, DV.n n3]) (
 allB fun l19 : List Int => 
 impB (l19.length ≤ (255 : Nat)) (
 impB (∀ (y : Int), y ∈ l19 → (0 : Int) ≤ y ∧ y ≤ (600 : Int)) (
 allB fun n20 : Int => 
 impB ((0 : Int) ≤ n20) (
 impB (n20 ≤ (18 : Int)) (
 impB (sigCount.post
  [DV.l (List.take l0.length (List.drop (0 : Nat) l0)), DV.l (List.take l0.length (List.drop (0 : Nat) l1)),
    DV.n n2, DV.n n3]
  [DV.l l19, DV.n n20]) (
 reqB (((0 : Nat) + l0.length) * (2 : Nat) ≤ l0.length.mul (2 : Nat)) (
 reqB (l0.length ≤ (300 : Nat)) (
 reqB ((List.take l0.length (List.drop (0 : Nat) l0)).length = l0.length) (
 reqB (∀ (y : Int),
  y ∈ List.take l0.length (List.drop (0 : Nat) l0) → (-9223372036854775808 : Int) ≤ y ∧ y ≤ (9223372036854775807 : Int)) (
 reqB ((List.take l0.length (List.drop (0 : Nat) l1)).length = l0.length) (
 reqB (∀ (y : Int),
  y ∈ List.take l0.length (List.drop (0 : Nat) l1) → (-9223372036854775808 : Int) ≤ y ∧ y ≤ (9223372036854775807 : Int)) (
 reqB ((-9223372036854775808 : Int) ≤ n2) (
 reqB (n2 ≤ (9223372036854775807 : Int)) (
 reqB ((-9223372036854775808 : Int) ≤ n3) (
 reqB (n3 ≤ (9223372036854775807 : Int)) (
 reqB (sigCount.pre
  [DV.l (List.take l0.length (List.drop (0 : Nat) l0)), DV.l (List.take l0.length (List.drop (0 : Nat) l1)),
    DV.n n2, DV.n n3]) (
 allB fun l21 : List Int => 
 impB (l21.length ≤ (255 : Nat)) (
 impB (∀ (y : Int), y ∈ l21 → (0 : Int) ≤ y ∧ y ≤ (600 : Int)) (
 allB fun n22 : Int => 
 impB ((0 : Int) ≤ n22) (
 impB (n22 ≤ (18 : Int)) (
 impB (sigCount.post
  [DV.l (List.take l0.length (List.drop (0 : Nat) l0)), DV.l (List.take l0.length (List.drop (0 : Nat) l1)),
    DV.n n2, DV.n n3]
  [DV.l l21, DV.n n22]) (
 reqB (((0 : Nat) + l5.length) * (2 : Nat) ≤ l5.length.mul (2 : Nat)) (
 reqB (l5.length ≤ (9223372036854775807 : Nat)) (
 reqB ((List.take l5.length (List.drop (0 : Nat) l5)).length = l5.length) (
 reqB (∀ (y : Int),
  y ∈ List.take l5.length (List.drop (0 : Nat) l5) → (-9223372036854775808 : Int) ≤ y ∧ y ≤ (9223372036854775807 : Int)) (
 reqB ((List.take l5.length (List.drop (0 : Nat) l6)).length = l5.length) (
 reqB (∀ (y : Int),
  y ∈ List.take l5.length (List.drop (0 : Nat) l6) → (-9223372036854775808 : Int) ≤ y ∧ y ≤ (9223372036854775807 : Int)) (
 reqB (((0 : Nat) + l9.length) * (2 : Nat) ≤ l9.length.mul (2 : Nat)) (
 reqB (l9.length ≤ (9223372036854775807 : Nat)) (
 reqB ((List.take l9.length (List.drop (0 : Nat) l9)).length = l9.length) (
 reqB (∀ (y : Int),
  y ∈ List.take l9.length (List.drop (0 : Nat) l9) → (-9223372036854775808 : Int) ≤ y ∧ y ≤ (9223372036854775807 : Int)) (
 reqB ((List.take l9.length (List.drop (0 : Nat) l10)).length = l9.length) (
 reqB (∀ (y : Int),
  y ∈ List.take l9.length (List.drop (0 : Nat) l10) → (-9223372036854775808 : Int) ≤ y ∧ y ≤ (9223372036854775807 : Int)) (
 reqB (sigSamP.pre
  [DV.l (List.take l5.length (List.drop (0 : Nat) l5)), DV.l (List.take l5.length (List.drop (0 : Nat) l6)),
    DV.l (List.take l9.length (List.drop (0 : Nat) l9)),
    DV.l (List.take l9.length (List.drop (0 : Nat) l10))]) (
 allB fun b23 : Bool => 
 impB (sigSamP.post
  [DV.l (List.take l5.length (List.drop (0 : Nat) l5)), DV.l (List.take l5.length (List.drop (0 : Nat) l6)),
    DV.l (List.take l9.length (List.drop (0 : Nat) l9)),
    DV.l (List.take l9.length (List.drop (0 : Nat) l10))]
  [DV.b b23]) (
 bR (b23) (
  bR (dec (n7 = n11)) (
   bR (dec (n8 = n12)) (
    reqB (((0 : Nat) + l13.length) * (2 : Nat) ≤ l13.length.mul (2 : Nat)) (
    reqB (l13.length ≤ (9223372036854775807 : Nat)) (
    reqB ((List.take l13.length (List.drop (0 : Nat) l13)).length = l13.length) (
    reqB (∀ (y : Int),
  y ∈ List.take l13.length (List.drop (0 : Nat) l13) →
    (-9223372036854775808 : Int) ≤ y ∧ y ≤ (9223372036854775807 : Int)) (
    reqB ((List.take l13.length (List.drop (0 : Nat) l14)).length = l13.length) (
    reqB (∀ (y : Int),
  y ∈ List.take l13.length (List.drop (0 : Nat) l14) →
    (-9223372036854775808 : Int) ≤ y ∧ y ≤ (9223372036854775807 : Int)) (
    reqB (((0 : Nat) + l16.length) * (2 : Nat) ≤ l16.length.mul (2 : Nat)) (
    reqB (l16.length ≤ (9223372036854775807 : Nat)) (
    reqB ((List.take l16.length (List.drop (0 : Nat) l16)).length = l16.length) (
    reqB (∀ (y : Int),
  y ∈ List.take l16.length (List.drop (0 : Nat) l16) →
    (-9223372036854775808 : Int) ≤ y ∧ y ≤ (9223372036854775807 : Int)) (
    reqB ((List.take l16.length (List.drop (0 : Nat) l17)).length = l16.length) (
    reqB (∀ (y : Int),
  y ∈ List.take l16.length (List.drop (0 : Nat) l17) →
    (-9223372036854775808 : Int) ≤ y ∧ y ≤ (9223372036854775807 : Int)) (
    reqB (sigSamP.pre
  [DV.l (List.take l13.length (List.drop (0 : Nat) l13)),
    DV.l (List.take l13.length (List.drop (0 : Nat) l14)),
    DV.l (List.take l16.length (List.drop (0 : Nat) l16)),
    DV.l (List.take l16.length (List.drop (0 : Nat) l17))]) (
    allB fun b24 : Bool => 
    impB (sigSamP.post
  [DV.l (List.take l13.length (List.drop (0 : Nat) l13)),
    DV.l (List.take l13.length (List.drop (0 : Nat) l14)),
    DV.l (List.take l16.length (List.drop (0 : Nat) l16)),
    DV.l (List.take l16.length (List.drop (0 : Nat) l17))]
  [DV.b b24]) (
    bR (b24) (
     bR (dec (n15 = n18)) (
      reqB (((0 : Nat) + l19.length) * (1 : Nat) ≤ l19.length.mul (1 : Nat)) (
      reqB (l19.length ≤ (9223372036854775807 : Nat)) (
      reqB ((List.take l19.length (List.drop (0 : Nat) l19)).length = l19.length) (
      reqB (∀ (y : Int),
  y ∈ List.take l19.length (List.drop (0 : Nat) l19) →
    (-9223372036854775808 : Int) ≤ y ∧ y ≤ (9223372036854775807 : Int)) (
      reqB (((0 : Nat) + l21.length) * (1 : Nat) ≤ l21.length.mul (1 : Nat)) (
      reqB (l21.length ≤ (9223372036854775807 : Nat)) (
      reqB ((List.take l21.length (List.drop (0 : Nat) l21)).length = l21.length) (
      reqB (∀ (y : Int),
  y ∈ List.take l21.length (List.drop (0 : Nat) l21) →
    (-9223372036854775808 : Int) ≤ y ∧ y ≤ (9223372036854775807 : Int)) (
      reqB (sigEqu.pre
  [DV.l (List.take l19.length (List.drop (0 : Nat) l19)),
    DV.l (List.take l21.length (List.drop (0 : Nat) l21))]) (
      allB fun b25 : Bool => 
      impB (sigEqu.post
  [DV.l (List.take l19.length (List.drop (0 : Nat) l19)),
    DV.l (List.take l21.length (List.drop (0 : Nat) l21))]
  [DV.b b25]) (
      bR (b25) (
       bR (dec (n20 = n22)) (
        reqB (sigTrue0.pre []) (
        allB fun b26 : Bool => 
        impB (sigTrue0.post [] [DV.b b26]) (
        reqB (sigQS.post [DV.l l0, DV.l l1, DV.n n2, DV.n n3] [DV.b b26]) (
        true)))) (
        reqB (sigQS.post [DV.l l0, DV.l l1, DV.n n2, DV.n n3] [DV.b Bool.false]) (
        true))) (
       reqB (sigQS.post [DV.l l0, DV.l l1, DV.n n2, DV.n n3] [DV.b Bool.false]) (
       true))))))))))))) (
      reqB (sigQS.post [DV.l l0, DV.l l1, DV.n n2, DV.n n3] [DV.b Bool.false]) (
      true))) (
     reqB (sigQS.post [DV.l l0, DV.l l1, DV.n n2, DV.n n3] [DV.b Bool.false]) (
     true))))))))))))))))) (
    reqB (sigQS.post [DV.l l0, DV.l l1, DV.n n2, DV.n n3] [DV.b Bool.false]) (
    true))) (
   reqB (sigQS.post [DV.l l0, DV.l l1, DV.n n2, DV.n n3] [DV.b Bool.false]) (
   true))) (
  reqB (sigQS.post [DV.l l0, DV.l l1, DV.n n2, DV.n n3] [DV.b Bool.false]) (
  true))))))))))))))))))))))))))))))))))))))))))))))))))))))))))))))))))))))))))))))))))))))))))))))))))))))))))))))))))))))))))))))))))))))) := by kernel_rfl
set_option maxHeartbeats 8000000 in
theorem vt_QuantSamples : vcFn Try.prog [(17, Ext.ctr (ctOf sigTrue0)), (23, Ext.ctr (ctOf sigQuan)), (24, Ext.ctr (ctOf sigQuan)), (11, Ext.ctr (ctOf sigRest)), (25, Ext.ctr (ctOf sigRest)), (16, Ext.ctr (ctOf sigCount)), (26, Ext.ctr (ctOf sigCount)), (13, Ext.ctr (ctOf sigSamP)), (18, Ext.ctr (ctOf sigEqu))] tab [] 100 5 sigQS = true := by
  rw [vc_QuantSamples]
  try simp only [Int.toNat_natCast, List.length_set, List.length_replicate, List.length_take, List.length_drop, List.length_append, List.length_cons, List.length_nil, Nat.min_self, List.take_take, lenCols_i, lenCols_b, List.drop_zero, List.take_length, Nat.add_eq, Nat.mul_eq, Nat.sub_eq, Nat.zero_add, Nat.sub_zero, Nat.mul_one]
  refine all_i fun l0 => ?_
  refine imp_i fun h0 => ?_
  refine imp_i fun h1 => ?_
  refine all_i fun l1 => ?_
  refine imp_i fun h2 => ?_
  have tkl1 := take_eq h2
  try simp only [tkl1]
  refine imp_i fun h3 => ?_
  refine all_i fun n2 => ?_
  refine imp_i fun h4 => ?_
  refine imp_i fun h5 => ?_
  refine all_i fun n3 => ?_
  refine imp_i fun h6 => ?_
  refine imp_i fun h7 => ?_
  refine imp_i fun h8 => ?_
  try simp only [sigQS, List.cons.injEq, DV.b.injEq, and_true, List.length_cons, List.length_nil] at h8
  refine bR_dec (fun h9 => ?_) (fun h9 => ?_)
  ·
    refine req_i ?_ ?_
    · -- r0
      first | omega | assumption | grind
    refine all_i fun b4 => ?_
    refine imp_i fun h10 => ?_
    try simp only [sigTrue0, List.cons.injEq, DV.b.injEq, and_true, List.length_cons, List.length_nil] at h10
    refine req_i ?_ ?_
    · -- r1
      first | omega | ((try simp only [sigQS, List.cons.injEq, DV.b.injEq, and_true, List.length_cons, List.length_nil]); first | done | omega | assumption | grind [getD_set, getD_rep, toNat_succ, cntN_yes, cntN_no])
    rfl
  ·
    refine req_i ?_ ?_
    · -- r2
      first | omega | ((try simp only [Nat.mul_eq]); first | done | omega | assumption | grind [getD_set, getD_rep, toNat_succ, cntN_yes, cntN_no])
    refine req_i ?_ ?_
    · -- r3
      first | omega | ((try simp only [Nat.zero_add]); first | done | omega | assumption | grind [getD_set, getD_rep, toNat_succ, cntN_yes, cntN_no])
    refine req_i ?_ ?_
    · -- r4
      first | omega | ((try simp only [List.length_take, List.take_length, List.take_take, Nat.min_self, List.length_drop, List.drop_zero, List.length_cons, List.length_nil]); first | done | omega | assumption | grind [getD_set, getD_rep, toNat_succ, cntN_yes, cntN_no])
    refine req_i ?_ ?_
    · -- r5
      first | assumption | exact rep_bd (by omega) (by omega) | exact set_bd (by assumption) (by omega) (by omega) | exact take_bd (by assumption) | ((try simp only [List.length_take, List.take_length, List.take_take, Nat.min_self, List.length_drop, List.drop_zero, List.length_cons, List.length_nil]); first | assumption | exact rep_bd (by omega) (by omega) | exact set_bd (by assumption) (by omega) (by omega) | exact take_bd (by assumption) | grind [getD_set, getD_rep, toNat_succ, cntN_yes, cntN_no])
    refine req_i ?_ ?_
    · -- r6
      first | omega | ((try simp only [List.length_take, List.take_length, List.take_take, Nat.min_self, List.length_drop, List.drop_zero, List.length_cons, List.length_nil]); first | done | omega | assumption | grind [getD_set, getD_rep, toNat_succ, cntN_yes, cntN_no])
    refine req_i ?_ ?_
    · -- r7
      first | assumption | exact rep_bd (by omega) (by omega) | exact set_bd (by assumption) (by omega) (by omega) | exact take_bd (by assumption) | ((try simp only [List.length_take, List.take_length, List.take_take, Nat.min_self, List.length_drop, List.drop_zero, List.length_cons, List.length_nil]); first | assumption | exact rep_bd (by omega) (by omega) | exact set_bd (by assumption) (by omega) (by omega) | exact take_bd (by assumption) | grind [getD_set, getD_rep, toNat_succ, cntN_yes, cntN_no])
    refine req_i ?_ ?_
    · -- r8
      first | omega | assumption | grind
    refine req_i ?_ ?_
    · -- r9
      first | omega | assumption | grind
    refine req_i ?_ ?_
    · -- r10
      first | omega | assumption | grind
    refine req_i ?_ ?_
    · -- r11
      first | omega | assumption | grind
    refine req_i ?_ ?_
    · -- r12
      first | omega | ((try simp only [sigQuan, quanPost, List.cons.injEq, DV.b.injEq, and_true, List.length_take, List.take_length, List.take_take, Nat.min_self, List.length_drop, List.drop_zero, List.length_cons, List.length_nil]); first | done | omega | assumption | grind [getD_set, getD_rep, toNat_succ, cntN_yes, cntN_no])
    refine all_i fun l5 => ?_
    refine imp_i fun h11 => ?_
    refine imp_i fun h12 => ?_
    refine all_i fun l6 => ?_
    refine imp_i fun h13 => ?_
    have tkl6 := take_eq h13
    try simp only [tkl6]
    refine imp_i fun h14 => ?_
    refine all_i fun n7 => ?_
    refine imp_i fun h15 => ?_
    refine imp_i fun h16 => ?_
    refine all_i fun n8 => ?_
    refine imp_i fun h17 => ?_
    refine imp_i fun h18 => ?_
    refine imp_i fun h19 => ?_
    try simp only [Int.toNat_natCast, List.length_set, List.length_replicate, List.length_take, List.length_drop, List.length_append, List.length_cons, List.length_nil, Nat.min_self, List.take_take, lenCols_i, lenCols_b, List.drop_zero, List.take_length, Nat.add_eq, Nat.mul_eq, Nat.sub_eq, Nat.zero_add, Nat.sub_zero, Nat.mul_one] at h19
    refine req_i ?_ ?_
    · -- r13
      first | omega | ((try simp only [Nat.mul_eq]); first | done | omega | assumption | grind [getD_set, getD_rep, toNat_succ, cntN_yes, cntN_no])
    refine req_i ?_ ?_
    · -- r14
      first | omega | ((try simp only [Nat.zero_add]); first | done | omega | assumption | grind [getD_set, getD_rep, toNat_succ, cntN_yes, cntN_no])
    refine req_i ?_ ?_
    · -- r15
      first | omega | ((try simp only [List.length_take, List.take_length, List.take_take, Nat.min_self, List.length_drop, List.drop_zero, List.length_cons, List.length_nil]); first | done | omega | assumption | grind [getD_set, getD_rep, toNat_succ, cntN_yes, cntN_no])
    refine req_i ?_ ?_
    · -- r16
      first | assumption | exact rep_bd (by omega) (by omega) | exact set_bd (by assumption) (by omega) (by omega) | exact take_bd (by assumption) | ((try simp only [List.length_take, List.take_length, List.take_take, Nat.min_self, List.length_drop, List.drop_zero, List.length_cons, List.length_nil]); first | assumption | exact rep_bd (by omega) (by omega) | exact set_bd (by assumption) (by omega) (by omega) | exact take_bd (by assumption) | grind [getD_set, getD_rep, toNat_succ, cntN_yes, cntN_no])
    refine req_i ?_ ?_
    · -- r17
      first | omega | ((try simp only [List.length_take, List.take_length, List.take_take, Nat.min_self, List.length_drop, List.drop_zero, List.length_cons, List.length_nil]); first | done | omega | assumption | grind [getD_set, getD_rep, toNat_succ, cntN_yes, cntN_no])
    refine req_i ?_ ?_
    · -- r18
      first | assumption | exact rep_bd (by omega) (by omega) | exact set_bd (by assumption) (by omega) (by omega) | exact take_bd (by assumption) | ((try simp only [List.length_take, List.take_length, List.take_take, Nat.min_self, List.length_drop, List.drop_zero, List.length_cons, List.length_nil]); first | assumption | exact rep_bd (by omega) (by omega) | exact set_bd (by assumption) (by omega) (by omega) | exact take_bd (by assumption) | grind [getD_set, getD_rep, toNat_succ, cntN_yes, cntN_no])
    refine req_i ?_ ?_
    · -- r19
      first | omega | assumption | grind
    refine req_i ?_ ?_
    · -- r20
      first | omega | assumption | grind
    refine req_i ?_ ?_
    · -- r21
      first | omega | assumption | grind
    refine req_i ?_ ?_
    · -- r22
      first | omega | assumption | grind
    refine req_i ?_ ?_
    · -- r23
      first | omega | ((try simp only [sigQuan, quanPost, List.cons.injEq, DV.b.injEq, and_true, List.length_take, List.take_length, List.take_take, Nat.min_self, List.length_drop, List.drop_zero, List.length_cons, List.length_nil]); first | done | omega | assumption | grind [getD_set, getD_rep, toNat_succ, cntN_yes, cntN_no])
    refine all_i fun l9 => ?_
    refine imp_i fun h20 => ?_
    refine imp_i fun h21 => ?_
    refine all_i fun l10 => ?_
    refine imp_i fun h22 => ?_
    have tkl10 := take_eq h22
    try simp only [tkl10]
    refine imp_i fun h23 => ?_
    refine all_i fun n11 => ?_
    refine imp_i fun h24 => ?_
    refine imp_i fun h25 => ?_
    refine all_i fun n12 => ?_
    refine imp_i fun h26 => ?_
    refine imp_i fun h27 => ?_
    refine imp_i fun h28 => ?_
    try simp only [Int.toNat_natCast, List.length_set, List.length_replicate, List.length_take, List.length_drop, List.length_append, List.length_cons, List.length_nil, Nat.min_self, List.take_take, lenCols_i, lenCols_b, List.drop_zero, List.take_length, Nat.add_eq, Nat.mul_eq, Nat.sub_eq, Nat.zero_add, Nat.sub_zero, Nat.mul_one] at h28
    obtain ⟨eA, eB, eC, eD⟩ := quan_fun h13 h22 h19 h28
    refine req_i ?_ ?_
    · -- r24
      first | omega | ((try simp only [Nat.mul_eq]); first | done | omega | assumption | grind [getD_set, getD_rep, toNat_succ, cntN_yes, cntN_no])
    refine req_i ?_ ?_
    · -- r25
      first | omega | ((try simp only [Nat.zero_add]); first | done | omega | assumption | grind [getD_set, getD_rep, toNat_succ, cntN_yes, cntN_no])
    refine req_i ?_ ?_
    · -- r26
      first | omega | ((try simp only [List.length_take, List.take_length, List.take_take, Nat.min_self, List.length_drop, List.drop_zero, List.length_cons, List.length_nil]); first | done | omega | assumption | grind [getD_set, getD_rep, toNat_succ, cntN_yes, cntN_no])
    refine req_i ?_ ?_
    · -- r27
      first | assumption | exact rep_bd (by omega) (by omega) | exact set_bd (by assumption) (by omega) (by omega) | exact take_bd (by assumption) | ((try simp only [List.length_take, List.take_length, List.take_take, Nat.min_self, List.length_drop, List.drop_zero, List.length_cons, List.length_nil]); first | assumption | exact rep_bd (by omega) (by omega) | exact set_bd (by assumption) (by omega) (by omega) | exact take_bd (by assumption) | grind [getD_set, getD_rep, toNat_succ, cntN_yes, cntN_no])
    refine req_i ?_ ?_
    · -- r28
      first | omega | ((try simp only [List.length_take, List.take_length, List.take_take, Nat.min_self, List.length_drop, List.drop_zero, List.length_cons, List.length_nil]); first | done | omega | assumption | grind [getD_set, getD_rep, toNat_succ, cntN_yes, cntN_no])
    refine req_i ?_ ?_
    · -- r29
      first | assumption | exact rep_bd (by omega) (by omega) | exact set_bd (by assumption) (by omega) (by omega) | exact take_bd (by assumption) | ((try simp only [List.length_take, List.take_length, List.take_take, Nat.min_self, List.length_drop, List.drop_zero, List.length_cons, List.length_nil]); first | assumption | exact rep_bd (by omega) (by omega) | exact set_bd (by assumption) (by omega) (by omega) | exact take_bd (by assumption) | grind [getD_set, getD_rep, toNat_succ, cntN_yes, cntN_no])
    refine req_i ?_ ?_
    · -- r30
      first | omega | assumption | grind
    refine req_i ?_ ?_
    · -- r31
      first | omega | assumption | grind
    refine req_i ?_ ?_
    · -- r32
      first | omega | assumption | grind
    refine req_i ?_ ?_
    · -- r33
      first | omega | assumption | grind
    refine req_i ?_ ?_
    · -- r34
      first | omega | ((try simp only [sigRest, restPost, List.cons.injEq, DV.b.injEq, and_true, List.length_take, List.take_length, List.take_take, Nat.min_self, List.length_drop, List.drop_zero, List.length_cons, List.length_nil]); first | done | omega | assumption | grind [getD_set, getD_rep, toNat_succ, cntN_yes, cntN_no])
    refine all_i fun l13 => ?_
    refine imp_i fun h29 => ?_
    refine imp_i fun h30 => ?_
    refine all_i fun l14 => ?_
    refine imp_i fun h31 => ?_
    have tkl14 := take_eq h31
    try simp only [tkl14]
    refine imp_i fun h32 => ?_
    refine all_i fun n15 => ?_
    refine imp_i fun h33 => ?_
    refine imp_i fun h34 => ?_
    refine imp_i fun h35 => ?_
    try simp only [Int.toNat_natCast, List.length_set, List.length_replicate, List.length_take, List.length_drop, List.length_append, List.length_cons, List.length_nil, Nat.min_self, List.take_take, lenCols_i, lenCols_b, List.drop_zero, List.take_length, Nat.add_eq, Nat.mul_eq, Nat.sub_eq, Nat.zero_add, Nat.sub_zero, Nat.mul_one] at h35
    refine req_i ?_ ?_
    · -- r35
      first | omega | ((try simp only [Nat.mul_eq]); first | done | omega | assumption | grind [getD_set, getD_rep, toNat_succ, cntN_yes, cntN_no])
    refine req_i ?_ ?_
    · -- r36
      first | omega | ((try simp only [Nat.zero_add]); first | done | omega | assumption | grind [getD_set, getD_rep, toNat_succ, cntN_yes, cntN_no])
    refine req_i ?_ ?_
    · -- r37
      first | omega | ((try simp only [List.length_take, List.take_length, List.take_take, Nat.min_self, List.length_drop, List.drop_zero, List.length_cons, List.length_nil]); first | done | omega | assumption | grind [getD_set, getD_rep, toNat_succ, cntN_yes, cntN_no])
    refine req_i ?_ ?_
    · -- r38
      first | assumption | exact rep_bd (by omega) (by omega) | exact set_bd (by assumption) (by omega) (by omega) | exact take_bd (by assumption) | ((try simp only [List.length_take, List.take_length, List.take_take, Nat.min_self, List.length_drop, List.drop_zero, List.length_cons, List.length_nil]); first | assumption | exact rep_bd (by omega) (by omega) | exact set_bd (by assumption) (by omega) (by omega) | exact take_bd (by assumption) | grind [getD_set, getD_rep, toNat_succ, cntN_yes, cntN_no])
    refine req_i ?_ ?_
    · -- r39
      first | omega | ((try simp only [List.length_take, List.take_length, List.take_take, Nat.min_self, List.length_drop, List.drop_zero, List.length_cons, List.length_nil]); first | done | omega | assumption | grind [getD_set, getD_rep, toNat_succ, cntN_yes, cntN_no])
    refine req_i ?_ ?_
    · -- r40
      first | assumption | exact rep_bd (by omega) (by omega) | exact set_bd (by assumption) (by omega) (by omega) | exact take_bd (by assumption) | ((try simp only [List.length_take, List.take_length, List.take_take, Nat.min_self, List.length_drop, List.drop_zero, List.length_cons, List.length_nil]); first | assumption | exact rep_bd (by omega) (by omega) | exact set_bd (by assumption) (by omega) (by omega) | exact take_bd (by assumption) | grind [getD_set, getD_rep, toNat_succ, cntN_yes, cntN_no])
    refine req_i ?_ ?_
    · -- r41
      first | omega | assumption | grind
    refine req_i ?_ ?_
    · -- r42
      first | omega | assumption | grind
    refine req_i ?_ ?_
    · -- r43
      first | omega | assumption | grind
    refine req_i ?_ ?_
    · -- r44
      first | omega | assumption | grind
    refine req_i ?_ ?_
    · -- r45
      first | omega | ((try simp only [sigRest, restPost, List.cons.injEq, DV.b.injEq, and_true, List.length_take, List.take_length, List.take_take, Nat.min_self, List.length_drop, List.drop_zero, List.length_cons, List.length_nil]); first | done | omega | assumption | grind [getD_set, getD_rep, toNat_succ, cntN_yes, cntN_no])
    refine all_i fun l16 => ?_
    refine imp_i fun h36 => ?_
    refine imp_i fun h37 => ?_
    refine all_i fun l17 => ?_
    refine imp_i fun h38 => ?_
    have tkl17 := take_eq h38
    try simp only [tkl17]
    refine imp_i fun h39 => ?_
    refine all_i fun n18 => ?_
    refine imp_i fun h40 => ?_
    refine imp_i fun h41 => ?_
    refine imp_i fun h42 => ?_
    try simp only [Int.toNat_natCast, List.length_set, List.length_replicate, List.length_take, List.length_drop, List.length_append, List.length_cons, List.length_nil, Nat.min_self, List.take_take, lenCols_i, lenCols_b, List.drop_zero, List.take_length, Nat.add_eq, Nat.mul_eq, Nat.sub_eq, Nat.zero_add, Nat.sub_zero, Nat.mul_one] at h42
    obtain ⟨eE, eF, eG⟩ := rest_fun h31 h38 h35 h42
    refine req_i ?_ ?_
    · -- r46
      first | omega | ((try simp only [Nat.mul_eq]); first | done | omega | assumption | grind [getD_set, getD_rep, toNat_succ, cntN_yes, cntN_no])
    refine req_i ?_ ?_
    · -- r47
      first | omega | ((try simp only [Nat.zero_add]); first | done | omega | assumption | grind [getD_set, getD_rep, toNat_succ, cntN_yes, cntN_no])
    refine req_i ?_ ?_
    · -- r48
      first | omega | ((try simp only [List.length_take, List.take_length, List.take_take, Nat.min_self, List.length_drop, List.drop_zero, List.length_cons, List.length_nil]); first | done | omega | assumption | grind [getD_set, getD_rep, toNat_succ, cntN_yes, cntN_no])
    refine req_i ?_ ?_
    · -- r49
      first | assumption | exact rep_bd (by omega) (by omega) | exact set_bd (by assumption) (by omega) (by omega) | exact take_bd (by assumption) | ((try simp only [List.length_take, List.take_length, List.take_take, Nat.min_self, List.length_drop, List.drop_zero, List.length_cons, List.length_nil]); first | assumption | exact rep_bd (by omega) (by omega) | exact set_bd (by assumption) (by omega) (by omega) | exact take_bd (by assumption) | grind [getD_set, getD_rep, toNat_succ, cntN_yes, cntN_no])
    refine req_i ?_ ?_
    · -- r50
      first | omega | ((try simp only [List.length_take, List.take_length, List.take_take, Nat.min_self, List.length_drop, List.drop_zero, List.length_cons, List.length_nil]); first | done | omega | assumption | grind [getD_set, getD_rep, toNat_succ, cntN_yes, cntN_no])
    refine req_i ?_ ?_
    · -- r51
      first | assumption | exact rep_bd (by omega) (by omega) | exact set_bd (by assumption) (by omega) (by omega) | exact take_bd (by assumption) | ((try simp only [List.length_take, List.take_length, List.take_take, Nat.min_self, List.length_drop, List.drop_zero, List.length_cons, List.length_nil]); first | assumption | exact rep_bd (by omega) (by omega) | exact set_bd (by assumption) (by omega) (by omega) | exact take_bd (by assumption) | grind [getD_set, getD_rep, toNat_succ, cntN_yes, cntN_no])
    refine req_i ?_ ?_
    · -- r52
      first | omega | assumption | grind
    refine req_i ?_ ?_
    · -- r53
      first | omega | assumption | grind
    refine req_i ?_ ?_
    · -- r54
      first | omega | assumption | grind
    refine req_i ?_ ?_
    · -- r55
      first | omega | assumption | grind
    refine req_i ?_ ?_
    · -- r56
      first | omega | ((try simp only [sigCount, countPost, List.cons.injEq, DV.b.injEq, and_true, List.length_take, List.take_length, List.take_take, Nat.min_self, List.length_drop, List.drop_zero, List.length_cons, List.length_nil]); first | done | omega | assumption | grind [getD_set, getD_rep, toNat_succ, cntN_yes, cntN_no])
    refine all_i fun l19 => ?_
    refine imp_i fun h43 => ?_
    refine imp_i fun h44 => ?_
    refine all_i fun n20 => ?_
    refine imp_i fun h45 => ?_
    refine imp_i fun h46 => ?_
    refine imp_i fun h47 => ?_
    try simp only [Int.toNat_natCast, List.length_set, List.length_replicate, List.length_take, List.length_drop, List.length_append, List.length_cons, List.length_nil, Nat.min_self, List.take_take, lenCols_i, lenCols_b, List.drop_zero, List.take_length, Nat.add_eq, Nat.mul_eq, Nat.sub_eq, Nat.zero_add, Nat.sub_zero, Nat.mul_one] at h47
    refine req_i ?_ ?_
    · -- r57
      first | omega | ((try simp only [Nat.mul_eq]); first | done | omega | assumption | grind [getD_set, getD_rep, toNat_succ, cntN_yes, cntN_no])
    refine req_i ?_ ?_
    · -- r58
      first | omega | ((try simp only [Nat.zero_add]); first | done | omega | assumption | grind [getD_set, getD_rep, toNat_succ, cntN_yes, cntN_no])
    refine req_i ?_ ?_
    · -- r59
      first | omega | ((try simp only [List.length_take, List.take_length, List.take_take, Nat.min_self, List.length_drop, List.drop_zero, List.length_cons, List.length_nil]); first | done | omega | assumption | grind [getD_set, getD_rep, toNat_succ, cntN_yes, cntN_no])
    refine req_i ?_ ?_
    · -- r60
      first | assumption | exact rep_bd (by omega) (by omega) | exact set_bd (by assumption) (by omega) (by omega) | exact take_bd (by assumption) | ((try simp only [List.length_take, List.take_length, List.take_take, Nat.min_self, List.length_drop, List.drop_zero, List.length_cons, List.length_nil]); first | assumption | exact rep_bd (by omega) (by omega) | exact set_bd (by assumption) (by omega) (by omega) | exact take_bd (by assumption) | grind [getD_set, getD_rep, toNat_succ, cntN_yes, cntN_no])
    refine req_i ?_ ?_
    · -- r61
      first | omega | ((try simp only [List.length_take, List.take_length, List.take_take, Nat.min_self, List.length_drop, List.drop_zero, List.length_cons, List.length_nil]); first | done | omega | assumption | grind [getD_set, getD_rep, toNat_succ, cntN_yes, cntN_no])
    refine req_i ?_ ?_
    · -- r62
      first | assumption | exact rep_bd (by omega) (by omega) | exact set_bd (by assumption) (by omega) (by omega) | exact take_bd (by assumption) | ((try simp only [List.length_take, List.take_length, List.take_take, Nat.min_self, List.length_drop, List.drop_zero, List.length_cons, List.length_nil]); first | assumption | exact rep_bd (by omega) (by omega) | exact set_bd (by assumption) (by omega) (by omega) | exact take_bd (by assumption) | grind [getD_set, getD_rep, toNat_succ, cntN_yes, cntN_no])
    refine req_i ?_ ?_
    · -- r63
      first | omega | assumption | grind
    refine req_i ?_ ?_
    · -- r64
      first | omega | assumption | grind
    refine req_i ?_ ?_
    · -- r65
      first | omega | assumption | grind
    refine req_i ?_ ?_
    · -- r66
      first | omega | assumption | grind
    refine req_i ?_ ?_
    · -- r67
      first | omega | ((try simp only [sigCount, countPost, List.cons.injEq, DV.b.injEq, and_true, List.length_take, List.take_length, List.take_take, Nat.min_self, List.length_drop, List.drop_zero, List.length_cons, List.length_nil]); first | done | omega | assumption | grind [getD_set, getD_rep, toNat_succ, cntN_yes, cntN_no])
    refine all_i fun l21 => ?_
    refine imp_i fun h48 => ?_
    refine imp_i fun h49 => ?_
    refine all_i fun n22 => ?_
    refine imp_i fun h50 => ?_
    refine imp_i fun h51 => ?_
    refine imp_i fun h52 => ?_
    try simp only [Int.toNat_natCast, List.length_set, List.length_replicate, List.length_take, List.length_drop, List.length_append, List.length_cons, List.length_nil, Nat.min_self, List.take_take, lenCols_i, lenCols_b, List.drop_zero, List.take_length, Nat.add_eq, Nat.mul_eq, Nat.sub_eq, Nat.zero_add, Nat.sub_zero, Nat.mul_one] at h52
    obtain ⟨eH, eI⟩ := count_fun h47 h52
    refine req_i ?_ ?_
    · -- r68
      first | omega | ((try simp only [Nat.mul_eq]); first | done | omega | assumption | grind [getD_set, getD_rep, toNat_succ, cntN_yes, cntN_no])
    refine req_i ?_ ?_
    · -- r69
      first | omega | ((try simp only [Nat.zero_add]); first | done | omega | assumption | grind [getD_set, getD_rep, toNat_succ, cntN_yes, cntN_no])
    refine req_i ?_ ?_
    · -- r70
      first | omega | ((try simp only [List.length_take, List.take_length, List.take_take, Nat.min_self, List.length_drop, List.drop_zero, List.length_cons, List.length_nil]); first | done | omega | assumption | grind [getD_set, getD_rep, toNat_succ, cntN_yes, cntN_no])
    refine req_i ?_ ?_
    · -- r71
      first | assumption | exact rep_bd (by omega) (by omega) | exact set_bd (by assumption) (by omega) (by omega) | exact take_bd (by assumption) | ((try simp only [List.length_take, List.take_length, List.take_take, Nat.min_self, List.length_drop, List.drop_zero, List.length_cons, List.length_nil]); first | assumption | exact rep_bd (by omega) (by omega) | exact set_bd (by assumption) (by omega) (by omega) | exact take_bd (by assumption) | grind [getD_set, getD_rep, toNat_succ, cntN_yes, cntN_no])
    refine req_i ?_ ?_
    · -- r72
      first | omega | ((try simp only [List.length_take, List.take_length, List.take_take, Nat.min_self, List.length_drop, List.drop_zero, List.length_cons, List.length_nil]); first | done | omega | assumption | grind [getD_set, getD_rep, toNat_succ, cntN_yes, cntN_no])
    refine req_i ?_ ?_
    · -- r73
      first | assumption | exact rep_bd (by omega) (by omega) | exact set_bd (by assumption) (by omega) (by omega) | exact take_bd (by assumption) | ((try simp only [List.length_take, List.take_length, List.take_take, Nat.min_self, List.length_drop, List.drop_zero, List.length_cons, List.length_nil]); first | assumption | exact rep_bd (by omega) (by omega) | exact set_bd (by assumption) (by omega) (by omega) | exact take_bd (by assumption) | grind [getD_set, getD_rep, toNat_succ, cntN_yes, cntN_no])
    refine req_i ?_ ?_
    · -- r74
      first | omega | ((try simp only [Nat.mul_eq]); first | done | omega | assumption | grind [getD_set, getD_rep, toNat_succ, cntN_yes, cntN_no])
    refine req_i ?_ ?_
    · -- r75
      first | omega | ((try simp only [Nat.zero_add]); first | done | omega | assumption | grind [getD_set, getD_rep, toNat_succ, cntN_yes, cntN_no])
    refine req_i ?_ ?_
    · -- r76
      first | omega | ((try simp only [List.length_take, List.take_length, List.take_take, Nat.min_self, List.length_drop, List.drop_zero, List.length_cons, List.length_nil]); first | done | omega | assumption | grind [getD_set, getD_rep, toNat_succ, cntN_yes, cntN_no])
    refine req_i ?_ ?_
    · -- r77
      first | assumption | exact rep_bd (by omega) (by omega) | exact set_bd (by assumption) (by omega) (by omega) | exact take_bd (by assumption) | ((try simp only [List.length_take, List.take_length, List.take_take, Nat.min_self, List.length_drop, List.drop_zero, List.length_cons, List.length_nil]); first | assumption | exact rep_bd (by omega) (by omega) | exact set_bd (by assumption) (by omega) (by omega) | exact take_bd (by assumption) | grind [getD_set, getD_rep, toNat_succ, cntN_yes, cntN_no])
    refine req_i ?_ ?_
    · -- r78
      first | omega | ((try simp only [List.length_take, List.take_length, List.take_take, Nat.min_self, List.length_drop, List.drop_zero, List.length_cons, List.length_nil]); first | done | omega | assumption | grind [getD_set, getD_rep, toNat_succ, cntN_yes, cntN_no])
    refine req_i ?_ ?_
    · -- r79
      first | assumption | exact rep_bd (by omega) (by omega) | exact set_bd (by assumption) (by omega) (by omega) | exact take_bd (by assumption) | ((try simp only [List.length_take, List.take_length, List.take_take, Nat.min_self, List.length_drop, List.drop_zero, List.length_cons, List.length_nil]); first | assumption | exact rep_bd (by omega) (by omega) | exact set_bd (by assumption) (by omega) (by omega) | exact take_bd (by assumption) | grind [getD_set, getD_rep, toNat_succ, cntN_yes, cntN_no])
    refine req_i ?_ ?_
    · -- r80
      first | omega | ((try simp only [sigSamP, samP, List.cons.injEq, DV.b.injEq, and_true, List.length_take, List.take_length, List.take_take, Nat.min_self, List.length_drop, List.drop_zero, List.length_cons, List.length_nil]); first | done | omega | assumption | grind [getD_set, getD_rep, toNat_succ, cntN_yes, cntN_no])
    refine all_i fun b23 => ?_
    refine imp_i fun h53 => ?_
    try simp only [sigSamP, samP, List.cons.injEq, DV.b.injEq, and_true, List.length_take, List.take_length, List.take_take, Nat.min_self, List.length_drop, List.drop_zero, List.length_cons, List.length_nil] at h53
    refine bR_i (fun h54 => ?_) (fun h54 => ?_)
    ·
      refine bR_dec (fun h55 => ?_) (fun h55 => ?_)
      ·
        refine bR_dec (fun h56 => ?_) (fun h56 => ?_)
        ·
          refine req_i ?_ ?_
          · -- r81
            first | omega | ((try simp only [Nat.mul_eq]); first | done | omega | assumption | grind [getD_set, getD_rep, toNat_succ, cntN_yes, cntN_no])
          refine req_i ?_ ?_
          · -- r82
            first | omega | ((try simp only [Nat.zero_add]); first | done | omega | assumption | grind [getD_set, getD_rep, toNat_succ, cntN_yes, cntN_no])
          refine req_i ?_ ?_
          · -- r83
            first | omega | ((try simp only [List.length_take, List.take_length, List.take_take, Nat.min_self, List.length_drop, List.drop_zero, List.length_cons, List.length_nil]); first | done | omega | assumption | grind [getD_set, getD_rep, toNat_succ, cntN_yes, cntN_no])
          refine req_i ?_ ?_
          · -- r84
            first | assumption | exact rep_bd (by omega) (by omega) | exact set_bd (by assumption) (by omega) (by omega) | exact take_bd (by assumption) | ((try simp only [List.length_take, List.take_length, List.take_take, Nat.min_self, List.length_drop, List.drop_zero, List.length_cons, List.length_nil]); first | assumption | exact rep_bd (by omega) (by omega) | exact set_bd (by assumption) (by omega) (by omega) | exact take_bd (by assumption) | grind [getD_set, getD_rep, toNat_succ, cntN_yes, cntN_no])
          refine req_i ?_ ?_
          · -- r85
            first | omega | ((try simp only [List.length_take, List.take_length, List.take_take, Nat.min_self, List.length_drop, List.drop_zero, List.length_cons, List.length_nil]); first | done | omega | assumption | grind [getD_set, getD_rep, toNat_succ, cntN_yes, cntN_no])
          refine req_i ?_ ?_
          · -- r86
            first | assumption | exact rep_bd (by omega) (by omega) | exact set_bd (by assumption) (by omega) (by omega) | exact take_bd (by assumption) | ((try simp only [List.length_take, List.take_length, List.take_take, Nat.min_self, List.length_drop, List.drop_zero, List.length_cons, List.length_nil]); first | assumption | exact rep_bd (by omega) (by omega) | exact set_bd (by assumption) (by omega) (by omega) | exact take_bd (by assumption) | grind [getD_set, getD_rep, toNat_succ, cntN_yes, cntN_no])
          refine req_i ?_ ?_
          · -- r87
            first | omega | ((try simp only [Nat.mul_eq]); first | done | omega | assumption | grind [getD_set, getD_rep, toNat_succ, cntN_yes, cntN_no])
          refine req_i ?_ ?_
          · -- r88
            first | omega | ((try simp only [Nat.zero_add]); first | done | omega | assumption | grind [getD_set, getD_rep, toNat_succ, cntN_yes, cntN_no])
          refine req_i ?_ ?_
          · -- r89
            first | omega | ((try simp only [List.length_take, List.take_length, List.take_take, Nat.min_self, List.length_drop, List.drop_zero, List.length_cons, List.length_nil]); first | done | omega | assumption | grind [getD_set, getD_rep, toNat_succ, cntN_yes, cntN_no])
          refine req_i ?_ ?_
          · -- r90
            first | assumption | exact rep_bd (by omega) (by omega) | exact set_bd (by assumption) (by omega) (by omega) | exact take_bd (by assumption) | ((try simp only [List.length_take, List.take_length, List.take_take, Nat.min_self, List.length_drop, List.drop_zero, List.length_cons, List.length_nil]); first | assumption | exact rep_bd (by omega) (by omega) | exact set_bd (by assumption) (by omega) (by omega) | exact take_bd (by assumption) | grind [getD_set, getD_rep, toNat_succ, cntN_yes, cntN_no])
          refine req_i ?_ ?_
          · -- r91
            first | omega | ((try simp only [List.length_take, List.take_length, List.take_take, Nat.min_self, List.length_drop, List.drop_zero, List.length_cons, List.length_nil]); first | done | omega | assumption | grind [getD_set, getD_rep, toNat_succ, cntN_yes, cntN_no])
          refine req_i ?_ ?_
          · -- r92
            first | assumption | exact rep_bd (by omega) (by omega) | exact set_bd (by assumption) (by omega) (by omega) | exact take_bd (by assumption) | ((try simp only [List.length_take, List.take_length, List.take_take, Nat.min_self, List.length_drop, List.drop_zero, List.length_cons, List.length_nil]); first | assumption | exact rep_bd (by omega) (by omega) | exact set_bd (by assumption) (by omega) (by omega) | exact take_bd (by assumption) | grind [getD_set, getD_rep, toNat_succ, cntN_yes, cntN_no])
          refine req_i ?_ ?_
          · -- r93
            first | omega | ((try simp only [sigSamP, samP, List.cons.injEq, DV.b.injEq, and_true, List.length_take, List.take_length, List.take_take, Nat.min_self, List.length_drop, List.drop_zero, List.length_cons, List.length_nil]); first | done | omega | assumption | grind [getD_set, getD_rep, toNat_succ, cntN_yes, cntN_no])
          refine all_i fun b24 => ?_
          refine imp_i fun h57 => ?_
          try simp only [sigSamP, samP, List.cons.injEq, DV.b.injEq, and_true, List.length_take, List.take_length, List.take_take, Nat.min_self, List.length_drop, List.drop_zero, List.length_cons, List.length_nil] at h57
          refine bR_i (fun h58 => ?_) (fun h58 => ?_)
          ·
            refine bR_dec (fun h59 => ?_) (fun h59 => ?_)
            ·
              refine req_i ?_ ?_
              · -- r94
                first | omega | ((try simp only [Nat.mul_eq]); first | done | omega | assumption | grind [getD_set, getD_rep, toNat_succ, cntN_yes, cntN_no])
              refine req_i ?_ ?_
              · -- r95
                first | omega | ((try simp only [Nat.zero_add]); first | done | omega | assumption | grind [getD_set, getD_rep, toNat_succ, cntN_yes, cntN_no])
              refine req_i ?_ ?_
              · -- r96
                first | omega | ((try simp only [List.length_take, List.take_length, List.take_take, Nat.min_self, List.length_drop, List.drop_zero, List.length_cons, List.length_nil]); first | done | omega | assumption | grind [getD_set, getD_rep, toNat_succ, cntN_yes, cntN_no])
              refine req_i ?_ ?_
              · -- r97
                first | assumption | exact rep_bd (by omega) (by omega) | exact set_bd (by assumption) (by omega) (by omega) | exact take_bd (by assumption) | ((try simp only [List.length_take, List.take_length, List.take_take, Nat.min_self, List.length_drop, List.drop_zero, List.length_cons, List.length_nil]); first | assumption | exact rep_bd (by omega) (by omega) | exact set_bd (by assumption) (by omega) (by omega) | exact take_bd (by assumption) | grind [getD_set, getD_rep, toNat_succ, cntN_yes, cntN_no])
              refine req_i ?_ ?_
              · -- r98
                first | omega | ((try simp only [Nat.mul_eq]); first | done | omega | assumption | grind [getD_set, getD_rep, toNat_succ, cntN_yes, cntN_no])
              refine req_i ?_ ?_
              · -- r99
                first | omega | ((try simp only [Nat.zero_add]); first | done | omega | assumption | grind [getD_set, getD_rep, toNat_succ, cntN_yes, cntN_no])
              refine req_i ?_ ?_
              · -- r100
                first | omega | ((try simp only [List.length_take, List.take_length, List.take_take, Nat.min_self, List.length_drop, List.drop_zero, List.length_cons, List.length_nil]); first | done | omega | assumption | grind [getD_set, getD_rep, toNat_succ, cntN_yes, cntN_no])
              refine req_i ?_ ?_
              · -- r101
                first | assumption | exact rep_bd (by omega) (by omega) | exact set_bd (by assumption) (by omega) (by omega) | exact take_bd (by assumption) | ((try simp only [List.length_take, List.take_length, List.take_take, Nat.min_self, List.length_drop, List.drop_zero, List.length_cons, List.length_nil]); first | assumption | exact rep_bd (by omega) (by omega) | exact set_bd (by assumption) (by omega) (by omega) | exact take_bd (by assumption) | grind [getD_set, getD_rep, toNat_succ, cntN_yes, cntN_no])
              refine req_i ?_ ?_
              · -- r102
                first | omega | ((try simp only [sigEqu, equP, List.cons.injEq, DV.b.injEq, and_true, List.length_take, List.take_length, List.take_take, Nat.min_self, List.length_drop, List.drop_zero, List.length_cons, List.length_nil]); first | done | omega | assumption | grind [getD_set, getD_rep, toNat_succ, cntN_yes, cntN_no])
              refine all_i fun b25 => ?_
              refine imp_i fun h60 => ?_
              try simp only [sigEqu, equP, List.cons.injEq, DV.b.injEq, and_true, List.length_take, List.take_length, List.take_take, Nat.min_self, List.length_drop, List.drop_zero, List.length_cons, List.length_nil] at h60
              refine bR_i (fun h61 => ?_) (fun h61 => ?_)
              ·
                refine bR_dec (fun h62 => ?_) (fun h62 => ?_)
                ·
                  refine req_i ?_ ?_
                  · -- r103
                    first | omega | assumption | grind
                  refine all_i fun b26 => ?_
                  refine imp_i fun h63 => ?_
                  try simp only [sigTrue0, List.cons.injEq, DV.b.injEq, and_true, List.length_cons, List.length_nil] at h63
                  refine req_i ?_ ?_
                  · -- r104
                    first | omega | ((try simp only [sigQS, List.cons.injEq, DV.b.injEq, and_true, List.length_cons, List.length_nil]); first | done | omega | assumption | grind [getD_set, getD_rep, toNat_succ, cntN_yes, cntN_no])
                  rfl
                ·
                  refine req_i ?_ ?_
                  · -- r105
                    first | omega | ((try simp only [sigQS, List.cons.injEq, DV.b.injEq, and_true, List.length_cons, List.length_nil]); first | done | omega | assumption | grind [getD_set, getD_rep, toNat_succ, cntN_yes, cntN_no])
                  rfl
              ·
                refine req_i ?_ ?_
                · -- r106
                  first | omega | ((try simp only [sigQS, List.cons.injEq, DV.b.injEq, and_true, List.length_cons, List.length_nil]); first | done | omega | assumption | grind [getD_set, getD_rep, toNat_succ, cntN_yes, cntN_no])
                rfl
            ·
              refine req_i ?_ ?_
              · -- r107
                first | omega | ((try simp only [sigQS, List.cons.injEq, DV.b.injEq, and_true, List.length_cons, List.length_nil]); first | done | omega | assumption | grind [getD_set, getD_rep, toNat_succ, cntN_yes, cntN_no])
              rfl
          ·
            refine req_i ?_ ?_
            · -- r108
              first | omega | ((try simp only [sigQS, List.cons.injEq, DV.b.injEq, and_true, List.length_cons, List.length_nil]); first | done | omega | assumption | grind [getD_set, getD_rep, toNat_succ, cntN_yes, cntN_no])
            rfl
        ·
          refine req_i ?_ ?_
          · -- r109
            first | omega | ((try simp only [sigQS, List.cons.injEq, DV.b.injEq, and_true, List.length_cons, List.length_nil]); first | done | omega | assumption | grind [getD_set, getD_rep, toNat_succ, cntN_yes, cntN_no])
          rfl
      ·
        refine req_i ?_ ?_
        · -- r110
          first | omega | ((try simp only [sigQS, List.cons.injEq, DV.b.injEq, and_true, List.length_cons, List.length_nil]); first | done | omega | assumption | grind [getD_set, getD_rep, toNat_succ, cntN_yes, cntN_no])
        rfl
    ·
      refine req_i ?_ ?_
      · -- r111
        first | omega | ((try simp only [sigQS, List.cons.injEq, DV.b.injEq, and_true, List.length_cons, List.length_nil]); first | done | omega | assumption | grind [getD_set, getD_rep, toNat_succ, cntN_yes, cntN_no])
      rfl
theorem ext_QuantSamples : ∀ p ∈ ([(17, Ext.ctr (ctOf sigTrue0)), (23, Ext.ctr (ctOf sigQuan)), (24, Ext.ctr (ctOf sigQuan)), (11, Ext.ctr (ctOf sigRest)), (25, Ext.ctr (ctOf sigRest)), (16, Ext.ctr (ctOf sigCount)), (26, Ext.ctr (ctOf sigCount)), (13, Ext.ctr (ctOf sigSamP)), (18, Ext.ctr (ctOf sigEqu))] : List (Nat × Ext)), ExtRow Try.prog p.1 p.2 := by
  intro p hp
  simp only [List.mem_cons, List.not_mem_nil, or_false] at hp
  rcases hp with rfl | rfl | rfl | rfl | rfl | rfl | rfl | rfl | rfl <;> trivial
theorem cts_QuantSamples : CtsOk Try.prog [(17, Ext.ctr (ctOf sigTrue0)), (23, Ext.ctr (ctOf sigQuan)), (24, Ext.ctr (ctOf sigQuan)), (11, Ext.ctr (ctOf sigRest)), (25, Ext.ctr (ctOf sigRest)), (16, Ext.ctr (ctOf sigCount)), (26, Ext.ctr (ctOf sigCount)), (13, Ext.ctr (ctOf sigSamP)), (18, Ext.ctr (ctOf sigEqu))] := ctsOk_of (cs := [(17, sigTrue0), (23, sigQuan), (24, sigQuan), (11, sigRest), (25, sigRest), (16, sigCount), (26, sigCount), (13, sigSamP), (18, sigEqu)])
  (fun p hp => by
    simp only [List.mem_cons, List.not_mem_nil, or_false] at hp
    rcases hp with rfl | rfl | rfl | rfl | rfl | rfl | rfl | rfl | rfl
    · exact fn_awake
    · exact fn_quan
    · exact fn_quanR
    · exact fn_rest
    · exact fn_restR
    · exact fn_count
    · exact fn_countR
    · exact fn_samp
    · exact fn_equ
)
  (fun f c h => by
    simp only [List.lookup_cons] at h
    repeat' split at h
    all_goals first | (cases h; done) | (rename_i e; have e := beq_iff_eq.1 e; subst e; cases h; exact ⟨_, by simp, rfl⟩))
theorem fn_QuantSamples : FnOk Try.prog 5 sigQS [] := fn_sound (by kernel_rfl) ext_QuantSamples cts_QuantSamples names vt_QuantSamples
end Go.Proofs.Ytemcaojbhfgpgaa

