import Derived.Test.YtblcahackjpnjaaDoorSpec11e
import Derived.Test.YtblcahackjpnjaaDoorRows
import Derived.Test.YtblcahackjpnjaaDoorFaNcoWaves
namespace Go.Proofs.YtblcahackjpnjaaDoor
open Go.Ev Go.Sp
set_option maxRecDepth 100000
theorem vc_NcoWaves : vcFn Tryd.prog [(11, Ext.ctr (ctOfG gl11 sigPhase)), (22, Ext.ctr (ctOfG gl11 sigPhase)), (23, Ext.ctr (ctOfG gl11 sigLater)), (24, Ext.ctr (ctOfG gl11 sigLater)), (12, Ext.ctr (ctOfG gl11 sigApart)), (25, Ext.ctr (ctOfG gl11 sigApart)), (13, Ext.ctr (ctOfG gl11 sigWave)), (20, Ext.ctr (ctOfG gl11 sigWave)), (14, Ext.ctr (ctOfG gl11 sigMix)), (21, Ext.ctr (ctOfG gl11 sigMix)), (15, Ext.ctr (ctOfG gl11 sigSamP)), (18, Ext.ctr (ctOfG gl11 sigTrue0))] noA gl11 100 4 sigNW = (allB fun n0 : Int => 
impB ((0 : Int) ≤ n0) (
impB (n0 ≤ (4294967295 : Int)) (
allB fun n1 : Int => 
impB ((0 : Int) ≤ n1) (
impB (n1 ≤ (4294967295 : Int)) (
allB fun n2 : Int => 
impB ((0 : Int) ≤ n2) (
impB (n2 ≤ (4294967295 : Int)) (
allB fun n3 : Int => 
impB ((0 : Int) ≤ n3) (
impB (n3 ≤ (4294967295 : Int)) (
allB fun n4 : Int => 
impB ((-9223372036854775808 : Int) ≤ n4) (
impB (n4 ≤ (9223372036854775807 : Int)) (
allB fun n5 : Int => 
impB ((-9223372036854775808 : Int) ≤ n5) (
impB (n5 ≤ (9223372036854775807 : Int)) (
allB fun l6 : List Int => 
impB (l6.length ≤ (9223372036854775807 : Nat)) (
impB (∀ (y : Int), y ∈ l6 → (-9223372036854775808 : Int) ≤ y ∧ y ≤ (9223372036854775807 : Int)) (
allB fun l7 : List Int => 
impB (l7.length = l6.length) (
impB (∀ (y : Int), y ∈ l7 → (-9223372036854775808 : Int) ≤ y ∧ y ≤ (9223372036854775807 : Int)) (
impB (sigNW.pre
 [DV.n n0, DV.n n1, DV.n n2, DV.n n3, DV.n n4, DV.n n5, DV.l l6,
 DV.l l7]) (
bR (dec ((200 : Int) < n5)) (
 bR (dec (n5 ≤ (100000 : Int))) (
 reqB (sigTrue0.pre []) (
 allB fun b8 : Bool => 
 impB (sigTrue0.post [] [DV.b b8]) (
 reqB (sigNW.post
 [DV.n n0, DV.n n1, DV.n n2, DV.n n3, DV.n n4, DV.n n5, DV.l l6,
 DV.l l7]
 [DV.b b8]) (
 true)))) (
 bR (dec ((200 : Int) < (↑l6.length : Int))) (
 reqB (sigTrue0.pre []) (
 allB fun b9 : Bool => 
 impB (sigTrue0.post [] [DV.b b9]) (
 reqB (sigNW.post
 [DV.n n0, DV.n n1, DV.n n2, DV.n n3, DV.n n4, DV.n n5, DV.l l6,
 DV.l l7]
 [DV.b b9]) (
 true)))) (
 reqB ((0 : Int) ≤ n0) (
 reqB (n0 ≤ (4294967295 : Int)) (
 reqB ((0 : Int) ≤ n1) (
 reqB (n1 ≤ (4294967295 : Int)) (
 reqB ((-9223372036854775808 : Int) ≤ n5) (
 reqB (n5 ≤ (9223372036854775807 : Int)) (
 reqB (sigWave.pre [DV.n n0, DV.n n1, DV.n n5]) (
 allB fun l10 : List Int => 
 impB (l10.length ≤ (100000 : Nat)) (
 impB (∀ (y : Int), y ∈ l10 → (-127 : Int) ≤ y ∧ y ≤ (127 : Int)) (
 allB fun l11 : List Int => 
 impB (l11.length = l10.length) (
 impB (∀ (y : Int), y ∈ l11 → (-127 : Int) ≤ y ∧ y ≤ (127 : Int)) (
 allB fun n12 : Int => 
 impB ((0 : Int) ≤ n12) (
 impB (n12 ≤ (18 : Int)) (
 impB (sigWave.post [DV.n n0, DV.n n1, DV.n n5] [DV.l l10, DV.l l11, DV.n n12]) (
 reqB ((0 : Int) ≤ n0) (
 reqB (n0 ≤ (4294967295 : Int)) (
 reqB ((0 : Int) ≤ n1) (
 reqB (n1 ≤ (4294967295 : Int)) (
 reqB ((-9223372036854775808 : Int) ≤ n5) (
 reqB (n5 ≤ (9223372036854775807 : Int)) (
 reqB (sigWave.pre [DV.n n0, DV.n n1, DV.n n5]) (
 allB fun l13 : List Int => 
 impB (l13.length ≤ (100000 : Nat)) (
 impB (∀ (y : Int), y ∈ l13 → (-127 : Int) ≤ y ∧ y ≤ (127 : Int)) (
 allB fun l14 : List Int => 
 impB (l14.length = l13.length) (
 impB (∀ (y : Int), y ∈ l14 → (-127 : Int) ≤ y ∧ y ≤ (127 : Int)) (
 allB fun n15 : Int => 
 impB ((0 : Int) ≤ n15) (
 impB (n15 ≤ (18 : Int)) (
 impB (sigWave.post [DV.n n0, DV.n n1, DV.n n5] [DV.l l13, DV.l l14, DV.n n15]) (
 reqB (((0 : Nat) + l6.length) * (2 : Nat) ≤ l6.length.mul (2 : Nat)) (
 reqB (l6.length ≤ (400 : Nat)) (
 reqB ((List.take l6.length (List.drop (0 : Nat) l6)).length = l6.length) (
 reqB (∀ (y : Int),
 y ∈ List.take l6.length (List.drop (0 : Nat) l6) → (-9223372036854775808 : Int) ≤ y ∧ y ≤ (9223372036854775807 : Int)) (
 reqB ((List.take l6.length (List.drop (0 : Nat) l7)).length = l6.length) (
 reqB (∀ (y : Int),
 y ∈ List.take l6.length (List.drop (0 : Nat) l7) → (-9223372036854775808 : Int) ≤ y ∧ y ≤ (9223372036854775807 : Int)) (
 reqB ((0 : Int) ≤ n0) (
 reqB (n0 ≤ (4294967295 : Int)) (
 reqB ((0 : Int) ≤ n1) (
 reqB (n1 ≤ (4294967295 : Int)) (
 reqB (sigMix.pre
 [DV.l (List.take l6.length (List.drop (0 : Nat) l6)), DV.l (List.take l6.length (List.drop (0 : Nat) l7)),
 DV.n n0, DV.n n1]) (
 allB fun l16 : List Int => 
 impB (l16.length ≤ (400 : Nat)) (
 impB (∀ (y : Int), y ∈ l16 → (-17873661021126656 : Int) ≤ y ∧ y ≤ (17873661021126656 : Int)) (
 allB fun l17 : List Int => 
 impB (l17.length = l16.length) (
 impB (∀ (y : Int), y ∈ l17 → (-17873661021126656 : Int) ≤ y ∧ y ≤ (17873661021126656 : Int)) (
 allB fun n18 : Int => 
 impB ((0 : Int) ≤ n18) (
 impB (n18 ≤ (18 : Int)) (
 impB (sigMix.post
 [DV.l (List.take l6.length (List.drop (0 : Nat) l6)), DV.l (List.take l6.length (List.drop (0 : Nat) l7)),
 DV.n n0, DV.n n1]
 [DV.l l16, DV.l l17, DV.n n18]) (
 reqB (((0 : Nat) + l6.length) * (2 : Nat) ≤ l6.length.mul (2 : Nat)) (
 reqB (l6.length ≤ (400 : Nat)) (
 reqB ((List.take l6.length (List.drop (0 : Nat) l6)).length = l6.length) (
 reqB (∀ (y : Int),
 y ∈ List.take l6.length (List.drop (0 : Nat) l6) → (-9223372036854775808 : Int) ≤ y ∧ y ≤ (9223372036854775807 : Int)) (
 reqB ((List.take l6.length (List.drop (0 : Nat) l7)).length = l6.length) (
 reqB (∀ (y : Int),
 y ∈ List.take l6.length (List.drop (0 : Nat) l7) → (-9223372036854775808 : Int) ≤ y ∧ y ≤ (9223372036854775807 : Int)) (
 reqB ((0 : Int) ≤ n0) (
 reqB (n0 ≤ (4294967295 : Int)) (
 reqB ((0 : Int) ≤ n1) (
 reqB (n1 ≤ (4294967295 : Int)) (
 reqB (sigMix.pre
 [DV.l (List.take l6.length (List.drop (0 : Nat) l6)), DV.l (List.take l6.length (List.drop (0 : Nat) l7)),
 DV.n n0, DV.n n1]) (
 allB fun l19 : List Int => 
 impB (l19.length ≤ (400 : Nat)) (
 impB (∀ (y : Int), y ∈ l19 → (-17873661021126656 : Int) ≤ y ∧ y ≤ (17873661021126656 : Int)) (
 allB fun l20 : List Int => 
 impB (l20.length = l19.length) (
 impB (∀ (y : Int), y ∈ l20 → (-17873661021126656 : Int) ≤ y ∧ y ≤ (17873661021126656 : Int)) (
 allB fun n21 : Int => 
 impB ((0 : Int) ≤ n21) (
 impB (n21 ≤ (18 : Int)) (
 impB (sigMix.post
 [DV.l (List.take l6.length (List.drop (0 : Nat) l6)), DV.l (List.take l6.length (List.drop (0 : Nat) l7)),
 DV.n n0, DV.n n1]
 [DV.l l19, DV.l l20, DV.n n21]) (
 reqB ((0 : Int) ≤ n0) (
 reqB (n0 ≤ (4294967295 : Int)) (
 reqB ((0 : Int) ≤ n1) (
 reqB (n1 ≤ (4294967295 : Int)) (
 reqB ((-9223372036854775808 : Int) ≤ n4) (
 reqB (n4 ≤ (9223372036854775807 : Int)) (
 reqB (sigPhase.pre [DV.n n0, DV.n n1, DV.n n4]) (
 allB fun n22 : Int => 
 impB ((0 : Int) ≤ n22) (
 impB (n22 ≤ (4294967295 : Int)) (
 impB (sigPhase.post [DV.n n0, DV.n n1, DV.n n4] [DV.n n22]) (
 reqB ((0 : Int) ≤ n0) (
 reqB (n0 ≤ (4294967295 : Int)) (
 reqB ((0 : Int) ≤ n1) (
 reqB (n1 ≤ (4294967295 : Int)) (
 reqB ((-9223372036854775808 : Int) ≤ n4) (
 reqB (n4 ≤ (9223372036854775807 : Int)) (
 reqB (sigPhase.pre [DV.n n0, DV.n n1, DV.n n4]) (
 allB fun n23 : Int => 
 impB ((0 : Int) ≤ n23) (
 impB (n23 ≤ (4294967295 : Int)) (
 impB (sigPhase.post [DV.n n0, DV.n n1, DV.n n4] [DV.n n23]) (
 bR (dec (n22 = n23)) (
 reqB ((0 : Int) ≤ n0) (
 reqB (n0 ≤ (4294967295 : Int)) (
 reqB ((0 : Int) ≤ n1) (
 reqB (n1 ≤ (4294967295 : Int)) (
 reqB ((-9223372036854775808 : Int) ≤ n4) (
 reqB (n4 ≤ (9223372036854775807 : Int)) (
 reqB (sigLater.pre [DV.n n0, DV.n n1, DV.n n4]) (
 allB fun n24 : Int => 
 impB ((0 : Int) ≤ n24) (
 impB (n24 ≤ (4294967295 : Int)) (
 allB fun n25 : Int => 
 impB ((0 : Int) ≤ n25) (
 impB (n25 ≤ (4294967295 : Int)) (
 impB (sigLater.post [DV.n n0, DV.n n1, DV.n n4] [DV.n n24, DV.n n25]) (
 reqB ((0 : Int) ≤ n0) (
 reqB (n0 ≤ (4294967295 : Int)) (
 reqB ((0 : Int) ≤ n1) (
 reqB (n1 ≤ (4294967295 : Int)) (
 reqB ((-9223372036854775808 : Int) ≤ n4) (
 reqB (n4 ≤ (9223372036854775807 : Int)) (
 reqB (sigLater.pre [DV.n n0, DV.n n1, DV.n n4]) (
 allB fun n26 : Int => 
 impB ((0 : Int) ≤ n26) (
 impB (n26 ≤ (4294967295 : Int)) (
 allB fun n27 : Int => 
 impB ((0 : Int) ≤ n27) (
 impB (n27 ≤ (4294967295 : Int)) (
 impB (sigLater.post [DV.n n0, DV.n n1, DV.n n4] [DV.n n26, DV.n n27]) (
 bR (bR (dec (n24 = n26)) (
 bR (dec (n25 = n27)) (
 true) (
 false)) (
 false)) (
 reqB ((0 : Int) ≤ n0) (
 reqB (n0 ≤ (4294967295 : Int)) (
 reqB ((0 : Int) ≤ n1) (
 reqB (n1 ≤ (4294967295 : Int)) (
 reqB ((0 : Int) ≤ n2) (
 reqB (n2 ≤ (4294967295 : Int)) (
 reqB ((0 : Int) ≤ n3) (
 reqB (n3 ≤ (4294967295 : Int)) (
 reqB ((-9223372036854775808 : Int) ≤ n4) (
 reqB (n4 ≤ (9223372036854775807 : Int)) (
 reqB (sigApart.pre [DV.n n0, DV.n n1, DV.n n2, DV.n n3, DV.n n4]) (
 allB fun n28 : Int => 
 impB ((-2147483648 : Int) ≤ n28) (
 impB (n28 ≤ (2147483647 : Int)) (
 impB (sigApart.post [DV.n n0, DV.n n1, DV.n n2, DV.n n3, DV.n n4] [DV.n n28]) (
 reqB ((0 : Int) ≤ n0) (
 reqB (n0 ≤ (4294967295 : Int)) (
 reqB ((0 : Int) ≤ n1) (
 reqB (n1 ≤ (4294967295 : Int)) (
 reqB ((0 : Int) ≤ n2) (
 reqB (n2 ≤ (4294967295 : Int)) (
 reqB ((0 : Int) ≤ n3) (
 reqB (n3 ≤ (4294967295 : Int)) (
 reqB ((-9223372036854775808 : Int) ≤ n4) (
 reqB (n4 ≤ (9223372036854775807 : Int)) (
 reqB (sigApart.pre [DV.n n0, DV.n n1, DV.n n2, DV.n n3, DV.n n4]) (
 allB fun n29 : Int => 
 impB ((-2147483648 : Int) ≤ n29) (
 impB (n29 ≤ (2147483647 : Int)) (
 impB (sigApart.post [DV.n n0, DV.n n1, DV.n n2, DV.n n3, DV.n n4] [DV.n n29]) (
 bR (dec (n28 = n29)) (
 reqB (((0 : Nat) + l10.length) * (2 : Nat) ≤ l10.length.mul (2 : Nat)) (
 reqB (l10.length ≤ (9223372036854775807 : Nat)) (
 reqB ((List.take l10.length (List.drop (0 : Nat) l10)).length = l10.length) (
 reqB (∀ (y : Int),
 y ∈ List.take l10.length (List.drop (0 : Nat) l10) →
 (-9223372036854775808 : Int) ≤ y ∧ y ≤ (9223372036854775807 : Int)) (
 reqB ((List.take l10.length (List.drop (0 : Nat) l11)).length = l10.length) (
 reqB (∀ (y : Int),
 y ∈ List.take l10.length (List.drop (0 : Nat) l11) →
 (-9223372036854775808 : Int) ≤ y ∧ y ≤ (9223372036854775807 : Int)) (
 reqB (((0 : Nat) + l13.length) * (2 : Nat) ≤ l13.length.mul (2 : Nat)) (
 reqB (l13.length ≤ (9223372036854775807 : Nat)) (
 reqB ((List.take l13.length (List.drop (0 : Nat) l13)).length = l13.length) (
 reqB (∀ (y : Int),
 y ∈ List.take l13.length (List.drop (0 : Nat) l13) →
 (-9223372036854775808 : Int) ≤ y ∧ y ≤ (9223372036854775807 : Int)) (
 reqB ((List.take l13.length (List.drop (0 : Nat) l14)).length = l13.length) (
 reqB (∀ (y : Int),
 y ∈ List.take l13.length (List.drop (0 : Nat) l14) →
 (-9223372036854775808 : Int) ≤ y ∧ y ≤ (9223372036854775807 : Int)) (
 reqB (sigSamP.pre
 [DV.l (List.take l10.length (List.drop (0 : Nat) l10)),
 DV.l (List.take l10.length (List.drop (0 : Nat) l11)),
 DV.l (List.take l13.length (List.drop (0 : Nat) l13)),
 DV.l (List.take l13.length (List.drop (0 : Nat) l14))]) (
 allB fun b30 : Bool => 
 impB (sigSamP.post
 [DV.l (List.take l10.length (List.drop (0 : Nat) l10)),
 DV.l (List.take l10.length (List.drop (0 : Nat) l11)),
 DV.l (List.take l13.length (List.drop (0 : Nat) l13)),
 DV.l (List.take l13.length (List.drop (0 : Nat) l14))]
 [DV.b b30]) (
 bR (b30) (
 bR (dec (n12 = n15)) (
 reqB (((0 : Nat) + l16.length) * (2 : Nat) ≤ l16.length.mul (2 : Nat)) (
 reqB (l16.length ≤ (9223372036854775807 : Nat)) (
 reqB ((List.take l16.length (List.drop (0 : Nat) l16)).length = l16.length) (
 reqB (∀ (y : Int),
 y ∈ List.take l16.length (List.drop (0 : Nat) l16) →
 (-9223372036854775808 : Int) ≤ y ∧ y ≤ (9223372036854775807 : Int)) (
 reqB ((List.take l16.length (List.drop (0 : Nat) l17)).length = l16.length) (
 reqB (∀ (y : Int),
 y ∈ List.take l16.length (List.drop (0 : Nat) l17) →
 (-9223372036854775808 : Int) ≤ y ∧ y ≤ (9223372036854775807 : Int)) (
 reqB (((0 : Nat) + l19.length) * (2 : Nat) ≤ l19.length.mul (2 : Nat)) (
 reqB (l19.length ≤ (9223372036854775807 : Nat)) (
 reqB ((List.take l19.length (List.drop (0 : Nat) l19)).length = l19.length) (
 reqB (∀ (y : Int),
 y ∈ List.take l19.length (List.drop (0 : Nat) l19) →
 (-9223372036854775808 : Int) ≤ y ∧ y ≤ (9223372036854775807 : Int)) (
 reqB ((List.take l19.length (List.drop (0 : Nat) l20)).length = l19.length) (
 reqB (∀ (y : Int),
 y ∈ List.take l19.length (List.drop (0 : Nat) l20) →
 (-9223372036854775808 : Int) ≤ y ∧ y ≤ (9223372036854775807 : Int)) (
 reqB (sigSamP.pre
 [DV.l (List.take l16.length (List.drop (0 : Nat) l16)),
 DV.l (List.take l16.length (List.drop (0 : Nat) l17)),
 DV.l (List.take l19.length (List.drop (0 : Nat) l19)),
 DV.l (List.take l19.length (List.drop (0 : Nat) l20))]) (
 allB fun b31 : Bool => 
 impB (sigSamP.post
 [DV.l (List.take l16.length (List.drop (0 : Nat) l16)),
 DV.l (List.take l16.length (List.drop (0 : Nat) l17)),
 DV.l (List.take l19.length (List.drop (0 : Nat) l19)),
 DV.l (List.take l19.length (List.drop (0 : Nat) l20))]
 [DV.b b31]) (
 bR (b31) (
 bR (dec (n18 = n21)) (
 reqB (sigTrue0.pre []) (
 allB fun b32 : Bool => 
 impB (sigTrue0.post [] [DV.b b32]) (
 reqB (sigNW.post
 [DV.n n0, DV.n n1, DV.n n2, DV.n n3, DV.n n4, DV.n n5, DV.l l6,
 DV.l l7]
 [DV.b b32]) (
 true)))) (
 reqB (sigNW.post
 [DV.n n0, DV.n n1, DV.n n2, DV.n n3, DV.n n4, DV.n n5, DV.l l6,
 DV.l l7]
 [DV.b Bool.false]) (
 true))) (
 reqB (sigNW.post
 [DV.n n0, DV.n n1, DV.n n2, DV.n n3, DV.n n4, DV.n n5, DV.l l6,
 DV.l l7]
 [DV.b Bool.false]) (
 true))))))))))))))))) (
 reqB (sigNW.post
 [DV.n n0, DV.n n1, DV.n n2, DV.n n3, DV.n n4, DV.n n5, DV.l l6,
 DV.l l7]
 [DV.b Bool.false]) (
 true))) (
 reqB (sigNW.post
 [DV.n n0, DV.n n1, DV.n n2, DV.n n3, DV.n n4, DV.n n5, DV.l l6,
 DV.l l7]
 [DV.b Bool.false]) (
 true))))))))))))))))) (
 reqB (sigNW.post
 [DV.n n0, DV.n n1, DV.n n2, DV.n n3, DV.n n4, DV.n n5, DV.l l6,
 DV.l l7]
 [DV.b Bool.false]) (
 true))))))))))))))))))))))))))))))) (
 reqB (sigNW.post
 [DV.n n0, DV.n n1, DV.n n2, DV.n n3, DV.n n4, DV.n n5, DV.l l6,
 DV.l l7]
 [DV.b Bool.false]) (
 true))))))))))))))))))))))))))) (
 reqB (sigNW.post
 [DV.n n0, DV.n n1, DV.n n2, DV.n n3, DV.n n4, DV.n n5, DV.l l6,
 DV.l l7]
 [DV.b Bool.false]) (
 true))))))))))))))))))))))))))))))))))))))))))))))))))))))))))))))))))))))))))))))))))))))))) (
 bR (dec ((200 : Int) < (↑l6.length : Int))) (
 reqB (sigTrue0.pre []) (
 allB fun b33 : Bool => 
 impB (sigTrue0.post [] [DV.b b33]) (
 reqB (sigNW.post
 [DV.n n0, DV.n n1, DV.n n2, DV.n n3, DV.n n4, DV.n n5, DV.l l6,
 DV.l l7]
 [DV.b b33]) (
 true)))) (
 reqB ((0 : Int) ≤ n0) (
 reqB (n0 ≤ (4294967295 : Int)) (
 reqB ((0 : Int) ≤ n1) (
 reqB (n1 ≤ (4294967295 : Int)) (
 reqB ((-9223372036854775808 : Int) ≤ n5) (
 reqB (n5 ≤ (9223372036854775807 : Int)) (
 reqB (sigWave.pre [DV.n n0, DV.n n1, DV.n n5]) (
 allB fun l34 : List Int => 
 impB (l34.length ≤ (100000 : Nat)) (
 impB (∀ (y : Int), y ∈ l34 → (-127 : Int) ≤ y ∧ y ≤ (127 : Int)) (
 allB fun l35 : List Int => 
 impB (l35.length = l34.length) (
 impB (∀ (y : Int), y ∈ l35 → (-127 : Int) ≤ y ∧ y ≤ (127 : Int)) (
 allB fun n36 : Int => 
 impB ((0 : Int) ≤ n36) (
 impB (n36 ≤ (18 : Int)) (
 impB (sigWave.post [DV.n n0, DV.n n1, DV.n n5] [DV.l l34, DV.l l35, DV.n n36]) (
 reqB ((0 : Int) ≤ n0) (
 reqB (n0 ≤ (4294967295 : Int)) (
 reqB ((0 : Int) ≤ n1) (
 reqB (n1 ≤ (4294967295 : Int)) (
 reqB ((-9223372036854775808 : Int) ≤ n5) (
 reqB (n5 ≤ (9223372036854775807 : Int)) (
 reqB (sigWave.pre [DV.n n0, DV.n n1, DV.n n5]) (
 allB fun l37 : List Int => 
 impB (l37.length ≤ (100000 : Nat)) (
 impB (∀ (y : Int), y ∈ l37 → (-127 : Int) ≤ y ∧ y ≤ (127 : Int)) (
 allB fun l38 : List Int => 
 impB (l38.length = l37.length) (
 impB (∀ (y : Int), y ∈ l38 → (-127 : Int) ≤ y ∧ y ≤ (127 : Int)) (
 allB fun n39 : Int => 
 impB ((0 : Int) ≤ n39) (
 impB (n39 ≤ (18 : Int)) (
 impB (sigWave.post [DV.n n0, DV.n n1, DV.n n5] [DV.l l37, DV.l l38, DV.n n39]) (
 reqB (((0 : Nat) + l6.length) * (2 : Nat) ≤ l6.length.mul (2 : Nat)) (
 reqB (l6.length ≤ (400 : Nat)) (
 reqB ((List.take l6.length (List.drop (0 : Nat) l6)).length = l6.length) (
 reqB (∀ (y : Int),
 y ∈ List.take l6.length (List.drop (0 : Nat) l6) → (-9223372036854775808 : Int) ≤ y ∧ y ≤ (9223372036854775807 : Int)) (
 reqB ((List.take l6.length (List.drop (0 : Nat) l7)).length = l6.length) (
 reqB (∀ (y : Int),
 y ∈ List.take l6.length (List.drop (0 : Nat) l7) → (-9223372036854775808 : Int) ≤ y ∧ y ≤ (9223372036854775807 : Int)) (
 reqB ((0 : Int) ≤ n0) (
 reqB (n0 ≤ (4294967295 : Int)) (
 reqB ((0 : Int) ≤ n1) (
 reqB (n1 ≤ (4294967295 : Int)) (
 reqB (sigMix.pre
 [DV.l (List.take l6.length (List.drop (0 : Nat) l6)), DV.l (List.take l6.length (List.drop (0 : Nat) l7)),
 DV.n n0, DV.n n1]) (
 allB fun l40 : List Int => 
 impB (l40.length ≤ (400 : Nat)) (
 impB (∀ (y : Int), y ∈ l40 → (-17873661021126656 : Int) ≤ y ∧ y ≤ (17873661021126656 : Int)) (
 allB fun l41 : List Int => 
 impB (l41.length = l40.length) (
 impB (∀ (y : Int), y ∈ l41 → (-17873661021126656 : Int) ≤ y ∧ y ≤ (17873661021126656 : Int)) (
 allB fun n42 : Int => 
 impB ((0 : Int) ≤ n42) (
 impB (n42 ≤ (18 : Int)) (
 impB (sigMix.post
 [DV.l (List.take l6.length (List.drop (0 : Nat) l6)), DV.l (List.take l6.length (List.drop (0 : Nat) l7)),
 DV.n n0, DV.n n1]
 [DV.l l40, DV.l l41, DV.n n42]) (
 reqB (((0 : Nat) + l6.length) * (2 : Nat) ≤ l6.length.mul (2 : Nat)) (
 reqB (l6.length ≤ (400 : Nat)) (
 reqB ((List.take l6.length (List.drop (0 : Nat) l6)).length = l6.length) (
 reqB (∀ (y : Int),
 y ∈ List.take l6.length (List.drop (0 : Nat) l6) → (-9223372036854775808 : Int) ≤ y ∧ y ≤ (9223372036854775807 : Int)) (
 reqB ((List.take l6.length (List.drop (0 : Nat) l7)).length = l6.length) (
 reqB (∀ (y : Int),
 y ∈ List.take l6.length (List.drop (0 : Nat) l7) → (-9223372036854775808 : Int) ≤ y ∧ y ≤ (9223372036854775807 : Int)) (
 reqB ((0 : Int) ≤ n0) (
 reqB (n0 ≤ (4294967295 : Int)) (
 reqB ((0 : Int) ≤ n1) (
 reqB (n1 ≤ (4294967295 : Int)) (
 reqB (sigMix.pre
 [DV.l (List.take l6.length (List.drop (0 : Nat) l6)), DV.l (List.take l6.length (List.drop (0 : Nat) l7)),
 DV.n n0, DV.n n1]) (
 allB fun l43 : List Int => 
 impB (l43.length ≤ (400 : Nat)) (
 impB (∀ (y : Int), y ∈ l43 → (-17873661021126656 : Int) ≤ y ∧ y ≤ (17873661021126656 : Int)) (
 allB fun l44 : List Int => 
 impB (l44.length = l43.length) (
 impB (∀ (y : Int), y ∈ l44 → (-17873661021126656 : Int) ≤ y ∧ y ≤ (17873661021126656 : Int)) (
 allB fun n45 : Int => 
 impB ((0 : Int) ≤ n45) (
 impB (n45 ≤ (18 : Int)) (
 impB (sigMix.post
 [DV.l (List.take l6.length (List.drop (0 : Nat) l6)), DV.l (List.take l6.length (List.drop (0 : Nat) l7)),
 DV.n n0, DV.n n1]
 [DV.l l43, DV.l l44, DV.n n45]) (
 reqB ((0 : Int) ≤ n0) (
 reqB (n0 ≤ (4294967295 : Int)) (
 reqB ((0 : Int) ≤ n1) (
 reqB (n1 ≤ (4294967295 : Int)) (
 reqB ((-9223372036854775808 : Int) ≤ n4) (
 reqB (n4 ≤ (9223372036854775807 : Int)) (
 reqB (sigPhase.pre [DV.n n0, DV.n n1, DV.n n4]) (
 allB fun n46 : Int => 
 impB ((0 : Int) ≤ n46) (
 impB (n46 ≤ (4294967295 : Int)) (
 impB (sigPhase.post [DV.n n0, DV.n n1, DV.n n4] [DV.n n46]) (
 reqB ((0 : Int) ≤ n0) (
 reqB (n0 ≤ (4294967295 : Int)) (
 reqB ((0 : Int) ≤ n1) (
 reqB (n1 ≤ (4294967295 : Int)) (
 reqB ((-9223372036854775808 : Int) ≤ n4) (
 reqB (n4 ≤ (9223372036854775807 : Int)) (
 reqB (sigPhase.pre [DV.n n0, DV.n n1, DV.n n4]) (
 allB fun n47 : Int => 
 impB ((0 : Int) ≤ n47) (
 impB (n47 ≤ (4294967295 : Int)) (
 impB (sigPhase.post [DV.n n0, DV.n n1, DV.n n4] [DV.n n47]) (
 bR (dec (n46 = n47)) (
 reqB ((0 : Int) ≤ n0) (
 reqB (n0 ≤ (4294967295 : Int)) (
 reqB ((0 : Int) ≤ n1) (
 reqB (n1 ≤ (4294967295 : Int)) (
 reqB ((-9223372036854775808 : Int) ≤ n4) (
 reqB (n4 ≤ (9223372036854775807 : Int)) (
 reqB (sigLater.pre [DV.n n0, DV.n n1, DV.n n4]) (
 allB fun n48 : Int => 
 impB ((0 : Int) ≤ n48) (
 impB (n48 ≤ (4294967295 : Int)) (
 allB fun n49 : Int => 
 impB ((0 : Int) ≤ n49) (
 impB (n49 ≤ (4294967295 : Int)) (
 impB (sigLater.post [DV.n n0, DV.n n1, DV.n n4] [DV.n n48, DV.n n49]) (
 reqB ((0 : Int) ≤ n0) (
 reqB (n0 ≤ (4294967295 : Int)) (
 reqB ((0 : Int) ≤ n1) (
 reqB (n1 ≤ (4294967295 : Int)) (
 reqB ((-9223372036854775808 : Int) ≤ n4) (
 reqB (n4 ≤ (9223372036854775807 : Int)) (
 reqB (sigLater.pre [DV.n n0, DV.n n1, DV.n n4]) (
 allB fun n50 : Int => 
 impB ((0 : Int) ≤ n50) (
 impB (n50 ≤ (4294967295 : Int)) (
 allB fun n51 : Int => 
 impB ((0 : Int) ≤ n51) (
 impB (n51 ≤ (4294967295 : Int)) (
 impB (sigLater.post [DV.n n0, DV.n n1, DV.n n4] [DV.n n50, DV.n n51]) (
 bR (bR (dec (n48 = n50)) (
 bR (dec (n49 = n51)) (
 true) (
 false)) (
 false)) (
 reqB ((0 : Int) ≤ n0) (
 reqB (n0 ≤ (4294967295 : Int)) (
 reqB ((0 : Int) ≤ n1) (
 reqB (n1 ≤ (4294967295 : Int)) (
 reqB ((0 : Int) ≤ n2) (
 reqB (n2 ≤ (4294967295 : Int)) (
 reqB ((0 : Int) ≤ n3) (
 reqB (n3 ≤ (4294967295 : Int)) (
 reqB ((-9223372036854775808 : Int) ≤ n4) (
 reqB (n4 ≤ (9223372036854775807 : Int)) (
 reqB (sigApart.pre [DV.n n0, DV.n n1, DV.n n2, DV.n n3, DV.n n4]) (
 allB fun n52 : Int => 
 impB ((-2147483648 : Int) ≤ n52) (
 impB (n52 ≤ (2147483647 : Int)) (
 impB (sigApart.post [DV.n n0, DV.n n1, DV.n n2, DV.n n3, DV.n n4] [DV.n n52]) (
 reqB ((0 : Int) ≤ n0) (
 reqB (n0 ≤ (4294967295 : Int)) (
 reqB ((0 : Int) ≤ n1) (
 reqB (n1 ≤ (4294967295 : Int)) (
 reqB ((0 : Int) ≤ n2) (
 reqB (n2 ≤ (4294967295 : Int)) (
 reqB ((0 : Int) ≤ n3) (
 reqB (n3 ≤ (4294967295 : Int)) (
 reqB ((-9223372036854775808 : Int) ≤ n4) (
 reqB (n4 ≤ (9223372036854775807 : Int)) (
 reqB (sigApart.pre [DV.n n0, DV.n n1, DV.n n2, DV.n n3, DV.n n4]) (
 allB fun n53 : Int => 
 impB ((-2147483648 : Int) ≤ n53) (
 impB (n53 ≤ (2147483647 : Int)) (
 impB (sigApart.post [DV.n n0, DV.n n1, DV.n n2, DV.n n3, DV.n n4] [DV.n n53]) (
 bR (dec (n52 = n53)) (
 reqB (((0 : Nat) + l34.length) * (2 : Nat) ≤ l34.length.mul (2 : Nat)) (
 reqB (l34.length ≤ (9223372036854775807 : Nat)) (
 reqB ((List.take l34.length (List.drop (0 : Nat) l34)).length = l34.length) (
 reqB (∀ (y : Int),
 y ∈ List.take l34.length (List.drop (0 : Nat) l34) →
 (-9223372036854775808 : Int) ≤ y ∧ y ≤ (9223372036854775807 : Int)) (
 reqB ((List.take l34.length (List.drop (0 : Nat) l35)).length = l34.length) (
 reqB (∀ (y : Int),
 y ∈ List.take l34.length (List.drop (0 : Nat) l35) →
 (-9223372036854775808 : Int) ≤ y ∧ y ≤ (9223372036854775807 : Int)) (
 reqB (((0 : Nat) + l37.length) * (2 : Nat) ≤ l37.length.mul (2 : Nat)) (
 reqB (l37.length ≤ (9223372036854775807 : Nat)) (
 reqB ((List.take l37.length (List.drop (0 : Nat) l37)).length = l37.length) (
 reqB (∀ (y : Int),
 y ∈ List.take l37.length (List.drop (0 : Nat) l37) →
 (-9223372036854775808 : Int) ≤ y ∧ y ≤ (9223372036854775807 : Int)) (
 reqB ((List.take l37.length (List.drop (0 : Nat) l38)).length = l37.length) (
 reqB (∀ (y : Int),
 y ∈ List.take l37.length (List.drop (0 : Nat) l38) →
 (-9223372036854775808 : Int) ≤ y ∧ y ≤ (9223372036854775807 : Int)) (
 reqB (sigSamP.pre
 [DV.l (List.take l34.length (List.drop (0 : Nat) l34)),
 DV.l (List.take l34.length (List.drop (0 : Nat) l35)),
 DV.l (List.take l37.length (List.drop (0 : Nat) l37)),
 DV.l (List.take l37.length (List.drop (0 : Nat) l38))]) (
 allB fun b54 : Bool => 
 impB (sigSamP.post
 [DV.l (List.take l34.length (List.drop (0 : Nat) l34)),
 DV.l (List.take l34.length (List.drop (0 : Nat) l35)),
 DV.l (List.take l37.length (List.drop (0 : Nat) l37)),
 DV.l (List.take l37.length (List.drop (0 : Nat) l38))]
 [DV.b b54]) (
 bR (b54) (
 bR (dec (n36 = n39)) (
 reqB (((0 : Nat) + l40.length) * (2 : Nat) ≤ l40.length.mul (2 : Nat)) (
 reqB (l40.length ≤ (9223372036854775807 : Nat)) (
 reqB ((List.take l40.length (List.drop (0 : Nat) l40)).length = l40.length) (
 reqB (∀ (y : Int),
 y ∈ List.take l40.length (List.drop (0 : Nat) l40) →
 (-9223372036854775808 : Int) ≤ y ∧ y ≤ (9223372036854775807 : Int)) (
 reqB ((List.take l40.length (List.drop (0 : Nat) l41)).length = l40.length) (
 reqB (∀ (y : Int),
 y ∈ List.take l40.length (List.drop (0 : Nat) l41) →
 (-9223372036854775808 : Int) ≤ y ∧ y ≤ (9223372036854775807 : Int)) (
 reqB (((0 : Nat) + l43.length) * (2 : Nat) ≤ l43.length.mul (2 : Nat)) (
 reqB (l43.length ≤ (9223372036854775807 : Nat)) (
 reqB ((List.take l43.length (List.drop (0 : Nat) l43)).length = l43.length) (
 reqB (∀ (y : Int),
 y ∈ List.take l43.length (List.drop (0 : Nat) l43) →
 (-9223372036854775808 : Int) ≤ y ∧ y ≤ (9223372036854775807 : Int)) (
 reqB ((List.take l43.length (List.drop (0 : Nat) l44)).length = l43.length) (
 reqB (∀ (y : Int),
 y ∈ List.take l43.length (List.drop (0 : Nat) l44) →
 (-9223372036854775808 : Int) ≤ y ∧ y ≤ (9223372036854775807 : Int)) (
 reqB (sigSamP.pre
 [DV.l (List.take l40.length (List.drop (0 : Nat) l40)),
 DV.l (List.take l40.length (List.drop (0 : Nat) l41)),
 DV.l (List.take l43.length (List.drop (0 : Nat) l43)),
 DV.l (List.take l43.length (List.drop (0 : Nat) l44))]) (
 allB fun b55 : Bool => 
 impB (sigSamP.post
 [DV.l (List.take l40.length (List.drop (0 : Nat) l40)),
 DV.l (List.take l40.length (List.drop (0 : Nat) l41)),
 DV.l (List.take l43.length (List.drop (0 : Nat) l43)),
 DV.l (List.take l43.length (List.drop (0 : Nat) l44))]
 [DV.b b55]) (
 bR (b55) (
 bR (dec (n42 = n45)) (
 reqB (sigTrue0.pre []) (
 allB fun b56 : Bool => 
 impB (sigTrue0.post [] [DV.b b56]) (
 reqB (sigNW.post
 [DV.n n0, DV.n n1, DV.n n2, DV.n n3, DV.n n4, DV.n n5, DV.l l6,
 DV.l l7]
 [DV.b b56]) (
 true)))) (
 reqB (sigNW.post
 [DV.n n0, DV.n n1, DV.n n2, DV.n n3, DV.n n4, DV.n n5, DV.l l6,
 DV.l l7]
 [DV.b Bool.false]) (
 true))) (
 reqB (sigNW.post
 [DV.n n0, DV.n n1, DV.n n2, DV.n n3, DV.n n4, DV.n n5, DV.l l6,
 DV.l l7]
 [DV.b Bool.false]) (
 true))))))))))))))))) (
 reqB (sigNW.post
 [DV.n n0, DV.n n1, DV.n n2, DV.n n3, DV.n n4, DV.n n5, DV.l l6,
 DV.l l7]
 [DV.b Bool.false]) (
 true))) (
 reqB (sigNW.post
 [DV.n n0, DV.n n1, DV.n n2, DV.n n3, DV.n n4, DV.n n5, DV.l l6,
 DV.l l7]
 [DV.b Bool.false]) (
 true))))))))))))))))) (
 reqB (sigNW.post
 [DV.n n0, DV.n n1, DV.n n2, DV.n n3, DV.n n4, DV.n n5, DV.l l6,
 DV.l l7]
 [DV.b Bool.false]) (
 true))))))))))))))))))))))))))))))) (
 reqB (sigNW.post
 [DV.n n0, DV.n n1, DV.n n2, DV.n n3, DV.n n4, DV.n n5, DV.l l6,
 DV.l l7]
 [DV.b Bool.false]) (
 true))))))))))))))))))))))))))) (
 reqB (sigNW.post
 [DV.n n0, DV.n n1, DV.n n2, DV.n n3, DV.n n4, DV.n n5, DV.l l6,
 DV.l l7]
 [DV.b Bool.false]) (
 true)))))))))))))))))))))))))))))))))))))))))))))))))))))))))))))))))))))))))))))))))))))))))))))))))))))))))) := by kernel_rfl
set_option maxHeartbeats 8000000 in
theorem vt_NcoWaves : vcFn Tryd.prog [(11, Ext.ctr (ctOfG gl11 sigPhase)), (22, Ext.ctr (ctOfG gl11 sigPhase)), (23, Ext.ctr (ctOfG gl11 sigLater)), (24, Ext.ctr (ctOfG gl11 sigLater)), (12, Ext.ctr (ctOfG gl11 sigApart)), (25, Ext.ctr (ctOfG gl11 sigApart)), (13, Ext.ctr (ctOfG gl11 sigWave)), (20, Ext.ctr (ctOfG gl11 sigWave)), (14, Ext.ctr (ctOfG gl11 sigMix)), (21, Ext.ctr (ctOfG gl11 sigMix)), (15, Ext.ctr (ctOfG gl11 sigSamP)), (18, Ext.ctr (ctOfG gl11 sigTrue0))] noA gl11 100 4 sigNW = true := by
  rw [vc_NcoWaves]
  try simp only [Int.toNat_natCast, List.length_set, List.length_replicate, List.length_take, List.length_drop, List.length_append, List.length_cons, List.length_nil, Nat.min_self, List.take_take, lenCols_i, lenCols_b, List.drop_zero, List.take_length, Nat.add_eq, Nat.mul_eq, Nat.sub_eq, Nat.zero_add, Nat.sub_zero, Nat.mul_one]
  refine all_i fun n0 => ?_
  refine imp_i fun h0 => ?_
  refine imp_i fun h1 => ?_
  refine all_i fun n1 => ?_
  refine imp_i fun h2 => ?_
  refine imp_i fun h3 => ?_
  refine all_i fun n2 => ?_
  refine imp_i fun h4 => ?_
  refine imp_i fun h5 => ?_
  refine all_i fun n3 => ?_
  refine imp_i fun h6 => ?_
  refine imp_i fun h7 => ?_
  refine all_i fun n4 => ?_
  refine imp_i fun h8 => ?_
  refine imp_i fun h9 => ?_
  refine all_i fun n5 => ?_
  refine imp_i fun h10 => ?_
  refine imp_i fun h11 => ?_
  refine all_i fun l6 => ?_
  refine imp_i fun h12 => ?_
  refine imp_i fun h13 => ?_
  refine all_i fun l7 => ?_
  refine imp_i fun h14 => ?_
  have tkl7 := take_eq h14
  try simp only [tkl7]
  refine imp_i fun h15 => ?_
  refine imp_i fun h16 => ?_
  try simp only [sigNW, u32, smpI, List.cons.injEq, DV.b.injEq, and_true, List.length_cons, List.length_nil] at h16
  refine bR_dec (fun h17 => ?_) (fun h17 => ?_)
  ·
   refine bR_dec (fun h18 => ?_) (fun h18 => ?_)
   ·
    refine req_i ?_ ?_
    · -- r0
     first | omega | assumption | grind
    refine all_i fun b8 => ?_
    refine imp_i fun h19 => ?_
    try simp only [sigTrue0, List.cons.injEq, DV.b.injEq, and_true, List.length_cons, List.length_nil] at h19
    refine req_i ?_ ?_
    · -- r1
     first | omega | ((try simp only [sigNW, u32, smpI, List.cons.injEq, DV.b.injEq, and_true, List.length_cons, List.length_nil]); first | done | omega | assumption | grind [getD_set, getD_rep, toNat_succ, cntN_yes, cntN_no])
    rfl
   ·
    refine bR_dec (fun h20 => ?_) (fun h20 => ?_)
    ·
     refine req_i ?_ ?_
     · -- r2
      first | omega | assumption | grind
     refine all_i fun b9 => ?_
     refine imp_i fun h21 => ?_
     try simp only [sigTrue0, List.cons.injEq, DV.b.injEq, and_true, List.length_cons, List.length_nil] at h21
     refine req_i ?_ ?_
     · -- r3
      first | omega | ((try simp only [sigNW, u32, smpI, List.cons.injEq, DV.b.injEq, and_true, List.length_cons, List.length_nil]); first | done | omega | assumption | grind [getD_set, getD_rep, toNat_succ, cntN_yes, cntN_no])
     rfl
    ·
     refine req_i ?_ ?_
     · -- r4
      first | omega | assumption | grind
     refine req_i ?_ ?_
     · -- r5
      first | omega | assumption | grind
     refine req_i ?_ ?_
     · -- r6
      first | omega | assumption | grind
     refine req_i ?_ ?_
     · -- r7
      first | omega | assumption | grind
     refine req_i ?_ ?_
     · -- r8
      first | omega | assumption | grind
     refine req_i ?_ ?_
     · -- r9
      first | omega | assumption | grind
     refine req_i ?_ ?_
     · -- r10
      first | trivial | assumption | (simp only [sigWave, u32, smpW, wavPost, wC, adv, wS, List.cons.injEq, DV.b.injEq, and_true, List.length_cons, List.length_nil]; done) | ((try simp only [sigWave, u32, smpW, wavPost, wC, adv, wS, List.cons.injEq, DV.b.injEq, and_true, List.length_cons, List.length_nil]); first | omega | assumption | grind)
     refine all_i fun l10 => ?_
     refine imp_i fun h22 => ?_
     refine imp_i fun h23 => ?_
     refine all_i fun l11 => ?_
     refine imp_i fun h24 => ?_
     have tkl11 := take_eq h24
     try simp only [tkl11]
     refine imp_i fun h25 => ?_
     refine all_i fun n12 => ?_
     refine imp_i fun h26 => ?_
     refine imp_i fun h27 => ?_
     refine imp_i fun h28 => ?_
     try simp only [Int.toNat_natCast, List.length_set, List.length_replicate, List.length_take, List.length_drop, List.length_append, List.length_cons, List.length_nil, Nat.min_self, List.take_take, lenCols_i, lenCols_b, List.drop_zero, List.take_length, Nat.add_eq, Nat.mul_eq, Nat.sub_eq, Nat.zero_add, Nat.sub_zero, Nat.mul_one] at h28
     refine req_i ?_ ?_
     · -- r11
      first | omega | assumption | grind
     refine req_i ?_ ?_
     · -- r12
      first | omega | assumption | grind
     refine req_i ?_ ?_
     · -- r13
      first | omega | assumption | grind
     refine req_i ?_ ?_
     · -- r14
      first | omega | assumption | grind
     refine req_i ?_ ?_
     · -- r15
      first | omega | assumption | grind
     refine req_i ?_ ?_
     · -- r16
      first | omega | assumption | grind
     refine req_i ?_ ?_
     · -- r17
      first | trivial | assumption | (simp only [sigWave, u32, smpW, wavPost, wC, adv, wS, List.cons.injEq, DV.b.injEq, and_true, List.length_cons, List.length_nil]; done) | ((try simp only [sigWave, u32, smpW, wavPost, wC, adv, wS, List.cons.injEq, DV.b.injEq, and_true, List.length_cons, List.length_nil]); first | omega | assumption | grind)
     refine all_i fun l13 => ?_
     refine imp_i fun h29 => ?_
     refine imp_i fun h30 => ?_
     refine all_i fun l14 => ?_
     refine imp_i fun h31 => ?_
     have tkl14 := take_eq h31
     try simp only [tkl14]
     refine imp_i fun h32 => ?_
     refine all_i fun n15 => ?_
     refine imp_i fun h33 => ?_
     refine imp_i fun h34 => ?_
     refine imp_i fun h35 => ?_
     try simp only [Int.toNat_natCast, List.length_set, List.length_replicate, List.length_take, List.length_drop, List.length_append, List.length_cons, List.length_nil, Nat.min_self, List.take_take, lenCols_i, lenCols_b, List.drop_zero, List.take_length, Nat.add_eq, Nat.mul_eq, Nat.sub_eq, Nat.zero_add, Nat.sub_zero, Nat.mul_one] at h35
     obtain ⟨eA, eB, eC⟩ := wav_fun h24 h31 h28 h35
     refine req_i ?_ ?_
     · -- r18
      first | omega | ((try simp only [Nat.mul_eq]); first | done | omega | assumption | grind [getD_set, getD_rep, toNat_succ, cntN_yes, cntN_no])
     refine req_i ?_ ?_
     · -- r19
      first | omega | ((try simp only [Nat.zero_add]); first | done | omega | assumption | grind [getD_set, getD_rep, toNat_succ, cntN_yes, cntN_no])
     refine req_i ?_ ?_
     · -- r20
      first | omega | ((try simp only [List.length_take, List.take_length, List.take_take, Nat.min_self, List.length_drop, List.drop_zero, List.length_cons, List.length_nil]); first | done | omega | assumption | grind [getD_set, getD_rep, toNat_succ, cntN_yes, cntN_no])
     refine req_i ?_ ?_
     · -- r21
      first | assumption | exact rep_bd (by omega) (by omega) | exact set_bd (by assumption) (by omega) (by omega) | exact take_bd (by assumption) | ((try simp only [List.length_take, List.take_length, List.take_take, Nat.min_self, List.length_drop, List.drop_zero, List.length_cons, List.length_nil]); first | assumption | exact rep_bd (by omega) (by omega) | exact set_bd (by assumption) (by omega) (by omega) | exact take_bd (by assumption) | grind [getD_set, getD_rep, toNat_succ, cntN_yes, cntN_no])
     refine req_i ?_ ?_
     · -- r22
      first | omega | ((try simp only [List.length_take, List.take_length, List.take_take, Nat.min_self, List.length_drop, List.drop_zero, List.length_cons, List.length_nil]); first | done | omega | assumption | grind [getD_set, getD_rep, toNat_succ, cntN_yes, cntN_no])
     refine req_i ?_ ?_
     · -- r23
      first | assumption | exact rep_bd (by omega) (by omega) | exact set_bd (by assumption) (by omega) (by omega) | exact take_bd (by assumption) | ((try simp only [List.length_take, List.take_length, List.take_take, Nat.min_self, List.length_drop, List.drop_zero, List.length_cons, List.length_nil]); first | assumption | exact rep_bd (by omega) (by omega) | exact set_bd (by assumption) (by omega) (by omega) | exact take_bd (by assumption) | grind [getD_set, getD_rep, toNat_succ, cntN_yes, cntN_no])
     refine req_i ?_ ?_
     · -- r24
      first | omega | assumption | grind
     refine req_i ?_ ?_
     · -- r25
      first | omega | assumption | grind
     refine req_i ?_ ?_
     · -- r26
      first | omega | assumption | grind
     refine req_i ?_ ?_
     · -- r27
      first | omega | assumption | grind
     refine req_i ?_ ?_
     · -- r28
      first | omega | ((try simp only [sigMix, smpI, u32, mxL, mixPost, wC, adv, wS, List.cons.injEq, DV.b.injEq, and_true, List.length_take, List.take_length, List.take_take, Nat.min_self, List.length_drop, List.drop_zero, List.length_cons, List.length_nil]); first | done | omega | assumption | grind [getD_set, getD_rep, toNat_succ, cntN_yes, cntN_no])
     refine all_i fun l16 => ?_
     refine imp_i fun h36 => ?_
     refine imp_i fun h37 => ?_
     refine all_i fun l17 => ?_
     refine imp_i fun h38 => ?_
     have tkl17 := take_eq h38
     try simp only [tkl17]
     refine imp_i fun h39 => ?_
     refine all_i fun n18 => ?_
     refine imp_i fun h40 => ?_
     refine imp_i fun h41 => ?_
     refine imp_i fun h42 => ?_
     try simp only [Int.toNat_natCast, List.length_set, List.length_replicate, List.length_take, List.length_drop, List.length_append, List.length_cons, List.length_nil, Nat.min_self, List.take_take, lenCols_i, lenCols_b, List.drop_zero, List.take_length, Nat.add_eq, Nat.mul_eq, Nat.sub_eq, Nat.zero_add, Nat.sub_zero, Nat.mul_one] at h42
     refine req_i ?_ ?_
     · -- r29
      first | omega | ((try simp only [Nat.mul_eq]); first | done | omega | assumption | grind [getD_set, getD_rep, toNat_succ, cntN_yes, cntN_no])
     refine req_i ?_ ?_
     · -- r30
      first | omega | ((try simp only [Nat.zero_add]); first | done | omega | assumption | grind [getD_set, getD_rep, toNat_succ, cntN_yes, cntN_no])
     refine req_i ?_ ?_
     · -- r31
      first | omega | ((try simp only [List.length_take, List.take_length, List.take_take, Nat.min_self, List.length_drop, List.drop_zero, List.length_cons, List.length_nil]); first | done | omega | assumption | grind [getD_set, getD_rep, toNat_succ, cntN_yes, cntN_no])
     refine req_i ?_ ?_
     · -- r32
      first | assumption | exact rep_bd (by omega) (by omega) | exact set_bd (by assumption) (by omega) (by omega) | exact take_bd (by assumption) | ((try simp only [List.length_take, List.take_length, List.take_take, Nat.min_self, List.length_drop, List.drop_zero, List.length_cons, List.length_nil]); first | assumption | exact rep_bd (by omega) (by omega) | exact set_bd (by assumption) (by omega) (by omega) | exact take_bd (by assumption) | grind [getD_set, getD_rep, toNat_succ, cntN_yes, cntN_no])
     refine req_i ?_ ?_
     · -- r33
      first | omega | ((try simp only [List.length_take, List.take_length, List.take_take, Nat.min_self, List.length_drop, List.drop_zero, List.length_cons, List.length_nil]); first | done | omega | assumption | grind [getD_set, getD_rep, toNat_succ, cntN_yes, cntN_no])
     refine req_i ?_ ?_
     · -- r34
      first | assumption | exact rep_bd (by omega) (by omega) | exact set_bd (by assumption) (by omega) (by omega) | exact take_bd (by assumption) | ((try simp only [List.length_take, List.take_length, List.take_take, Nat.min_self, List.length_drop, List.drop_zero, List.length_cons, List.length_nil]); first | assumption | exact rep_bd (by omega) (by omega) | exact set_bd (by assumption) (by omega) (by omega) | exact take_bd (by assumption) | grind [getD_set, getD_rep, toNat_succ, cntN_yes, cntN_no])
     refine req_i ?_ ?_
     · -- r35
      first | omega | assumption | grind
     refine req_i ?_ ?_
     · -- r36
      first | omega | assumption | grind
     refine req_i ?_ ?_
     · -- r37
      first | omega | assumption | grind
     refine req_i ?_ ?_
     · -- r38
      first | omega | assumption | grind
     refine req_i ?_ ?_
     · -- r39
      first | omega | ((try simp only [sigMix, smpI, u32, mxL, mixPost, wC, adv, wS, List.cons.injEq, DV.b.injEq, and_true, List.length_take, List.take_length, List.take_take, Nat.min_self, List.length_drop, List.drop_zero, List.length_cons, List.length_nil]); first | done | omega | assumption | grind [getD_set, getD_rep, toNat_succ, cntN_yes, cntN_no])
     refine all_i fun l19 => ?_
     refine imp_i fun h43 => ?_
     refine imp_i fun h44 => ?_
     refine all_i fun l20 => ?_
     refine imp_i fun h45 => ?_
     have tkl20 := take_eq h45
     try simp only [tkl20]
     refine imp_i fun h46 => ?_
     refine all_i fun n21 => ?_
     refine imp_i fun h47 => ?_
     refine imp_i fun h48 => ?_
     refine imp_i fun h49 => ?_
     try simp only [Int.toNat_natCast, List.length_set, List.length_replicate, List.length_take, List.length_drop, List.length_append, List.length_cons, List.length_nil, Nat.min_self, List.take_take, lenCols_i, lenCols_b, List.drop_zero, List.take_length, Nat.add_eq, Nat.mul_eq, Nat.sub_eq, Nat.zero_add, Nat.sub_zero, Nat.mul_one] at h49
     obtain ⟨eD, eE, eF⟩ := mix_fun h38 h45 h42 h49
     refine req_i ?_ ?_
     · -- r40
      first | omega | assumption | grind
     refine req_i ?_ ?_
     · -- r41
      first | omega | assumption | grind
     refine req_i ?_ ?_
     · -- r42
      first | omega | assumption | grind
     refine req_i ?_ ?_
     · -- r43
      first | omega | assumption | grind
     refine req_i ?_ ?_
     · -- r44
      first | omega | assumption | grind
     refine req_i ?_ ?_
     · -- r45
      first | omega | assumption | grind
     refine req_i ?_ ?_
     · -- r46
      first | trivial | assumption | (simp only [sigPhase, u32, advPost, adv, List.cons.injEq, DV.b.injEq, and_true, List.length_cons, List.length_nil]; done) | ((try simp only [sigPhase, u32, advPost, adv, List.cons.injEq, DV.b.injEq, and_true, List.length_cons, List.length_nil]); first | omega | assumption | grind)
     refine all_i fun n22 => ?_
     refine imp_i fun h50 => ?_
     refine imp_i fun h51 => ?_
     refine imp_i fun h52 => ?_
     try simp only [sigPhase, u32, advPost, adv, List.cons.injEq, DV.b.injEq, and_true, List.length_cons, List.length_nil] at h52
     refine req_i ?_ ?_
     · -- r47
      first | omega | assumption | grind
     refine req_i ?_ ?_
     · -- r48
      first | omega | assumption | grind
     refine req_i ?_ ?_
     · -- r49
      first | omega | assumption | grind
     refine req_i ?_ ?_
     · -- r50
      first | omega | assumption | grind
     refine req_i ?_ ?_
     · -- r51
      first | omega | assumption | grind
     refine req_i ?_ ?_
     · -- r52
      first | omega | assumption | grind
     refine req_i ?_ ?_
     · -- r53
      first | trivial | assumption | (simp only [sigPhase, u32, advPost, adv, List.cons.injEq, DV.b.injEq, and_true, List.length_cons, List.length_nil]; done) | ((try simp only [sigPhase, u32, advPost, adv, List.cons.injEq, DV.b.injEq, and_true, List.length_cons, List.length_nil]); first | omega | assumption | grind)
     refine all_i fun n23 => ?_
     refine imp_i fun h53 => ?_
     refine imp_i fun h54 => ?_
     refine imp_i fun h55 => ?_
     try simp only [sigPhase, u32, advPost, adv, List.cons.injEq, DV.b.injEq, and_true, List.length_cons, List.length_nil] at h55
     refine bR_dec (fun h56 => ?_) (fun h56 => ?_)
     ·
      refine req_i ?_ ?_
      · -- r54
       first | omega | assumption | grind
      refine req_i ?_ ?_
      · -- r55
       first | omega | assumption | grind
      refine req_i ?_ ?_
      · -- r56
       first | omega | assumption | grind
      refine req_i ?_ ?_
      · -- r57
       first | omega | assumption | grind
      refine req_i ?_ ?_
      · -- r58
       first | omega | assumption | grind
      refine req_i ?_ ?_
      · -- r59
       first | omega | assumption | grind
      refine req_i ?_ ?_
      · -- r60
       first | trivial | assumption | (simp only [sigLater, u32, laterPost, adv, List.cons.injEq, DV.b.injEq, and_true, List.length_cons, List.length_nil]; done) | ((try simp only [sigLater, u32, laterPost, adv, List.cons.injEq, DV.b.injEq, and_true, List.length_cons, List.length_nil]); first | omega | assumption | grind)
      refine all_i fun n24 => ?_
      refine imp_i fun h57 => ?_
      refine imp_i fun h58 => ?_
      refine all_i fun n25 => ?_
      refine imp_i fun h59 => ?_
      refine imp_i fun h60 => ?_
      refine imp_i fun h61 => ?_
      try simp only [sigLater, u32, laterPost, adv, List.cons.injEq, DV.b.injEq, and_true, List.length_cons, List.length_nil] at h61
      refine req_i ?_ ?_
      · -- r61
       first | omega | assumption | grind
      refine req_i ?_ ?_
      · -- r62
       first | omega | assumption | grind
      refine req_i ?_ ?_
      · -- r63
       first | omega | assumption | grind
      refine req_i ?_ ?_
      · -- r64
       first | omega | assumption | grind
      refine req_i ?_ ?_
      · -- r65
       first | omega | assumption | grind
      refine req_i ?_ ?_
      · -- r66
       first | omega | assumption | grind
      refine req_i ?_ ?_
      · -- r67
       first | trivial | assumption | (simp only [sigLater, u32, laterPost, adv, List.cons.injEq, DV.b.injEq, and_true, List.length_cons, List.length_nil]; done) | ((try simp only [sigLater, u32, laterPost, adv, List.cons.injEq, DV.b.injEq, and_true, List.length_cons, List.length_nil]); first | omega | assumption | grind)
      refine all_i fun n26 => ?_
      refine imp_i fun h62 => ?_
      refine imp_i fun h63 => ?_
      refine all_i fun n27 => ?_
      refine imp_i fun h64 => ?_
      refine imp_i fun h65 => ?_
      refine imp_i fun h66 => ?_
      try simp only [sigLater, u32, laterPost, adv, List.cons.injEq, DV.b.injEq, and_true, List.length_cons, List.length_nil] at h66
      refine bR_i (fun h67 => ?_) (fun h67 => ?_)
      ·
       simp only [bR_iff, bR_iff_f, dec_iff, dec_f, Bool.false_eq_true, Bool.true_eq_false, false_implies, imp_false, and_true, true_and, implies_true, Classical.not_not] at h67
       refine req_i ?_ ?_
       · -- r68
        first | omega | assumption | grind
       refine req_i ?_ ?_
       · -- r69
        first | omega | assumption | grind
       refine req_i ?_ ?_
       · -- r70
        first | omega | assumption | grind
       refine req_i ?_ ?_
       · -- r71
        first | omega | assumption | grind
       refine req_i ?_ ?_
       · -- r72
        first | omega | assumption | grind
       refine req_i ?_ ?_
       · -- r73
        first | omega | assumption | grind
       refine req_i ?_ ?_
       · -- r74
        first | omega | assumption | grind
       refine req_i ?_ ?_
       · -- r75
        first | omega | assumption | grind
       refine req_i ?_ ?_
       · -- r76
        first | omega | assumption | grind
       refine req_i ?_ ?_
       · -- r77
        first | omega | assumption | grind
       refine req_i ?_ ?_
       · -- r78
        first | trivial | assumption | (simp only [sigApart, u32, i32c, apartPost, del, adv, List.cons.injEq, DV.b.injEq, and_true, List.length_cons, List.length_nil]; done) | ((try simp only [sigApart, u32, i32c, apartPost, del, adv, List.cons.injEq, DV.b.injEq, and_true, List.length_cons, List.length_nil]); first | omega | assumption | grind)
       refine all_i fun n28 => ?_
       refine imp_i fun h68 => ?_
       refine imp_i fun h69 => ?_
       refine imp_i fun h70 => ?_
       try simp only [sigApart, u32, i32c, apartPost, del, adv, List.cons.injEq, DV.b.injEq, and_true, List.length_cons, List.length_nil] at h70
       refine req_i ?_ ?_
       · -- r79
        first | omega | assumption | grind
       refine req_i ?_ ?_
       · -- r80
        first | omega | assumption | grind
       refine req_i ?_ ?_
       · -- r81
        first | omega | assumption | grind
       refine req_i ?_ ?_
       · -- r82
        first | omega | assumption | grind
       refine req_i ?_ ?_
       · -- r83
        first | omega | assumption | grind
       refine req_i ?_ ?_
       · -- r84
        first | omega | assumption | grind
       refine req_i ?_ ?_
       · -- r85
        first | omega | assumption | grind
       refine req_i ?_ ?_
       · -- r86
        first | omega | assumption | grind
       refine req_i ?_ ?_
       · -- r87
        first | omega | assumption | grind
       refine req_i ?_ ?_
       · -- r88
        first | omega | assumption | grind
       refine req_i ?_ ?_
       · -- r89
        first | trivial | assumption | (simp only [sigApart, u32, i32c, apartPost, del, adv, List.cons.injEq, DV.b.injEq, and_true, List.length_cons, List.length_nil]; done) | ((try simp only [sigApart, u32, i32c, apartPost, del, adv, List.cons.injEq, DV.b.injEq, and_true, List.length_cons, List.length_nil]); first | omega | assumption | grind)
       refine all_i fun n29 => ?_
       refine imp_i fun h71 => ?_
       refine imp_i fun h72 => ?_
       refine imp_i fun h73 => ?_
       try simp only [sigApart, u32, i32c, apartPost, del, adv, List.cons.injEq, DV.b.injEq, and_true, List.length_cons, List.length_nil] at h73
       refine bR_dec (fun h74 => ?_) (fun h74 => ?_)
       ·
        refine req_i ?_ ?_
        · -- r90
         first | omega | ((try simp only [Nat.mul_eq]); first | done | omega | assumption | grind [getD_set, getD_rep, toNat_succ, cntN_yes, cntN_no])
        refine req_i ?_ ?_
        · -- r91
         first | omega | ((try simp only [Nat.zero_add]); first | done | omega | assumption | grind [getD_set, getD_rep, toNat_succ, cntN_yes, cntN_no])
        refine req_i ?_ ?_
        · -- r92
         first | omega | ((try simp only [List.length_take, List.take_length, List.take_take, Nat.min_self, List.length_drop, List.drop_zero, List.length_cons, List.length_nil]); first | done | omega | assumption | grind [getD_set, getD_rep, toNat_succ, cntN_yes, cntN_no])
        refine req_i ?_ ?_
        · -- r93
         first | assumption | exact rep_bd (by omega) (by omega) | exact set_bd (by assumption) (by omega) (by omega) | exact take_bd (by assumption) | ((try simp only [List.length_take, List.take_length, List.take_take, Nat.min_self, List.length_drop, List.drop_zero, List.length_cons, List.length_nil]); first | assumption | exact rep_bd (by omega) (by omega) | exact set_bd (by assumption) (by omega) (by omega) | exact take_bd (by assumption) | grind [getD_set, getD_rep, toNat_succ, cntN_yes, cntN_no])
        refine req_i ?_ ?_
        · -- r94
         first | omega | ((try simp only [List.length_take, List.take_length, List.take_take, Nat.min_self, List.length_drop, List.drop_zero, List.length_cons, List.length_nil]); first | done | omega | assumption | grind [getD_set, getD_rep, toNat_succ, cntN_yes, cntN_no])
        refine req_i ?_ ?_
        · -- r95
         first | assumption | exact rep_bd (by omega) (by omega) | exact set_bd (by assumption) (by omega) (by omega) | exact take_bd (by assumption) | ((try simp only [List.length_take, List.take_length, List.take_take, Nat.min_self, List.length_drop, List.drop_zero, List.length_cons, List.length_nil]); first | assumption | exact rep_bd (by omega) (by omega) | exact set_bd (by assumption) (by omega) (by omega) | exact take_bd (by assumption) | grind [getD_set, getD_rep, toNat_succ, cntN_yes, cntN_no])
        refine req_i ?_ ?_
        · -- r96
         first | omega | ((try simp only [Nat.mul_eq]); first | done | omega | assumption | grind [getD_set, getD_rep, toNat_succ, cntN_yes, cntN_no])
        refine req_i ?_ ?_
        · -- r97
         first | omega | ((try simp only [Nat.zero_add]); first | done | omega | assumption | grind [getD_set, getD_rep, toNat_succ, cntN_yes, cntN_no])
        refine req_i ?_ ?_
        · -- r98
         first | omega | ((try simp only [List.length_take, List.take_length, List.take_take, Nat.min_self, List.length_drop, List.drop_zero, List.length_cons, List.length_nil]); first | done | omega | assumption | grind [getD_set, getD_rep, toNat_succ, cntN_yes, cntN_no])
        refine req_i ?_ ?_
        · -- r99
         first | assumption | exact rep_bd (by omega) (by omega) | exact set_bd (by assumption) (by omega) (by omega) | exact take_bd (by assumption) | ((try simp only [List.length_take, List.take_length, List.take_take, Nat.min_self, List.length_drop, List.drop_zero, List.length_cons, List.length_nil]); first | assumption | exact rep_bd (by omega) (by omega) | exact set_bd (by assumption) (by omega) (by omega) | exact take_bd (by assumption) | grind [getD_set, getD_rep, toNat_succ, cntN_yes, cntN_no])
        refine req_i ?_ ?_
        · -- r100
         first | omega | ((try simp only [List.length_take, List.take_length, List.take_take, Nat.min_self, List.length_drop, List.drop_zero, List.length_cons, List.length_nil]); first | done | omega | assumption | grind [getD_set, getD_rep, toNat_succ, cntN_yes, cntN_no])
        refine req_i ?_ ?_
        · -- r101
         first | assumption | exact rep_bd (by omega) (by omega) | exact set_bd (by assumption) (by omega) (by omega) | exact take_bd (by assumption) | ((try simp only [List.length_take, List.take_length, List.take_take, Nat.min_self, List.length_drop, List.drop_zero, List.length_cons, List.length_nil]); first | assumption | exact rep_bd (by omega) (by omega) | exact set_bd (by assumption) (by omega) (by omega) | exact take_bd (by assumption) | grind [getD_set, getD_rep, toNat_succ, cntN_yes, cntN_no])
        refine req_i ?_ ?_
        · -- r102
         first | omega | ((try simp only [sigSamP, smpL, samP, List.cons.injEq, DV.b.injEq, and_true, List.length_take, List.take_length, List.take_take, Nat.min_self, List.length_drop, List.drop_zero, List.length_cons, List.length_nil]); first | done | omega | assumption | grind [getD_set, getD_rep, toNat_succ, cntN_yes, cntN_no])
        refine all_i fun b30 => ?_
        refine imp_i fun h75 => ?_
        try simp only [sigSamP, smpL, samP, List.cons.injEq, DV.b.injEq, and_true, List.length_take, List.take_length, List.take_take, Nat.min_self, List.length_drop, List.drop_zero, List.length_cons, List.length_nil] at h75
        refine bR_i (fun h76 => ?_) (fun h76 => ?_)
        ·
         refine bR_dec (fun h77 => ?_) (fun h77 => ?_)
         ·
          refine req_i ?_ ?_
          · -- r103
           first | omega | ((try simp only [Nat.mul_eq]); first | done | omega | assumption | grind [getD_set, getD_rep, toNat_succ, cntN_yes, cntN_no])
          refine req_i ?_ ?_
          · -- r104
           first | omega | ((try simp only [Nat.zero_add]); first | done | omega | assumption | grind [getD_set, getD_rep, toNat_succ, cntN_yes, cntN_no])
          refine req_i ?_ ?_
          · -- r105
           first | omega | ((try simp only [List.length_take, List.take_length, List.take_take, Nat.min_self, List.length_drop, List.drop_zero, List.length_cons, List.length_nil]); first | done | omega | assumption | grind [getD_set, getD_rep, toNat_succ, cntN_yes, cntN_no])
          refine req_i ?_ ?_
          · -- r106
           first | assumption | exact rep_bd (by omega) (by omega) | exact set_bd (by assumption) (by omega) (by omega) | exact take_bd (by assumption) | ((try simp only [List.length_take, List.take_length, List.take_take, Nat.min_self, List.length_drop, List.drop_zero, List.length_cons, List.length_nil]); first | assumption | exact rep_bd (by omega) (by omega) | exact set_bd (by assumption) (by omega) (by omega) | exact take_bd (by assumption) | grind [getD_set, getD_rep, toNat_succ, cntN_yes, cntN_no])
          refine req_i ?_ ?_
          · -- r107
           first | omega | ((try simp only [List.length_take, List.take_length, List.take_take, Nat.min_self, List.length_drop, List.drop_zero, List.length_cons, List.length_nil]); first | done | omega | assumption | grind [getD_set, getD_rep, toNat_succ, cntN_yes, cntN_no])
          refine req_i ?_ ?_
          · -- r108
           first | assumption | exact rep_bd (by omega) (by omega) | exact set_bd (by assumption) (by omega) (by omega) | exact take_bd (by assumption) | ((try simp only [List.length_take, List.take_length, List.take_take, Nat.min_self, List.length_drop, List.drop_zero, List.length_cons, List.length_nil]); first | assumption | exact rep_bd (by omega) (by omega) | exact set_bd (by assumption) (by omega) (by omega) | exact take_bd (by assumption) | grind [getD_set, getD_rep, toNat_succ, cntN_yes, cntN_no])
          refine req_i ?_ ?_
          · -- r109
           first | omega | ((try simp only [Nat.mul_eq]); first | done | omega | assumption | grind [getD_set, getD_rep, toNat_succ, cntN_yes, cntN_no])
          refine req_i ?_ ?_
          · -- r110
           first | omega | ((try simp only [Nat.zero_add]); first | done | omega | assumption | grind [getD_set, getD_rep, toNat_succ, cntN_yes, cntN_no])
          refine req_i ?_ ?_
          · -- r111
           first | omega | ((try simp only [List.length_take, List.take_length, List.take_take, Nat.min_self, List.length_drop, List.drop_zero, List.length_cons, List.length_nil]); first | done | omega | assumption | grind [getD_set, getD_rep, toNat_succ, cntN_yes, cntN_no])
          refine req_i ?_ ?_
          · -- r112
           first | assumption | exact rep_bd (by omega) (by omega) | exact set_bd (by assumption) (by omega) (by omega) | exact take_bd (by assumption) | ((try simp only [List.length_take, List.take_length, List.take_take, Nat.min_self, List.length_drop, List.drop_zero, List.length_cons, List.length_nil]); first | assumption | exact rep_bd (by omega) (by omega) | exact set_bd (by assumption) (by omega) (by omega) | exact take_bd (by assumption) | grind [getD_set, getD_rep, toNat_succ, cntN_yes, cntN_no])
          refine req_i ?_ ?_
          · -- r113
           first | omega | ((try simp only [List.length_take, List.take_length, List.take_take, Nat.min_self, List.length_drop, List.drop_zero, List.length_cons, List.length_nil]); first | done | omega | assumption | grind [getD_set, getD_rep, toNat_succ, cntN_yes, cntN_no])
          refine req_i ?_ ?_
          · -- r114
           first | assumption | exact rep_bd (by omega) (by omega) | exact set_bd (by assumption) (by omega) (by omega) | exact take_bd (by assumption) | ((try simp only [List.length_take, List.take_length, List.take_take, Nat.min_self, List.length_drop, List.drop_zero, List.length_cons, List.length_nil]); first | assumption | exact rep_bd (by omega) (by omega) | exact set_bd (by assumption) (by omega) (by omega) | exact take_bd (by assumption) | grind [getD_set, getD_rep, toNat_succ, cntN_yes, cntN_no])
          refine req_i ?_ ?_
          · -- r115
           first | omega | ((try simp only [sigSamP, smpL, samP, List.cons.injEq, DV.b.injEq, and_true, List.length_take, List.take_length, List.take_take, Nat.min_self, List.length_drop, List.drop_zero, List.length_cons, List.length_nil]); first | done | omega | assumption | grind [getD_set, getD_rep, toNat_succ, cntN_yes, cntN_no])
          refine all_i fun b31 => ?_
          refine imp_i fun h78 => ?_
          try simp only [sigSamP, smpL, samP, List.cons.injEq, DV.b.injEq, and_true, List.length_take, List.take_length, List.take_take, Nat.min_self, List.length_drop, List.drop_zero, List.length_cons, List.length_nil] at h78
          refine bR_i (fun h79 => ?_) (fun h79 => ?_)
          ·
           refine bR_dec (fun h80 => ?_) (fun h80 => ?_)
           ·
            refine req_i ?_ ?_
            · -- r116
             first | omega | assumption | grind
            refine all_i fun b32 => ?_
            refine imp_i fun h81 => ?_
            try simp only [sigTrue0, List.cons.injEq, DV.b.injEq, and_true, List.length_cons, List.length_nil] at h81
            refine req_i ?_ ?_
            · -- r117
             first | omega | ((try simp only [sigNW, u32, smpI, List.cons.injEq, DV.b.injEq, and_true, List.length_cons, List.length_nil]); first | done | omega | assumption | grind [getD_set, getD_rep, toNat_succ, cntN_yes, cntN_no])
            rfl
           ·
            refine req_i ?_ ?_
            · -- r118
             first | omega | ((try simp only [sigNW, u32, smpI, List.cons.injEq, DV.b.injEq, and_true, List.length_cons, List.length_nil]); first | done | omega | assumption | grind [getD_set, getD_rep, toNat_succ, cntN_yes, cntN_no])
            rfl
          ·
           refine req_i ?_ ?_
           · -- r119
            first | omega | ((try simp only [sigNW, u32, smpI, List.cons.injEq, DV.b.injEq, and_true, List.length_cons, List.length_nil]); first | done | omega | assumption | grind [getD_set, getD_rep, toNat_succ, cntN_yes, cntN_no])
           rfl
         ·
          refine req_i ?_ ?_
          · -- r120
           first | omega | ((try simp only [sigNW, u32, smpI, List.cons.injEq, DV.b.injEq, and_true, List.length_cons, List.length_nil]); first | done | omega | assumption | grind [getD_set, getD_rep, toNat_succ, cntN_yes, cntN_no])
          rfl
        ·
         refine req_i ?_ ?_
         · -- r121
          first | omega | ((try simp only [sigNW, u32, smpI, List.cons.injEq, DV.b.injEq, and_true, List.length_cons, List.length_nil]); first | done | omega | assumption | grind [getD_set, getD_rep, toNat_succ, cntN_yes, cntN_no])
         rfl
       ·
        refine req_i ?_ ?_
        · -- r122
         first | omega | ((try simp only [sigNW, u32, smpI, List.cons.injEq, DV.b.injEq, and_true, List.length_cons, List.length_nil]); first | done | omega | assumption | grind [getD_set, getD_rep, toNat_succ, cntN_yes, cntN_no])
        rfl
      ·
       simp only [bR_iff, bR_iff_f, dec_iff, dec_f, Bool.false_eq_true, Bool.true_eq_false, false_implies, imp_false, and_true, true_and, implies_true, Classical.not_not] at h67
       refine req_i ?_ ?_
       · -- r123
        first | omega | ((try simp only [sigNW, u32, smpI, List.cons.injEq, DV.b.injEq, and_true, List.length_cons, List.length_nil]); first | done | omega | assumption | grind [getD_set, getD_rep, toNat_succ, cntN_yes, cntN_no])
       rfl
     ·
      refine req_i ?_ ?_
      · -- r124
       first | omega | ((try simp only [sigNW, u32, smpI, List.cons.injEq, DV.b.injEq, and_true, List.length_cons, List.length_nil]); first | done | omega | assumption | grind [getD_set, getD_rep, toNat_succ, cntN_yes, cntN_no])
      rfl
  ·
   refine bR_dec (fun h82 => ?_) (fun h82 => ?_)
   ·
    refine req_i ?_ ?_
    · -- r125
     first | omega | assumption | grind
    refine all_i fun b33 => ?_
    refine imp_i fun h83 => ?_
    try simp only [sigTrue0, List.cons.injEq, DV.b.injEq, and_true, List.length_cons, List.length_nil] at h83
    refine req_i ?_ ?_
    · -- r126
     first | omega | ((try simp only [sigNW, u32, smpI, List.cons.injEq, DV.b.injEq, and_true, List.length_cons, List.length_nil]); first | done | omega | assumption | grind [getD_set, getD_rep, toNat_succ, cntN_yes, cntN_no])
    rfl
   ·
    refine req_i ?_ ?_
    · -- r127
     first | omega | assumption | grind
    refine req_i ?_ ?_
    · -- r128
     first | omega | assumption | grind
    refine req_i ?_ ?_
    · -- r129
     first | omega | assumption | grind
    refine req_i ?_ ?_
    · -- r130
     first | omega | assumption | grind
    refine req_i ?_ ?_
    · -- r131
     first | omega | assumption | grind
    refine req_i ?_ ?_
    · -- r132
     first | omega | assumption | grind
    refine req_i ?_ ?_
    · -- r133
     first | trivial | assumption | (simp only [sigWave, u32, smpW, wavPost, wC, adv, wS, List.cons.injEq, DV.b.injEq, and_true, List.length_cons, List.length_nil]; done) | ((try simp only [sigWave, u32, smpW, wavPost, wC, adv, wS, List.cons.injEq, DV.b.injEq, and_true, List.length_cons, List.length_nil]); first | omega | assumption | grind)
    refine all_i fun l34 => ?_
    refine imp_i fun h84 => ?_
    refine imp_i fun h85 => ?_
    refine all_i fun l35 => ?_
    refine imp_i fun h86 => ?_
    have tkl35 := take_eq h86
    try simp only [tkl35]
    refine imp_i fun h87 => ?_
    refine all_i fun n36 => ?_
    refine imp_i fun h88 => ?_
    refine imp_i fun h89 => ?_
    refine imp_i fun h90 => ?_
    try simp only [Int.toNat_natCast, List.length_set, List.length_replicate, List.length_take, List.length_drop, List.length_append, List.length_cons, List.length_nil, Nat.min_self, List.take_take, lenCols_i, lenCols_b, List.drop_zero, List.take_length, Nat.add_eq, Nat.mul_eq, Nat.sub_eq, Nat.zero_add, Nat.sub_zero, Nat.mul_one] at h90
    refine req_i ?_ ?_
    · -- r134
     first | omega | assumption | grind
    refine req_i ?_ ?_
    · -- r135
     first | omega | assumption | grind
    refine req_i ?_ ?_
    · -- r136
     first | omega | assumption | grind
    refine req_i ?_ ?_
    · -- r137
     first | omega | assumption | grind
    refine req_i ?_ ?_
    · -- r138
     first | omega | assumption | grind
    refine req_i ?_ ?_
    · -- r139
     first | omega | assumption | grind
    refine req_i ?_ ?_
    · -- r140
     first | trivial | assumption | (simp only [sigWave, u32, smpW, wavPost, wC, adv, wS, List.cons.injEq, DV.b.injEq, and_true, List.length_cons, List.length_nil]; done) | ((try simp only [sigWave, u32, smpW, wavPost, wC, adv, wS, List.cons.injEq, DV.b.injEq, and_true, List.length_cons, List.length_nil]); first | omega | assumption | grind)
    refine all_i fun l37 => ?_
    refine imp_i fun h91 => ?_
    refine imp_i fun h92 => ?_
    refine all_i fun l38 => ?_
    refine imp_i fun h93 => ?_
    have tkl38 := take_eq h93
    try simp only [tkl38]
    refine imp_i fun h94 => ?_
    refine all_i fun n39 => ?_
    refine imp_i fun h95 => ?_
    refine imp_i fun h96 => ?_
    refine imp_i fun h97 => ?_
    try simp only [Int.toNat_natCast, List.length_set, List.length_replicate, List.length_take, List.length_drop, List.length_append, List.length_cons, List.length_nil, Nat.min_self, List.take_take, lenCols_i, lenCols_b, List.drop_zero, List.take_length, Nat.add_eq, Nat.mul_eq, Nat.sub_eq, Nat.zero_add, Nat.sub_zero, Nat.mul_one] at h97
    obtain ⟨eA, eB, eC⟩ := wav_fun h86 h93 h90 h97
    refine req_i ?_ ?_
    · -- r141
     first | omega | ((try simp only [Nat.mul_eq]); first | done | omega | assumption | grind [getD_set, getD_rep, toNat_succ, cntN_yes, cntN_no])
    refine req_i ?_ ?_
    · -- r142
     first | omega | ((try simp only [Nat.zero_add]); first | done | omega | assumption | grind [getD_set, getD_rep, toNat_succ, cntN_yes, cntN_no])
    refine req_i ?_ ?_
    · -- r143
     first | omega | ((try simp only [List.length_take, List.take_length, List.take_take, Nat.min_self, List.length_drop, List.drop_zero, List.length_cons, List.length_nil]); first | done | omega | assumption | grind [getD_set, getD_rep, toNat_succ, cntN_yes, cntN_no])
    refine req_i ?_ ?_
    · -- r144
     first | assumption | exact rep_bd (by omega) (by omega) | exact set_bd (by assumption) (by omega) (by omega) | exact take_bd (by assumption) | ((try simp only [List.length_take, List.take_length, List.take_take, Nat.min_self, List.length_drop, List.drop_zero, List.length_cons, List.length_nil]); first | assumption | exact rep_bd (by omega) (by omega) | exact set_bd (by assumption) (by omega) (by omega) | exact take_bd (by assumption) | grind [getD_set, getD_rep, toNat_succ, cntN_yes, cntN_no])
    refine req_i ?_ ?_
    · -- r145
     first | omega | ((try simp only [List.length_take, List.take_length, List.take_take, Nat.min_self, List.length_drop, List.drop_zero, List.length_cons, List.length_nil]); first | done | omega | assumption | grind [getD_set, getD_rep, toNat_succ, cntN_yes, cntN_no])
    refine req_i ?_ ?_
    · -- r146
     first | assumption | exact rep_bd (by omega) (by omega) | exact set_bd (by assumption) (by omega) (by omega) | exact take_bd (by assumption) | ((try simp only [List.length_take, List.take_length, List.take_take, Nat.min_self, List.length_drop, List.drop_zero, List.length_cons, List.length_nil]); first | assumption | exact rep_bd (by omega) (by omega) | exact set_bd (by assumption) (by omega) (by omega) | exact take_bd (by assumption) | grind [getD_set, getD_rep, toNat_succ, cntN_yes, cntN_no])
    refine req_i ?_ ?_
    · -- r147
     first | omega | assumption | grind
    refine req_i ?_ ?_
    · -- r148
     first | omega | assumption | grind
    refine req_i ?_ ?_
    · -- r149
     first | omega | assumption | grind
    refine req_i ?_ ?_
    · -- r150
     first | omega | assumption | grind
    refine req_i ?_ ?_
    · -- r151
     first | omega | ((try simp only [sigMix, smpI, u32, mxL, mixPost, wC, adv, wS, List.cons.injEq, DV.b.injEq, and_true, List.length_take, List.take_length, List.take_take, Nat.min_self, List.length_drop, List.drop_zero, List.length_cons, List.length_nil]); first | done | omega | assumption | grind [getD_set, getD_rep, toNat_succ, cntN_yes, cntN_no])
    refine all_i fun l40 => ?_
    refine imp_i fun h98 => ?_
    refine imp_i fun h99 => ?_
    refine all_i fun l41 => ?_
    refine imp_i fun h100 => ?_
    have tkl41 := take_eq h100
    try simp only [tkl41]
    refine imp_i fun h101 => ?_
    refine all_i fun n42 => ?_
    refine imp_i fun h102 => ?_
    refine imp_i fun h103 => ?_
    refine imp_i fun h104 => ?_
    try simp only [Int.toNat_natCast, List.length_set, List.length_replicate, List.length_take, List.length_drop, List.length_append, List.length_cons, List.length_nil, Nat.min_self, List.take_take, lenCols_i, lenCols_b, List.drop_zero, List.take_length, Nat.add_eq, Nat.mul_eq, Nat.sub_eq, Nat.zero_add, Nat.sub_zero, Nat.mul_one] at h104
    refine req_i ?_ ?_
    · -- r152
     first | omega | ((try simp only [Nat.mul_eq]); first | done | omega | assumption | grind [getD_set, getD_rep, toNat_succ, cntN_yes, cntN_no])
    refine req_i ?_ ?_
    · -- r153
     first | omega | ((try simp only [Nat.zero_add]); first | done | omega | assumption | grind [getD_set, getD_rep, toNat_succ, cntN_yes, cntN_no])
    refine req_i ?_ ?_
    · -- r154
     first | omega | ((try simp only [List.length_take, List.take_length, List.take_take, Nat.min_self, List.length_drop, List.drop_zero, List.length_cons, List.length_nil]); first | done | omega | assumption | grind [getD_set, getD_rep, toNat_succ, cntN_yes, cntN_no])
    refine req_i ?_ ?_
    · -- r155
     first | assumption | exact rep_bd (by omega) (by omega) | exact set_bd (by assumption) (by omega) (by omega) | exact take_bd (by assumption) | ((try simp only [List.length_take, List.take_length, List.take_take, Nat.min_self, List.length_drop, List.drop_zero, List.length_cons, List.length_nil]); first | assumption | exact rep_bd (by omega) (by omega) | exact set_bd (by assumption) (by omega) (by omega) | exact take_bd (by assumption) | grind [getD_set, getD_rep, toNat_succ, cntN_yes, cntN_no])
    refine req_i ?_ ?_
    · -- r156
     first | omega | ((try simp only [List.length_take, List.take_length, List.take_take, Nat.min_self, List.length_drop, List.drop_zero, List.length_cons, List.length_nil]); first | done | omega | assumption | grind [getD_set, getD_rep, toNat_succ, cntN_yes, cntN_no])
    refine req_i ?_ ?_
    · -- r157
     first | assumption | exact rep_bd (by omega) (by omega) | exact set_bd (by assumption) (by omega) (by omega) | exact take_bd (by assumption) | ((try simp only [List.length_take, List.take_length, List.take_take, Nat.min_self, List.length_drop, List.drop_zero, List.length_cons, List.length_nil]); first | assumption | exact rep_bd (by omega) (by omega) | exact set_bd (by assumption) (by omega) (by omega) | exact take_bd (by assumption) | grind [getD_set, getD_rep, toNat_succ, cntN_yes, cntN_no])
    refine req_i ?_ ?_
    · -- r158
     first | omega | assumption | grind
    refine req_i ?_ ?_
    · -- r159
     first | omega | assumption | grind
    refine req_i ?_ ?_
    · -- r160
     first | omega | assumption | grind
    refine req_i ?_ ?_
    · -- r161
     first | omega | assumption | grind
    refine req_i ?_ ?_
    · -- r162
     first | omega | ((try simp only [sigMix, smpI, u32, mxL, mixPost, wC, adv, wS, List.cons.injEq, DV.b.injEq, and_true, List.length_take, List.take_length, List.take_take, Nat.min_self, List.length_drop, List.drop_zero, List.length_cons, List.length_nil]); first | done | omega | assumption | grind [getD_set, getD_rep, toNat_succ, cntN_yes, cntN_no])
    refine all_i fun l43 => ?_
    refine imp_i fun h105 => ?_
    refine imp_i fun h106 => ?_
    refine all_i fun l44 => ?_
    refine imp_i fun h107 => ?_
    have tkl44 := take_eq h107
    try simp only [tkl44]
    refine imp_i fun h108 => ?_
    refine all_i fun n45 => ?_
    refine imp_i fun h109 => ?_
    refine imp_i fun h110 => ?_
    refine imp_i fun h111 => ?_
    try simp only [Int.toNat_natCast, List.length_set, List.length_replicate, List.length_take, List.length_drop, List.length_append, List.length_cons, List.length_nil, Nat.min_self, List.take_take, lenCols_i, lenCols_b, List.drop_zero, List.take_length, Nat.add_eq, Nat.mul_eq, Nat.sub_eq, Nat.zero_add, Nat.sub_zero, Nat.mul_one] at h111
    obtain ⟨eD, eE, eF⟩ := mix_fun h100 h107 h104 h111
    refine req_i ?_ ?_
    · -- r163
     first | omega | assumption | grind
    refine req_i ?_ ?_
    · -- r164
     first | omega | assumption | grind
    refine req_i ?_ ?_
    · -- r165
     first | omega | assumption | grind
    refine req_i ?_ ?_
    · -- r166
     first | omega | assumption | grind
    refine req_i ?_ ?_
    · -- r167
     first | omega | assumption | grind
    refine req_i ?_ ?_
    · -- r168
     first | omega | assumption | grind
    refine req_i ?_ ?_
    · -- r169
     first | trivial | assumption | (simp only [sigPhase, u32, advPost, adv, List.cons.injEq, DV.b.injEq, and_true, List.length_cons, List.length_nil]; done) | ((try simp only [sigPhase, u32, advPost, adv, List.cons.injEq, DV.b.injEq, and_true, List.length_cons, List.length_nil]); first | omega | assumption | grind)
    refine all_i fun n46 => ?_
    refine imp_i fun h112 => ?_
    refine imp_i fun h113 => ?_
    refine imp_i fun h114 => ?_
    try simp only [sigPhase, u32, advPost, adv, List.cons.injEq, DV.b.injEq, and_true, List.length_cons, List.length_nil] at h114
    refine req_i ?_ ?_
    · -- r170
     first | omega | assumption | grind
    refine req_i ?_ ?_
    · -- r171
     first | omega | assumption | grind
    refine req_i ?_ ?_
    · -- r172
     first | omega | assumption | grind
    refine req_i ?_ ?_
    · -- r173
     first | omega | assumption | grind
    refine req_i ?_ ?_
    · -- r174
     first | omega | assumption | grind
    refine req_i ?_ ?_
    · -- r175
     first | omega | assumption | grind
    refine req_i ?_ ?_
    · -- r176
     first | trivial | assumption | (simp only [sigPhase, u32, advPost, adv, List.cons.injEq, DV.b.injEq, and_true, List.length_cons, List.length_nil]; done) | ((try simp only [sigPhase, u32, advPost, adv, List.cons.injEq, DV.b.injEq, and_true, List.length_cons, List.length_nil]); first | omega | assumption | grind)
    refine all_i fun n47 => ?_
    refine imp_i fun h115 => ?_
    refine imp_i fun h116 => ?_
    refine imp_i fun h117 => ?_
    try simp only [sigPhase, u32, advPost, adv, List.cons.injEq, DV.b.injEq, and_true, List.length_cons, List.length_nil] at h117
    refine bR_dec (fun h118 => ?_) (fun h118 => ?_)
    ·
     refine req_i ?_ ?_
     · -- r177
      first | omega | assumption | grind
     refine req_i ?_ ?_
     · -- r178
      first | omega | assumption | grind
     refine req_i ?_ ?_
     · -- r179
      first | omega | assumption | grind
     refine req_i ?_ ?_
     · -- r180
      first | omega | assumption | grind
     refine req_i ?_ ?_
     · -- r181
      first | omega | assumption | grind
     refine req_i ?_ ?_
     · -- r182
      first | omega | assumption | grind
     refine req_i ?_ ?_
     · -- r183
      first | trivial | assumption | (simp only [sigLater, u32, laterPost, adv, List.cons.injEq, DV.b.injEq, and_true, List.length_cons, List.length_nil]; done) | ((try simp only [sigLater, u32, laterPost, adv, List.cons.injEq, DV.b.injEq, and_true, List.length_cons, List.length_nil]); first | omega | assumption | grind)
     refine all_i fun n48 => ?_
     refine imp_i fun h119 => ?_
     refine imp_i fun h120 => ?_
     refine all_i fun n49 => ?_
     refine imp_i fun h121 => ?_
     refine imp_i fun h122 => ?_
     refine imp_i fun h123 => ?_
     try simp only [sigLater, u32, laterPost, adv, List.cons.injEq, DV.b.injEq, and_true, List.length_cons, List.length_nil] at h123
     refine req_i ?_ ?_
     · -- r184
      first | omega | assumption | grind
     refine req_i ?_ ?_
     · -- r185
      first | omega | assumption | grind
     refine req_i ?_ ?_
     · -- r186
      first | omega | assumption | grind
     refine req_i ?_ ?_
     · -- r187
      first | omega | assumption | grind
     refine req_i ?_ ?_
     · -- r188
      first | omega | assumption | grind
     refine req_i ?_ ?_
     · -- r189
      first | omega | assumption | grind
     refine req_i ?_ ?_
     · -- r190
      first | trivial | assumption | (simp only [sigLater, u32, laterPost, adv, List.cons.injEq, DV.b.injEq, and_true, List.length_cons, List.length_nil]; done) | ((try simp only [sigLater, u32, laterPost, adv, List.cons.injEq, DV.b.injEq, and_true, List.length_cons, List.length_nil]); first | omega | assumption | grind)
     refine all_i fun n50 => ?_
     refine imp_i fun h124 => ?_
     refine imp_i fun h125 => ?_
     refine all_i fun n51 => ?_
     refine imp_i fun h126 => ?_
     refine imp_i fun h127 => ?_
     refine imp_i fun h128 => ?_
     try simp only [sigLater, u32, laterPost, adv, List.cons.injEq, DV.b.injEq, and_true, List.length_cons, List.length_nil] at h128
     refine bR_i (fun h129 => ?_) (fun h129 => ?_)
     ·
      simp only [bR_iff, bR_iff_f, dec_iff, dec_f, Bool.false_eq_true, Bool.true_eq_false, false_implies, imp_false, and_true, true_and, implies_true, Classical.not_not] at h129
      refine req_i ?_ ?_
      · -- r191
       first | omega | assumption | grind
      refine req_i ?_ ?_
      · -- r192
       first | omega | assumption | grind
      refine req_i ?_ ?_
      · -- r193
       first | omega | assumption | grind
      refine req_i ?_ ?_
      · -- r194
       first | omega | assumption | grind
      refine req_i ?_ ?_
      · -- r195
       first | omega | assumption | grind
      refine req_i ?_ ?_
      · -- r196
       first | omega | assumption | grind
      refine req_i ?_ ?_
      · -- r197
       first | omega | assumption | grind
      refine req_i ?_ ?_
      · -- r198
       first | omega | assumption | grind
      refine req_i ?_ ?_
      · -- r199
       first | omega | assumption | grind
      refine req_i ?_ ?_
      · -- r200
       first | omega | assumption | grind
      refine req_i ?_ ?_
      · -- r201
       first | trivial | assumption | (simp only [sigApart, u32, i32c, apartPost, del, adv, List.cons.injEq, DV.b.injEq, and_true, List.length_cons, List.length_nil]; done) | ((try simp only [sigApart, u32, i32c, apartPost, del, adv, List.cons.injEq, DV.b.injEq, and_true, List.length_cons, List.length_nil]); first | omega | assumption | grind)
      refine all_i fun n52 => ?_
      refine imp_i fun h130 => ?_
      refine imp_i fun h131 => ?_
      refine imp_i fun h132 => ?_
      try simp only [sigApart, u32, i32c, apartPost, del, adv, List.cons.injEq, DV.b.injEq, and_true, List.length_cons, List.length_nil] at h132
      refine req_i ?_ ?_
      · -- r202
       first | omega | assumption | grind
      refine req_i ?_ ?_
      · -- r203
       first | omega | assumption | grind
      refine req_i ?_ ?_
      · -- r204
       first | omega | assumption | grind
      refine req_i ?_ ?_
      · -- r205
       first | omega | assumption | grind
      refine req_i ?_ ?_
      · -- r206
       first | omega | assumption | grind
      refine req_i ?_ ?_
      · -- r207
       first | omega | assumption | grind
      refine req_i ?_ ?_
      · -- r208
       first | omega | assumption | grind
      refine req_i ?_ ?_
      · -- r209
       first | omega | assumption | grind
      refine req_i ?_ ?_
      · -- r210
       first | omega | assumption | grind
      refine req_i ?_ ?_
      · -- r211
       first | omega | assumption | grind
      refine req_i ?_ ?_
      · -- r212
       first | trivial | assumption | (simp only [sigApart, u32, i32c, apartPost, del, adv, List.cons.injEq, DV.b.injEq, and_true, List.length_cons, List.length_nil]; done) | ((try simp only [sigApart, u32, i32c, apartPost, del, adv, List.cons.injEq, DV.b.injEq, and_true, List.length_cons, List.length_nil]); first | omega | assumption | grind)
      refine all_i fun n53 => ?_
      refine imp_i fun h133 => ?_
      refine imp_i fun h134 => ?_
      refine imp_i fun h135 => ?_
      try simp only [sigApart, u32, i32c, apartPost, del, adv, List.cons.injEq, DV.b.injEq, and_true, List.length_cons, List.length_nil] at h135
      refine bR_dec (fun h136 => ?_) (fun h136 => ?_)
      ·
       refine req_i ?_ ?_
       · -- r213
        first | omega | ((try simp only [Nat.mul_eq]); first | done | omega | assumption | grind [getD_set, getD_rep, toNat_succ, cntN_yes, cntN_no])
       refine req_i ?_ ?_
       · -- r214
        first | omega | ((try simp only [Nat.zero_add]); first | done | omega | assumption | grind [getD_set, getD_rep, toNat_succ, cntN_yes, cntN_no])
       refine req_i ?_ ?_
       · -- r215
        first | omega | ((try simp only [List.length_take, List.take_length, List.take_take, Nat.min_self, List.length_drop, List.drop_zero, List.length_cons, List.length_nil]); first | done | omega | assumption | grind [getD_set, getD_rep, toNat_succ, cntN_yes, cntN_no])
       refine req_i ?_ ?_
       · -- r216
        first | assumption | exact rep_bd (by omega) (by omega) | exact set_bd (by assumption) (by omega) (by omega) | exact take_bd (by assumption) | ((try simp only [List.length_take, List.take_length, List.take_take, Nat.min_self, List.length_drop, List.drop_zero, List.length_cons, List.length_nil]); first | assumption | exact rep_bd (by omega) (by omega) | exact set_bd (by assumption) (by omega) (by omega) | exact take_bd (by assumption) | grind [getD_set, getD_rep, toNat_succ, cntN_yes, cntN_no])
       refine req_i ?_ ?_
       · -- r217
        first | omega | ((try simp only [List.length_take, List.take_length, List.take_take, Nat.min_self, List.length_drop, List.drop_zero, List.length_cons, List.length_nil]); first | done | omega | assumption | grind [getD_set, getD_rep, toNat_succ, cntN_yes, cntN_no])
       refine req_i ?_ ?_
       · -- r218
        first | assumption | exact rep_bd (by omega) (by omega) | exact set_bd (by assumption) (by omega) (by omega) | exact take_bd (by assumption) | ((try simp only [List.length_take, List.take_length, List.take_take, Nat.min_self, List.length_drop, List.drop_zero, List.length_cons, List.length_nil]); first | assumption | exact rep_bd (by omega) (by omega) | exact set_bd (by assumption) (by omega) (by omega) | exact take_bd (by assumption) | grind [getD_set, getD_rep, toNat_succ, cntN_yes, cntN_no])
       refine req_i ?_ ?_
       · -- r219
        first | omega | ((try simp only [Nat.mul_eq]); first | done | omega | assumption | grind [getD_set, getD_rep, toNat_succ, cntN_yes, cntN_no])
       refine req_i ?_ ?_
       · -- r220
        first | omega | ((try simp only [Nat.zero_add]); first | done | omega | assumption | grind [getD_set, getD_rep, toNat_succ, cntN_yes, cntN_no])
       refine req_i ?_ ?_
       · -- r221
        first | omega | ((try simp only [List.length_take, List.take_length, List.take_take, Nat.min_self, List.length_drop, List.drop_zero, List.length_cons, List.length_nil]); first | done | omega | assumption | grind [getD_set, getD_rep, toNat_succ, cntN_yes, cntN_no])
       refine req_i ?_ ?_
       · -- r222
        first | assumption | exact rep_bd (by omega) (by omega) | exact set_bd (by assumption) (by omega) (by omega) | exact take_bd (by assumption) | ((try simp only [List.length_take, List.take_length, List.take_take, Nat.min_self, List.length_drop, List.drop_zero, List.length_cons, List.length_nil]); first | assumption | exact rep_bd (by omega) (by omega) | exact set_bd (by assumption) (by omega) (by omega) | exact take_bd (by assumption) | grind [getD_set, getD_rep, toNat_succ, cntN_yes, cntN_no])
       refine req_i ?_ ?_
       · -- r223
        first | omega | ((try simp only [List.length_take, List.take_length, List.take_take, Nat.min_self, List.length_drop, List.drop_zero, List.length_cons, List.length_nil]); first | done | omega | assumption | grind [getD_set, getD_rep, toNat_succ, cntN_yes, cntN_no])
       refine req_i ?_ ?_
       · -- r224
        first | assumption | exact rep_bd (by omega) (by omega) | exact set_bd (by assumption) (by omega) (by omega) | exact take_bd (by assumption) | ((try simp only [List.length_take, List.take_length, List.take_take, Nat.min_self, List.length_drop, List.drop_zero, List.length_cons, List.length_nil]); first | assumption | exact rep_bd (by omega) (by omega) | exact set_bd (by assumption) (by omega) (by omega) | exact take_bd (by assumption) | grind [getD_set, getD_rep, toNat_succ, cntN_yes, cntN_no])
       refine req_i ?_ ?_
       · -- r225
        first | omega | ((try simp only [sigSamP, smpL, samP, List.cons.injEq, DV.b.injEq, and_true, List.length_take, List.take_length, List.take_take, Nat.min_self, List.length_drop, List.drop_zero, List.length_cons, List.length_nil]); first | done | omega | assumption | grind [getD_set, getD_rep, toNat_succ, cntN_yes, cntN_no])
       refine all_i fun b54 => ?_
       refine imp_i fun h137 => ?_
       try simp only [sigSamP, smpL, samP, List.cons.injEq, DV.b.injEq, and_true, List.length_take, List.take_length, List.take_take, Nat.min_self, List.length_drop, List.drop_zero, List.length_cons, List.length_nil] at h137
       refine bR_i (fun h138 => ?_) (fun h138 => ?_)
       ·
        refine bR_dec (fun h139 => ?_) (fun h139 => ?_)
        ·
         refine req_i ?_ ?_
         · -- r226
          first | omega | ((try simp only [Nat.mul_eq]); first | done | omega | assumption | grind [getD_set, getD_rep, toNat_succ, cntN_yes, cntN_no])
         refine req_i ?_ ?_
         · -- r227
          first | omega | ((try simp only [Nat.zero_add]); first | done | omega | assumption | grind [getD_set, getD_rep, toNat_succ, cntN_yes, cntN_no])
         refine req_i ?_ ?_
         · -- r228
          first | omega | ((try simp only [List.length_take, List.take_length, List.take_take, Nat.min_self, List.length_drop, List.drop_zero, List.length_cons, List.length_nil]); first | done | omega | assumption | grind [getD_set, getD_rep, toNat_succ, cntN_yes, cntN_no])
         refine req_i ?_ ?_
         · -- r229
          first | assumption | exact rep_bd (by omega) (by omega) | exact set_bd (by assumption) (by omega) (by omega) | exact take_bd (by assumption) | ((try simp only [List.length_take, List.take_length, List.take_take, Nat.min_self, List.length_drop, List.drop_zero, List.length_cons, List.length_nil]); first | assumption | exact rep_bd (by omega) (by omega) | exact set_bd (by assumption) (by omega) (by omega) | exact take_bd (by assumption) | grind [getD_set, getD_rep, toNat_succ, cntN_yes, cntN_no])
         refine req_i ?_ ?_
         · -- r230
          first | omega | ((try simp only [List.length_take, List.take_length, List.take_take, Nat.min_self, List.length_drop, List.drop_zero, List.length_cons, List.length_nil]); first | done | omega | assumption | grind [getD_set, getD_rep, toNat_succ, cntN_yes, cntN_no])
         refine req_i ?_ ?_
         · -- r231
          first | assumption | exact rep_bd (by omega) (by omega) | exact set_bd (by assumption) (by omega) (by omega) | exact take_bd (by assumption) | ((try simp only [List.length_take, List.take_length, List.take_take, Nat.min_self, List.length_drop, List.drop_zero, List.length_cons, List.length_nil]); first | assumption | exact rep_bd (by omega) (by omega) | exact set_bd (by assumption) (by omega) (by omega) | exact take_bd (by assumption) | grind [getD_set, getD_rep, toNat_succ, cntN_yes, cntN_no])
         refine req_i ?_ ?_
         · -- r232
          first | omega | ((try simp only [Nat.mul_eq]); first | done | omega | assumption | grind [getD_set, getD_rep, toNat_succ, cntN_yes, cntN_no])
         refine req_i ?_ ?_
         · -- r233
          first | omega | ((try simp only [Nat.zero_add]); first | done | omega | assumption | grind [getD_set, getD_rep, toNat_succ, cntN_yes, cntN_no])
         refine req_i ?_ ?_
         · -- r234
          first | omega | ((try simp only [List.length_take, List.take_length, List.take_take, Nat.min_self, List.length_drop, List.drop_zero, List.length_cons, List.length_nil]); first | done | omega | assumption | grind [getD_set, getD_rep, toNat_succ, cntN_yes, cntN_no])
         refine req_i ?_ ?_
         · -- r235
          first | assumption | exact rep_bd (by omega) (by omega) | exact set_bd (by assumption) (by omega) (by omega) | exact take_bd (by assumption) | ((try simp only [List.length_take, List.take_length, List.take_take, Nat.min_self, List.length_drop, List.drop_zero, List.length_cons, List.length_nil]); first | assumption | exact rep_bd (by omega) (by omega) | exact set_bd (by assumption) (by omega) (by omega) | exact take_bd (by assumption) | grind [getD_set, getD_rep, toNat_succ, cntN_yes, cntN_no])
         refine req_i ?_ ?_
         · -- r236
          first | omega | ((try simp only [List.length_take, List.take_length, List.take_take, Nat.min_self, List.length_drop, List.drop_zero, List.length_cons, List.length_nil]); first | done | omega | assumption | grind [getD_set, getD_rep, toNat_succ, cntN_yes, cntN_no])
         refine req_i ?_ ?_
         · -- r237
          first | assumption | exact rep_bd (by omega) (by omega) | exact set_bd (by assumption) (by omega) (by omega) | exact take_bd (by assumption) | ((try simp only [List.length_take, List.take_length, List.take_take, Nat.min_self, List.length_drop, List.drop_zero, List.length_cons, List.length_nil]); first | assumption | exact rep_bd (by omega) (by omega) | exact set_bd (by assumption) (by omega) (by omega) | exact take_bd (by assumption) | grind [getD_set, getD_rep, toNat_succ, cntN_yes, cntN_no])
         refine req_i ?_ ?_
         · -- r238
          first | omega | ((try simp only [sigSamP, smpL, samP, List.cons.injEq, DV.b.injEq, and_true, List.length_take, List.take_length, List.take_take, Nat.min_self, List.length_drop, List.drop_zero, List.length_cons, List.length_nil]); first | done | omega | assumption | grind [getD_set, getD_rep, toNat_succ, cntN_yes, cntN_no])
         refine all_i fun b55 => ?_
         refine imp_i fun h140 => ?_
         try simp only [sigSamP, smpL, samP, List.cons.injEq, DV.b.injEq, and_true, List.length_take, List.take_length, List.take_take, Nat.min_self, List.length_drop, List.drop_zero, List.length_cons, List.length_nil] at h140
         refine bR_i (fun h141 => ?_) (fun h141 => ?_)
         ·
          refine bR_dec (fun h142 => ?_) (fun h142 => ?_)
          ·
           refine req_i ?_ ?_
           · -- r239
            first | omega | assumption | grind
           refine all_i fun b56 => ?_
           refine imp_i fun h143 => ?_
           try simp only [sigTrue0, List.cons.injEq, DV.b.injEq, and_true, List.length_cons, List.length_nil] at h143
           refine req_i ?_ ?_
           · -- r240
            first | omega | ((try simp only [sigNW, u32, smpI, List.cons.injEq, DV.b.injEq, and_true, List.length_cons, List.length_nil]); first | done | omega | assumption | grind [getD_set, getD_rep, toNat_succ, cntN_yes, cntN_no])
           rfl
          ·
           refine req_i ?_ ?_
           · -- r241
            first | omega | ((try simp only [sigNW, u32, smpI, List.cons.injEq, DV.b.injEq, and_true, List.length_cons, List.length_nil]); first | done | omega | assumption | grind [getD_set, getD_rep, toNat_succ, cntN_yes, cntN_no])
           rfl
         ·
          refine req_i ?_ ?_
          · -- r242
           first | omega | ((try simp only [sigNW, u32, smpI, List.cons.injEq, DV.b.injEq, and_true, List.length_cons, List.length_nil]); first | done | omega | assumption | grind [getD_set, getD_rep, toNat_succ, cntN_yes, cntN_no])
          rfl
        ·
         refine req_i ?_ ?_
         · -- r243
          first | omega | ((try simp only [sigNW, u32, smpI, List.cons.injEq, DV.b.injEq, and_true, List.length_cons, List.length_nil]); first | done | omega | assumption | grind [getD_set, getD_rep, toNat_succ, cntN_yes, cntN_no])
         rfl
       ·
        refine req_i ?_ ?_
        · -- r244
         first | omega | ((try simp only [sigNW, u32, smpI, List.cons.injEq, DV.b.injEq, and_true, List.length_cons, List.length_nil]); first | done | omega | assumption | grind [getD_set, getD_rep, toNat_succ, cntN_yes, cntN_no])
        rfl
      ·
       refine req_i ?_ ?_
       · -- r245
        first | omega | ((try simp only [sigNW, u32, smpI, List.cons.injEq, DV.b.injEq, and_true, List.length_cons, List.length_nil]); first | done | omega | assumption | grind [getD_set, getD_rep, toNat_succ, cntN_yes, cntN_no])
       rfl
     ·
      simp only [bR_iff, bR_iff_f, dec_iff, dec_f, Bool.false_eq_true, Bool.true_eq_false, false_implies, imp_false, and_true, true_and, implies_true, Classical.not_not] at h129
      refine req_i ?_ ?_
      · -- r246
       first | omega | ((try simp only [sigNW, u32, smpI, List.cons.injEq, DV.b.injEq, and_true, List.length_cons, List.length_nil]); first | done | omega | assumption | grind [getD_set, getD_rep, toNat_succ, cntN_yes, cntN_no])
      rfl
    ·
     refine req_i ?_ ?_
     · -- r247
      first | omega | ((try simp only [sigNW, u32, smpI, List.cons.injEq, DV.b.injEq, and_true, List.length_cons, List.length_nil]); first | done | omega | assumption | grind [getD_set, getD_rep, toNat_succ, cntN_yes, cntN_no])
     rfl
theorem ext_NcoWaves : ∀ p ∈ ([(11, Ext.ctr (ctOfG gl11 sigPhase)), (22, Ext.ctr (ctOfG gl11 sigPhase)), (23, Ext.ctr (ctOfG gl11 sigLater)), (24, Ext.ctr (ctOfG gl11 sigLater)), (12, Ext.ctr (ctOfG gl11 sigApart)), (25, Ext.ctr (ctOfG gl11 sigApart)), (13, Ext.ctr (ctOfG gl11 sigWave)), (20, Ext.ctr (ctOfG gl11 sigWave)), (14, Ext.ctr (ctOfG gl11 sigMix)), (21, Ext.ctr (ctOfG gl11 sigMix)), (15, Ext.ctr (ctOfG gl11 sigSamP)), (18, Ext.ctr (ctOfG gl11 sigTrue0))] : List (Nat × Ext)), ExtRow Tryd.prog p.1 p.2 := by
  intro p hp
  simp only [List.mem_cons, List.not_mem_nil, or_false] at hp
  rcases hp with rfl | rfl | rfl | rfl | rfl | rfl | rfl | rfl | rfl | rfl | rfl | rfl
  · trivial
  · trivial
  · trivial
  · trivial
  · trivial
  · trivial
  · trivial
  · trivial
  · trivial
  · trivial
  · trivial
  · trivial
theorem cts_NcoWaves : CtsOk Tryd.prog [(11, Ext.ctr (ctOfG gl11 sigPhase)), (22, Ext.ctr (ctOfG gl11 sigPhase)), (23, Ext.ctr (ctOfG gl11 sigLater)), (24, Ext.ctr (ctOfG gl11 sigLater)), (12, Ext.ctr (ctOfG gl11 sigApart)), (25, Ext.ctr (ctOfG gl11 sigApart)), (13, Ext.ctr (ctOfG gl11 sigWave)), (20, Ext.ctr (ctOfG gl11 sigWave)), (14, Ext.ctr (ctOfG gl11 sigMix)), (21, Ext.ctr (ctOfG gl11 sigMix)), (15, Ext.ctr (ctOfG gl11 sigSamP)), (18, Ext.ctr (ctOfG gl11 sigTrue0))] := ctsOk_ofG (cs := [(11, sigPhase), (22, sigPhase), (23, sigLater), (24, sigLater), (12, sigApart), (25, sigApart), (13, sigWave), (20, sigWave), (14, sigMix), (21, sigMix), (15, sigSamP), (18, sigTrue0)])
  (fun p hp => by
    simp only [List.mem_cons, List.not_mem_nil, or_false] at hp
    rcases hp with rfl | rfl | rfl | rfl | rfl | rfl | rfl | rfl | rfl | rfl | rfl | rfl
    · exact fn_phase
    · exact fn_phaseR
    · exact fn_later
    · exact fn_laterR
    · exact fn_apart
    · exact fn_apartR
    · exact fn_wave
    · exact fn_waveR
    · exact fn_mix
    · exact fn_mixR
    · exact fn_smps
    · exact fn_awake
)
  (fun f c h => by
    simp only [List.lookup_cons] at h
    repeat' split at h
    all_goals first | (cases h; done) | (rename_i e; have e := beq_iff_eq.1 e; subst e; cases h; refine ⟨_, ?_, rfl⟩; simp))
theorem fn_NcoWaves : FnOk Tryd.prog 4 sigNW gl11 := fn_sound (by kernel_rfl) ext_NcoWaves cts_NcoWaves names vt_NcoWaves
end Go.Proofs.YtblcahackjpnjaaDoor

