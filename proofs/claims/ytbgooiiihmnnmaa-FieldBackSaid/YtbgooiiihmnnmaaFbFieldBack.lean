import Derived.Test.YtbgooiiihmnnmaaSpec25e
import Derived.Test.YtbgooiiihmnnmaaRows
import Derived.Test.YtbgooiiihmnnmaaFaFieldBack
namespace Go.Proofs.Ytbgooiiihmnnmaa
open Go.Ev Go.Sp
set_option maxRecDepth 100000
theorem vc_FieldBack : vcFn Try.prog [(29, Ext.ctr (ctOf sigNth)), (28, Ext.ctr (ctOf sigBl)), (27, Ext.ctr (ctOf sigOf)), (10, Ext.ctr (ctOf sigLim)), (30, Ext.ctr (ctOf sigCo)), (12, Ext.ctr (ctOf sigPut)), (14, Ext.ctr (ctOf sigGet)), (18, Ext.ctr (ctOf sigAl)), (9, Ext.ctr (ctOf sigTrue0))] (fun f p _ => at2 f p 7 16378 bkL (none)) [] 100 7 sigBack = (allB fun l0 : List Int => 
impB (l0.length ≤ (9223372036854775807 : Nat)) (
impB (∀ (y : Int), y ∈ l0 → (-9223372036854775808 : Int) ≤ y ∧ y ≤ (9223372036854775807 : Int)) (
allB fun n1 : Int => 
impB ((-9223372036854775808 : Int) ≤ n1) (
impB (n1 ≤ (9223372036854775807 : Int)) (
impB (sigBack.pre [DV.l l0, DV.n n1]) (
reqB (((0 : Nat) + l0.length) * (1 : Nat) ≤ l0.length.mul (1 : Nat)) (
reqB (l0.length ≤ (9223372036854775807 : Nat)) (
reqB ((List.take l0.length (List.drop (0 : Nat) l0)).length = l0.length) (
reqB (∀ (y : Int),
 y ∈ List.take l0.length (List.drop (0 : Nat) l0) → (-9223372036854775808 : Int) ≤ y ∧ y ≤ (9223372036854775807 : Int)) (
reqB (sigNth.pre [DV.l (List.take l0.length (List.drop (0 : Nat) l0)), DV.n (4 : Int)]) (
allB fun n2 : Int => 
impB ((-9223372036854775808 : Int) ≤ n2) (
impB (n2 ≤ (9223372036854775807 : Int)) (
impB (sigNth.post [DV.l (List.take l0.length (List.drop (0 : Nat) l0)), DV.n (4 : Int)] [DV.n n2]) (
reqB ((-9223372036854775808 : Int) ≤ n2) (
reqB (n2 ≤ (9223372036854775807 : Int)) (
reqB (sigBl.pre [DV.n n2, DV.n (20 : Int)]) (
allB fun n3 : Int => 
impB ((0 : Int) ≤ n3) (
impB (n3 ≤ (4000000000000000000 : Int)) (
impB (sigBl.post [DV.n n2, DV.n (20 : Int)] [DV.n n3]) (
reqB (((0 : Nat) + l0.length) * (1 : Nat) ≤ l0.length.mul (1 : Nat)) (
reqB (l0.length ≤ (9223372036854775807 : Nat)) (
reqB ((List.take l0.length (List.drop (0 : Nat) l0)).length = l0.length) (
reqB (∀ (y : Int),
 y ∈ List.take l0.length (List.drop (0 : Nat) l0) → (-9223372036854775808 : Int) ≤ y ∧ y ≤ (9223372036854775807 : Int)) (
reqB ((0 : Int) ≤ n3) (
reqB (n3 ≤ (100 : Int)) (
reqB (sigOf.pre [DV.l (List.take l0.length (List.drop (0 : Nat) l0)), DV.n n3]) (
allB fun n4 : Int => 
impB ((0 : Int) ≤ n4) (
impB (n4 ≤ (100 : Int)) (
allB fun n5 : Int => 
impB ((1 : Int) ≤ n5) (
impB (n5 ≤ (40 : Int)) (
allB fun b6 : Bool => 
allB fun n7 : Int => 
impB ((1 : Int) ≤ n7) (
impB (n7 ≤ (1000000 : Int)) (
allB fun n8 : Int => 
impB ((-1000000 : Int) ≤ n8) (
impB (n8 ≤ (1000000 : Int)) (
impB (sigOf.post [DV.l (List.take l0.length (List.drop (0 : Nat) l0)), DV.n n3]
 [DV.n n4, DV.n n5, DV.b b6, DV.n n7, DV.n n8]) (
reqB ((-9223372036854775808 : Int) ≤ n4) (
reqB (n4 ≤ (9223372036854775807 : Int)) (
reqB ((-9223372036854775808 : Int) ≤ n5) (
reqB (n5 ≤ (9223372036854775807 : Int)) (
reqB ((-9223372036854775808 : Int) ≤ n7) (
reqB (n7 ≤ (9223372036854775807 : Int)) (
reqB ((-9223372036854775808 : Int) ≤ n8) (
reqB (n8 ≤ (9223372036854775807 : Int)) (
reqB (sigLim.pre [DV.n n4, DV.n n5, DV.b b6, DV.n n7, DV.n n8]) (
allB fun n9 : Int => 
impB ((-1200000000000000000 : Int) ≤ n9) (
impB (n9 ≤ (1200000000000000000 : Int)) (
allB fun n10 : Int => 
impB ((-1200000000000000000 : Int) ≤ n10) (
impB (n10 ≤ (1200000000000000000 : Int)) (
allB fun n11 : Int => 
impB ((0 : Int) ≤ n11) (
impB (n11 ≤ (18 : Int)) (
impB (sigLim.post [DV.n n4, DV.n n5, DV.b b6, DV.n n7, DV.n n8]
 [DV.n n9, DV.n n10, DV.n n11]) (
bR (dec (n11 ≠ (0 : Int))) (
 reqB (sigBack.post [DV.l l0, DV.n n1] [DV.b Bool.false]) (
 true)) (
 bR (dec (n10 ≤ n9)) (
 reqB (sigBack.post [DV.l l0, DV.n n1] [DV.b Bool.false]) (
 true)) (
 reqB ((-9223372036854775808 : Int) ≤ n1) (
 reqB (n1 ≤ (9223372036854775807 : Int)) (
 reqB (sigBl.pre [DV.n n1, DV.n (4000000000000000001 : Int)]) (
 allB fun n12 : Int => 
 impB ((0 : Int) ≤ n12) (
 impB (n12 ≤ (4000000000000000000 : Int)) (
 impB (sigBl.post [DV.n n1, DV.n (4000000000000000001 : Int)] [DV.n n12]) (
 bR (dec ((1200000000000000000 : Int) < n12 - (2000000000000000000 : Int))) (
 reqB ((-9223372036854775808 : Int) ≤ n12 - (2000000000000000000 : Int)) (
 reqB (n12 - (2000000000000000000 : Int) ≤ (9223372036854775807 : Int)) (
 reqB ((1 : Int) ≤ n10 - n9 + (1 : Int)) (
 reqB (n10 - n9 + (1 : Int) ≤ (4000000000000000001 : Int)) (
 reqB (sigBl.pre [DV.n (n12 - (2000000000000000000 : Int)), DV.n (n10 - n9 + (1 : Int))]) (
 allB fun n13 : Int => 
 impB ((0 : Int) ≤ n13) (
 impB (n13 ≤ (4000000000000000000 : Int)) (
 impB (sigBl.post [DV.n (n12 - (2000000000000000000 : Int)), DV.n (n10 - n9 + (1 : Int))] [DV.n n13]) (
 reqB (((0 : Nat) + l0.length) * (1 : Nat) ≤ l0.length.mul (1 : Nat)) (
 reqB (l0.length ≤ (9223372036854775807 : Nat)) (
 reqB ((List.take l0.length (List.drop (0 : Nat) l0)).length = l0.length) (
 reqB (∀ (y : Int),
 y ∈ List.take l0.length (List.drop (0 : Nat) l0) → (-9223372036854775808 : Int) ≤ y ∧ y ≤ (9223372036854775807 : Int)) (
 reqB ((1 : Int) ≤ n4 + n5 + (3 : Int)) (
 reqB (n4 + n5 + (3 : Int) ≤ (200 : Int)) (
 reqB (sigCo.pre [DV.l (List.take l0.length (List.drop (0 : Nat) l0)), DV.n (n4 + n5 + (3 : Int))]) (
 allB fun l14 : List Int => 
 impB (l14.length ≤ (200 : Nat)) (
 impB (∀ (y : Int), y ∈ l14 → (0 : Int) ≤ y ∧ y ≤ (1 : Int)) (
 impB (sigCo.post [DV.l (List.take l0.length (List.drop (0 : Nat) l0)), DV.n (n4 + n5 + (3 : Int))]
 [DV.l l14]) (
 reqB (((0 : Nat) + l14.length) * (1 : Nat) ≤ l14.length.mul (1 : Nat)) (
 reqB (l14.length ≤ (200 : Nat)) (
 reqB ((List.take l14.length (List.drop (0 : Nat) l14)).length = l14.length) (
 reqB (∀ (y : Int),
 y ∈ List.take l14.length (List.drop (0 : Nat) l14) →
 (-9223372036854775808 : Int) ≤ y ∧ y ≤ (9223372036854775807 : Int)) (
 reqB ((-9223372036854775808 : Int) ≤ n4) (
 reqB (n4 ≤ (9223372036854775807 : Int)) (
 reqB ((-9223372036854775808 : Int) ≤ n5) (
 reqB (n5 ≤ (9223372036854775807 : Int)) (
 reqB ((-9223372036854775808 : Int) ≤ n7) (
 reqB (n7 ≤ (9223372036854775807 : Int)) (
 reqB ((-9223372036854775808 : Int) ≤ n8) (
 reqB (n8 ≤ (9223372036854775807 : Int)) (
 reqB ((-9223372036854775808 : Int) ≤ n9 + n13) (
 reqB (n9 + n13 ≤ (9223372036854775807 : Int)) (
 reqB (sigPut.pre
 [DV.l (List.take l14.length (List.drop (0 : Nat) l14)), DV.n n4, DV.n n5, DV.b b6,
 DV.n n7, DV.n n8, DV.n (n9 + n13)]) (
 allB fun l15 : List Int => 
 impB (l15.length ≤ (200 : Nat)) (
 impB (∀ (y : Int), y ∈ l15 → (-9223372036854775808 : Int) ≤ y ∧ y ≤ (9223372036854775807 : Int)) (
 allB fun n16 : Int => 
 impB ((0 : Int) ≤ n16) (
 impB (n16 ≤ (18 : Int)) (
 impB (sigPut.post
 [DV.l (List.take l14.length (List.drop (0 : Nat) l14)), DV.n n4, DV.n n5, DV.b b6,
 DV.n n7, DV.n n8, DV.n (n9 + n13)]
 [DV.l l15, DV.n n16]) (
 bR (dec (n16 ≠ (0 : Int))) (
 bR (dec (n16 = (5 : Int))) (
 bR (dec ((↑l15.length : Int) = (0 : Int))) (
 bR (dec (n9 + n13 < n9)) (
 reqB (sigTrue0.pre []) (
 allB fun b17 : Bool => 
 impB (sigTrue0.post [] [DV.b b17]) (
 reqB (sigBack.post [DV.l l0, DV.n n1] [DV.b b17]) (
 true)))) (
 bR (dec (n10 < n9 + n13)) (
 reqB (sigTrue0.pre []) (
 allB fun b18 : Bool => 
 impB (sigTrue0.post [] [DV.b b18]) (
 reqB (sigBack.post [DV.l l0, DV.n n1] [DV.b b18]) (
 true)))) (
 reqB (sigBack.post [DV.l l0, DV.n n1] [DV.b Bool.false]) (
 true)))) (
 reqB (sigBack.post [DV.l l0, DV.n n1] [DV.b Bool.false]) (
 true))) (
 reqB (sigBack.post [DV.l l0, DV.n n1] [DV.b Bool.false]) (
 true))) (
 bR (dec ((↑l15.length : Int) ≠ (↑l14.length : Int))) (
 reqB (sigBack.post [DV.l l0, DV.n n1] [DV.b Bool.false]) (
 true)) (
 allB fun n19 : Int => 
 impB (n19 = Go.IntKind.i64.wrap ((2 : Int) * (n9 - (n9 + n13)))) (
 impB (Int.negSucc (9223372036854775807 : Nat) ≤ n19) (
 impB (n19 ≤ Int.ofNat (9223372036854775807 : Nat)) (
 bR (dec (n7 < n19)) (
 reqB (sigBack.post [DV.l l0, DV.n n1] [DV.b Bool.false]) (
 true)) (
 allB fun n20 : Int => 
 impB (n20 = Go.IntKind.i64.wrap ((2 : Int) * (n9 + n13 - n10))) (
 impB (Int.negSucc (9223372036854775807 : Nat) ≤ n20) (
 impB (n20 ≤ Int.ofNat (9223372036854775807 : Nat)) (
 bR (dec (n7 < n20)) (
 reqB (sigBack.post [DV.l l0, DV.n n1] [DV.b Bool.false]) (
 true)) (
 reqB (((0 : Nat) + l14.length) * (1 : Nat) ≤ l14.length.mul (1 : Nat)) (
 reqB (l14.length ≤ (200 : Nat)) (
 reqB ((List.take l14.length (List.drop (0 : Nat) l14)).length = l14.length) (
 reqB (∀ (y : Int), y ∈ List.take l14.length (List.drop (0 : Nat) l14) → (0 : Int) ≤ y ∧ y ≤ (1 : Int)) (
 reqB (bkL.inv [DV.l (List.take l14.length (List.drop (0 : Nat) l14))] [DV.n (0 : Int)]) (
 allB fun n21 : Int => 
 impB ((0 : Int) ≤ n21) (
 impB (n21 ≤ (200 : Int)) (
 impB (bkL.inv [DV.l (List.take l14.length (List.drop (0 : Nat) l14))] [DV.n n21]) (
 bR (dec (n21 < (↑l14.length : Int))) (
 bR (dec (n21 < n4)) (
 reqB (n21.toNat < l15.length) (
 reqB (Nat.add (0 : Nat) n21.toNat < l15.length) (
 reqB (n21.toNat < l14.length) (
 reqB (Nat.add (0 : Nat) n21.toNat < l14.length) (
 bR (dec (l15.getD (Nat.add (0 : Nat) n21.toNat) (0 : Int) ≠ l14.getD (Nat.add (0 : Nat) n21.toNat) (0 : Int))) (
 reqB (sigBack.post [DV.l l0, DV.n n1] [DV.b Bool.false]) (
 true)) (
 bR (bR (bR (dec ((0 : Nat) = (0 : Nat))) (
 dec (l0.length = l0.length)) (
 false)) (
 bR (dec (n9 + n13 = n9 + n13)) (
 bR (dec (n9 = n9)) (
 bR (dec (n10 = n10)) (
 bR (dec (n11 = n11)) (
 bR (bR (dec ((0 : Nat) = (0 : Nat))) (
 dec (l14.length = l14.length)) (
 false)) (
 bR (bR (dec ((0 : Nat) = (0 : Nat))) (
 dec (l15.length = l15.length)) (
 false)) (
 bR (dec (n16 = n16)) (
 true) (
 false)) (
 false)) (
 false)) (
 false)) (
 false)) (
 false)) (
 false)) (
 false)) (
 bR (bR (bR (dec (n4 = n4)) (
 bR (dec (n5 = n5)) (
 bR (bR (b6) (
 b6) (
 bR (b6) (
 false) (
 true))) (
 bR (dec (n7 = n7)) (
 bR (dec (n8 = n8)) (
 true) (
 false)) (
 false)) (
 false)) (
 false)) (
 false)) (
 bR (bR (dec (l14.length.mul (1 : Nat) = l14.length.mul (1 : Nat))) (
 dec ([Col.i Go.IntKind.i64 (0 : Int) (1 : Int) l14] = [Col.i Go.IntKind.i64 (0 : Int) (1 : Int) l14])) (
 false)) (
 bR (bR (dec (l15.length.mul (1 : Nat) = l15.length.mul (1 : Nat))) (
 dec ([Col.i Go.IntKind.i64 (-9223372036854775808 : Int) (9223372036854775807 : Int) l15] =
 [Col.i Go.IntKind.i64 (-9223372036854775808 : Int) (9223372036854775807 : Int) l15])) (
 false)) (
 true) (
 false)) (
 false)) (
 false)) (
 reqB ((0 : Int) ≤ n21 + (1 : Int)) (
 reqB (n21 + (1 : Int) ≤ (200 : Int)) (
 reqB (bkL.inv [DV.l (List.take l14.length (List.drop (0 : Nat) l14))] [DV.n (n21 + (1 : Int))]) (
 reqB (bkL.mea [DV.l (List.take l14.length (List.drop (0 : Nat) l14))] [DV.n (n21 + (1 : Int))] <
 bkL.mea [DV.l (List.take l14.length (List.drop (0 : Nat) l14))] [DV.n n21]) (
 true))))) (
 false)) (
 false))))))) (
 bR (dec (n4 + n5 ≤ n21)) (
 reqB (n21.toNat < l15.length) (
 reqB (Nat.add (0 : Nat) n21.toNat < l15.length) (
 reqB (n21.toNat < l14.length) (
 reqB (Nat.add (0 : Nat) n21.toNat < l14.length) (
 bR (dec (l15.getD (Nat.add (0 : Nat) n21.toNat) (0 : Int) ≠ l14.getD (Nat.add (0 : Nat) n21.toNat) (0 : Int))) (
 reqB (sigBack.post [DV.l l0, DV.n n1] [DV.b Bool.false]) (
 true)) (
 bR (bR (bR (dec ((0 : Nat) = (0 : Nat))) (
 dec (l0.length = l0.length)) (
 false)) (
 bR (dec (n9 + n13 = n9 + n13)) (
 bR (dec (n9 = n9)) (
 bR (dec (n10 = n10)) (
 bR (dec (n11 = n11)) (
 bR (bR (dec ((0 : Nat) = (0 : Nat))) (
 dec (l14.length = l14.length)) (
 false)) (
 bR (bR (dec ((0 : Nat) = (0 : Nat))) (
 dec (l15.length = l15.length)) (
 false)) (
 bR (dec (n16 = n16)) (
 true) (
 false)) (
 false)) (
 false)) (
 false)) (
 false)) (
 false)) (
 false)) (
 false)) (
 bR (bR (bR (dec (n4 = n4)) (
 bR (dec (n5 = n5)) (
 bR (bR (b6) (
 b6) (
 bR (b6) (
 false) (
 true))) (
 bR (dec (n7 = n7)) (
 bR (dec (n8 = n8)) (
 true) (
 false)) (
 false)) (
 false)) (
 false)) (
 false)) (
 bR (bR (dec (l14.length.mul (1 : Nat) = l14.length.mul (1 : Nat))) (
 dec ([Col.i Go.IntKind.i64 (0 : Int) (1 : Int) l14] = [Col.i Go.IntKind.i64 (0 : Int) (1 : Int) l14])) (
 false)) (
 bR (bR (dec (l15.length.mul (1 : Nat) = l15.length.mul (1 : Nat))) (
 dec ([Col.i Go.IntKind.i64 (-9223372036854775808 : Int) (9223372036854775807 : Int) l15] =
 [Col.i Go.IntKind.i64 (-9223372036854775808 : Int) (9223372036854775807 : Int) l15])) (
 false)) (
 true) (
 false)) (
 false)) (
 false)) (
 reqB ((0 : Int) ≤ n21 + (1 : Int)) (
 reqB (n21 + (1 : Int) ≤ (200 : Int)) (
 reqB (bkL.inv [DV.l (List.take l14.length (List.drop (0 : Nat) l14))] [DV.n (n21 + (1 : Int))]) (
 reqB (bkL.mea [DV.l (List.take l14.length (List.drop (0 : Nat) l14))] [DV.n (n21 + (1 : Int))] <
 bkL.mea [DV.l (List.take l14.length (List.drop (0 : Nat) l14))] [DV.n n21]) (
 true))))) (
 false)) (
 false))))))) (
 bR (bR (bR (dec ((0 : Nat) = (0 : Nat))) (
 dec (l0.length = l0.length)) (
 false)) (
 bR (dec (n9 + n13 = n9 + n13)) (
 bR (dec (n9 = n9)) (
 bR (dec (n10 = n10)) (
 bR (dec (n11 = n11)) (
 bR (bR (dec ((0 : Nat) = (0 : Nat))) (
 dec (l14.length = l14.length)) (
 false)) (
 bR (bR (dec ((0 : Nat) = (0 : Nat))) (
 dec (l15.length = l15.length)) (
 false)) (
 bR (dec (n16 = n16)) (
 true) (
 false)) (
 false)) (
 false)) (
 false)) (
 false)) (
 false)) (
 false)) (
 false)) (
 bR (bR (bR (dec (n4 = n4)) (
 bR (dec (n5 = n5)) (
 bR (bR (b6) (
 b6) (
 bR (b6) (
 false) (
 true))) (
 bR (dec (n7 = n7)) (
 bR (dec (n8 = n8)) (
 true) (
 false)) (
 false)) (
 false)) (
 false)) (
 false)) (
 bR (bR (dec (l14.length.mul (1 : Nat) = l14.length.mul (1 : Nat))) (
 dec ([Col.i Go.IntKind.i64 (0 : Int) (1 : Int) l14] = [Col.i Go.IntKind.i64 (0 : Int) (1 : Int) l14])) (
 false)) (
 bR (bR (dec (l15.length.mul (1 : Nat) = l15.length.mul (1 : Nat))) (
 dec ([Col.i Go.IntKind.i64 (-9223372036854775808 : Int) (9223372036854775807 : Int) l15] =
 [Col.i Go.IntKind.i64 (-9223372036854775808 : Int) (9223372036854775807 : Int) l15])) (
 false)) (
 true) (
 false)) (
 false)) (
 false)) (
 reqB ((0 : Int) ≤ n21 + (1 : Int)) (
 reqB (n21 + (1 : Int) ≤ (200 : Int)) (
 reqB (bkL.inv [DV.l (List.take l14.length (List.drop (0 : Nat) l14))] [DV.n (n21 + (1 : Int))]) (
 reqB (bkL.mea [DV.l (List.take l14.length (List.drop (0 : Nat) l14))] [DV.n (n21 + (1 : Int))] <
 bkL.mea [DV.l (List.take l14.length (List.drop (0 : Nat) l14))] [DV.n n21]) (
 true))))) (
 false)) (
 false)))) (
 reqB (((0 : Nat) + l15.length) * (1 : Nat) ≤ l15.length.mul (1 : Nat)) (
 reqB (l15.length ≤ (200 : Nat)) (
 reqB ((List.take l15.length (List.drop (0 : Nat) l15)).length = l15.length) (
 reqB (∀ (y : Int),
 y ∈ List.take l15.length (List.drop (0 : Nat) l15) →
 (-9223372036854775808 : Int) ≤ y ∧ y ≤ (9223372036854775807 : Int)) (
 reqB ((-9223372036854775808 : Int) ≤ n4) (
 reqB (n4 ≤ (9223372036854775807 : Int)) (
 reqB ((-9223372036854775808 : Int) ≤ n5) (
 reqB (n5 ≤ (9223372036854775807 : Int)) (
 reqB ((-9223372036854775808 : Int) ≤ n7) (
 reqB (n7 ≤ (9223372036854775807 : Int)) (
 reqB ((-9223372036854775808 : Int) ≤ n8) (
 reqB (n8 ≤ (9223372036854775807 : Int)) (
 reqB (sigGet.pre
 [DV.l (List.take l15.length (List.drop (0 : Nat) l15)), DV.n n4, DV.n n5, DV.b b6,
 DV.n n7, DV.n n8]) (
 allB fun n22 : Int => 
 impB ((-1200000000000000000 : Int) ≤ n22) (
 impB (n22 ≤ (1200000000000000000 : Int)) (
 allB fun n23 : Int => 
 impB ((0 : Int) ≤ n23) (
 impB (n23 ≤ (18 : Int)) (
 impB (sigGet.post
 [DV.l (List.take l15.length (List.drop (0 : Nat) l15)), DV.n n4, DV.n n5, DV.b b6,
 DV.n n7, DV.n n8]
 [DV.n n22, DV.n n23]) (
 reqB (((0 : Nat) + l15.length) * (1 : Nat) ≤ l15.length.mul (1 : Nat)) (
 reqB (l15.length ≤ (200 : Nat)) (
 reqB ((List.take l15.length (List.drop (0 : Nat) l15)).length = l15.length) (
 reqB (∀ (y : Int),
 y ∈ List.take l15.length (List.drop (0 : Nat) l15) →
 (-9223372036854775808 : Int) ≤ y ∧ y ≤ (9223372036854775807 : Int)) (
 reqB ((-9223372036854775808 : Int) ≤ n4) (
 reqB (n4 ≤ (9223372036854775807 : Int)) (
 reqB ((-9223372036854775808 : Int) ≤ n5) (
 reqB (n5 ≤ (9223372036854775807 : Int)) (
 reqB ((-9223372036854775808 : Int) ≤ n7) (
 reqB (n7 ≤ (9223372036854775807 : Int)) (
 reqB ((-9223372036854775808 : Int) ≤ n8) (
 reqB (n8 ≤ (9223372036854775807 : Int)) (
 reqB ((-9223372036854775808 : Int) ≤ n22) (
 reqB (n22 ≤ (9223372036854775807 : Int)) (
 reqB (sigPut.pre
 [DV.l (List.take l15.length (List.drop (0 : Nat) l15)), DV.n n4, DV.n n5, DV.b b6,
 DV.n n7, DV.n n8, DV.n n22]) (
 allB fun l24 : List Int => 
 impB (l24.length ≤ (200 : Nat)) (
 impB (∀ (y : Int), y ∈ l24 → (-9223372036854775808 : Int) ≤ y ∧ y ≤ (9223372036854775807 : Int)) (
 allB fun n25 : Int => 
 impB ((0 : Int) ≤ n25) (
 impB (n25 ≤ (18 : Int)) (
 impB (sigPut.post
 [DV.l (List.take l15.length (List.drop (0 : Nat) l15)), DV.n n4, DV.n n5, DV.b b6,
 DV.n n7, DV.n n8, DV.n n22]
 [DV.l l24, DV.n n25]) (
 bR (dec (n23 = (0 : Int))) (
 bR (dec (n25 = (0 : Int))) (
 allB fun n26 : Int => 
 impB (n26 = Go.IntKind.i64.wrap ((2 : Int) * (n22 - (n9 + n13)))) (
 impB (Int.negSucc (9223372036854775807 : Nat) ≤ n26) (
 impB (n26 ≤ Int.ofNat (9223372036854775807 : Nat)) (
 bR (dec (n26 ≤ n7)) (
 allB fun n27 : Int => 
 impB (n27 = Go.IntKind.i64.wrap ((2 : Int) * (n9 + n13 - n22))) (
 impB (Int.negSucc (9223372036854775807 : Nat) ≤ n27) (
 impB (n27 ≤ Int.ofNat (9223372036854775807 : Nat)) (
 bR (dec (n27 ≤ n7)) (
 bR (dec (n9 ≤ n22)) (
 bR (dec (n22 ≤ n10)) (
 reqB (((0 : Nat) + l24.length) * (1 : Nat) ≤ l24.length.mul (1 : Nat)) (
 reqB (l24.length ≤ (200 : Nat)) (
 reqB ((List.take l24.length (List.drop (0 : Nat) l24)).length = l24.length) (
 reqB (∀ (y : Int),
 y ∈ List.take l24.length (List.drop (0 : Nat) l24) →
 (-9223372036854775808 : Int) ≤ y ∧ y ≤ (9223372036854775807 : Int)) (
 reqB (((0 : Nat) + l15.length) * (1 : Nat) ≤ l15.length.mul (1 : Nat)) (
 reqB (l15.length ≤ (200 : Nat)) (
 reqB ((List.take l15.length (List.drop (0 : Nat) l15)).length = l15.length) (
 reqB (∀ (y : Int),
 y ∈ List.take l15.length (List.drop (0 : Nat) l15) →
 (-9223372036854775808 : Int) ≤ y ∧ y ≤ (9223372036854775807 : Int)) (
 reqB (sigAl.pre
 [DV.l (List.take l24.length (List.drop (0 : Nat) l24)),
 DV.l (List.take l15.length (List.drop (0 : Nat) l15))]) (
 allB fun b28 : Bool => 
 impB (sigAl.post
 [DV.l (List.take l24.length (List.drop (0 : Nat) l24)),
 DV.l (List.take l15.length (List.drop (0 : Nat) l15))]
 [DV.b b28]) (
 bR (b28) (
 reqB (sigTrue0.pre []) (
 allB fun b29 : Bool => 
 impB (sigTrue0.post [] [DV.b b29]) (
 reqB (sigBack.post [DV.l l0, DV.n n1] [DV.b b29]) (
 true)))) (
 reqB (sigBack.post [DV.l l0, DV.n n1] [DV.b Bool.false]) (
 true))))))))))))) (
 reqB (sigBack.post [DV.l l0, DV.n n1] [DV.b Bool.false]) (
 true))) (
 reqB (sigBack.post [DV.l l0, DV.n n1] [DV.b Bool.false]) (
 true))) (
 reqB (sigBack.post [DV.l l0, DV.n n1] [DV.b Bool.false]) (
 true)))))) (
 reqB (sigBack.post [DV.l l0, DV.n n1] [DV.b Bool.false]) (
 true)))))) (
 reqB (sigBack.post [DV.l l0, DV.n n1] [DV.b Bool.false]) (
 true))) (
 reqB (sigBack.post [DV.l l0, DV.n n1] [DV.b Bool.false]) (
 true)))))))))))))))))))))))))))))))))))))))))))))))))))))))))))))))))))))))))))))))))))))))))))))))))) (
 bR (dec (n12 - (2000000000000000000 : Int) < (-1200000000000000000 : Int))) (
 reqB ((-9223372036854775808 : Int) ≤ n12 - (2000000000000000000 : Int)) (
 reqB (n12 - (2000000000000000000 : Int) ≤ (9223372036854775807 : Int)) (
 reqB ((1 : Int) ≤ n10 - n9 + (1 : Int)) (
 reqB (n10 - n9 + (1 : Int) ≤ (4000000000000000001 : Int)) (
 reqB (sigBl.pre [DV.n (n12 - (2000000000000000000 : Int)), DV.n (n10 - n9 + (1 : Int))]) (
 allB fun n30 : Int => 
 impB ((0 : Int) ≤ n30) (
 impB (n30 ≤ (4000000000000000000 : Int)) (
 impB (sigBl.post [DV.n (n12 - (2000000000000000000 : Int)), DV.n (n10 - n9 + (1 : Int))] [DV.n n30]) (
 reqB (((0 : Nat) + l0.length) * (1 : Nat) ≤ l0.length.mul (1 : Nat)) (
 reqB (l0.length ≤ (9223372036854775807 : Nat)) (
 reqB ((List.take l0.length (List.drop (0 : Nat) l0)).length = l0.length) (
 reqB (∀ (y : Int),
 y ∈ List.take l0.length (List.drop (0 : Nat) l0) → (-9223372036854775808 : Int) ≤ y ∧ y ≤ (9223372036854775807 : Int)) (
 reqB ((1 : Int) ≤ n4 + n5 + (3 : Int)) (
 reqB (n4 + n5 + (3 : Int) ≤ (200 : Int)) (
 reqB (sigCo.pre [DV.l (List.take l0.length (List.drop (0 : Nat) l0)), DV.n (n4 + n5 + (3 : Int))]) (
 allB fun l31 : List Int => 
 impB (l31.length ≤ (200 : Nat)) (
 impB (∀ (y : Int), y ∈ l31 → (0 : Int) ≤ y ∧ y ≤ (1 : Int)) (
 impB (sigCo.post [DV.l (List.take l0.length (List.drop (0 : Nat) l0)), DV.n (n4 + n5 + (3 : Int))]
 [DV.l l31]) (
 reqB (((0 : Nat) + l31.length) * (1 : Nat) ≤ l31.length.mul (1 : Nat)) (
 reqB (l31.length ≤ (200 : Nat)) (
 reqB ((List.take l31.length (List.drop (0 : Nat) l31)).length = l31.length) (
 reqB (∀ (y : Int),
 y ∈ List.take l31.length (List.drop (0 : Nat) l31) →
 (-9223372036854775808 : Int) ≤ y ∧ y ≤ (9223372036854775807 : Int)) (
 reqB ((-9223372036854775808 : Int) ≤ n4) (
 reqB (n4 ≤ (9223372036854775807 : Int)) (
 reqB ((-9223372036854775808 : Int) ≤ n5) (
 reqB (n5 ≤ (9223372036854775807 : Int)) (
 reqB ((-9223372036854775808 : Int) ≤ n7) (
 reqB (n7 ≤ (9223372036854775807 : Int)) (
 reqB ((-9223372036854775808 : Int) ≤ n8) (
 reqB (n8 ≤ (9223372036854775807 : Int)) (
 reqB ((-9223372036854775808 : Int) ≤ n9 + n30) (
 reqB (n9 + n30 ≤ (9223372036854775807 : Int)) (
 reqB (sigPut.pre
 [DV.l (List.take l31.length (List.drop (0 : Nat) l31)), DV.n n4, DV.n n5, DV.b b6,
 DV.n n7, DV.n n8, DV.n (n9 + n30)]) (
 allB fun l32 : List Int => 
 impB (l32.length ≤ (200 : Nat)) (
 impB (∀ (y : Int), y ∈ l32 → (-9223372036854775808 : Int) ≤ y ∧ y ≤ (9223372036854775807 : Int)) (
 allB fun n33 : Int => 
 impB ((0 : Int) ≤ n33) (
 impB (n33 ≤ (18 : Int)) (
 impB (sigPut.post
 [DV.l (List.take l31.length (List.drop (0 : Nat) l31)), DV.n n4, DV.n n5, DV.b b6,
 DV.n n7, DV.n n8, DV.n (n9 + n30)]
 [DV.l l32, DV.n n33]) (
 bR (dec (n33 ≠ (0 : Int))) (
 bR (dec (n33 = (5 : Int))) (
 bR (dec ((↑l32.length : Int) = (0 : Int))) (
 bR (dec (n9 + n30 < n9)) (
 reqB (sigTrue0.pre []) (
 allB fun b34 : Bool => 
 impB (sigTrue0.post [] [DV.b b34]) (
 reqB (sigBack.post [DV.l l0, DV.n n1] [DV.b b34]) (
 true)))) (
 bR (dec (n10 < n9 + n30)) (
 reqB (sigTrue0.pre []) (
 allB fun b35 : Bool => 
 impB (sigTrue0.post [] [DV.b b35]) (
 reqB (sigBack.post [DV.l l0, DV.n n1] [DV.b b35]) (
 true)))) (
 reqB (sigBack.post [DV.l l0, DV.n n1] [DV.b Bool.false]) (
 true)))) (
 reqB (sigBack.post [DV.l l0, DV.n n1] [DV.b Bool.false]) (
 true))) (
 reqB (sigBack.post [DV.l l0, DV.n n1] [DV.b Bool.false]) (
 true))) (
 bR (dec ((↑l32.length : Int) ≠ (↑l31.length : Int))) (
 reqB (sigBack.post [DV.l l0, DV.n n1] [DV.b Bool.false]) (
 true)) (
 allB fun n36 : Int => 
 impB (n36 = Go.IntKind.i64.wrap ((2 : Int) * (n9 - (n9 + n30)))) (
 impB (Int.negSucc (9223372036854775807 : Nat) ≤ n36) (
 impB (n36 ≤ Int.ofNat (9223372036854775807 : Nat)) (
 bR (dec (n7 < n36)) (
 reqB (sigBack.post [DV.l l0, DV.n n1] [DV.b Bool.false]) (
 true)) (
 allB fun n37 : Int => 
 impB (n37 = Go.IntKind.i64.wrap ((2 : Int) * (n9 + n30 - n10))) (
 impB (Int.negSucc (9223372036854775807 : Nat) ≤ n37) (
 impB (n37 ≤ Int.ofNat (9223372036854775807 : Nat)) (
 bR (dec (n7 < n37)) (
 reqB (sigBack.post [DV.l l0, DV.n n1] [DV.b Bool.false]) (
 true)) (
 reqB (((0 : Nat) + l31.length) * (1 : Nat) ≤ l31.length.mul (1 : Nat)) (
 reqB (l31.length ≤ (200 : Nat)) (
 reqB ((List.take l31.length (List.drop (0 : Nat) l31)).length = l31.length) (
 reqB (∀ (y : Int), y ∈ List.take l31.length (List.drop (0 : Nat) l31) → (0 : Int) ≤ y ∧ y ≤ (1 : Int)) (
 reqB (bkL.inv [DV.l (List.take l31.length (List.drop (0 : Nat) l31))] [DV.n (0 : Int)]) (
 allB fun n38 : Int => 
 impB ((0 : Int) ≤ n38) (
 impB (n38 ≤ (200 : Int)) (
 impB (bkL.inv [DV.l (List.take l31.length (List.drop (0 : Nat) l31))] [DV.n n38]) (
 bR (dec (n38 < (↑l31.length : Int))) (
 bR (dec (n38 < n4)) (
 reqB (n38.toNat < l32.length) (
 reqB (Nat.add (0 : Nat) n38.toNat < l32.length) (
 reqB (n38.toNat < l31.length) (
 reqB (Nat.add (0 : Nat) n38.toNat < l31.length) (
 bR (dec (l32.getD (Nat.add (0 : Nat) n38.toNat) (0 : Int) ≠ l31.getD (Nat.add (0 : Nat) n38.toNat) (0 : Int))) (
 reqB (sigBack.post [DV.l l0, DV.n n1] [DV.b Bool.false]) (
 true)) (
 bR (bR (bR (dec ((0 : Nat) = (0 : Nat))) (
 dec (l0.length = l0.length)) (
 false)) (
 bR (dec (n9 + n30 = n9 + n30)) (
 bR (dec (n9 = n9)) (
 bR (dec (n10 = n10)) (
 bR (dec (n11 = n11)) (
 bR (bR (dec ((0 : Nat) = (0 : Nat))) (
 dec (l31.length = l31.length)) (
 false)) (
 bR (bR (dec ((0 : Nat) = (0 : Nat))) (
 dec (l32.length = l32.length)) (
 false)) (
 bR (dec (n33 = n33)) (
 true) (
 false)) (
 false)) (
 false)) (
 false)) (
 false)) (
 false)) (
 false)) (
 false)) (
 bR (bR (bR (dec (n4 = n4)) (
 bR (dec (n5 = n5)) (
 bR (bR (b6) (
 b6) (
 bR (b6) (
 false) (
 true))) (
 bR (dec (n7 = n7)) (
 bR (dec (n8 = n8)) (
 true) (
 false)) (
 false)) (
 false)) (
 false)) (
 false)) (
 bR (bR (dec (l31.length.mul (1 : Nat) = l31.length.mul (1 : Nat))) (
 dec ([Col.i Go.IntKind.i64 (0 : Int) (1 : Int) l31] = [Col.i Go.IntKind.i64 (0 : Int) (1 : Int) l31])) (
 false)) (
 bR (bR (dec (l32.length.mul (1 : Nat) = l32.length.mul (1 : Nat))) (
 dec ([Col.i Go.IntKind.i64 (-9223372036854775808 : Int) (9223372036854775807 : Int) l32] =
 [Col.i Go.IntKind.i64 (-9223372036854775808 : Int) (9223372036854775807 : Int) l32])) (
 false)) (
 true) (
 false)) (
 false)) (
 false)) (
 reqB ((0 : Int) ≤ n38 + (1 : Int)) (
 reqB (n38 + (1 : Int) ≤ (200 : Int)) (
 reqB (bkL.inv [DV.l (List.take l31.length (List.drop (0 : Nat) l31))] [DV.n (n38 + (1 : Int))]) (
 reqB (bkL.mea [DV.l (List.take l31.length (List.drop (0 : Nat) l31))] [DV.n (n38 + (1 : Int))] <
 bkL.mea [DV.l (List.take l31.length (List.drop (0 : Nat) l31))] [DV.n n38]) (
 true))))) (
 false)) (
 false))))))) (
 bR (dec (n4 + n5 ≤ n38)) (
 reqB (n38.toNat < l32.length) (
 reqB (Nat.add (0 : Nat) n38.toNat < l32.length) (
 reqB (n38.toNat < l31.length) (
 reqB (Nat.add (0 : Nat) n38.toNat < l31.length) (
 bR (dec (l32.getD (Nat.add (0 : Nat) n38.toNat) (0 : Int) ≠ l31.getD (Nat.add (0 : Nat) n38.toNat) (0 : Int))) (
 reqB (sigBack.post [DV.l l0, DV.n n1] [DV.b Bool.false]) (
 true)) (
 bR (bR (bR (dec ((0 : Nat) = (0 : Nat))) (
 dec (l0.length = l0.length)) (
 false)) (
 bR (dec (n9 + n30 = n9 + n30)) (
 bR (dec (n9 = n9)) (
 bR (dec (n10 = n10)) (
 bR (dec (n11 = n11)) (
 bR (bR (dec ((0 : Nat) = (0 : Nat))) (
 dec (l31.length = l31.length)) (
 false)) (
 bR (bR (dec ((0 : Nat) = (0 : Nat))) (
 dec (l32.length = l32.length)) (
 false)) (
 bR (dec (n33 = n33)) (
 true) (
 false)) (
 false)) (
 false)) (
 false)) (
 false)) (
 false)) (
 false)) (
 false)) (
 bR (bR (bR (dec (n4 = n4)) (
 bR (dec (n5 = n5)) (
 bR (bR (b6) (
 b6) (
 bR (b6) (
 false) (
 true))) (
 bR (dec (n7 = n7)) (
 bR (dec (n8 = n8)) (
 true) (
 false)) (
 false)) (
 false)) (
 false)) (
 false)) (
 bR (bR (dec (l31.length.mul (1 : Nat) = l31.length.mul (1 : Nat))) (
 dec ([Col.i Go.IntKind.i64 (0 : Int) (1 : Int) l31] = [Col.i Go.IntKind.i64 (0 : Int) (1 : Int) l31])) (
 false)) (
 bR (bR (dec (l32.length.mul (1 : Nat) = l32.length.mul (1 : Nat))) (
 dec ([Col.i Go.IntKind.i64 (-9223372036854775808 : Int) (9223372036854775807 : Int) l32] =
 [Col.i Go.IntKind.i64 (-9223372036854775808 : Int) (9223372036854775807 : Int) l32])) (
 false)) (
 true) (
 false)) (
 false)) (
 false)) (
 reqB ((0 : Int) ≤ n38 + (1 : Int)) (
 reqB (n38 + (1 : Int) ≤ (200 : Int)) (
 reqB (bkL.inv [DV.l (List.take l31.length (List.drop (0 : Nat) l31))] [DV.n (n38 + (1 : Int))]) (
 reqB (bkL.mea [DV.l (List.take l31.length (List.drop (0 : Nat) l31))] [DV.n (n38 + (1 : Int))] <
 bkL.mea [DV.l (List.take l31.length (List.drop (0 : Nat) l31))] [DV.n n38]) (
 true))))) (
 false)) (
 false))))))) (
 bR (bR (bR (dec ((0 : Nat) = (0 : Nat))) (
 dec (l0.length = l0.length)) (
 false)) (
 bR (dec (n9 + n30 = n9 + n30)) (
 bR (dec (n9 = n9)) (
 bR (dec (n10 = n10)) (
 bR (dec (n11 = n11)) (
 bR (bR (dec ((0 : Nat) = (0 : Nat))) (
 dec (l31.length = l31.length)) (
 false)) (
 bR (bR (dec ((0 : Nat) = (0 : Nat))) (
 dec (l32.length = l32.length)) (
 false)) (
 bR (dec (n33 = n33)) (
 true) (
 false)) (
 false)) (
 false)) (
 false)) (
 false)) (
 false)) (
 false)) (
 false)) (
 bR (bR (bR (dec (n4 = n4)) (
 bR (dec (n5 = n5)) (
 bR (bR (b6) (
 b6) (
 bR (b6) (
 false) (
 true))) (
 bR (dec (n7 = n7)) (
 bR (dec (n8 = n8)) (
 true) (
 false)) (
 false)) (
 false)) (
 false)) (
 false)) (
 bR (bR (dec (l31.length.mul (1 : Nat) = l31.length.mul (1 : Nat))) (
 dec ([Col.i Go.IntKind.i64 (0 : Int) (1 : Int) l31] = [Col.i Go.IntKind.i64 (0 : Int) (1 : Int) l31])) (
 false)) (
 bR (bR (dec (l32.length.mul (1 : Nat) = l32.length.mul (1 : Nat))) (
 dec ([Col.i Go.IntKind.i64 (-9223372036854775808 : Int) (9223372036854775807 : Int) l32] =
 [Col.i Go.IntKind.i64 (-9223372036854775808 : Int) (9223372036854775807 : Int) l32])) (
 false)) (
 true) (
 false)) (
 false)) (
 false)) (
 reqB ((0 : Int) ≤ n38 + (1 : Int)) (
 reqB (n38 + (1 : Int) ≤ (200 : Int)) (
 reqB (bkL.inv [DV.l (List.take l31.length (List.drop (0 : Nat) l31))] [DV.n (n38 + (1 : Int))]) (
 reqB (bkL.mea [DV.l (List.take l31.length (List.drop (0 : Nat) l31))] [DV.n (n38 + (1 : Int))] <
 bkL.mea [DV.l (List.take l31.length (List.drop (0 : Nat) l31))] [DV.n n38]) (
 true))))) (
 false)) (
 false)))) (
 reqB (((0 : Nat) + l32.length) * (1 : Nat) ≤ l32.length.mul (1 : Nat)) (
 reqB (l32.length ≤ (200 : Nat)) (
 reqB ((List.take l32.length (List.drop (0 : Nat) l32)).length = l32.length) (
 reqB (∀ (y : Int),
 y ∈ List.take l32.length (List.drop (0 : Nat) l32) →
 (-9223372036854775808 : Int) ≤ y ∧ y ≤ (9223372036854775807 : Int)) (
 reqB ((-9223372036854775808 : Int) ≤ n4) (
 reqB (n4 ≤ (9223372036854775807 : Int)) (
 reqB ((-9223372036854775808 : Int) ≤ n5) (
 reqB (n5 ≤ (9223372036854775807 : Int)) (
 reqB ((-9223372036854775808 : Int) ≤ n7) (
 reqB (n7 ≤ (9223372036854775807 : Int)) (
 reqB ((-9223372036854775808 : Int) ≤ n8) (
 reqB (n8 ≤ (9223372036854775807 : Int)) (
 reqB (sigGet.pre
 [DV.l (List.take l32.length (List.drop (0 : Nat) l32)), DV.n n4, DV.n n5, DV.b b6,
 DV.n n7, DV.n n8]) (
 allB fun n39 : Int => 
 impB ((-1200000000000000000 : Int) ≤ n39) (
 impB (n39 ≤ (1200000000000000000 : Int)) (
 allB fun n40 : Int => 
 impB ((0 : Int) ≤ n40) (
 impB (n40 ≤ (18 : Int)) (
 impB (sigGet.post
 [DV.l (List.take l32.length (List.drop (0 : Nat) l32)), DV.n n4, DV.n n5, DV.b b6,
 DV.n n7, DV.n n8]
 [DV.n n39, DV.n n40]) (
 reqB (((0 : Nat) + l32.length) * (1 : Nat) ≤ l32.length.mul (1 : Nat)) (
 reqB (l32.length ≤ (200 : Nat)) (
 reqB ((List.take l32.length (List.drop (0 : Nat) l32)).length = l32.length) (
 reqB (∀ (y : Int),
 y ∈ List.take l32.length (List.drop (0 : Nat) l32) →
 (-9223372036854775808 : Int) ≤ y ∧ y ≤ (9223372036854775807 : Int)) (
 reqB ((-9223372036854775808 : Int) ≤ n4) (
 reqB (n4 ≤ (9223372036854775807 : Int)) (
 reqB ((-9223372036854775808 : Int) ≤ n5) (
 reqB (n5 ≤ (9223372036854775807 : Int)) (
 reqB ((-9223372036854775808 : Int) ≤ n7) (
 reqB (n7 ≤ (9223372036854775807 : Int)) (
 reqB ((-9223372036854775808 : Int) ≤ n8) (
 reqB (n8 ≤ (9223372036854775807 : Int)) (
 reqB ((-9223372036854775808 : Int) ≤ n39) (
 reqB (n39 ≤ (9223372036854775807 : Int)) (
 reqB (sigPut.pre
 [DV.l (List.take l32.length (List.drop (0 : Nat) l32)), DV.n n4, DV.n n5, DV.b b6,
 DV.n n7, DV.n n8, DV.n n39]) (
 allB fun l41 : List Int => 
 impB (l41.length ≤ (200 : Nat)) (
 impB (∀ (y : Int), y ∈ l41 → (-9223372036854775808 : Int) ≤ y ∧ y ≤ (9223372036854775807 : Int)) (
 allB fun n42 : Int => 
 impB ((0 : Int) ≤ n42) (
 impB (n42 ≤ (18 : Int)) (
 impB (sigPut.post
 [DV.l (List.take l32.length (List.drop (0 : Nat) l32)), DV.n n4, DV.n n5, DV.b b6,
 DV.n n7, DV.n n8, DV.n n39]
 [DV.l l41, DV.n n42]) (
 bR (dec (n40 = (0 : Int))) (
 bR (dec (n42 = (0 : Int))) (
 allB fun n43 : Int => 
 impB (n43 = Go.IntKind.i64.wrap ((2 : Int) * (n39 - (n9 + n30)))) (
 impB (Int.negSucc (9223372036854775807 : Nat) ≤ n43) (
 impB (n43 ≤ Int.ofNat (9223372036854775807 : Nat)) (
 bR (dec (n43 ≤ n7)) (
 allB fun n44 : Int => 
 impB (n44 = Go.IntKind.i64.wrap ((2 : Int) * (n9 + n30 - n39))) (
 impB (Int.negSucc (9223372036854775807 : Nat) ≤ n44) (
 impB (n44 ≤ Int.ofNat (9223372036854775807 : Nat)) (
 bR (dec (n44 ≤ n7)) (
 bR (dec (n9 ≤ n39)) (
 bR (dec (n39 ≤ n10)) (
 reqB (((0 : Nat) + l41.length) * (1 : Nat) ≤ l41.length.mul (1 : Nat)) (
 reqB (l41.length ≤ (200 : Nat)) (
 reqB ((List.take l41.length (List.drop (0 : Nat) l41)).length = l41.length) (
 reqB (∀ (y : Int),
 y ∈ List.take l41.length (List.drop (0 : Nat) l41) →
 (-9223372036854775808 : Int) ≤ y ∧ y ≤ (9223372036854775807 : Int)) (
 reqB (((0 : Nat) + l32.length) * (1 : Nat) ≤ l32.length.mul (1 : Nat)) (
 reqB (l32.length ≤ (200 : Nat)) (
 reqB ((List.take l32.length (List.drop (0 : Nat) l32)).length = l32.length) (
 reqB (∀ (y : Int),
 y ∈ List.take l32.length (List.drop (0 : Nat) l32) →
 (-9223372036854775808 : Int) ≤ y ∧ y ≤ (9223372036854775807 : Int)) (
 reqB (sigAl.pre
 [DV.l (List.take l41.length (List.drop (0 : Nat) l41)),
 DV.l (List.take l32.length (List.drop (0 : Nat) l32))]) (
 allB fun b45 : Bool => 
 impB (sigAl.post
 [DV.l (List.take l41.length (List.drop (0 : Nat) l41)),
 DV.l (List.take l32.length (List.drop (0 : Nat) l32))]
 [DV.b b45]) (
 bR (b45) (
 reqB (sigTrue0.pre []) (
 allB fun b46 : Bool => 
 impB (sigTrue0.post [] [DV.b b46]) (
 reqB (sigBack.post [DV.l l0, DV.n n1] [DV.b b46]) (
 true)))) (
 reqB (sigBack.post [DV.l l0, DV.n n1] [DV.b Bool.false]) (
 true))))))))))))) (
 reqB (sigBack.post [DV.l l0, DV.n n1] [DV.b Bool.false]) (
 true))) (
 reqB (sigBack.post [DV.l l0, DV.n n1] [DV.b Bool.false]) (
 true))) (
 reqB (sigBack.post [DV.l l0, DV.n n1] [DV.b Bool.false]) (
 true)))))) (
 reqB (sigBack.post [DV.l l0, DV.n n1] [DV.b Bool.false]) (
 true)))))) (
 reqB (sigBack.post [DV.l l0, DV.n n1] [DV.b Bool.false]) (
 true))) (
 reqB (sigBack.post [DV.l l0, DV.n n1] [DV.b Bool.false]) (
 true)))))))))))))))))))))))))))))))))))))))))))))))))))))))))))))))))))))))))))))))))))))))))))))))))) (
 reqB (((0 : Nat) + l0.length) * (1 : Nat) ≤ l0.length.mul (1 : Nat)) (
 reqB (l0.length ≤ (9223372036854775807 : Nat)) (
 reqB ((List.take l0.length (List.drop (0 : Nat) l0)).length = l0.length) (
 reqB (∀ (y : Int),
 y ∈ List.take l0.length (List.drop (0 : Nat) l0) → (-9223372036854775808 : Int) ≤ y ∧ y ≤ (9223372036854775807 : Int)) (
 reqB ((1 : Int) ≤ n4 + n5 + (3 : Int)) (
 reqB (n4 + n5 + (3 : Int) ≤ (200 : Int)) (
 reqB (sigCo.pre [DV.l (List.take l0.length (List.drop (0 : Nat) l0)), DV.n (n4 + n5 + (3 : Int))]) (
 allB fun l47 : List Int => 
 impB (l47.length ≤ (200 : Nat)) (
 impB (∀ (y : Int), y ∈ l47 → (0 : Int) ≤ y ∧ y ≤ (1 : Int)) (
 impB (sigCo.post [DV.l (List.take l0.length (List.drop (0 : Nat) l0)), DV.n (n4 + n5 + (3 : Int))]
 [DV.l l47]) (
 reqB (((0 : Nat) + l47.length) * (1 : Nat) ≤ l47.length.mul (1 : Nat)) (
 reqB (l47.length ≤ (200 : Nat)) (
 reqB ((List.take l47.length (List.drop (0 : Nat) l47)).length = l47.length) (
 reqB (∀ (y : Int),
 y ∈ List.take l47.length (List.drop (0 : Nat) l47) →
 (-9223372036854775808 : Int) ≤ y ∧ y ≤ (9223372036854775807 : Int)) (
 reqB ((-9223372036854775808 : Int) ≤ n4) (
 reqB (n4 ≤ (9223372036854775807 : Int)) (
 reqB ((-9223372036854775808 : Int) ≤ n5) (
 reqB (n5 ≤ (9223372036854775807 : Int)) (
 reqB ((-9223372036854775808 : Int) ≤ n7) (
 reqB (n7 ≤ (9223372036854775807 : Int)) (
 reqB ((-9223372036854775808 : Int) ≤ n8) (
 reqB (n8 ≤ (9223372036854775807 : Int)) (
 reqB ((-9223372036854775808 : Int) ≤ n12 - (2000000000000000000 : Int)) (
 reqB (n12 - (2000000000000000000 : Int) ≤ (9223372036854775807 : Int)) (
 reqB (sigPut.pre
 [DV.l (List.take l47.length (List.drop (0 : Nat) l47)), DV.n n4, DV.n n5, DV.b b6,
 DV.n n7, DV.n n8, DV.n (n12 - (2000000000000000000 : Int))]) (
 allB fun l48 : List Int => 
 impB (l48.length ≤ (200 : Nat)) (
 impB (∀ (y : Int), y ∈ l48 → (-9223372036854775808 : Int) ≤ y ∧ y ≤ (9223372036854775807 : Int)) (
 allB fun n49 : Int => 
 impB ((0 : Int) ≤ n49) (
 impB (n49 ≤ (18 : Int)) (
 impB (sigPut.post
 [DV.l (List.take l47.length (List.drop (0 : Nat) l47)), DV.n n4, DV.n n5, DV.b b6,
 DV.n n7, DV.n n8, DV.n (n12 - (2000000000000000000 : Int))]
 [DV.l l48, DV.n n49]) (
 bR (dec (n49 ≠ (0 : Int))) (
 bR (dec (n49 = (5 : Int))) (
 bR (dec ((↑l48.length : Int) = (0 : Int))) (
 bR (dec (n12 - (2000000000000000000 : Int) < n9)) (
 reqB (sigTrue0.pre []) (
 allB fun b50 : Bool => 
 impB (sigTrue0.post [] [DV.b b50]) (
 reqB (sigBack.post [DV.l l0, DV.n n1] [DV.b b50]) (
 true)))) (
 bR (dec (n10 < n12 - (2000000000000000000 : Int))) (
 reqB (sigTrue0.pre []) (
 allB fun b51 : Bool => 
 impB (sigTrue0.post [] [DV.b b51]) (
 reqB (sigBack.post [DV.l l0, DV.n n1] [DV.b b51]) (
 true)))) (
 reqB (sigBack.post [DV.l l0, DV.n n1] [DV.b Bool.false]) (
 true)))) (
 reqB (sigBack.post [DV.l l0, DV.n n1] [DV.b Bool.false]) (
 true))) (
 reqB (sigBack.post [DV.l l0, DV.n n1] [DV.b Bool.false]) (
 true))) (
 bR (dec ((↑l48.length : Int) ≠ (↑l47.length : Int))) (
 reqB (sigBack.post [DV.l l0, DV.n n1] [DV.b Bool.false]) (
 true)) (
 bR (dec (n7 < (2 : Int) * (n9 - (n12 - (2000000000000000000 : Int))))) (
 reqB (sigBack.post [DV.l l0, DV.n n1] [DV.b Bool.false]) (
 true)) (
 bR (dec (n7 < (2 : Int) * (n12 - (2000000000000000000 : Int) - n10))) (
 reqB (sigBack.post [DV.l l0, DV.n n1] [DV.b Bool.false]) (
 true)) (
 reqB (((0 : Nat) + l47.length) * (1 : Nat) ≤ l47.length.mul (1 : Nat)) (
 reqB (l47.length ≤ (200 : Nat)) (
 reqB ((List.take l47.length (List.drop (0 : Nat) l47)).length = l47.length) (
 reqB (∀ (y : Int), y ∈ List.take l47.length (List.drop (0 : Nat) l47) → (0 : Int) ≤ y ∧ y ≤ (1 : Int)) (
 reqB (bkL.inv [DV.l (List.take l47.length (List.drop (0 : Nat) l47))] [DV.n (0 : Int)]) (
 allB fun n52 : Int => 
 impB ((0 : Int) ≤ n52) (
 impB (n52 ≤ (200 : Int)) (
 impB (bkL.inv [DV.l (List.take l47.length (List.drop (0 : Nat) l47))] [DV.n n52]) (
 bR (dec (n52 < (↑l47.length : Int))) (
 bR (dec (n52 < n4)) (
 reqB (n52.toNat < l48.length) (
 reqB (Nat.add (0 : Nat) n52.toNat < l48.length) (
 reqB (n52.toNat < l47.length) (
 reqB (Nat.add (0 : Nat) n52.toNat < l47.length) (
 bR (dec (l48.getD (Nat.add (0 : Nat) n52.toNat) (0 : Int) ≠ l47.getD (Nat.add (0 : Nat) n52.toNat) (0 : Int))) (
 reqB (sigBack.post [DV.l l0, DV.n n1] [DV.b Bool.false]) (
 true)) (
 bR (bR (bR (dec ((0 : Nat) = (0 : Nat))) (
 dec (l0.length = l0.length)) (
 false)) (
 bR (dec (n12 - (2000000000000000000 : Int) = n12 - (2000000000000000000 : Int))) (
 bR (dec (n9 = n9)) (
 bR (dec (n10 = n10)) (
 bR (dec (n11 = n11)) (
 bR (bR (dec ((0 : Nat) = (0 : Nat))) (
 dec (l47.length = l47.length)) (
 false)) (
 bR (bR (dec ((0 : Nat) = (0 : Nat))) (
 dec (l48.length = l48.length)) (
 false)) (
 bR (dec (n49 = n49)) (
 true) (
 false)) (
 false)) (
 false)) (
 false)) (
 false)) (
 false)) (
 false)) (
 false)) (
 bR (bR (bR (dec (n4 = n4)) (
 bR (dec (n5 = n5)) (
 bR (bR (b6) (
 b6) (
 bR (b6) (
 false) (
 true))) (
 bR (dec (n7 = n7)) (
 bR (dec (n8 = n8)) (
 true) (
 false)) (
 false)) (
 false)) (
 false)) (
 false)) (
 bR (bR (dec (l47.length.mul (1 : Nat) = l47.length.mul (1 : Nat))) (
 dec ([Col.i Go.IntKind.i64 (0 : Int) (1 : Int) l47] = [Col.i Go.IntKind.i64 (0 : Int) (1 : Int) l47])) (
 false)) (
 bR (bR (dec (l48.length.mul (1 : Nat) = l48.length.mul (1 : Nat))) (
 dec ([Col.i Go.IntKind.i64 (-9223372036854775808 : Int) (9223372036854775807 : Int) l48] =
 [Col.i Go.IntKind.i64 (-9223372036854775808 : Int) (9223372036854775807 : Int) l48])) (
 false)) (
 true) (
 false)) (
 false)) (
 false)) (
 reqB ((0 : Int) ≤ n52 + (1 : Int)) (
 reqB (n52 + (1 : Int) ≤ (200 : Int)) (
 reqB (bkL.inv [DV.l (List.take l47.length (List.drop (0 : Nat) l47))] [DV.n (n52 + (1 : Int))]) (
 reqB (bkL.mea [DV.l (List.take l47.length (List.drop (0 : Nat) l47))] [DV.n (n52 + (1 : Int))] <
 bkL.mea [DV.l (List.take l47.length (List.drop (0 : Nat) l47))] [DV.n n52]) (
 true))))) (
 false)) (
 false))))))) (
 bR (dec (n4 + n5 ≤ n52)) (
 reqB (n52.toNat < l48.length) (
 reqB (Nat.add (0 : Nat) n52.toNat < l48.length) (
 reqB (n52.toNat < l47.length) (
 reqB (Nat.add (0 : Nat) n52.toNat < l47.length) (
 bR (dec (l48.getD (Nat.add (0 : Nat) n52.toNat) (0 : Int) ≠ l47.getD (Nat.add (0 : Nat) n52.toNat) (0 : Int))) (
 reqB (sigBack.post [DV.l l0, DV.n n1] [DV.b Bool.false]) (
 true)) (
 bR (bR (bR (dec ((0 : Nat) = (0 : Nat))) (
 dec (l0.length = l0.length)) (
 false)) (
 bR (dec (n12 - (2000000000000000000 : Int) = n12 - (2000000000000000000 : Int))) (
 bR (dec (n9 = n9)) (
 bR (dec (n10 = n10)) (
 bR (dec (n11 = n11)) (
 bR (bR (dec ((0 : Nat) = (0 : Nat))) (
 dec (l47.length = l47.length)) (
 false)) (
 bR (bR (dec ((0 : Nat) = (0 : Nat))) (
 dec (l48.length = l48.length)) (
 false)) (
 bR (dec (n49 = n49)) (
 true) (
 false)) (
 false)) (
 false)) (
 false)) (
 false)) (
 false)) (
 false)) (
 false)) (
 bR (bR (bR (dec (n4 = n4)) (
 bR (dec (n5 = n5)) (
 bR (bR (b6) (
 b6) (
 bR (b6) (
 false) (
 true))) (
 bR (dec (n7 = n7)) (
 bR (dec (n8 = n8)) (
 true) (
 false)) (
 false)) (
 false)) (
 false)) (
 false)) (
 bR (bR (dec (l47.length.mul (1 : Nat) = l47.length.mul (1 : Nat))) (
 dec ([Col.i Go.IntKind.i64 (0 : Int) (1 : Int) l47] = [Col.i Go.IntKind.i64 (0 : Int) (1 : Int) l47])) (
 false)) (
 bR (bR (dec (l48.length.mul (1 : Nat) = l48.length.mul (1 : Nat))) (
 dec ([Col.i Go.IntKind.i64 (-9223372036854775808 : Int) (9223372036854775807 : Int) l48] =
 [Col.i Go.IntKind.i64 (-9223372036854775808 : Int) (9223372036854775807 : Int) l48])) (
 false)) (
 true) (
 false)) (
 false)) (
 false)) (
 reqB ((0 : Int) ≤ n52 + (1 : Int)) (
 reqB (n52 + (1 : Int) ≤ (200 : Int)) (
 reqB (bkL.inv [DV.l (List.take l47.length (List.drop (0 : Nat) l47))] [DV.n (n52 + (1 : Int))]) (
 reqB (bkL.mea [DV.l (List.take l47.length (List.drop (0 : Nat) l47))] [DV.n (n52 + (1 : Int))] <
 bkL.mea [DV.l (List.take l47.length (List.drop (0 : Nat) l47))] [DV.n n52]) (
 true))))) (
 false)) (
 false))))))) (
 bR (bR (bR (dec ((0 : Nat) = (0 : Nat))) (
 dec (l0.length = l0.length)) (
 false)) (
 bR (dec (n12 - (2000000000000000000 : Int) = n12 - (2000000000000000000 : Int))) (
 bR (dec (n9 = n9)) (
 bR (dec (n10 = n10)) (
 bR (dec (n11 = n11)) (
 bR (bR (dec ((0 : Nat) = (0 : Nat))) (
 dec (l47.length = l47.length)) (
 false)) (
 bR (bR (dec ((0 : Nat) = (0 : Nat))) (
 dec (l48.length = l48.length)) (
 false)) (
 bR (dec (n49 = n49)) (
 true) (
 false)) (
 false)) (
 false)) (
 false)) (
 false)) (
 false)) (
 false)) (
 false)) (
 bR (bR (bR (dec (n4 = n4)) (
 bR (dec (n5 = n5)) (
 bR (bR (b6) (
 b6) (
 bR (b6) (
 false) (
 true))) (
 bR (dec (n7 = n7)) (
 bR (dec (n8 = n8)) (
 true) (
 false)) (
 false)) (
 false)) (
 false)) (
 false)) (
 bR (bR (dec (l47.length.mul (1 : Nat) = l47.length.mul (1 : Nat))) (
 dec ([Col.i Go.IntKind.i64 (0 : Int) (1 : Int) l47] = [Col.i Go.IntKind.i64 (0 : Int) (1 : Int) l47])) (
 false)) (
 bR (bR (dec (l48.length.mul (1 : Nat) = l48.length.mul (1 : Nat))) (
 dec ([Col.i Go.IntKind.i64 (-9223372036854775808 : Int) (9223372036854775807 : Int) l48] =
 [Col.i Go.IntKind.i64 (-9223372036854775808 : Int) (9223372036854775807 : Int) l48])) (
 false)) (
 true) (
 false)) (
 false)) (
 false)) (
 reqB ((0 : Int) ≤ n52 + (1 : Int)) (
 reqB (n52 + (1 : Int) ≤ (200 : Int)) (
 reqB (bkL.inv [DV.l (List.take l47.length (List.drop (0 : Nat) l47))] [DV.n (n52 + (1 : Int))]) (
 reqB (bkL.mea [DV.l (List.take l47.length (List.drop (0 : Nat) l47))] [DV.n (n52 + (1 : Int))] <
 bkL.mea [DV.l (List.take l47.length (List.drop (0 : Nat) l47))] [DV.n n52]) (
 true))))) (
 false)) (
 false)))) (
 reqB (((0 : Nat) + l48.length) * (1 : Nat) ≤ l48.length.mul (1 : Nat)) (
 reqB (l48.length ≤ (200 : Nat)) (
 reqB ((List.take l48.length (List.drop (0 : Nat) l48)).length = l48.length) (
 reqB (∀ (y : Int),
 y ∈ List.take l48.length (List.drop (0 : Nat) l48) →
 (-9223372036854775808 : Int) ≤ y ∧ y ≤ (9223372036854775807 : Int)) (
 reqB ((-9223372036854775808 : Int) ≤ n4) (
 reqB (n4 ≤ (9223372036854775807 : Int)) (
 reqB ((-9223372036854775808 : Int) ≤ n5) (
 reqB (n5 ≤ (9223372036854775807 : Int)) (
 reqB ((-9223372036854775808 : Int) ≤ n7) (
 reqB (n7 ≤ (9223372036854775807 : Int)) (
 reqB ((-9223372036854775808 : Int) ≤ n8) (
 reqB (n8 ≤ (9223372036854775807 : Int)) (
 reqB (sigGet.pre
 [DV.l (List.take l48.length (List.drop (0 : Nat) l48)), DV.n n4, DV.n n5, DV.b b6,
 DV.n n7, DV.n n8]) (
 allB fun n53 : Int => 
 impB ((-1200000000000000000 : Int) ≤ n53) (
 impB (n53 ≤ (1200000000000000000 : Int)) (
 allB fun n54 : Int => 
 impB ((0 : Int) ≤ n54) (
 impB (n54 ≤ (18 : Int)) (
 impB (sigGet.post
 [DV.l (List.take l48.length (List.drop (0 : Nat) l48)), DV.n n4, DV.n n5, DV.b b6,
 DV.n n7, DV.n n8]
 [DV.n n53, DV.n n54]) (
 reqB (((0 : Nat) + l48.length) * (1 : Nat) ≤ l48.length.mul (1 : Nat)) (
 reqB (l48.length ≤ (200 : Nat)) (
 reqB ((List.take l48.length (List.drop (0 : Nat) l48)).length = l48.length) (
 reqB (∀ (y : Int),
 y ∈ List.take l48.length (List.drop (0 : Nat) l48) →
 (-9223372036854775808 : Int) ≤ y ∧ y ≤ (9223372036854775807 : Int)) (
 reqB ((-9223372036854775808 : Int) ≤ n4) (
 reqB (n4 ≤ (9223372036854775807 : Int)) (
 reqB ((-9223372036854775808 : Int) ≤ n5) (
 reqB (n5 ≤ (9223372036854775807 : Int)) (
 reqB ((-9223372036854775808 : Int) ≤ n7) (
 reqB (n7 ≤ (9223372036854775807 : Int)) (
 reqB ((-9223372036854775808 : Int) ≤ n8) (
 reqB (n8 ≤ (9223372036854775807 : Int)) (
 reqB ((-9223372036854775808 : Int) ≤ n53) (
 reqB (n53 ≤ (9223372036854775807 : Int)) (
 reqB (sigPut.pre
 [DV.l (List.take l48.length (List.drop (0 : Nat) l48)), DV.n n4, DV.n n5, DV.b b6,
 DV.n n7, DV.n n8, DV.n n53]) (
 allB fun l55 : List Int => 
 impB (l55.length ≤ (200 : Nat)) (
 impB (∀ (y : Int), y ∈ l55 → (-9223372036854775808 : Int) ≤ y ∧ y ≤ (9223372036854775807 : Int)) (
 allB fun n56 : Int => 
 impB ((0 : Int) ≤ n56) (
 impB (n56 ≤ (18 : Int)) (
 impB (sigPut.post
 [DV.l (List.take l48.length (List.drop (0 : Nat) l48)), DV.n n4, DV.n n5, DV.b b6,
 DV.n n7, DV.n n8, DV.n n53]
 [DV.l l55, DV.n n56]) (
 bR (dec (n54 = (0 : Int))) (
 bR (dec (n56 = (0 : Int))) (
 bR (dec ((2 : Int) * (n53 - (n12 - (2000000000000000000 : Int))) ≤ n7)) (
 bR (dec ((2 : Int) * (n12 - (2000000000000000000 : Int) - n53) ≤ n7)) (
 bR (dec (n9 ≤ n53)) (
 bR (dec (n53 ≤ n10)) (
 reqB (((0 : Nat) + l55.length) * (1 : Nat) ≤ l55.length.mul (1 : Nat)) (
 reqB (l55.length ≤ (200 : Nat)) (
 reqB ((List.take l55.length (List.drop (0 : Nat) l55)).length = l55.length) (
 reqB (∀ (y : Int),
 y ∈ List.take l55.length (List.drop (0 : Nat) l55) →
 (-9223372036854775808 : Int) ≤ y ∧ y ≤ (9223372036854775807 : Int)) (
 reqB (((0 : Nat) + l48.length) * (1 : Nat) ≤ l48.length.mul (1 : Nat)) (
 reqB (l48.length ≤ (200 : Nat)) (
 reqB ((List.take l48.length (List.drop (0 : Nat) l48)).length = l48.length) (
 reqB (∀ (y : Int),
 y ∈ List.take l48.length (List.drop (0 : Nat) l48) →
 (-9223372036854775808 : Int) ≤ y ∧ y ≤ (9223372036854775807 : Int)) (
 reqB (sigAl.pre
 [DV.l (List.take l55.length (List.drop (0 : Nat) l55)),
 DV.l (List.take l48.length (List.drop (0 : Nat) l48))]) (
 allB fun b57 : Bool => 
 impB (sigAl.post
 [DV.l (List.take l55.length (List.drop (0 : Nat) l55)),
 DV.l (List.take l48.length (List.drop (0 : Nat) l48))]
 [DV.b b57]) (
 bR (b57) (
 reqB (sigTrue0.pre []) (
 allB fun b58 : Bool => 
 impB (sigTrue0.post [] [DV.b b58]) (
 reqB (sigBack.post [DV.l l0, DV.n n1] [DV.b b58]) (
 true)))) (
 reqB (sigBack.post [DV.l l0, DV.n n1] [DV.b Bool.false]) (
 true))))))))))))) (
 reqB (sigBack.post [DV.l l0, DV.n n1] [DV.b Bool.false]) (
 true))) (
 reqB (sigBack.post [DV.l l0, DV.n n1] [DV.b Bool.false]) (
 true))) (
 reqB (sigBack.post [DV.l l0, DV.n n1] [DV.b Bool.false]) (
 true))) (
 reqB (sigBack.post [DV.l l0, DV.n n1] [DV.b Bool.false]) (
 true))) (
 reqB (sigBack.post [DV.l l0, DV.n n1] [DV.b Bool.false]) (
 true))) (
 reqB (sigBack.post [DV.l l0, DV.n n1] [DV.b Bool.false]) (
 true))))))))))))))))))))))))))))))))))))))))))))))))))))))))))))))))))))))))))))))))))))))))))))))))))))))))))))))))))))))))))))))))))))))))))))))))) := by kernel_rfl
set_option maxHeartbeats 8000000 in
theorem vt_FieldBack : vcFn Try.prog [(29, Ext.ctr (ctOf sigNth)), (28, Ext.ctr (ctOf sigBl)), (27, Ext.ctr (ctOf sigOf)), (10, Ext.ctr (ctOf sigLim)), (30, Ext.ctr (ctOf sigCo)), (12, Ext.ctr (ctOf sigPut)), (14, Ext.ctr (ctOf sigGet)), (18, Ext.ctr (ctOf sigAl)), (9, Ext.ctr (ctOf sigTrue0))] (fun f p _ => at2 f p 7 16378 bkL (none)) [] 100 7 sigBack = true := by
  rw [vc_FieldBack]
  try simp only [Int.toNat_natCast, List.length_set, List.length_replicate, List.length_take, List.length_drop, List.length_append, List.length_cons, List.length_nil, Nat.min_self, List.take_take, lenCols_i, lenCols_b, List.drop_zero, List.take_length, List.take_nil, List.drop_nil, List.take_zero, List.nil_append, Nat.add_eq, Nat.mul_eq, Nat.sub_eq, Nat.zero_add, Nat.add_zero, Nat.sub_zero, Nat.mul_one]
  refine all_i fun l0 => ?_
  refine imp_i fun h0 => ?_
  refine imp_i fun h1 => ?_
  refine all_i fun n1 => ?_
  refine imp_i fun h2 => ?_
  refine imp_i fun h3 => ?_
  refine imp_i fun h4 => ?_
  try simp only [sigBack, cAny, List.cons.injEq, DV.b.injEq, and_true, List.length_cons, List.length_nil] at h4
  refine req_i ?_ ?_
  · -- r0
   first | omega | ((try simp only [Nat.mul_eq]); first | done | omega | assumption | grind [getD_set, getD_rep, toNat_succ, cntN_yes, cntN_no])
  refine req_i ?_ ?_
  · -- r1
   first | omega | ((try simp only [Nat.zero_add]); first | done | omega | assumption | grind [getD_set, getD_rep, toNat_succ, cntN_yes, cntN_no])
  refine req_i ?_ ?_
  · -- r2
   first | omega | ((try simp only [List.take_nil, List.take_zero, List.length_take, List.take_length, List.take_take, Nat.min_self, List.drop_nil, List.length_drop, List.drop_zero, List.length_cons, List.length_nil]); first | done | omega | assumption | grind [getD_set, getD_rep, toNat_succ, cntN_yes, cntN_no])
  refine req_i ?_ ?_
  · -- r3
   first | assumption | exact rep_bd (by omega) (by omega) | exact set_bd (by assumption) (by omega) (by omega) | exact take_bd (by assumption) | ((try simp only [List.take_nil, List.take_zero, List.length_take, List.take_length, List.take_take, Nat.min_self, List.drop_nil, List.length_drop, List.drop_zero, List.length_cons, List.length_nil]); first | assumption | exact rep_bd (by omega) (by omega) | exact set_bd (by assumption) (by omega) (by omega) | exact take_bd (by assumption) | grind [getD_set, getD_rep, toNat_succ, cntN_yes, cntN_no])
  refine req_i ?_ ?_
  · -- r4
   first | trivial | assumption | (simp only [sigNth, cAny, List.cons.injEq, DV.b.injEq, and_true, List.take_nil, List.take_zero, List.length_take, List.take_length, List.take_take, Nat.min_self, List.drop_nil, List.length_drop, List.drop_zero, List.length_cons, List.length_nil]; done) | ((try simp only [sigNth, cAny, List.cons.injEq, DV.b.injEq, and_true, List.take_nil, List.take_zero, List.length_take, List.take_length, List.take_take, Nat.min_self, List.drop_nil, List.length_drop, List.drop_zero, List.length_cons, List.length_nil]); first | omega | assumption | grind)
  refine all_i fun n2 => ?_
  refine imp_i fun h5 => ?_
  refine imp_i fun h6 => ?_
  refine imp_i fun h7 => ?_
  try simp only [sigNth, cAny, List.cons.injEq, DV.b.injEq, and_true, List.take_nil, List.take_zero, List.length_take, List.take_length, List.take_take, Nat.min_self, List.drop_nil, List.length_drop, List.drop_zero, List.length_cons, List.length_nil] at h7
  refine req_i ?_ ?_
  · -- r5
   first | omega | assumption | grind
  refine req_i ?_ ?_
  · -- r6
   first | omega | assumption | grind
  refine req_i ?_ ?_
  · -- r7
   first | trivial | assumption | (simp only [sigBl, blPost, List.cons.injEq, DV.b.injEq, and_true, List.length_cons, List.length_nil]; done) | ((try simp only [sigBl, blPost, List.cons.injEq, DV.b.injEq, and_true, List.length_cons, List.length_nil]); first | omega | assumption | grind)
  refine all_i fun n3 => ?_
  refine imp_i fun h8 => ?_
  refine imp_i fun h9 => ?_
  refine imp_i fun h10 => ?_
  try simp only [sigBl, blPost, List.cons.injEq, DV.b.injEq, and_true, List.length_cons, List.length_nil] at h10
  refine req_i ?_ ?_
  · -- r8
   first | omega | ((try simp only [Nat.mul_eq]); first | done | omega | assumption | grind [getD_set, getD_rep, toNat_succ, cntN_yes, cntN_no])
  refine req_i ?_ ?_
  · -- r9
   first | omega | ((try simp only [Nat.zero_add]); first | done | omega | assumption | grind [getD_set, getD_rep, toNat_succ, cntN_yes, cntN_no])
  refine req_i ?_ ?_
  · -- r10
   first | omega | ((try simp only [List.take_nil, List.take_zero, List.length_take, List.take_length, List.take_take, Nat.min_self, List.drop_nil, List.length_drop, List.drop_zero, List.length_cons, List.length_nil]); first | done | omega | assumption | grind [getD_set, getD_rep, toNat_succ, cntN_yes, cntN_no])
  refine req_i ?_ ?_
  · -- r11
   first | assumption | exact rep_bd (by omega) (by omega) | exact set_bd (by assumption) (by omega) (by omega) | exact take_bd (by assumption) | ((try simp only [List.take_nil, List.take_zero, List.length_take, List.take_length, List.take_take, Nat.min_self, List.drop_nil, List.length_drop, List.drop_zero, List.length_cons, List.length_nil]); first | assumption | exact rep_bd (by omega) (by omega) | exact set_bd (by assumption) (by omega) (by omega) | exact take_bd (by assumption) | grind [getD_set, getD_rep, toNat_succ, cntN_yes, cntN_no])
  refine req_i ?_ ?_
  · -- r12
   first | omega | assumption | grind
  refine req_i ?_ ?_
  · -- r13
   first | omega | assumption | grind
  refine req_i ?_ ?_
  · -- r14
   first | trivial | assumption | (simp only [sigOf, cAny, ofPost, List.cons.injEq, DV.b.injEq, and_true, List.take_nil, List.take_zero, List.length_take, List.take_length, List.take_take, Nat.min_self, List.drop_nil, List.length_drop, List.drop_zero, List.length_cons, List.length_nil]; done) | ((try simp only [sigOf, cAny, ofPost, List.cons.injEq, DV.b.injEq, and_true, List.take_nil, List.take_zero, List.length_take, List.take_length, List.take_take, Nat.min_self, List.drop_nil, List.length_drop, List.drop_zero, List.length_cons, List.length_nil]); first | omega | assumption | grind)
  refine all_i fun n4 => ?_
  refine imp_i fun h11 => ?_
  refine imp_i fun h12 => ?_
  refine all_i fun n5 => ?_
  refine imp_i fun h13 => ?_
  refine imp_i fun h14 => ?_
  refine all_i fun b6 => ?_
  refine all_i fun n7 => ?_
  refine imp_i fun h15 => ?_
  refine imp_i fun h16 => ?_
  refine all_i fun n8 => ?_
  refine imp_i fun h17 => ?_
  refine imp_i fun h18 => ?_
  refine imp_i fun h19 => ?_
  try simp only [sigOf, cAny, ofPost, List.cons.injEq, DV.b.injEq, and_true, List.take_nil, List.take_zero, List.length_take, List.take_length, List.take_take, Nat.min_self, List.drop_nil, List.length_drop, List.drop_zero, List.length_cons, List.length_nil] at h19
  refine req_i ?_ ?_
  · -- r15
   first | omega | assumption | grind
  refine req_i ?_ ?_
  · -- r16
   first | omega | assumption | grind
  refine req_i ?_ ?_
  · -- r17
   first | omega | assumption | grind
  refine req_i ?_ ?_
  · -- r18
   first | omega | assumption | grind
  refine req_i ?_ ?_
  · -- r19
   first | omega | assumption | grind
  refine req_i ?_ ?_
  · -- r20
   first | omega | assumption | grind
  refine req_i ?_ ?_
  · -- r21
   first | omega | assumption | grind
  refine req_i ?_ ?_
  · -- r22
   first | omega | assumption | grind
  refine req_i ?_ ?_
  · -- r23
   first | trivial | assumption | (simp only [sigLim, fV, lB, limPost, okF, List.cons.injEq, DV.b.injEq, and_true, List.length_cons, List.length_nil]; done) | ((try simp only [sigLim, fV, lB, limPost, okF, List.cons.injEq, DV.b.injEq, and_true, List.length_cons, List.length_nil]); first | omega | assumption | grind)
  refine all_i fun n9 => ?_
  refine imp_i fun h20 => ?_
  refine imp_i fun h21 => ?_
  refine all_i fun n10 => ?_
  refine imp_i fun h22 => ?_
  refine imp_i fun h23 => ?_
  refine all_i fun n11 => ?_
  refine imp_i fun h24 => ?_
  refine imp_i fun h25 => ?_
  refine imp_i fun h26 => ?_
  try simp only [Int.toNat_natCast, List.length_set, List.length_replicate, List.length_take, List.length_drop, List.length_append, List.length_cons, List.length_nil, Nat.min_self, List.take_take, lenCols_i, lenCols_b, List.drop_zero, List.take_length, List.take_nil, List.drop_nil, List.take_zero, List.nil_append, Nat.add_eq, Nat.mul_eq, Nat.sub_eq, Nat.zero_add, Nat.add_zero, Nat.sub_zero, Nat.mul_one] at h26
  have okf : okF n4 n5 n7 n8 := by unfold okF; omega
  obtain ⟨q1, q2, q3⟩ : n9 = n8 + loR b6 n5 * n7 ∧ n10 = n8 + hiR b6 n5 * n7 ∧ n11 = 0 := by
    rcases h26 with ⟨_, a, b, c⟩ | ⟨o, _⟩
    · exact ⟨a, b, c⟩
    · exact absurd okf o
  have rb := R_bd (g := b6) (b := n5) h13 h14
  have hl : loR b6 n5 + 1 ≤ hiR b6 n5 := lo_hi h13 h14
  have m1 := raw_mono (u := n7) (by omega) hl
  rw [Int.add_mul, Int.one_mul] at m1
  have vb1 := vl_bd (r := loR b6 n5) (u := n7) (by omega) (by omega) (by omega) (by omega)
  have vb2 := vl_bd (r := hiR b6 n5) (u := n7) (by omega) (by omega) (by omega) (by omega)
  refine bR_dec (fun h27 => ?_) (fun h27 => ?_)
  ·
   refine req_i ?_ ?_
   · -- r24
    first | omega | ((try simp only [sigBack, cAny, List.cons.injEq, DV.b.injEq, and_true, List.length_cons, List.length_nil]); first | done | omega | assumption | grind [getD_set, getD_rep, toNat_succ, cntN_yes, cntN_no])
   rfl
  ·
   refine bR_dec (fun h28 => ?_) (fun h28 => ?_)
   ·
    refine req_i ?_ ?_
    · -- r25
     first | omega | ((try simp only [sigBack, cAny, List.cons.injEq, DV.b.injEq, and_true, List.length_cons, List.length_nil]); first | done | omega | assumption | grind [getD_set, getD_rep, toNat_succ, cntN_yes, cntN_no])
    rfl
   ·
    refine req_i ?_ ?_
    · -- r26
     first | omega | assumption | grind
    refine req_i ?_ ?_
    · -- r27
     first | omega | assumption | grind
    refine req_i ?_ ?_
    · -- r28
     first | trivial | assumption | (simp only [sigBl, blPost, List.cons.injEq, DV.b.injEq, and_true, List.length_cons, List.length_nil]; done) | ((try simp only [sigBl, blPost, List.cons.injEq, DV.b.injEq, and_true, List.length_cons, List.length_nil]); first | omega | assumption | grind)
    refine all_i fun n12 => ?_
    refine imp_i fun h29 => ?_
    refine imp_i fun h30 => ?_
    refine imp_i fun h31 => ?_
    try simp only [sigBl, blPost, List.cons.injEq, DV.b.injEq, and_true, List.length_cons, List.length_nil] at h31
    refine bR_dec (fun h32 => ?_) (fun h32 => ?_)
    ·
     refine req_i ?_ ?_
     · -- r29
      first | omega | assumption | grind
     refine req_i ?_ ?_
     · -- r30
      first | omega | assumption | grind
     refine req_i ?_ ?_
     · -- r31
      first | omega | assumption | grind
     refine req_i ?_ ?_
     · -- r32
      first | omega | assumption | grind
     refine req_i ?_ ?_
     · -- r33
      first | trivial | assumption | (simp only [sigBl, blPost, List.cons.injEq, DV.b.injEq, and_true, List.length_cons, List.length_nil]; done) | ((try simp only [sigBl, blPost, List.cons.injEq, DV.b.injEq, and_true, List.length_cons, List.length_nil]); first | omega | assumption | grind)
     refine all_i fun n13 => ?_
     refine imp_i fun h33 => ?_
     refine imp_i fun h34 => ?_
     refine imp_i fun h35 => ?_
     try simp only [sigBl, blPost, List.cons.injEq, DV.b.injEq, and_true, List.length_cons, List.length_nil] at h35
     refine req_i ?_ ?_
     · -- r34
      first | omega | ((try simp only [Nat.mul_eq]); first | done | omega | assumption | grind [getD_set, getD_rep, toNat_succ, cntN_yes, cntN_no])
     refine req_i ?_ ?_
     · -- r35
      first | omega | ((try simp only [Nat.zero_add]); first | done | omega | assumption | grind [getD_set, getD_rep, toNat_succ, cntN_yes, cntN_no])
     refine req_i ?_ ?_
     · -- r36
      first | omega | ((try simp only [List.take_nil, List.take_zero, List.length_take, List.take_length, List.take_take, Nat.min_self, List.drop_nil, List.length_drop, List.drop_zero, List.length_cons, List.length_nil]); first | done | omega | assumption | grind [getD_set, getD_rep, toNat_succ, cntN_yes, cntN_no])
     refine req_i ?_ ?_
     · -- r37
      first | assumption | exact rep_bd (by omega) (by omega) | exact set_bd (by assumption) (by omega) (by omega) | exact take_bd (by assumption) | ((try simp only [List.take_nil, List.take_zero, List.length_take, List.take_length, List.take_take, Nat.min_self, List.drop_nil, List.length_drop, List.drop_zero, List.length_cons, List.length_nil]); first | assumption | exact rep_bd (by omega) (by omega) | exact set_bd (by assumption) (by omega) (by omega) | exact take_bd (by assumption) | grind [getD_set, getD_rep, toNat_succ, cntN_yes, cntN_no])
     refine req_i ?_ ?_
     · -- r38
      first | omega | assumption | grind
     refine req_i ?_ ?_
     · -- r39
      first | omega | assumption | grind
     refine req_i ?_ ?_
     · -- r40
      first | trivial | assumption | (simp only [sigCo, cAny, cB, coPost, List.cons.injEq, DV.b.injEq, and_true, List.take_nil, List.take_zero, List.length_take, List.take_length, List.take_take, Nat.min_self, List.drop_nil, List.length_drop, List.drop_zero, List.length_cons, List.length_nil]; done) | ((try simp only [sigCo, cAny, cB, coPost, List.cons.injEq, DV.b.injEq, and_true, List.take_nil, List.take_zero, List.length_take, List.take_length, List.take_take, Nat.min_self, List.drop_nil, List.length_drop, List.drop_zero, List.length_cons, List.length_nil]); first | omega | assumption | grind)
     refine all_i fun l14 => ?_
     refine imp_i fun h36 => ?_
     refine imp_i fun h37 => ?_
     refine imp_i fun h38 => ?_
     try simp only [sigCo, cAny, cB, coPost, List.cons.injEq, DV.b.injEq, and_true, List.take_nil, List.take_zero, List.length_take, List.take_length, List.take_take, Nat.min_self, List.drop_nil, List.length_drop, List.drop_zero, List.length_cons, List.length_nil] at h38
     refine req_i ?_ ?_
     · -- r41
      first | omega | ((try simp only [Nat.mul_eq]); first | done | omega | assumption | grind [getD_set, getD_rep, toNat_succ, cntN_yes, cntN_no])
     refine req_i ?_ ?_
     · -- r42
      first | omega | ((try simp only [Nat.zero_add]); first | done | omega | assumption | grind [getD_set, getD_rep, toNat_succ, cntN_yes, cntN_no])
     refine req_i ?_ ?_
     · -- r43
      first | omega | ((try simp only [List.take_nil, List.take_zero, List.length_take, List.take_length, List.take_take, Nat.min_self, List.drop_nil, List.length_drop, List.drop_zero, List.length_cons, List.length_nil]); first | done | omega | assumption | grind [getD_set, getD_rep, toNat_succ, cntN_yes, cntN_no])
     refine req_i ?_ ?_
     · -- r44
      first | assumption | exact rep_bd (by omega) (by omega) | exact set_bd (by assumption) (by omega) (by omega) | exact take_bd (by assumption) | ((try simp only [List.take_nil, List.take_zero, List.length_take, List.take_length, List.take_take, Nat.min_self, List.drop_nil, List.length_drop, List.drop_zero, List.length_cons, List.length_nil]); first | assumption | exact rep_bd (by omega) (by omega) | exact set_bd (by assumption) (by omega) (by omega) | exact take_bd (by assumption) | grind [getD_set, getD_rep, toNat_succ, cntN_yes, cntN_no])
     refine req_i ?_ ?_
     · -- r45
      first | omega | assumption | grind
     refine req_i ?_ ?_
     · -- r46
      first | omega | assumption | grind
     refine req_i ?_ ?_
     · -- r47
      first | omega | assumption | grind
     refine req_i ?_ ?_
     · -- r48
      first | omega | assumption | grind
     refine req_i ?_ ?_
     · -- r49
      first | omega | assumption | grind
     refine req_i ?_ ?_
     · -- r50
      first | omega | assumption | grind
     refine req_i ?_ ?_
     · -- r51
      first | omega | assumption | grind
     refine req_i ?_ ?_
     · -- r52
      first | omega | assumption | grind
     refine req_i ?_ ?_
     · -- r53
      first | omega | assumption | grind
     refine req_i ?_ ?_
     · -- r54
      first | omega | assumption | grind
     refine req_i ?_ ?_
     · -- r55
      first | omega | ((try simp only [sigPut, cL, fV, putPost, plErr, okL, inV, okF, List.cons.injEq, DV.b.injEq, and_true, List.take_nil, List.take_zero, List.length_take, List.take_length, List.take_take, Nat.min_self, List.drop_nil, List.length_drop, List.drop_zero, List.length_cons, List.length_nil]); first | done | omega | assumption | grind [getD_set, getD_rep, toNat_succ, cntN_yes, cntN_no])
     refine all_i fun l15 => ?_
     refine imp_i fun h39 => ?_
     refine imp_i fun h40 => ?_
     refine all_i fun n16 => ?_
     refine imp_i fun h41 => ?_
     refine imp_i fun h42 => ?_
     refine imp_i fun h43 => ?_
     try simp only [Int.toNat_natCast, List.length_set, List.length_replicate, List.length_take, List.length_drop, List.length_append, List.length_cons, List.length_nil, Nat.min_self, List.take_take, lenCols_i, lenCols_b, List.drop_zero, List.take_length, List.take_nil, List.drop_nil, List.take_zero, List.nil_append, Nat.add_eq, Nat.mul_eq, Nat.sub_eq, Nat.zero_add, Nat.add_zero, Nat.sub_zero, Nat.mul_one] at h43
     have cl : (l14.length : Int) = n4 + n5 + 3 := by omega
     have fb14 : formB l14 n4 n5 := fun j _ _ => by have := getD_bd (i := j) h37 (by omega) (by omega); omega
     have okl : okL l14 n4 n5 n7 n8 := ⟨okf, by omega, fb14⟩
     have P : (¬inV n5 b6 n7 n8 (n9 + n13) ∧ l15 = [] ∧ n16 = 5) ∨ (inV n5 b6 n7 n8 (n9 + n13) ∧ putP l14 n4 n5 (rawN (n9 + n13) n8 n7) l15 ∧ n16 = 0) := by
       rcases h43 with ⟨o, _⟩ | ⟨_, a, b, c⟩ | ⟨_, a, b, c⟩
       · exact (pl_not o okl).elim
       · exact .inl ⟨a, b, c⟩
       · exact .inr ⟨a, b, c⟩
     have nr := rawN_near (v := n9 + n13) (s := n8) (u := n7) (by omega)
     refine bR_dec (fun h44 => ?_) (fun h44 => ?_)
     ·
      obtain ⟨nv, e15, e16⟩ : ¬inV n5 b6 n7 n8 (n9 + n13) ∧ l15 = [] ∧ n16 = 5 := by
        rcases P with h | ⟨_, _, c⟩
        · exact h
        · omega
      have k15 : l15.length = 0 := by rw [e15]; rfl
      have nr2 : ¬(n9 ≤ n9 + n13 ∧ n9 + n13 ≤ n10) := fun g => nv ⟨by omega, by omega, raw_range (by omega) (by omega) (by omega)⟩
      refine bR_dec (fun h45 => ?_) (fun h45 => ?_)
      ·
       refine bR_dec (fun h46 => ?_) (fun h46 => ?_)
       ·
        refine bR_dec (fun h47 => ?_) (fun h47 => ?_)
        ·
         refine req_i ?_ ?_
         · -- r56
          first | omega | assumption | grind
         refine all_i fun b17 => ?_
         refine imp_i fun h48 => ?_
         try simp only [sigTrue0, List.cons.injEq, DV.b.injEq, and_true, List.length_cons, List.length_nil] at h48
         refine req_i ?_ ?_
         · -- r57
          first | omega | ((try simp only [sigBack, cAny, List.cons.injEq, DV.b.injEq, and_true, List.length_cons, List.length_nil]); first | done | omega | assumption | grind [getD_set, getD_rep, toNat_succ, cntN_yes, cntN_no])
         rfl
        ·
         refine bR_dec (fun h49 => ?_) (fun h49 => ?_)
         ·
          refine req_i ?_ ?_
          · -- r58
           first | omega | assumption | grind
          refine all_i fun b18 => ?_
          refine imp_i fun h50 => ?_
          try simp only [sigTrue0, List.cons.injEq, DV.b.injEq, and_true, List.length_cons, List.length_nil] at h50
          refine req_i ?_ ?_
          · -- r59
           first | omega | ((try simp only [sigBack, cAny, List.cons.injEq, DV.b.injEq, and_true, List.length_cons, List.length_nil]); first | done | omega | assumption | grind [getD_set, getD_rep, toNat_succ, cntN_yes, cntN_no])
          rfl
         ·
          refine req_i ?_ ?_
          · -- r60
           first | omega | ((try simp only [sigBack, cAny, List.cons.injEq, DV.b.injEq, and_true, List.length_cons, List.length_nil]); first | done | omega | assumption | grind [getD_set, getD_rep, toNat_succ, cntN_yes, cntN_no])
          rfl
       ·
        refine req_i ?_ ?_
        · -- r61
         first | omega | ((try simp only [sigBack, cAny, List.cons.injEq, DV.b.injEq, and_true, List.length_cons, List.length_nil]); first | done | omega | assumption | grind [getD_set, getD_rep, toNat_succ, cntN_yes, cntN_no])
        rfl
      ·
       refine req_i ?_ ?_
       · -- r62
        first | omega | ((try simp only [sigBack, cAny, List.cons.injEq, DV.b.injEq, and_true, List.length_cons, List.length_nil]); first | done | omega | assumption | grind [getD_set, getD_rep, toNat_succ, cntN_yes, cntN_no])
       rfl
     ·
      obtain ⟨iv, pp, e16⟩ : inV n5 b6 n7 n8 (n9 + n13) ∧ putP l14 n4 n5 (rawN (n9 + n13) n8 n7) l15 ∧ n16 = 0 := by
        rcases P with ⟨_, _, c⟩ | h
        · omega
        · exact h
      have iv2 := iv
      unfold inV at iv2
      have l15e := pp.1
      have m2 := raw_mono (u := n7) (by omega) iv2.2.2.1
      have m3 := raw_mono (u := n7) (by omega) iv2.2.2.2
      have out : ∀ j : Nat, j < l14.length → ¬(n4 ≤ (j : Int) ∧ (j : Int) < n4 + n5) → l15.getD j 0 = l14.getD j 0 := fun j hj hn => by rw [pp.2 j hj, if_neg hn]
      refine bR_dec (fun h51 => ?_) (fun h51 => ?_)
      ·
       refine req_i ?_ ?_
       · -- r63
        first | omega | ((try simp only [sigBack, cAny, List.cons.injEq, DV.b.injEq, and_true, List.length_cons, List.length_nil]); first | done | omega | assumption | grind [getD_set, getD_rep, toNat_succ, cntN_yes, cntN_no])
       rfl
      ·
       refine all_i fun n19 => ?_
       refine imp_i fun h52 => ?_
       simp only [wrap_i64] at h52
       replace h52 : n19 = 2 * (n9 - (n9 + n13)) := by (try simp only [wrap_i64] at h52); omega
       refine imp_i fun h53 => ?_
       refine imp_i fun h54 => ?_
       refine bR_dec (fun h55 => ?_) (fun h55 => ?_)
       ·
        refine req_i ?_ ?_
        · -- r64
         first | omega | ((try simp only [sigBack, cAny, List.cons.injEq, DV.b.injEq, and_true, List.length_cons, List.length_nil]); first | done | omega | assumption | grind [getD_set, getD_rep, toNat_succ, cntN_yes, cntN_no])
        rfl
       ·
        refine all_i fun n20 => ?_
        refine imp_i fun h56 => ?_
        simp only [wrap_i64] at h56
        replace h56 : n20 = 2 * (n9 + n13 - n10) := by (try simp only [wrap_i64] at h56); omega
        refine imp_i fun h57 => ?_
        refine imp_i fun h58 => ?_
        refine bR_dec (fun h59 => ?_) (fun h59 => ?_)
        ·
         refine req_i ?_ ?_
         · -- r65
          first | omega | ((try simp only [sigBack, cAny, List.cons.injEq, DV.b.injEq, and_true, List.length_cons, List.length_nil]); first | done | omega | assumption | grind [getD_set, getD_rep, toNat_succ, cntN_yes, cntN_no])
         rfl
        ·
         refine req_i ?_ ?_
         · -- r66
          first | omega | ((try simp only [Nat.mul_eq]); first | done | omega | assumption | grind [getD_set, getD_rep, toNat_succ, cntN_yes, cntN_no])
         refine req_i ?_ ?_
         · -- r67
          first | omega | ((try simp only [Nat.zero_add]); first | done | omega | assumption | grind [getD_set, getD_rep, toNat_succ, cntN_yes, cntN_no])
         refine req_i ?_ ?_
         · -- r68
          first | omega | ((try simp only [List.take_nil, List.take_zero, List.length_take, List.take_length, List.take_take, Nat.min_self, List.drop_nil, List.length_drop, List.drop_zero, List.length_cons, List.length_nil]); first | done | omega | assumption | grind [getD_set, getD_rep, toNat_succ, cntN_yes, cntN_no])
         refine req_i ?_ ?_
         · -- r69
          first | assumption | exact rep_bd (by omega) (by omega) | exact set_bd (by assumption) (by omega) (by omega) | exact take_bd (by assumption) | ((try simp only [List.take_nil, List.take_zero, List.length_take, List.take_length, List.take_take, Nat.min_self, List.drop_nil, List.length_drop, List.drop_zero, List.length_cons, List.length_nil]); first | assumption | exact rep_bd (by omega) (by omega) | exact set_bd (by assumption) (by omega) (by omega) | exact take_bd (by assumption) | grind [getD_set, getD_rep, toNat_succ, cntN_yes, cntN_no])
         refine req_i ?_ ?_
         · -- r70
          first | omega | ((try simp only [bkL, cB, bkInv, meaF, List.cons.injEq, DV.b.injEq, and_true, List.take_nil, List.take_zero, List.length_take, List.take_length, List.take_take, Nat.min_self, List.drop_nil, List.length_drop, List.drop_zero, List.length_cons, List.length_nil]); first | done | omega | assumption | grind [getD_set, getD_rep, toNat_succ, cntN_yes, cntN_no])
         refine all_i fun n21 => ?_
         refine imp_i fun h60 => ?_
         refine imp_i fun h61 => ?_
         refine imp_i fun h62 => ?_
         try simp only [bkL, cB, bkInv, meaF, List.cons.injEq, DV.b.injEq, and_true, List.take_nil, List.take_zero, List.length_take, List.take_length, List.take_take, Nat.min_self, List.drop_nil, List.length_drop, List.drop_zero, List.length_cons, List.length_nil] at h62
         refine bR_dec (fun h63 => ?_) (fun h63 => ?_)
         ·
          refine bR_dec (fun h64 => ?_) (fun h64 => ?_)
          ·
           refine req_i ?_ ?_
           · -- r71
            first | omega | ((try simp only [Int.toNat_natCast, List.length_cons, List.length_nil]); first | done | omega | assumption | grind [getD_set, getD_rep, toNat_succ, cntN_yes, cntN_no])
           refine req_i ?_ ?_
           · -- r72
            first | omega | ((try simp only [Int.toNat_natCast, List.length_cons, List.length_nil, Nat.add_eq, Nat.zero_add, Nat.add_zero]); first | done | omega | assumption | grind [getD_set, getD_rep, toNat_succ, cntN_yes, cntN_no])
           refine req_i ?_ ?_
           · -- r73
            first | omega | ((try simp only [Int.toNat_natCast, List.length_cons, List.length_nil]); first | done | omega | assumption | grind [getD_set, getD_rep, toNat_succ, cntN_yes, cntN_no])
           refine req_i ?_ ?_
           · -- r74
            first | omega | ((try simp only [Int.toNat_natCast, List.length_cons, List.length_nil, Nat.add_eq, Nat.zero_add, Nat.add_zero]); first | done | omega | assumption | grind [getD_set, getD_rep, toNat_succ, cntN_yes, cntN_no])
           refine bR_dec (fun h65 => ?_) (fun h65 => ?_)
           ·
            have oo := out n21.toNat (by omega) (by omega)
            refine req_i ?_ ?_
            · -- r75
             exfalso; (try simp only [Nat.add_eq, Nat.zero_add] at h65); exact h65 oo
            rfl
           ·
            refine bR_t ?_ ?_
            · -- g0
             first | rfl | (simp only [bR_iff, bR_iff_f, dec_iff, dec_f, beqB_iff', andB_iff', reduceCtorEq, imp_self, false_implies, and_true, true_and, implies_true, and_self]; done) | (simp [bR_iff, dec_iff, beqB_iff', andB_iff']; done) | (simp [bR_iff, dec_iff, beqB_iff', andB_iff']; omega)
            refine bR_t ?_ ?_
            · -- g1
             first | rfl | (simp only [bR_iff, bR_iff_f, dec_iff, dec_f, beqB_iff', andB_iff', reduceCtorEq, imp_self, false_implies, and_true, true_and, implies_true, and_self]; done) | (simp [bR_iff, dec_iff, beqB_iff', andB_iff']; done) | (simp [bR_iff, dec_iff, beqB_iff', andB_iff']; omega)
            refine req_i ?_ ?_
            · -- r76
             first | omega | assumption | grind
            refine req_i ?_ ?_
            · -- r77
             first | omega | assumption | grind
            refine req_i ?_ ?_
            · -- r78
             first | omega | ((try simp only [bkL, cB, bkInv, meaF, List.cons.injEq, DV.b.injEq, and_true, List.take_nil, List.take_zero, List.length_take, List.take_length, List.take_take, Nat.min_self, List.drop_nil, List.length_drop, List.drop_zero, List.length_cons, List.length_nil]); first | done | omega | assumption | grind [getD_set, getD_rep, toNat_succ, cntN_yes, cntN_no])
            refine req_i ?_ ?_
            · -- r79
             first | omega | ((try simp only [bkL, cB, bkInv, meaF, List.cons.injEq, DV.b.injEq, and_true, List.take_nil, List.take_zero, List.length_take, List.take_length, List.take_take, Nat.min_self, List.drop_nil, List.length_drop, List.drop_zero, List.length_cons, List.length_nil]); first | done | omega | assumption | grind [getD_set, getD_rep, toNat_succ, cntN_yes, cntN_no])
            rfl
          ·
           refine bR_dec (fun h66 => ?_) (fun h66 => ?_)
           ·
            refine req_i ?_ ?_
            · -- r80
             first | omega | ((try simp only [Int.toNat_natCast, List.length_cons, List.length_nil]); first | done | omega | assumption | grind [getD_set, getD_rep, toNat_succ, cntN_yes, cntN_no])
            refine req_i ?_ ?_
            · -- r81
             first | omega | ((try simp only [Int.toNat_natCast, List.length_cons, List.length_nil, Nat.add_eq, Nat.zero_add, Nat.add_zero]); first | done | omega | assumption | grind [getD_set, getD_rep, toNat_succ, cntN_yes, cntN_no])
            refine req_i ?_ ?_
            · -- r82
             first | omega | ((try simp only [Int.toNat_natCast, List.length_cons, List.length_nil]); first | done | omega | assumption | grind [getD_set, getD_rep, toNat_succ, cntN_yes, cntN_no])
            refine req_i ?_ ?_
            · -- r83
             first | omega | ((try simp only [Int.toNat_natCast, List.length_cons, List.length_nil, Nat.add_eq, Nat.zero_add, Nat.add_zero]); first | done | omega | assumption | grind [getD_set, getD_rep, toNat_succ, cntN_yes, cntN_no])
            refine bR_dec (fun h67 => ?_) (fun h67 => ?_)
            ·
             have oo := out n21.toNat (by omega) (by omega)
             refine req_i ?_ ?_
             · -- r84
              exfalso; (try simp only [Nat.add_eq, Nat.zero_add] at h67); exact h67 oo
             rfl
            ·
             refine bR_t ?_ ?_
             · -- g2
              first | rfl | (simp only [bR_iff, bR_iff_f, dec_iff, dec_f, beqB_iff', andB_iff', reduceCtorEq, imp_self, false_implies, and_true, true_and, implies_true, and_self]; done) | (simp [bR_iff, dec_iff, beqB_iff', andB_iff']; done) | (simp [bR_iff, dec_iff, beqB_iff', andB_iff']; omega)
             refine bR_t ?_ ?_
             · -- g3
              first | rfl | (simp only [bR_iff, bR_iff_f, dec_iff, dec_f, beqB_iff', andB_iff', reduceCtorEq, imp_self, false_implies, and_true, true_and, implies_true, and_self]; done) | (simp [bR_iff, dec_iff, beqB_iff', andB_iff']; done) | (simp [bR_iff, dec_iff, beqB_iff', andB_iff']; omega)
             refine req_i ?_ ?_
             · -- r85
              first | omega | assumption | grind
             refine req_i ?_ ?_
             · -- r86
              first | omega | assumption | grind
             refine req_i ?_ ?_
             · -- r87
              first | omega | ((try simp only [bkL, cB, bkInv, meaF, List.cons.injEq, DV.b.injEq, and_true, List.take_nil, List.take_zero, List.length_take, List.take_length, List.take_take, Nat.min_self, List.drop_nil, List.length_drop, List.drop_zero, List.length_cons, List.length_nil]); first | done | omega | assumption | grind [getD_set, getD_rep, toNat_succ, cntN_yes, cntN_no])
             refine req_i ?_ ?_
             · -- r88
              first | omega | ((try simp only [bkL, cB, bkInv, meaF, List.cons.injEq, DV.b.injEq, and_true, List.take_nil, List.take_zero, List.length_take, List.take_length, List.take_take, Nat.min_self, List.drop_nil, List.length_drop, List.drop_zero, List.length_cons, List.length_nil]); first | done | omega | assumption | grind [getD_set, getD_rep, toNat_succ, cntN_yes, cntN_no])
             rfl
           ·
            refine bR_t ?_ ?_
            · -- g4
             first | rfl | (simp only [bR_iff, bR_iff_f, dec_iff, dec_f, beqB_iff', andB_iff', reduceCtorEq, imp_self, false_implies, and_true, true_and, implies_true, and_self]; done) | (simp [bR_iff, dec_iff, beqB_iff', andB_iff']; done) | (simp [bR_iff, dec_iff, beqB_iff', andB_iff']; omega)
            refine bR_t ?_ ?_
            · -- g5
             first | rfl | (simp only [bR_iff, bR_iff_f, dec_iff, dec_f, beqB_iff', andB_iff', reduceCtorEq, imp_self, false_implies, and_true, true_and, implies_true, and_self]; done) | (simp [bR_iff, dec_iff, beqB_iff', andB_iff']; done) | (simp [bR_iff, dec_iff, beqB_iff', andB_iff']; omega)
            refine req_i ?_ ?_
            · -- r89
             first | omega | assumption | grind
            refine req_i ?_ ?_
            · -- r90
             first | omega | assumption | grind
            refine req_i ?_ ?_
            · -- r91
             first | omega | ((try simp only [bkL, cB, bkInv, meaF, List.cons.injEq, DV.b.injEq, and_true, List.take_nil, List.take_zero, List.length_take, List.take_length, List.take_take, Nat.min_self, List.drop_nil, List.length_drop, List.drop_zero, List.length_cons, List.length_nil]); first | done | omega | assumption | grind [getD_set, getD_rep, toNat_succ, cntN_yes, cntN_no])
            refine req_i ?_ ?_
            · -- r92
             first | omega | ((try simp only [bkL, cB, bkInv, meaF, List.cons.injEq, DV.b.injEq, and_true, List.take_nil, List.take_zero, List.length_take, List.take_length, List.take_take, Nat.min_self, List.drop_nil, List.length_drop, List.drop_zero, List.length_cons, List.length_nil]); first | done | omega | assumption | grind [getD_set, getD_rep, toNat_succ, cntN_yes, cntN_no])
            rfl
         ·
          refine req_i ?_ ?_
          · -- r93
           first | omega | ((try simp only [Nat.mul_eq]); first | done | omega | assumption | grind [getD_set, getD_rep, toNat_succ, cntN_yes, cntN_no])
          refine req_i ?_ ?_
          · -- r94
           first | omega | ((try simp only [Nat.zero_add]); first | done | omega | assumption | grind [getD_set, getD_rep, toNat_succ, cntN_yes, cntN_no])
          refine req_i ?_ ?_
          · -- r95
           first | omega | ((try simp only [List.take_nil, List.take_zero, List.length_take, List.take_length, List.take_take, Nat.min_self, List.drop_nil, List.length_drop, List.drop_zero, List.length_cons, List.length_nil]); first | done | omega | assumption | grind [getD_set, getD_rep, toNat_succ, cntN_yes, cntN_no])
          refine req_i ?_ ?_
          · -- r96
           first | assumption | exact rep_bd (by omega) (by omega) | exact set_bd (by assumption) (by omega) (by omega) | exact take_bd (by assumption) | ((try simp only [List.take_nil, List.take_zero, List.length_take, List.take_length, List.take_take, Nat.min_self, List.drop_nil, List.length_drop, List.drop_zero, List.length_cons, List.length_nil]); first | assumption | exact rep_bd (by omega) (by omega) | exact set_bd (by assumption) (by omega) (by omega) | exact take_bd (by assumption) | grind [getD_set, getD_rep, toNat_succ, cntN_yes, cntN_no])
          refine req_i ?_ ?_
          · -- r97
           first | omega | assumption | grind
          refine req_i ?_ ?_
          · -- r98
           first | omega | assumption | grind
          refine req_i ?_ ?_
          · -- r99
           first | omega | assumption | grind
          refine req_i ?_ ?_
          · -- r100
           first | omega | assumption | grind
          refine req_i ?_ ?_
          · -- r101
           first | omega | assumption | grind
          refine req_i ?_ ?_
          · -- r102
           first | omega | assumption | grind
          refine req_i ?_ ?_
          · -- r103
           first | omega | assumption | grind
          refine req_i ?_ ?_
          · -- r104
           first | omega | assumption | grind
          refine req_i ?_ ?_
          · -- r105
           first | omega | ((try simp only [sigGet, cL, fV, lB, getPost, plErr, okL, okF, List.cons.injEq, DV.b.injEq, and_true, List.take_nil, List.take_zero, List.length_take, List.take_length, List.take_take, Nat.min_self, List.drop_nil, List.length_drop, List.drop_zero, List.length_cons, List.length_nil]); first | done | omega | assumption | grind [getD_set, getD_rep, toNat_succ, cntN_yes, cntN_no])
          refine all_i fun n22 => ?_
          refine imp_i fun h68 => ?_
          refine imp_i fun h69 => ?_
          refine all_i fun n23 => ?_
          refine imp_i fun h70 => ?_
          refine imp_i fun h71 => ?_
          refine imp_i fun h72 => ?_
          try simp only [Int.toNat_natCast, List.length_set, List.length_replicate, List.length_take, List.length_drop, List.length_append, List.length_cons, List.length_nil, Nat.min_self, List.take_take, lenCols_i, lenCols_b, List.drop_zero, List.take_length, List.take_nil, List.drop_nil, List.take_zero, List.nil_append, Nat.add_eq, Nat.mul_eq, Nat.sub_eq, Nat.zero_add, Nat.add_zero, Nat.sub_zero, Nat.mul_one] at h72
          have okl2 : okL l15 n4 n5 n7 n8 := ⟨okf, by omega, put_form (l := l14) (by omega) pp⟩
          have bk := put_back (g := b6) (by omega) h13 h14 (by omega) pp iv2.2.2.1 iv2.2.2.2
          obtain ⟨e22, e23⟩ : n22 = n8 + rawN (n9 + n13) n8 n7 * n7 ∧ n23 = 0 := by
            rcases h72 with ⟨o, _⟩ | ⟨_, a, b⟩
            · exact (pl_not o okl2).elim
            · exact ⟨by rw [a, bk], b⟩
          refine req_i ?_ ?_
          · -- r106
           first | omega | ((try simp only [Nat.mul_eq]); first | done | omega | assumption | grind [getD_set, getD_rep, toNat_succ, cntN_yes, cntN_no])
          refine req_i ?_ ?_
          · -- r107
           first | omega | ((try simp only [Nat.zero_add]); first | done | omega | assumption | grind [getD_set, getD_rep, toNat_succ, cntN_yes, cntN_no])
          refine req_i ?_ ?_
          · -- r108
           first | omega | ((try simp only [List.take_nil, List.take_zero, List.length_take, List.take_length, List.take_take, Nat.min_self, List.drop_nil, List.length_drop, List.drop_zero, List.length_cons, List.length_nil]); first | done | omega | assumption | grind [getD_set, getD_rep, toNat_succ, cntN_yes, cntN_no])
          refine req_i ?_ ?_
          · -- r109
           first | assumption | exact rep_bd (by omega) (by omega) | exact set_bd (by assumption) (by omega) (by omega) | exact take_bd (by assumption) | ((try simp only [List.take_nil, List.take_zero, List.length_take, List.take_length, List.take_take, Nat.min_self, List.drop_nil, List.length_drop, List.drop_zero, List.length_cons, List.length_nil]); first | assumption | exact rep_bd (by omega) (by omega) | exact set_bd (by assumption) (by omega) (by omega) | exact take_bd (by assumption) | grind [getD_set, getD_rep, toNat_succ, cntN_yes, cntN_no])
          refine req_i ?_ ?_
          · -- r110
           first | omega | assumption | grind
          refine req_i ?_ ?_
          · -- r111
           first | omega | assumption | grind
          refine req_i ?_ ?_
          · -- r112
           first | omega | assumption | grind
          refine req_i ?_ ?_
          · -- r113
           first | omega | assumption | grind
          refine req_i ?_ ?_
          · -- r114
           first | omega | assumption | grind
          refine req_i ?_ ?_
          · -- r115
           first | omega | assumption | grind
          refine req_i ?_ ?_
          · -- r116
           first | omega | assumption | grind
          refine req_i ?_ ?_
          · -- r117
           first | omega | assumption | grind
          refine req_i ?_ ?_
          · -- r118
           first | omega | assumption | grind
          refine req_i ?_ ?_
          · -- r119
           first | omega | assumption | grind
          refine req_i ?_ ?_
          · -- r120
           first | omega | ((try simp only [sigPut, cL, fV, putPost, plErr, okL, inV, okF, List.cons.injEq, DV.b.injEq, and_true, List.take_nil, List.take_zero, List.length_take, List.take_length, List.take_take, Nat.min_self, List.drop_nil, List.length_drop, List.drop_zero, List.length_cons, List.length_nil]); first | done | omega | assumption | grind [getD_set, getD_rep, toNat_succ, cntN_yes, cntN_no])
          refine all_i fun l24 => ?_
          refine imp_i fun h73 => ?_
          refine imp_i fun h74 => ?_
          refine all_i fun n25 => ?_
          refine imp_i fun h75 => ?_
          refine imp_i fun h76 => ?_
          refine imp_i fun h77 => ?_
          try simp only [Int.toNat_natCast, List.length_set, List.length_replicate, List.length_take, List.length_drop, List.length_append, List.length_cons, List.length_nil, Nat.min_self, List.take_take, lenCols_i, lenCols_b, List.drop_zero, List.take_length, List.take_nil, List.drop_nil, List.take_zero, List.nil_append, Nat.add_eq, Nat.mul_eq, Nat.sub_eq, Nat.zero_add, Nat.add_zero, Nat.sub_zero, Nat.mul_one] at h77
          have rs := rawN_self (n := rawN (n9 + n13) n8 n7) (s := n8) (u := n7) (by omega)
          have iv3 : inV n5 b6 n7 n8 n22 := ⟨by omega, by omega, by rw [e22, rs]; exact iv2.2.2⟩
          obtain ⟨p3, e25⟩ : putP l15 n4 n5 (rawN n22 n8 n7) l24 ∧ n25 = 0 := by
            rcases h77 with ⟨o, _⟩ | ⟨_, a, _⟩ | ⟨_, _, a, b⟩
            · exact (pl_not o okl2).elim
            · exact absurd iv3 a
            · exact ⟨a, b⟩
          rw [e22, rs] at p3
          have same := put_same pp p3
          refine bR_dec (fun h78 => ?_) (fun h78 => ?_)
          ·
           refine bR_dec (fun h79 => ?_) (fun h79 => ?_)
           ·
            refine all_i fun n26 => ?_
            refine imp_i fun h80 => ?_
            simp only [wrap_i64] at h80
            replace h80 : n26 = 2 * (n22 - (n9 + n13)) := by (try simp only [wrap_i64] at h80); omega
            refine imp_i fun h81 => ?_
            refine imp_i fun h82 => ?_
            refine bR_dec (fun h83 => ?_) (fun h83 => ?_)
            ·
             refine all_i fun n27 => ?_
             refine imp_i fun h84 => ?_
             simp only [wrap_i64] at h84
             replace h84 : n27 = 2 * (n9 + n13 - n22) := by (try simp only [wrap_i64] at h84); omega
             refine imp_i fun h85 => ?_
             refine imp_i fun h86 => ?_
             refine bR_dec (fun h87 => ?_) (fun h87 => ?_)
             ·
              refine bR_dec (fun h88 => ?_) (fun h88 => ?_)
              ·
               refine bR_dec (fun h89 => ?_) (fun h89 => ?_)
               ·
                refine req_i ?_ ?_
                · -- r121
                 first | omega | ((try simp only [Nat.mul_eq]); first | done | omega | assumption | grind [getD_set, getD_rep, toNat_succ, cntN_yes, cntN_no])
                refine req_i ?_ ?_
                · -- r122
                 first | omega | ((try simp only [Nat.zero_add]); first | done | omega | assumption | grind [getD_set, getD_rep, toNat_succ, cntN_yes, cntN_no])
                refine req_i ?_ ?_
                · -- r123
                 first | omega | ((try simp only [List.take_nil, List.take_zero, List.length_take, List.take_length, List.take_take, Nat.min_self, List.drop_nil, List.length_drop, List.drop_zero, List.length_cons, List.length_nil]); first | done | omega | assumption | grind [getD_set, getD_rep, toNat_succ, cntN_yes, cntN_no])
                refine req_i ?_ ?_
                · -- r124
                 first | assumption | exact rep_bd (by omega) (by omega) | exact set_bd (by assumption) (by omega) (by omega) | exact take_bd (by assumption) | ((try simp only [List.take_nil, List.take_zero, List.length_take, List.take_length, List.take_take, Nat.min_self, List.drop_nil, List.length_drop, List.drop_zero, List.length_cons, List.length_nil]); first | assumption | exact rep_bd (by omega) (by omega) | exact set_bd (by assumption) (by omega) (by omega) | exact take_bd (by assumption) | grind [getD_set, getD_rep, toNat_succ, cntN_yes, cntN_no])
                refine req_i ?_ ?_
                · -- r125
                 first | omega | ((try simp only [Nat.mul_eq]); first | done | omega | assumption | grind [getD_set, getD_rep, toNat_succ, cntN_yes, cntN_no])
                refine req_i ?_ ?_
                · -- r126
                 first | omega | ((try simp only [Nat.zero_add]); first | done | omega | assumption | grind [getD_set, getD_rep, toNat_succ, cntN_yes, cntN_no])
                refine req_i ?_ ?_
                · -- r127
                 first | omega | ((try simp only [List.take_nil, List.take_zero, List.length_take, List.take_length, List.take_take, Nat.min_self, List.drop_nil, List.length_drop, List.drop_zero, List.length_cons, List.length_nil]); first | done | omega | assumption | grind [getD_set, getD_rep, toNat_succ, cntN_yes, cntN_no])
                refine req_i ?_ ?_
                · -- r128
                 first | assumption | exact rep_bd (by omega) (by omega) | exact set_bd (by assumption) (by omega) (by omega) | exact take_bd (by assumption) | ((try simp only [List.take_nil, List.take_zero, List.length_take, List.take_length, List.take_take, Nat.min_self, List.drop_nil, List.length_drop, List.drop_zero, List.length_cons, List.length_nil]); first | assumption | exact rep_bd (by omega) (by omega) | exact set_bd (by assumption) (by omega) (by omega) | exact take_bd (by assumption) | grind [getD_set, getD_rep, toNat_succ, cntN_yes, cntN_no])
                refine req_i ?_ ?_
                · -- r129
                 first | omega | ((try simp only [sigAl, cL, alP, List.cons.injEq, DV.b.injEq, and_true, List.take_nil, List.take_zero, List.length_take, List.take_length, List.take_take, Nat.min_self, List.drop_nil, List.length_drop, List.drop_zero, List.length_cons, List.length_nil]); first | done | omega | assumption | grind [getD_set, getD_rep, toNat_succ, cntN_yes, cntN_no])
                refine all_i fun b28 => ?_
                refine imp_i fun h90 => ?_
                try simp only [sigAl, cL, alP, List.cons.injEq, DV.b.injEq, and_true, List.take_nil, List.take_zero, List.length_take, List.take_length, List.take_take, Nat.min_self, List.drop_nil, List.length_drop, List.drop_zero, List.length_cons, List.length_nil] at h90
                refine bR_i (fun h91 => ?_) (fun h91 => ?_)
                ·
                 refine req_i ?_ ?_
                 · -- r130
                  first | omega | assumption | grind
                 refine all_i fun b29 => ?_
                 refine imp_i fun h92 => ?_
                 try simp only [sigTrue0, List.cons.injEq, DV.b.injEq, and_true, List.length_cons, List.length_nil] at h92
                 refine req_i ?_ ?_
                 · -- r131
                  first | omega | ((try simp only [sigBack, cAny, List.cons.injEq, DV.b.injEq, and_true, List.length_cons, List.length_nil]); first | done | omega | assumption | grind [getD_set, getD_rep, toNat_succ, cntN_yes, cntN_no])
                 rfl
                ·
                 refine req_i ?_ ?_
                 · -- r132
                  rw [h90.2 same] at h91; cases h91
                 rfl
               ·
                refine req_i ?_ ?_
                · -- r133
                 first | omega | ((try simp only [sigBack, cAny, List.cons.injEq, DV.b.injEq, and_true, List.length_cons, List.length_nil]); first | done | omega | assumption | grind [getD_set, getD_rep, toNat_succ, cntN_yes, cntN_no])
                rfl
              ·
               refine req_i ?_ ?_
               · -- r134
                first | omega | ((try simp only [sigBack, cAny, List.cons.injEq, DV.b.injEq, and_true, List.length_cons, List.length_nil]); first | done | omega | assumption | grind [getD_set, getD_rep, toNat_succ, cntN_yes, cntN_no])
               rfl
             ·
              refine req_i ?_ ?_
              · -- r135
               first | omega | ((try simp only [sigBack, cAny, List.cons.injEq, DV.b.injEq, and_true, List.length_cons, List.length_nil]); first | done | omega | assumption | grind [getD_set, getD_rep, toNat_succ, cntN_yes, cntN_no])
              rfl
            ·
             refine req_i ?_ ?_
             · -- r136
              first | omega | ((try simp only [sigBack, cAny, List.cons.injEq, DV.b.injEq, and_true, List.length_cons, List.length_nil]); first | done | omega | assumption | grind [getD_set, getD_rep, toNat_succ, cntN_yes, cntN_no])
             rfl
           ·
            refine req_i ?_ ?_
            · -- r137
             first | omega | ((try simp only [sigBack, cAny, List.cons.injEq, DV.b.injEq, and_true, List.length_cons, List.length_nil]); first | done | omega | assumption | grind [getD_set, getD_rep, toNat_succ, cntN_yes, cntN_no])
            rfl
          ·
           refine req_i ?_ ?_
           · -- r138
            first | omega | ((try simp only [sigBack, cAny, List.cons.injEq, DV.b.injEq, and_true, List.length_cons, List.length_nil]); first | done | omega | assumption | grind [getD_set, getD_rep, toNat_succ, cntN_yes, cntN_no])
           rfl
    ·
     refine bR_dec (fun h93 => ?_) (fun h93 => ?_)
     ·
      refine req_i ?_ ?_
      · -- r139
       first | omega | assumption | grind
      refine req_i ?_ ?_
      · -- r140
       first | omega | assumption | grind
      refine req_i ?_ ?_
      · -- r141
       first | omega | assumption | grind
      refine req_i ?_ ?_
      · -- r142
       first | omega | assumption | grind
      refine req_i ?_ ?_
      · -- r143
       first | trivial | assumption | (simp only [sigBl, blPost, List.cons.injEq, DV.b.injEq, and_true, List.length_cons, List.length_nil]; done) | ((try simp only [sigBl, blPost, List.cons.injEq, DV.b.injEq, and_true, List.length_cons, List.length_nil]); first | omega | assumption | grind)
      refine all_i fun n30 => ?_
      refine imp_i fun h94 => ?_
      refine imp_i fun h95 => ?_
      refine imp_i fun h96 => ?_
      try simp only [sigBl, blPost, List.cons.injEq, DV.b.injEq, and_true, List.length_cons, List.length_nil] at h96
      refine req_i ?_ ?_
      · -- r144
       first | omega | ((try simp only [Nat.mul_eq]); first | done | omega | assumption | grind [getD_set, getD_rep, toNat_succ, cntN_yes, cntN_no])
      refine req_i ?_ ?_
      · -- r145
       first | omega | ((try simp only [Nat.zero_add]); first | done | omega | assumption | grind [getD_set, getD_rep, toNat_succ, cntN_yes, cntN_no])
      refine req_i ?_ ?_
      · -- r146
       first | omega | ((try simp only [List.take_nil, List.take_zero, List.length_take, List.take_length, List.take_take, Nat.min_self, List.drop_nil, List.length_drop, List.drop_zero, List.length_cons, List.length_nil]); first | done | omega | assumption | grind [getD_set, getD_rep, toNat_succ, cntN_yes, cntN_no])
      refine req_i ?_ ?_
      · -- r147
       first | assumption | exact rep_bd (by omega) (by omega) | exact set_bd (by assumption) (by omega) (by omega) | exact take_bd (by assumption) | ((try simp only [List.take_nil, List.take_zero, List.length_take, List.take_length, List.take_take, Nat.min_self, List.drop_nil, List.length_drop, List.drop_zero, List.length_cons, List.length_nil]); first | assumption | exact rep_bd (by omega) (by omega) | exact set_bd (by assumption) (by omega) (by omega) | exact take_bd (by assumption) | grind [getD_set, getD_rep, toNat_succ, cntN_yes, cntN_no])
      refine req_i ?_ ?_
      · -- r148
       first | omega | assumption | grind
      refine req_i ?_ ?_
      · -- r149
       first | omega | assumption | grind
      refine req_i ?_ ?_
      · -- r150
       first | trivial | assumption | (simp only [sigCo, cAny, cB, coPost, List.cons.injEq, DV.b.injEq, and_true, List.take_nil, List.take_zero, List.length_take, List.take_length, List.take_take, Nat.min_self, List.drop_nil, List.length_drop, List.drop_zero, List.length_cons, List.length_nil]; done) | ((try simp only [sigCo, cAny, cB, coPost, List.cons.injEq, DV.b.injEq, and_true, List.take_nil, List.take_zero, List.length_take, List.take_length, List.take_take, Nat.min_self, List.drop_nil, List.length_drop, List.drop_zero, List.length_cons, List.length_nil]); first | omega | assumption | grind)
      refine all_i fun l31 => ?_
      refine imp_i fun h97 => ?_
      refine imp_i fun h98 => ?_
      refine imp_i fun h99 => ?_
      try simp only [sigCo, cAny, cB, coPost, List.cons.injEq, DV.b.injEq, and_true, List.take_nil, List.take_zero, List.length_take, List.take_length, List.take_take, Nat.min_self, List.drop_nil, List.length_drop, List.drop_zero, List.length_cons, List.length_nil] at h99
      refine req_i ?_ ?_
      · -- r151
       first | omega | ((try simp only [Nat.mul_eq]); first | done | omega | assumption | grind [getD_set, getD_rep, toNat_succ, cntN_yes, cntN_no])
      refine req_i ?_ ?_
      · -- r152
       first | omega | ((try simp only [Nat.zero_add]); first | done | omega | assumption | grind [getD_set, getD_rep, toNat_succ, cntN_yes, cntN_no])
      refine req_i ?_ ?_
      · -- r153
       first | omega | ((try simp only [List.take_nil, List.take_zero, List.length_take, List.take_length, List.take_take, Nat.min_self, List.drop_nil, List.length_drop, List.drop_zero, List.length_cons, List.length_nil]); first | done | omega | assumption | grind [getD_set, getD_rep, toNat_succ, cntN_yes, cntN_no])
      refine req_i ?_ ?_
      · -- r154
       first | assumption | exact rep_bd (by omega) (by omega) | exact set_bd (by assumption) (by omega) (by omega) | exact take_bd (by assumption) | ((try simp only [List.take_nil, List.take_zero, List.length_take, List.take_length, List.take_take, Nat.min_self, List.drop_nil, List.length_drop, List.drop_zero, List.length_cons, List.length_nil]); first | assumption | exact rep_bd (by omega) (by omega) | exact set_bd (by assumption) (by omega) (by omega) | exact take_bd (by assumption) | grind [getD_set, getD_rep, toNat_succ, cntN_yes, cntN_no])
      refine req_i ?_ ?_
      · -- r155
       first | omega | assumption | grind
      refine req_i ?_ ?_
      · -- r156
       first | omega | assumption | grind
      refine req_i ?_ ?_
      · -- r157
       first | omega | assumption | grind
      refine req_i ?_ ?_
      · -- r158
       first | omega | assumption | grind
      refine req_i ?_ ?_
      · -- r159
       first | omega | assumption | grind
      refine req_i ?_ ?_
      · -- r160
       first | omega | assumption | grind
      refine req_i ?_ ?_
      · -- r161
       first | omega | assumption | grind
      refine req_i ?_ ?_
      · -- r162
       first | omega | assumption | grind
      refine req_i ?_ ?_
      · -- r163
       first | omega | assumption | grind
      refine req_i ?_ ?_
      · -- r164
       first | omega | assumption | grind
      refine req_i ?_ ?_
      · -- r165
       first | omega | ((try simp only [sigPut, cL, fV, putPost, plErr, okL, inV, okF, List.cons.injEq, DV.b.injEq, and_true, List.take_nil, List.take_zero, List.length_take, List.take_length, List.take_take, Nat.min_self, List.drop_nil, List.length_drop, List.drop_zero, List.length_cons, List.length_nil]); first | done | omega | assumption | grind [getD_set, getD_rep, toNat_succ, cntN_yes, cntN_no])
      refine all_i fun l32 => ?_
      refine imp_i fun h100 => ?_
      refine imp_i fun h101 => ?_
      refine all_i fun n33 => ?_
      refine imp_i fun h102 => ?_
      refine imp_i fun h103 => ?_
      refine imp_i fun h104 => ?_
      try simp only [Int.toNat_natCast, List.length_set, List.length_replicate, List.length_take, List.length_drop, List.length_append, List.length_cons, List.length_nil, Nat.min_self, List.take_take, lenCols_i, lenCols_b, List.drop_zero, List.take_length, List.take_nil, List.drop_nil, List.take_zero, List.nil_append, Nat.add_eq, Nat.mul_eq, Nat.sub_eq, Nat.zero_add, Nat.add_zero, Nat.sub_zero, Nat.mul_one] at h104
      have cl : (l31.length : Int) = n4 + n5 + 3 := by omega
      have fb14 : formB l31 n4 n5 := fun j _ _ => by have := getD_bd (i := j) h98 (by omega) (by omega); omega
      have okl : okL l31 n4 n5 n7 n8 := ⟨okf, by omega, fb14⟩
      have P : (¬inV n5 b6 n7 n8 (n9 + n30) ∧ l32 = [] ∧ n33 = 5) ∨ (inV n5 b6 n7 n8 (n9 + n30) ∧ putP l31 n4 n5 (rawN (n9 + n30) n8 n7) l32 ∧ n33 = 0) := by
        rcases h104 with ⟨o, _⟩ | ⟨_, a, b, c⟩ | ⟨_, a, b, c⟩
        · exact (pl_not o okl).elim
        · exact .inl ⟨a, b, c⟩
        · exact .inr ⟨a, b, c⟩
      have nr := rawN_near (v := n9 + n30) (s := n8) (u := n7) (by omega)
      refine bR_dec (fun h105 => ?_) (fun h105 => ?_)
      ·
       obtain ⟨nv, e15, e16⟩ : ¬inV n5 b6 n7 n8 (n9 + n30) ∧ l32 = [] ∧ n33 = 5 := by
         rcases P with h | ⟨_, _, c⟩
         · exact h
         · omega
       have k15 : l32.length = 0 := by rw [e15]; rfl
       have nr2 : ¬(n9 ≤ n9 + n30 ∧ n9 + n30 ≤ n10) := fun g => nv ⟨by omega, by omega, raw_range (by omega) (by omega) (by omega)⟩
       refine bR_dec (fun h106 => ?_) (fun h106 => ?_)
       ·
        refine bR_dec (fun h107 => ?_) (fun h107 => ?_)
        ·
         refine bR_dec (fun h108 => ?_) (fun h108 => ?_)
         ·
          refine req_i ?_ ?_
          · -- r166
           first | omega | assumption | grind
          refine all_i fun b34 => ?_
          refine imp_i fun h109 => ?_
          try simp only [sigTrue0, List.cons.injEq, DV.b.injEq, and_true, List.length_cons, List.length_nil] at h109
          refine req_i ?_ ?_
          · -- r167
           first | omega | ((try simp only [sigBack, cAny, List.cons.injEq, DV.b.injEq, and_true, List.length_cons, List.length_nil]); first | done | omega | assumption | grind [getD_set, getD_rep, toNat_succ, cntN_yes, cntN_no])
          rfl
         ·
          refine bR_dec (fun h110 => ?_) (fun h110 => ?_)
          ·
           refine req_i ?_ ?_
           · -- r168
            first | omega | assumption | grind
           refine all_i fun b35 => ?_
           refine imp_i fun h111 => ?_
           try simp only [sigTrue0, List.cons.injEq, DV.b.injEq, and_true, List.length_cons, List.length_nil] at h111
           refine req_i ?_ ?_
           · -- r169
            first | omega | ((try simp only [sigBack, cAny, List.cons.injEq, DV.b.injEq, and_true, List.length_cons, List.length_nil]); first | done | omega | assumption | grind [getD_set, getD_rep, toNat_succ, cntN_yes, cntN_no])
           rfl
          ·
           refine req_i ?_ ?_
           · -- r170
            first | omega | ((try simp only [sigBack, cAny, List.cons.injEq, DV.b.injEq, and_true, List.length_cons, List.length_nil]); first | done | omega | assumption | grind [getD_set, getD_rep, toNat_succ, cntN_yes, cntN_no])
           rfl
        ·
         refine req_i ?_ ?_
         · -- r171
          first | omega | ((try simp only [sigBack, cAny, List.cons.injEq, DV.b.injEq, and_true, List.length_cons, List.length_nil]); first | done | omega | assumption | grind [getD_set, getD_rep, toNat_succ, cntN_yes, cntN_no])
         rfl
       ·
        refine req_i ?_ ?_
        · -- r172
         first | omega | ((try simp only [sigBack, cAny, List.cons.injEq, DV.b.injEq, and_true, List.length_cons, List.length_nil]); first | done | omega | assumption | grind [getD_set, getD_rep, toNat_succ, cntN_yes, cntN_no])
        rfl
      ·
       obtain ⟨iv, pp, e16⟩ : inV n5 b6 n7 n8 (n9 + n30) ∧ putP l31 n4 n5 (rawN (n9 + n30) n8 n7) l32 ∧ n33 = 0 := by
         rcases P with ⟨_, _, c⟩ | h
         · omega
         · exact h
       have iv2 := iv
       unfold inV at iv2
       have l15e := pp.1
       have m2 := raw_mono (u := n7) (by omega) iv2.2.2.1
       have m3 := raw_mono (u := n7) (by omega) iv2.2.2.2
       have out : ∀ j : Nat, j < l31.length → ¬(n4 ≤ (j : Int) ∧ (j : Int) < n4 + n5) → l32.getD j 0 = l31.getD j 0 := fun j hj hn => by rw [pp.2 j hj, if_neg hn]
       refine bR_dec (fun h112 => ?_) (fun h112 => ?_)
       ·
        refine req_i ?_ ?_
        · -- r173
         first | omega | ((try simp only [sigBack, cAny, List.cons.injEq, DV.b.injEq, and_true, List.length_cons, List.length_nil]); first | done | omega | assumption | grind [getD_set, getD_rep, toNat_succ, cntN_yes, cntN_no])
        rfl
       ·
        refine all_i fun n36 => ?_
        refine imp_i fun h113 => ?_
        simp only [wrap_i64] at h113
        replace h113 : n36 = 2 * (n9 - (n9 + n30)) := by (try simp only [wrap_i64] at h113); omega
        refine imp_i fun h114 => ?_
        refine imp_i fun h115 => ?_
        refine bR_dec (fun h116 => ?_) (fun h116 => ?_)
        ·
         refine req_i ?_ ?_
         · -- r174
          first | omega | ((try simp only [sigBack, cAny, List.cons.injEq, DV.b.injEq, and_true, List.length_cons, List.length_nil]); first | done | omega | assumption | grind [getD_set, getD_rep, toNat_succ, cntN_yes, cntN_no])
         rfl
        ·
         refine all_i fun n37 => ?_
         refine imp_i fun h117 => ?_
         simp only [wrap_i64] at h117
         replace h117 : n37 = 2 * (n9 + n30 - n10) := by (try simp only [wrap_i64] at h117); omega
         refine imp_i fun h118 => ?_
         refine imp_i fun h119 => ?_
         refine bR_dec (fun h120 => ?_) (fun h120 => ?_)
         ·
          refine req_i ?_ ?_
          · -- r175
           first | omega | ((try simp only [sigBack, cAny, List.cons.injEq, DV.b.injEq, and_true, List.length_cons, List.length_nil]); first | done | omega | assumption | grind [getD_set, getD_rep, toNat_succ, cntN_yes, cntN_no])
          rfl
         ·
          refine req_i ?_ ?_
          · -- r176
           first | omega | ((try simp only [Nat.mul_eq]); first | done | omega | assumption | grind [getD_set, getD_rep, toNat_succ, cntN_yes, cntN_no])
          refine req_i ?_ ?_
          · -- r177
           first | omega | ((try simp only [Nat.zero_add]); first | done | omega | assumption | grind [getD_set, getD_rep, toNat_succ, cntN_yes, cntN_no])
          refine req_i ?_ ?_
          · -- r178
           first | omega | ((try simp only [List.take_nil, List.take_zero, List.length_take, List.take_length, List.take_take, Nat.min_self, List.drop_nil, List.length_drop, List.drop_zero, List.length_cons, List.length_nil]); first | done | omega | assumption | grind [getD_set, getD_rep, toNat_succ, cntN_yes, cntN_no])
          refine req_i ?_ ?_
          · -- r179
           first | assumption | exact rep_bd (by omega) (by omega) | exact set_bd (by assumption) (by omega) (by omega) | exact take_bd (by assumption) | ((try simp only [List.take_nil, List.take_zero, List.length_take, List.take_length, List.take_take, Nat.min_self, List.drop_nil, List.length_drop, List.drop_zero, List.length_cons, List.length_nil]); first | assumption | exact rep_bd (by omega) (by omega) | exact set_bd (by assumption) (by omega) (by omega) | exact take_bd (by assumption) | grind [getD_set, getD_rep, toNat_succ, cntN_yes, cntN_no])
          refine req_i ?_ ?_
          · -- r180
           first | omega | ((try simp only [bkL, cB, bkInv, meaF, List.cons.injEq, DV.b.injEq, and_true, List.take_nil, List.take_zero, List.length_take, List.take_length, List.take_take, Nat.min_self, List.drop_nil, List.length_drop, List.drop_zero, List.length_cons, List.length_nil]); first | done | omega | assumption | grind [getD_set, getD_rep, toNat_succ, cntN_yes, cntN_no])
          refine all_i fun n38 => ?_
          refine imp_i fun h121 => ?_
          refine imp_i fun h122 => ?_
          refine imp_i fun h123 => ?_
          try simp only [bkL, cB, bkInv, meaF, List.cons.injEq, DV.b.injEq, and_true, List.take_nil, List.take_zero, List.length_take, List.take_length, List.take_take, Nat.min_self, List.drop_nil, List.length_drop, List.drop_zero, List.length_cons, List.length_nil] at h123
          refine bR_dec (fun h124 => ?_) (fun h124 => ?_)
          ·
           refine bR_dec (fun h125 => ?_) (fun h125 => ?_)
           ·
            refine req_i ?_ ?_
            · -- r181
             first | omega | ((try simp only [Int.toNat_natCast, List.length_cons, List.length_nil]); first | done | omega | assumption | grind [getD_set, getD_rep, toNat_succ, cntN_yes, cntN_no])
            refine req_i ?_ ?_
            · -- r182
             first | omega | ((try simp only [Int.toNat_natCast, List.length_cons, List.length_nil, Nat.add_eq, Nat.zero_add, Nat.add_zero]); first | done | omega | assumption | grind [getD_set, getD_rep, toNat_succ, cntN_yes, cntN_no])
            refine req_i ?_ ?_
            · -- r183
             first | omega | ((try simp only [Int.toNat_natCast, List.length_cons, List.length_nil]); first | done | omega | assumption | grind [getD_set, getD_rep, toNat_succ, cntN_yes, cntN_no])
            refine req_i ?_ ?_
            · -- r184
             first | omega | ((try simp only [Int.toNat_natCast, List.length_cons, List.length_nil, Nat.add_eq, Nat.zero_add, Nat.add_zero]); first | done | omega | assumption | grind [getD_set, getD_rep, toNat_succ, cntN_yes, cntN_no])
            refine bR_dec (fun h126 => ?_) (fun h126 => ?_)
            ·
             have oo := out n38.toNat (by omega) (by omega)
             refine req_i ?_ ?_
             · -- r185
              exfalso; (try simp only [Nat.add_eq, Nat.zero_add] at h126); exact h126 oo
             rfl
            ·
             refine bR_t ?_ ?_
             · -- g6
              first | rfl | (simp only [bR_iff, bR_iff_f, dec_iff, dec_f, beqB_iff', andB_iff', reduceCtorEq, imp_self, false_implies, and_true, true_and, implies_true, and_self]; done) | (simp [bR_iff, dec_iff, beqB_iff', andB_iff']; done) | (simp [bR_iff, dec_iff, beqB_iff', andB_iff']; omega)
             refine bR_t ?_ ?_
             · -- g7
              first | rfl | (simp only [bR_iff, bR_iff_f, dec_iff, dec_f, beqB_iff', andB_iff', reduceCtorEq, imp_self, false_implies, and_true, true_and, implies_true, and_self]; done) | (simp [bR_iff, dec_iff, beqB_iff', andB_iff']; done) | (simp [bR_iff, dec_iff, beqB_iff', andB_iff']; omega)
             refine req_i ?_ ?_
             · -- r186
              first | omega | assumption | grind
             refine req_i ?_ ?_
             · -- r187
              first | omega | assumption | grind
             refine req_i ?_ ?_
             · -- r188
              first | omega | ((try simp only [bkL, cB, bkInv, meaF, List.cons.injEq, DV.b.injEq, and_true, List.take_nil, List.take_zero, List.length_take, List.take_length, List.take_take, Nat.min_self, List.drop_nil, List.length_drop, List.drop_zero, List.length_cons, List.length_nil]); first | done | omega | assumption | grind [getD_set, getD_rep, toNat_succ, cntN_yes, cntN_no])
             refine req_i ?_ ?_
             · -- r189
              first | omega | ((try simp only [bkL, cB, bkInv, meaF, List.cons.injEq, DV.b.injEq, and_true, List.take_nil, List.take_zero, List.length_take, List.take_length, List.take_take, Nat.min_self, List.drop_nil, List.length_drop, List.drop_zero, List.length_cons, List.length_nil]); first | done | omega | assumption | grind [getD_set, getD_rep, toNat_succ, cntN_yes, cntN_no])
             rfl
           ·
            refine bR_dec (fun h127 => ?_) (fun h127 => ?_)
            ·
             refine req_i ?_ ?_
             · -- r190
              first | omega | ((try simp only [Int.toNat_natCast, List.length_cons, List.length_nil]); first | done | omega | assumption | grind [getD_set, getD_rep, toNat_succ, cntN_yes, cntN_no])
             refine req_i ?_ ?_
             · -- r191
              first | omega | ((try simp only [Int.toNat_natCast, List.length_cons, List.length_nil, Nat.add_eq, Nat.zero_add, Nat.add_zero]); first | done | omega | assumption | grind [getD_set, getD_rep, toNat_succ, cntN_yes, cntN_no])
             refine req_i ?_ ?_
             · -- r192
              first | omega | ((try simp only [Int.toNat_natCast, List.length_cons, List.length_nil]); first | done | omega | assumption | grind [getD_set, getD_rep, toNat_succ, cntN_yes, cntN_no])
             refine req_i ?_ ?_
             · -- r193
              first | omega | ((try simp only [Int.toNat_natCast, List.length_cons, List.length_nil, Nat.add_eq, Nat.zero_add, Nat.add_zero]); first | done | omega | assumption | grind [getD_set, getD_rep, toNat_succ, cntN_yes, cntN_no])
             refine bR_dec (fun h128 => ?_) (fun h128 => ?_)
             ·
              have oo := out n38.toNat (by omega) (by omega)
              refine req_i ?_ ?_
              · -- r194
               exfalso; (try simp only [Nat.add_eq, Nat.zero_add] at h128); exact h128 oo
              rfl
             ·
              refine bR_t ?_ ?_
              · -- g8
               first | rfl | (simp only [bR_iff, bR_iff_f, dec_iff, dec_f, beqB_iff', andB_iff', reduceCtorEq, imp_self, false_implies, and_true, true_and, implies_true, and_self]; done) | (simp [bR_iff, dec_iff, beqB_iff', andB_iff']; done) | (simp [bR_iff, dec_iff, beqB_iff', andB_iff']; omega)
              refine bR_t ?_ ?_
              · -- g9
               first | rfl | (simp only [bR_iff, bR_iff_f, dec_iff, dec_f, beqB_iff', andB_iff', reduceCtorEq, imp_self, false_implies, and_true, true_and, implies_true, and_self]; done) | (simp [bR_iff, dec_iff, beqB_iff', andB_iff']; done) | (simp [bR_iff, dec_iff, beqB_iff', andB_iff']; omega)
              refine req_i ?_ ?_
              · -- r195
               first | omega | assumption | grind
              refine req_i ?_ ?_
              · -- r196
               first | omega | assumption | grind
              refine req_i ?_ ?_
              · -- r197
               first | omega | ((try simp only [bkL, cB, bkInv, meaF, List.cons.injEq, DV.b.injEq, and_true, List.take_nil, List.take_zero, List.length_take, List.take_length, List.take_take, Nat.min_self, List.drop_nil, List.length_drop, List.drop_zero, List.length_cons, List.length_nil]); first | done | omega | assumption | grind [getD_set, getD_rep, toNat_succ, cntN_yes, cntN_no])
              refine req_i ?_ ?_
              · -- r198
               first | omega | ((try simp only [bkL, cB, bkInv, meaF, List.cons.injEq, DV.b.injEq, and_true, List.take_nil, List.take_zero, List.length_take, List.take_length, List.take_take, Nat.min_self, List.drop_nil, List.length_drop, List.drop_zero, List.length_cons, List.length_nil]); first | done | omega | assumption | grind [getD_set, getD_rep, toNat_succ, cntN_yes, cntN_no])
              rfl
            ·
             refine bR_t ?_ ?_
             · -- g10
              first | rfl | (simp only [bR_iff, bR_iff_f, dec_iff, dec_f, beqB_iff', andB_iff', reduceCtorEq, imp_self, false_implies, and_true, true_and, implies_true, and_self]; done) | (simp [bR_iff, dec_iff, beqB_iff', andB_iff']; done) | (simp [bR_iff, dec_iff, beqB_iff', andB_iff']; omega)
             refine bR_t ?_ ?_
             · -- g11
              first | rfl | (simp only [bR_iff, bR_iff_f, dec_iff, dec_f, beqB_iff', andB_iff', reduceCtorEq, imp_self, false_implies, and_true, true_and, implies_true, and_self]; done) | (simp [bR_iff, dec_iff, beqB_iff', andB_iff']; done) | (simp [bR_iff, dec_iff, beqB_iff', andB_iff']; omega)
             refine req_i ?_ ?_
             · -- r199
              first | omega | assumption | grind
             refine req_i ?_ ?_
             · -- r200
              first | omega | assumption | grind
             refine req_i ?_ ?_
             · -- r201
              first | omega | ((try simp only [bkL, cB, bkInv, meaF, List.cons.injEq, DV.b.injEq, and_true, List.take_nil, List.take_zero, List.length_take, List.take_length, List.take_take, Nat.min_self, List.drop_nil, List.length_drop, List.drop_zero, List.length_cons, List.length_nil]); first | done | omega | assumption | grind [getD_set, getD_rep, toNat_succ, cntN_yes, cntN_no])
             refine req_i ?_ ?_
             · -- r202
              first | omega | ((try simp only [bkL, cB, bkInv, meaF, List.cons.injEq, DV.b.injEq, and_true, List.take_nil, List.take_zero, List.length_take, List.take_length, List.take_take, Nat.min_self, List.drop_nil, List.length_drop, List.drop_zero, List.length_cons, List.length_nil]); first | done | omega | assumption | grind [getD_set, getD_rep, toNat_succ, cntN_yes, cntN_no])
             rfl
          ·
           refine req_i ?_ ?_
           · -- r203
            first | omega | ((try simp only [Nat.mul_eq]); first | done | omega | assumption | grind [getD_set, getD_rep, toNat_succ, cntN_yes, cntN_no])
           refine req_i ?_ ?_
           · -- r204
            first | omega | ((try simp only [Nat.zero_add]); first | done | omega | assumption | grind [getD_set, getD_rep, toNat_succ, cntN_yes, cntN_no])
           refine req_i ?_ ?_
           · -- r205
            first | omega | ((try simp only [List.take_nil, List.take_zero, List.length_take, List.take_length, List.take_take, Nat.min_self, List.drop_nil, List.length_drop, List.drop_zero, List.length_cons, List.length_nil]); first | done | omega | assumption | grind [getD_set, getD_rep, toNat_succ, cntN_yes, cntN_no])
           refine req_i ?_ ?_
           · -- r206
            first | assumption | exact rep_bd (by omega) (by omega) | exact set_bd (by assumption) (by omega) (by omega) | exact take_bd (by assumption) | ((try simp only [List.take_nil, List.take_zero, List.length_take, List.take_length, List.take_take, Nat.min_self, List.drop_nil, List.length_drop, List.drop_zero, List.length_cons, List.length_nil]); first | assumption | exact rep_bd (by omega) (by omega) | exact set_bd (by assumption) (by omega) (by omega) | exact take_bd (by assumption) | grind [getD_set, getD_rep, toNat_succ, cntN_yes, cntN_no])
           refine req_i ?_ ?_
           · -- r207
            first | omega | assumption | grind
           refine req_i ?_ ?_
           · -- r208
            first | omega | assumption | grind
           refine req_i ?_ ?_
           · -- r209
            first | omega | assumption | grind
           refine req_i ?_ ?_
           · -- r210
            first | omega | assumption | grind
           refine req_i ?_ ?_
           · -- r211
            first | omega | assumption | grind
           refine req_i ?_ ?_
           · -- r212
            first | omega | assumption | grind
           refine req_i ?_ ?_
           · -- r213
            first | omega | assumption | grind
           refine req_i ?_ ?_
           · -- r214
            first | omega | assumption | grind
           refine req_i ?_ ?_
           · -- r215
            first | omega | ((try simp only [sigGet, cL, fV, lB, getPost, plErr, okL, okF, List.cons.injEq, DV.b.injEq, and_true, List.take_nil, List.take_zero, List.length_take, List.take_length, List.take_take, Nat.min_self, List.drop_nil, List.length_drop, List.drop_zero, List.length_cons, List.length_nil]); first | done | omega | assumption | grind [getD_set, getD_rep, toNat_succ, cntN_yes, cntN_no])
           refine all_i fun n39 => ?_
           refine imp_i fun h129 => ?_
           refine imp_i fun h130 => ?_
           refine all_i fun n40 => ?_
           refine imp_i fun h131 => ?_
           refine imp_i fun h132 => ?_
           refine imp_i fun h133 => ?_
           try simp only [Int.toNat_natCast, List.length_set, List.length_replicate, List.length_take, List.length_drop, List.length_append, List.length_cons, List.length_nil, Nat.min_self, List.take_take, lenCols_i, lenCols_b, List.drop_zero, List.take_length, List.take_nil, List.drop_nil, List.take_zero, List.nil_append, Nat.add_eq, Nat.mul_eq, Nat.sub_eq, Nat.zero_add, Nat.add_zero, Nat.sub_zero, Nat.mul_one] at h133
           have okl2 : okL l32 n4 n5 n7 n8 := ⟨okf, by omega, put_form (l := l31) (by omega) pp⟩
           have bk := put_back (g := b6) (by omega) h13 h14 (by omega) pp iv2.2.2.1 iv2.2.2.2
           obtain ⟨e22, e23⟩ : n39 = n8 + rawN (n9 + n30) n8 n7 * n7 ∧ n40 = 0 := by
             rcases h133 with ⟨o, _⟩ | ⟨_, a, b⟩
             · exact (pl_not o okl2).elim
             · exact ⟨by rw [a, bk], b⟩
           refine req_i ?_ ?_
           · -- r216
            first | omega | ((try simp only [Nat.mul_eq]); first | done | omega | assumption | grind [getD_set, getD_rep, toNat_succ, cntN_yes, cntN_no])
           refine req_i ?_ ?_
           · -- r217
            first | omega | ((try simp only [Nat.zero_add]); first | done | omega | assumption | grind [getD_set, getD_rep, toNat_succ, cntN_yes, cntN_no])
           refine req_i ?_ ?_
           · -- r218
            first | omega | ((try simp only [List.take_nil, List.take_zero, List.length_take, List.take_length, List.take_take, Nat.min_self, List.drop_nil, List.length_drop, List.drop_zero, List.length_cons, List.length_nil]); first | done | omega | assumption | grind [getD_set, getD_rep, toNat_succ, cntN_yes, cntN_no])
           refine req_i ?_ ?_
           · -- r219
            first | assumption | exact rep_bd (by omega) (by omega) | exact set_bd (by assumption) (by omega) (by omega) | exact take_bd (by assumption) | ((try simp only [List.take_nil, List.take_zero, List.length_take, List.take_length, List.take_take, Nat.min_self, List.drop_nil, List.length_drop, List.drop_zero, List.length_cons, List.length_nil]); first | assumption | exact rep_bd (by omega) (by omega) | exact set_bd (by assumption) (by omega) (by omega) | exact take_bd (by assumption) | grind [getD_set, getD_rep, toNat_succ, cntN_yes, cntN_no])
           refine req_i ?_ ?_
           · -- r220
            first | omega | assumption | grind
           refine req_i ?_ ?_
           · -- r221
            first | omega | assumption | grind
           refine req_i ?_ ?_
           · -- r222
            first | omega | assumption | grind
           refine req_i ?_ ?_
           · -- r223
            first | omega | assumption | grind
           refine req_i ?_ ?_
           · -- r224
            first | omega | assumption | grind
           refine req_i ?_ ?_
           · -- r225
            first | omega | assumption | grind
           refine req_i ?_ ?_
           · -- r226
            first | omega | assumption | grind
           refine req_i ?_ ?_
           · -- r227
            first | omega | assumption | grind
           refine req_i ?_ ?_
           · -- r228
            first | omega | assumption | grind
           refine req_i ?_ ?_
           · -- r229
            first | omega | assumption | grind
           refine req_i ?_ ?_
           · -- r230
            first | omega | ((try simp only [sigPut, cL, fV, putPost, plErr, okL, inV, okF, List.cons.injEq, DV.b.injEq, and_true, List.take_nil, List.take_zero, List.length_take, List.take_length, List.take_take, Nat.min_self, List.drop_nil, List.length_drop, List.drop_zero, List.length_cons, List.length_nil]); first | done | omega | assumption | grind [getD_set, getD_rep, toNat_succ, cntN_yes, cntN_no])
           refine all_i fun l41 => ?_
           refine imp_i fun h134 => ?_
           refine imp_i fun h135 => ?_
           refine all_i fun n42 => ?_
           refine imp_i fun h136 => ?_
           refine imp_i fun h137 => ?_
           refine imp_i fun h138 => ?_
           try simp only [Int.toNat_natCast, List.length_set, List.length_replicate, List.length_take, List.length_drop, List.length_append, List.length_cons, List.length_nil, Nat.min_self, List.take_take, lenCols_i, lenCols_b, List.drop_zero, List.take_length, List.take_nil, List.drop_nil, List.take_zero, List.nil_append, Nat.add_eq, Nat.mul_eq, Nat.sub_eq, Nat.zero_add, Nat.add_zero, Nat.sub_zero, Nat.mul_one] at h138
           have rs := rawN_self (n := rawN (n9 + n30) n8 n7) (s := n8) (u := n7) (by omega)
           have iv3 : inV n5 b6 n7 n8 n39 := ⟨by omega, by omega, by rw [e22, rs]; exact iv2.2.2⟩
           obtain ⟨p3, e25⟩ : putP l32 n4 n5 (rawN n39 n8 n7) l41 ∧ n42 = 0 := by
             rcases h138 with ⟨o, _⟩ | ⟨_, a, _⟩ | ⟨_, _, a, b⟩
             · exact (pl_not o okl2).elim
             · exact absurd iv3 a
             · exact ⟨a, b⟩
           rw [e22, rs] at p3
           have same := put_same pp p3
           refine bR_dec (fun h139 => ?_) (fun h139 => ?_)
           ·
            refine bR_dec (fun h140 => ?_) (fun h140 => ?_)
            ·
             refine all_i fun n43 => ?_
             refine imp_i fun h141 => ?_
             simp only [wrap_i64] at h141
             replace h141 : n43 = 2 * (n39 - (n9 + n30)) := by (try simp only [wrap_i64] at h141); omega
             refine imp_i fun h142 => ?_
             refine imp_i fun h143 => ?_
             refine bR_dec (fun h144 => ?_) (fun h144 => ?_)
             ·
              refine all_i fun n44 => ?_
              refine imp_i fun h145 => ?_
              simp only [wrap_i64] at h145
              replace h145 : n44 = 2 * (n9 + n30 - n39) := by (try simp only [wrap_i64] at h145); omega
              refine imp_i fun h146 => ?_
              refine imp_i fun h147 => ?_
              refine bR_dec (fun h148 => ?_) (fun h148 => ?_)
              ·
               refine bR_dec (fun h149 => ?_) (fun h149 => ?_)
               ·
                refine bR_dec (fun h150 => ?_) (fun h150 => ?_)
                ·
                 refine req_i ?_ ?_
                 · -- r231
                  first | omega | ((try simp only [Nat.mul_eq]); first | done | omega | assumption | grind [getD_set, getD_rep, toNat_succ, cntN_yes, cntN_no])
                 refine req_i ?_ ?_
                 · -- r232
                  first | omega | ((try simp only [Nat.zero_add]); first | done | omega | assumption | grind [getD_set, getD_rep, toNat_succ, cntN_yes, cntN_no])
                 refine req_i ?_ ?_
                 · -- r233
                  first | omega | ((try simp only [List.take_nil, List.take_zero, List.length_take, List.take_length, List.take_take, Nat.min_self, List.drop_nil, List.length_drop, List.drop_zero, List.length_cons, List.length_nil]); first | done | omega | assumption | grind [getD_set, getD_rep, toNat_succ, cntN_yes, cntN_no])
                 refine req_i ?_ ?_
                 · -- r234
                  first | assumption | exact rep_bd (by omega) (by omega) | exact set_bd (by assumption) (by omega) (by omega) | exact take_bd (by assumption) | ((try simp only [List.take_nil, List.take_zero, List.length_take, List.take_length, List.take_take, Nat.min_self, List.drop_nil, List.length_drop, List.drop_zero, List.length_cons, List.length_nil]); first | assumption | exact rep_bd (by omega) (by omega) | exact set_bd (by assumption) (by omega) (by omega) | exact take_bd (by assumption) | grind [getD_set, getD_rep, toNat_succ, cntN_yes, cntN_no])
                 refine req_i ?_ ?_
                 · -- r235
                  first | omega | ((try simp only [Nat.mul_eq]); first | done | omega | assumption | grind [getD_set, getD_rep, toNat_succ, cntN_yes, cntN_no])
                 refine req_i ?_ ?_
                 · -- r236
                  first | omega | ((try simp only [Nat.zero_add]); first | done | omega | assumption | grind [getD_set, getD_rep, toNat_succ, cntN_yes, cntN_no])
                 refine req_i ?_ ?_
                 · -- r237
                  first | omega | ((try simp only [List.take_nil, List.take_zero, List.length_take, List.take_length, List.take_take, Nat.min_self, List.drop_nil, List.length_drop, List.drop_zero, List.length_cons, List.length_nil]); first | done | omega | assumption | grind [getD_set, getD_rep, toNat_succ, cntN_yes, cntN_no])
                 refine req_i ?_ ?_
                 · -- r238
                  first | assumption | exact rep_bd (by omega) (by omega) | exact set_bd (by assumption) (by omega) (by omega) | exact take_bd (by assumption) | ((try simp only [List.take_nil, List.take_zero, List.length_take, List.take_length, List.take_take, Nat.min_self, List.drop_nil, List.length_drop, List.drop_zero, List.length_cons, List.length_nil]); first | assumption | exact rep_bd (by omega) (by omega) | exact set_bd (by assumption) (by omega) (by omega) | exact take_bd (by assumption) | grind [getD_set, getD_rep, toNat_succ, cntN_yes, cntN_no])
                 refine req_i ?_ ?_
                 · -- r239
                  first | omega | ((try simp only [sigAl, cL, alP, List.cons.injEq, DV.b.injEq, and_true, List.take_nil, List.take_zero, List.length_take, List.take_length, List.take_take, Nat.min_self, List.drop_nil, List.length_drop, List.drop_zero, List.length_cons, List.length_nil]); first | done | omega | assumption | grind [getD_set, getD_rep, toNat_succ, cntN_yes, cntN_no])
                 refine all_i fun b45 => ?_
                 refine imp_i fun h151 => ?_
                 try simp only [sigAl, cL, alP, List.cons.injEq, DV.b.injEq, and_true, List.take_nil, List.take_zero, List.length_take, List.take_length, List.take_take, Nat.min_self, List.drop_nil, List.length_drop, List.drop_zero, List.length_cons, List.length_nil] at h151
                 refine bR_i (fun h152 => ?_) (fun h152 => ?_)
                 ·
                  refine req_i ?_ ?_
                  · -- r240
                   first | omega | assumption | grind
                  refine all_i fun b46 => ?_
                  refine imp_i fun h153 => ?_
                  try simp only [sigTrue0, List.cons.injEq, DV.b.injEq, and_true, List.length_cons, List.length_nil] at h153
                  refine req_i ?_ ?_
                  · -- r241
                   first | omega | ((try simp only [sigBack, cAny, List.cons.injEq, DV.b.injEq, and_true, List.length_cons, List.length_nil]); first | done | omega | assumption | grind [getD_set, getD_rep, toNat_succ, cntN_yes, cntN_no])
                  rfl
                 ·
                  refine req_i ?_ ?_
                  · -- r242
                   rw [h151.2 same] at h152; cases h152
                  rfl
                ·
                 refine req_i ?_ ?_
                 · -- r243
                  first | omega | ((try simp only [sigBack, cAny, List.cons.injEq, DV.b.injEq, and_true, List.length_cons, List.length_nil]); first | done | omega | assumption | grind [getD_set, getD_rep, toNat_succ, cntN_yes, cntN_no])
                 rfl
               ·
                refine req_i ?_ ?_
                · -- r244
                 first | omega | ((try simp only [sigBack, cAny, List.cons.injEq, DV.b.injEq, and_true, List.length_cons, List.length_nil]); first | done | omega | assumption | grind [getD_set, getD_rep, toNat_succ, cntN_yes, cntN_no])
                rfl
              ·
               refine req_i ?_ ?_
               · -- r245
                first | omega | ((try simp only [sigBack, cAny, List.cons.injEq, DV.b.injEq, and_true, List.length_cons, List.length_nil]); first | done | omega | assumption | grind [getD_set, getD_rep, toNat_succ, cntN_yes, cntN_no])
               rfl
             ·
              refine req_i ?_ ?_
              · -- r246
               first | omega | ((try simp only [sigBack, cAny, List.cons.injEq, DV.b.injEq, and_true, List.length_cons, List.length_nil]); first | done | omega | assumption | grind [getD_set, getD_rep, toNat_succ, cntN_yes, cntN_no])
              rfl
            ·
             refine req_i ?_ ?_
             · -- r247
              first | omega | ((try simp only [sigBack, cAny, List.cons.injEq, DV.b.injEq, and_true, List.length_cons, List.length_nil]); first | done | omega | assumption | grind [getD_set, getD_rep, toNat_succ, cntN_yes, cntN_no])
             rfl
           ·
            refine req_i ?_ ?_
            · -- r248
             first | omega | ((try simp only [sigBack, cAny, List.cons.injEq, DV.b.injEq, and_true, List.length_cons, List.length_nil]); first | done | omega | assumption | grind [getD_set, getD_rep, toNat_succ, cntN_yes, cntN_no])
            rfl
     ·
      refine req_i ?_ ?_
      · -- r249
       first | omega | ((try simp only [Nat.mul_eq]); first | done | omega | assumption | grind [getD_set, getD_rep, toNat_succ, cntN_yes, cntN_no])
      refine req_i ?_ ?_
      · -- r250
       first | omega | ((try simp only [Nat.zero_add]); first | done | omega | assumption | grind [getD_set, getD_rep, toNat_succ, cntN_yes, cntN_no])
      refine req_i ?_ ?_
      · -- r251
       first | omega | ((try simp only [List.take_nil, List.take_zero, List.length_take, List.take_length, List.take_take, Nat.min_self, List.drop_nil, List.length_drop, List.drop_zero, List.length_cons, List.length_nil]); first | done | omega | assumption | grind [getD_set, getD_rep, toNat_succ, cntN_yes, cntN_no])
      refine req_i ?_ ?_
      · -- r252
       first | assumption | exact rep_bd (by omega) (by omega) | exact set_bd (by assumption) (by omega) (by omega) | exact take_bd (by assumption) | ((try simp only [List.take_nil, List.take_zero, List.length_take, List.take_length, List.take_take, Nat.min_self, List.drop_nil, List.length_drop, List.drop_zero, List.length_cons, List.length_nil]); first | assumption | exact rep_bd (by omega) (by omega) | exact set_bd (by assumption) (by omega) (by omega) | exact take_bd (by assumption) | grind [getD_set, getD_rep, toNat_succ, cntN_yes, cntN_no])
      refine req_i ?_ ?_
      · -- r253
       first | omega | assumption | grind
      refine req_i ?_ ?_
      · -- r254
       first | omega | assumption | grind
      refine req_i ?_ ?_
      · -- r255
       first | trivial | assumption | (simp only [sigCo, cAny, cB, coPost, List.cons.injEq, DV.b.injEq, and_true, List.take_nil, List.take_zero, List.length_take, List.take_length, List.take_take, Nat.min_self, List.drop_nil, List.length_drop, List.drop_zero, List.length_cons, List.length_nil]; done) | ((try simp only [sigCo, cAny, cB, coPost, List.cons.injEq, DV.b.injEq, and_true, List.take_nil, List.take_zero, List.length_take, List.take_length, List.take_take, Nat.min_self, List.drop_nil, List.length_drop, List.drop_zero, List.length_cons, List.length_nil]); first | omega | assumption | grind)
      refine all_i fun l47 => ?_
      refine imp_i fun h154 => ?_
      refine imp_i fun h155 => ?_
      refine imp_i fun h156 => ?_
      try simp only [sigCo, cAny, cB, coPost, List.cons.injEq, DV.b.injEq, and_true, List.take_nil, List.take_zero, List.length_take, List.take_length, List.take_take, Nat.min_self, List.drop_nil, List.length_drop, List.drop_zero, List.length_cons, List.length_nil] at h156
      refine req_i ?_ ?_
      · -- r256
       first | omega | ((try simp only [Nat.mul_eq]); first | done | omega | assumption | grind [getD_set, getD_rep, toNat_succ, cntN_yes, cntN_no])
      refine req_i ?_ ?_
      · -- r257
       first | omega | ((try simp only [Nat.zero_add]); first | done | omega | assumption | grind [getD_set, getD_rep, toNat_succ, cntN_yes, cntN_no])
      refine req_i ?_ ?_
      · -- r258
       first | omega | ((try simp only [List.take_nil, List.take_zero, List.length_take, List.take_length, List.take_take, Nat.min_self, List.drop_nil, List.length_drop, List.drop_zero, List.length_cons, List.length_nil]); first | done | omega | assumption | grind [getD_set, getD_rep, toNat_succ, cntN_yes, cntN_no])
      refine req_i ?_ ?_
      · -- r259
       first | assumption | exact rep_bd (by omega) (by omega) | exact set_bd (by assumption) (by omega) (by omega) | exact take_bd (by assumption) | ((try simp only [List.take_nil, List.take_zero, List.length_take, List.take_length, List.take_take, Nat.min_self, List.drop_nil, List.length_drop, List.drop_zero, List.length_cons, List.length_nil]); first | assumption | exact rep_bd (by omega) (by omega) | exact set_bd (by assumption) (by omega) (by omega) | exact take_bd (by assumption) | grind [getD_set, getD_rep, toNat_succ, cntN_yes, cntN_no])
      refine req_i ?_ ?_
      · -- r260
       first | omega | assumption | grind
      refine req_i ?_ ?_
      · -- r261
       first | omega | assumption | grind
      refine req_i ?_ ?_
      · -- r262
       first | omega | assumption | grind
      refine req_i ?_ ?_
      · -- r263
       first | omega | assumption | grind
      refine req_i ?_ ?_
      · -- r264
       first | omega | assumption | grind
      refine req_i ?_ ?_
      · -- r265
       first | omega | assumption | grind
      refine req_i ?_ ?_
      · -- r266
       first | omega | assumption | grind
      refine req_i ?_ ?_
      · -- r267
       first | omega | assumption | grind
      refine req_i ?_ ?_
      · -- r268
       first | omega | assumption | grind
      refine req_i ?_ ?_
      · -- r269
       first | omega | assumption | grind
      refine req_i ?_ ?_
      · -- r270
       first | omega | ((try simp only [sigPut, cL, fV, putPost, plErr, okL, inV, okF, List.cons.injEq, DV.b.injEq, and_true, List.take_nil, List.take_zero, List.length_take, List.take_length, List.take_take, Nat.min_self, List.drop_nil, List.length_drop, List.drop_zero, List.length_cons, List.length_nil]); first | done | omega | assumption | grind [getD_set, getD_rep, toNat_succ, cntN_yes, cntN_no])
      refine all_i fun l48 => ?_
      refine imp_i fun h157 => ?_
      refine imp_i fun h158 => ?_
      refine all_i fun n49 => ?_
      refine imp_i fun h159 => ?_
      refine imp_i fun h160 => ?_
      refine imp_i fun h161 => ?_
      try simp only [Int.toNat_natCast, List.length_set, List.length_replicate, List.length_take, List.length_drop, List.length_append, List.length_cons, List.length_nil, Nat.min_self, List.take_take, lenCols_i, lenCols_b, List.drop_zero, List.take_length, List.take_nil, List.drop_nil, List.take_zero, List.nil_append, Nat.add_eq, Nat.mul_eq, Nat.sub_eq, Nat.zero_add, Nat.add_zero, Nat.sub_zero, Nat.mul_one] at h161
      have cl : (l47.length : Int) = n4 + n5 + 3 := by omega
      have fb14 : formB l47 n4 n5 := fun j _ _ => by have := getD_bd (i := j) h155 (by omega) (by omega); omega
      have okl : okL l47 n4 n5 n7 n8 := ⟨okf, by omega, fb14⟩
      have P : (¬inV n5 b6 n7 n8 (n12 - 2000000000000000000) ∧ l48 = [] ∧ n49 = 5) ∨ (inV n5 b6 n7 n8 (n12 - 2000000000000000000) ∧ putP l47 n4 n5 (rawN (n12 - 2000000000000000000) n8 n7) l48 ∧ n49 = 0) := by
        rcases h161 with ⟨o, _⟩ | ⟨_, a, b, c⟩ | ⟨_, a, b, c⟩
        · exact (pl_not o okl).elim
        · exact .inl ⟨a, b, c⟩
        · exact .inr ⟨a, b, c⟩
      have nr := rawN_near (v := n12 - 2000000000000000000) (s := n8) (u := n7) (by omega)
      refine bR_dec (fun h162 => ?_) (fun h162 => ?_)
      ·
       obtain ⟨nv, e15, e16⟩ : ¬inV n5 b6 n7 n8 (n12 - 2000000000000000000) ∧ l48 = [] ∧ n49 = 5 := by
         rcases P with h | ⟨_, _, c⟩
         · exact h
         · omega
       have k15 : l48.length = 0 := by rw [e15]; rfl
       have nr2 : ¬(n9 ≤ n12 - 2000000000000000000 ∧ n12 - 2000000000000000000 ≤ n10) := fun g => nv ⟨by omega, by omega, raw_range (by omega) (by omega) (by omega)⟩
       refine bR_dec (fun h163 => ?_) (fun h163 => ?_)
       ·
        refine bR_dec (fun h164 => ?_) (fun h164 => ?_)
        ·
         refine bR_dec (fun h165 => ?_) (fun h165 => ?_)
         ·
          refine req_i ?_ ?_
          · -- r271
           first | omega | assumption | grind
          refine all_i fun b50 => ?_
          refine imp_i fun h166 => ?_
          try simp only [sigTrue0, List.cons.injEq, DV.b.injEq, and_true, List.length_cons, List.length_nil] at h166
          refine req_i ?_ ?_
          · -- r272
           first | omega | ((try simp only [sigBack, cAny, List.cons.injEq, DV.b.injEq, and_true, List.length_cons, List.length_nil]); first | done | omega | assumption | grind [getD_set, getD_rep, toNat_succ, cntN_yes, cntN_no])
          rfl
         ·
          refine bR_dec (fun h167 => ?_) (fun h167 => ?_)
          ·
           refine req_i ?_ ?_
           · -- r273
            first | omega | assumption | grind
           refine all_i fun b51 => ?_
           refine imp_i fun h168 => ?_
           try simp only [sigTrue0, List.cons.injEq, DV.b.injEq, and_true, List.length_cons, List.length_nil] at h168
           refine req_i ?_ ?_
           · -- r274
            first | omega | ((try simp only [sigBack, cAny, List.cons.injEq, DV.b.injEq, and_true, List.length_cons, List.length_nil]); first | done | omega | assumption | grind [getD_set, getD_rep, toNat_succ, cntN_yes, cntN_no])
           rfl
          ·
           refine req_i ?_ ?_
           · -- r275
            first | omega | ((try simp only [sigBack, cAny, List.cons.injEq, DV.b.injEq, and_true, List.length_cons, List.length_nil]); first | done | omega | assumption | grind [getD_set, getD_rep, toNat_succ, cntN_yes, cntN_no])
           rfl
        ·
         refine req_i ?_ ?_
         · -- r276
          first | omega | ((try simp only [sigBack, cAny, List.cons.injEq, DV.b.injEq, and_true, List.length_cons, List.length_nil]); first | done | omega | assumption | grind [getD_set, getD_rep, toNat_succ, cntN_yes, cntN_no])
         rfl
       ·
        refine req_i ?_ ?_
        · -- r277
         first | omega | ((try simp only [sigBack, cAny, List.cons.injEq, DV.b.injEq, and_true, List.length_cons, List.length_nil]); first | done | omega | assumption | grind [getD_set, getD_rep, toNat_succ, cntN_yes, cntN_no])
        rfl
      ·
       obtain ⟨iv, pp, e16⟩ : inV n5 b6 n7 n8 (n12 - 2000000000000000000) ∧ putP l47 n4 n5 (rawN (n12 - 2000000000000000000) n8 n7) l48 ∧ n49 = 0 := by
         rcases P with ⟨_, _, c⟩ | h
         · omega
         · exact h
       have iv2 := iv
       unfold inV at iv2
       have l15e := pp.1
       have m2 := raw_mono (u := n7) (by omega) iv2.2.2.1
       have m3 := raw_mono (u := n7) (by omega) iv2.2.2.2
       have out : ∀ j : Nat, j < l47.length → ¬(n4 ≤ (j : Int) ∧ (j : Int) < n4 + n5) → l48.getD j 0 = l47.getD j 0 := fun j hj hn => by rw [pp.2 j hj, if_neg hn]
       refine bR_dec (fun h169 => ?_) (fun h169 => ?_)
       ·
        refine req_i ?_ ?_
        · -- r278
         first | omega | ((try simp only [sigBack, cAny, List.cons.injEq, DV.b.injEq, and_true, List.length_cons, List.length_nil]); first | done | omega | assumption | grind [getD_set, getD_rep, toNat_succ, cntN_yes, cntN_no])
        rfl
       ·
        refine bR_dec (fun h170 => ?_) (fun h170 => ?_)
        ·
         refine req_i ?_ ?_
         · -- r279
          first | omega | ((try simp only [sigBack, cAny, List.cons.injEq, DV.b.injEq, and_true, List.length_cons, List.length_nil]); first | done | omega | assumption | grind [getD_set, getD_rep, toNat_succ, cntN_yes, cntN_no])
         rfl
        ·
         refine bR_dec (fun h171 => ?_) (fun h171 => ?_)
         ·
          refine req_i ?_ ?_
          · -- r280
           first | omega | ((try simp only [sigBack, cAny, List.cons.injEq, DV.b.injEq, and_true, List.length_cons, List.length_nil]); first | done | omega | assumption | grind [getD_set, getD_rep, toNat_succ, cntN_yes, cntN_no])
          rfl
         ·
          refine req_i ?_ ?_
          · -- r281
           first | omega | ((try simp only [Nat.mul_eq]); first | done | omega | assumption | grind [getD_set, getD_rep, toNat_succ, cntN_yes, cntN_no])
          refine req_i ?_ ?_
          · -- r282
           first | omega | ((try simp only [Nat.zero_add]); first | done | omega | assumption | grind [getD_set, getD_rep, toNat_succ, cntN_yes, cntN_no])
          refine req_i ?_ ?_
          · -- r283
           first | omega | ((try simp only [List.take_nil, List.take_zero, List.length_take, List.take_length, List.take_take, Nat.min_self, List.drop_nil, List.length_drop, List.drop_zero, List.length_cons, List.length_nil]); first | done | omega | assumption | grind [getD_set, getD_rep, toNat_succ, cntN_yes, cntN_no])
          refine req_i ?_ ?_
          · -- r284
           first | assumption | exact rep_bd (by omega) (by omega) | exact set_bd (by assumption) (by omega) (by omega) | exact take_bd (by assumption) | ((try simp only [List.take_nil, List.take_zero, List.length_take, List.take_length, List.take_take, Nat.min_self, List.drop_nil, List.length_drop, List.drop_zero, List.length_cons, List.length_nil]); first | assumption | exact rep_bd (by omega) (by omega) | exact set_bd (by assumption) (by omega) (by omega) | exact take_bd (by assumption) | grind [getD_set, getD_rep, toNat_succ, cntN_yes, cntN_no])
          refine req_i ?_ ?_
          · -- r285
           first | omega | ((try simp only [bkL, cB, bkInv, meaF, List.cons.injEq, DV.b.injEq, and_true, List.take_nil, List.take_zero, List.length_take, List.take_length, List.take_take, Nat.min_self, List.drop_nil, List.length_drop, List.drop_zero, List.length_cons, List.length_nil]); first | done | omega | assumption | grind [getD_set, getD_rep, toNat_succ, cntN_yes, cntN_no])
          refine all_i fun n52 => ?_
          refine imp_i fun h172 => ?_
          refine imp_i fun h173 => ?_
          refine imp_i fun h174 => ?_
          try simp only [bkL, cB, bkInv, meaF, List.cons.injEq, DV.b.injEq, and_true, List.take_nil, List.take_zero, List.length_take, List.take_length, List.take_take, Nat.min_self, List.drop_nil, List.length_drop, List.drop_zero, List.length_cons, List.length_nil] at h174
          refine bR_dec (fun h175 => ?_) (fun h175 => ?_)
          ·
           refine bR_dec (fun h176 => ?_) (fun h176 => ?_)
           ·
            refine req_i ?_ ?_
            · -- r286
             first | omega | ((try simp only [Int.toNat_natCast, List.length_cons, List.length_nil]); first | done | omega | assumption | grind [getD_set, getD_rep, toNat_succ, cntN_yes, cntN_no])
            refine req_i ?_ ?_
            · -- r287
             first | omega | ((try simp only [Int.toNat_natCast, List.length_cons, List.length_nil, Nat.add_eq, Nat.zero_add, Nat.add_zero]); first | done | omega | assumption | grind [getD_set, getD_rep, toNat_succ, cntN_yes, cntN_no])
            refine req_i ?_ ?_
            · -- r288
             first | omega | ((try simp only [Int.toNat_natCast, List.length_cons, List.length_nil]); first | done | omega | assumption | grind [getD_set, getD_rep, toNat_succ, cntN_yes, cntN_no])
            refine req_i ?_ ?_
            · -- r289
             first | omega | ((try simp only [Int.toNat_natCast, List.length_cons, List.length_nil, Nat.add_eq, Nat.zero_add, Nat.add_zero]); first | done | omega | assumption | grind [getD_set, getD_rep, toNat_succ, cntN_yes, cntN_no])
            refine bR_dec (fun h177 => ?_) (fun h177 => ?_)
            ·
             have oo := out n52.toNat (by omega) (by omega)
             refine req_i ?_ ?_
             · -- r290
              exfalso; (try simp only [Nat.add_eq, Nat.zero_add] at h177); exact h177 oo
             rfl
            ·
             refine bR_t ?_ ?_
             · -- g12
              first | rfl | (simp only [bR_iff, bR_iff_f, dec_iff, dec_f, beqB_iff', andB_iff', reduceCtorEq, imp_self, false_implies, and_true, true_and, implies_true, and_self]; done) | (simp [bR_iff, dec_iff, beqB_iff', andB_iff']; done) | (simp [bR_iff, dec_iff, beqB_iff', andB_iff']; omega)
             refine bR_t ?_ ?_
             · -- g13
              first | rfl | (simp only [bR_iff, bR_iff_f, dec_iff, dec_f, beqB_iff', andB_iff', reduceCtorEq, imp_self, false_implies, and_true, true_and, implies_true, and_self]; done) | (simp [bR_iff, dec_iff, beqB_iff', andB_iff']; done) | (simp [bR_iff, dec_iff, beqB_iff', andB_iff']; omega)
             refine req_i ?_ ?_
             · -- r291
              first | omega | assumption | grind
             refine req_i ?_ ?_
             · -- r292
              first | omega | assumption | grind
             refine req_i ?_ ?_
             · -- r293
              first | omega | ((try simp only [bkL, cB, bkInv, meaF, List.cons.injEq, DV.b.injEq, and_true, List.take_nil, List.take_zero, List.length_take, List.take_length, List.take_take, Nat.min_self, List.drop_nil, List.length_drop, List.drop_zero, List.length_cons, List.length_nil]); first | done | omega | assumption | grind [getD_set, getD_rep, toNat_succ, cntN_yes, cntN_no])
             refine req_i ?_ ?_
             · -- r294
              first | omega | ((try simp only [bkL, cB, bkInv, meaF, List.cons.injEq, DV.b.injEq, and_true, List.take_nil, List.take_zero, List.length_take, List.take_length, List.take_take, Nat.min_self, List.drop_nil, List.length_drop, List.drop_zero, List.length_cons, List.length_nil]); first | done | omega | assumption | grind [getD_set, getD_rep, toNat_succ, cntN_yes, cntN_no])
             rfl
           ·
            refine bR_dec (fun h178 => ?_) (fun h178 => ?_)
            ·
             refine req_i ?_ ?_
             · -- r295
              first | omega | ((try simp only [Int.toNat_natCast, List.length_cons, List.length_nil]); first | done | omega | assumption | grind [getD_set, getD_rep, toNat_succ, cntN_yes, cntN_no])
             refine req_i ?_ ?_
             · -- r296
              first | omega | ((try simp only [Int.toNat_natCast, List.length_cons, List.length_nil, Nat.add_eq, Nat.zero_add, Nat.add_zero]); first | done | omega | assumption | grind [getD_set, getD_rep, toNat_succ, cntN_yes, cntN_no])
             refine req_i ?_ ?_
             · -- r297
              first | omega | ((try simp only [Int.toNat_natCast, List.length_cons, List.length_nil]); first | done | omega | assumption | grind [getD_set, getD_rep, toNat_succ, cntN_yes, cntN_no])
             refine req_i ?_ ?_
             · -- r298
              first | omega | ((try simp only [Int.toNat_natCast, List.length_cons, List.length_nil, Nat.add_eq, Nat.zero_add, Nat.add_zero]); first | done | omega | assumption | grind [getD_set, getD_rep, toNat_succ, cntN_yes, cntN_no])
             refine bR_dec (fun h179 => ?_) (fun h179 => ?_)
             ·
              have oo := out n52.toNat (by omega) (by omega)
              refine req_i ?_ ?_
              · -- r299
               exfalso; (try simp only [Nat.add_eq, Nat.zero_add] at h179); exact h179 oo
              rfl
             ·
              refine bR_t ?_ ?_
              · -- g14
               first | rfl | (simp only [bR_iff, bR_iff_f, dec_iff, dec_f, beqB_iff', andB_iff', reduceCtorEq, imp_self, false_implies, and_true, true_and, implies_true, and_self]; done) | (simp [bR_iff, dec_iff, beqB_iff', andB_iff']; done) | (simp [bR_iff, dec_iff, beqB_iff', andB_iff']; omega)
              refine bR_t ?_ ?_
              · -- g15
               first | rfl | (simp only [bR_iff, bR_iff_f, dec_iff, dec_f, beqB_iff', andB_iff', reduceCtorEq, imp_self, false_implies, and_true, true_and, implies_true, and_self]; done) | (simp [bR_iff, dec_iff, beqB_iff', andB_iff']; done) | (simp [bR_iff, dec_iff, beqB_iff', andB_iff']; omega)
              refine req_i ?_ ?_
              · -- r300
               first | omega | assumption | grind
              refine req_i ?_ ?_
              · -- r301
               first | omega | assumption | grind
              refine req_i ?_ ?_
              · -- r302
               first | omega | ((try simp only [bkL, cB, bkInv, meaF, List.cons.injEq, DV.b.injEq, and_true, List.take_nil, List.take_zero, List.length_take, List.take_length, List.take_take, Nat.min_self, List.drop_nil, List.length_drop, List.drop_zero, List.length_cons, List.length_nil]); first | done | omega | assumption | grind [getD_set, getD_rep, toNat_succ, cntN_yes, cntN_no])
              refine req_i ?_ ?_
              · -- r303
               first | omega | ((try simp only [bkL, cB, bkInv, meaF, List.cons.injEq, DV.b.injEq, and_true, List.take_nil, List.take_zero, List.length_take, List.take_length, List.take_take, Nat.min_self, List.drop_nil, List.length_drop, List.drop_zero, List.length_cons, List.length_nil]); first | done | omega | assumption | grind [getD_set, getD_rep, toNat_succ, cntN_yes, cntN_no])
              rfl
            ·
             refine bR_t ?_ ?_
             · -- g16
              first | rfl | (simp only [bR_iff, bR_iff_f, dec_iff, dec_f, beqB_iff', andB_iff', reduceCtorEq, imp_self, false_implies, and_true, true_and, implies_true, and_self]; done) | (simp [bR_iff, dec_iff, beqB_iff', andB_iff']; done) | (simp [bR_iff, dec_iff, beqB_iff', andB_iff']; omega)
             refine bR_t ?_ ?_
             · -- g17
              first | rfl | (simp only [bR_iff, bR_iff_f, dec_iff, dec_f, beqB_iff', andB_iff', reduceCtorEq, imp_self, false_implies, and_true, true_and, implies_true, and_self]; done) | (simp [bR_iff, dec_iff, beqB_iff', andB_iff']; done) | (simp [bR_iff, dec_iff, beqB_iff', andB_iff']; omega)
             refine req_i ?_ ?_
             · -- r304
              first | omega | assumption | grind
             refine req_i ?_ ?_
             · -- r305
              first | omega | assumption | grind
             refine req_i ?_ ?_
             · -- r306
              first | omega | ((try simp only [bkL, cB, bkInv, meaF, List.cons.injEq, DV.b.injEq, and_true, List.take_nil, List.take_zero, List.length_take, List.take_length, List.take_take, Nat.min_self, List.drop_nil, List.length_drop, List.drop_zero, List.length_cons, List.length_nil]); first | done | omega | assumption | grind [getD_set, getD_rep, toNat_succ, cntN_yes, cntN_no])
             refine req_i ?_ ?_
             · -- r307
              first | omega | ((try simp only [bkL, cB, bkInv, meaF, List.cons.injEq, DV.b.injEq, and_true, List.take_nil, List.take_zero, List.length_take, List.take_length, List.take_take, Nat.min_self, List.drop_nil, List.length_drop, List.drop_zero, List.length_cons, List.length_nil]); first | done | omega | assumption | grind [getD_set, getD_rep, toNat_succ, cntN_yes, cntN_no])
             rfl
          ·
           refine req_i ?_ ?_
           · -- r308
            first | omega | ((try simp only [Nat.mul_eq]); first | done | omega | assumption | grind [getD_set, getD_rep, toNat_succ, cntN_yes, cntN_no])
           refine req_i ?_ ?_
           · -- r309
            first | omega | ((try simp only [Nat.zero_add]); first | done | omega | assumption | grind [getD_set, getD_rep, toNat_succ, cntN_yes, cntN_no])
           refine req_i ?_ ?_
           · -- r310
            first | omega | ((try simp only [List.take_nil, List.take_zero, List.length_take, List.take_length, List.take_take, Nat.min_self, List.drop_nil, List.length_drop, List.drop_zero, List.length_cons, List.length_nil]); first | done | omega | assumption | grind [getD_set, getD_rep, toNat_succ, cntN_yes, cntN_no])
           refine req_i ?_ ?_
           · -- r311
            first | assumption | exact rep_bd (by omega) (by omega) | exact set_bd (by assumption) (by omega) (by omega) | exact take_bd (by assumption) | ((try simp only [List.take_nil, List.take_zero, List.length_take, List.take_length, List.take_take, Nat.min_self, List.drop_nil, List.length_drop, List.drop_zero, List.length_cons, List.length_nil]); first | assumption | exact rep_bd (by omega) (by omega) | exact set_bd (by assumption) (by omega) (by omega) | exact take_bd (by assumption) | grind [getD_set, getD_rep, toNat_succ, cntN_yes, cntN_no])
           refine req_i ?_ ?_
           · -- r312
            first | omega | assumption | grind
           refine req_i ?_ ?_
           · -- r313
            first | omega | assumption | grind
           refine req_i ?_ ?_
           · -- r314
            first | omega | assumption | grind
           refine req_i ?_ ?_
           · -- r315
            first | omega | assumption | grind
           refine req_i ?_ ?_
           · -- r316
            first | omega | assumption | grind
           refine req_i ?_ ?_
           · -- r317
            first | omega | assumption | grind
           refine req_i ?_ ?_
           · -- r318
            first | omega | assumption | grind
           refine req_i ?_ ?_
           · -- r319
            first | omega | assumption | grind
           refine req_i ?_ ?_
           · -- r320
            first | omega | ((try simp only [sigGet, cL, fV, lB, getPost, plErr, okL, okF, List.cons.injEq, DV.b.injEq, and_true, List.take_nil, List.take_zero, List.length_take, List.take_length, List.take_take, Nat.min_self, List.drop_nil, List.length_drop, List.drop_zero, List.length_cons, List.length_nil]); first | done | omega | assumption | grind [getD_set, getD_rep, toNat_succ, cntN_yes, cntN_no])
           refine all_i fun n53 => ?_
           refine imp_i fun h180 => ?_
           refine imp_i fun h181 => ?_
           refine all_i fun n54 => ?_
           refine imp_i fun h182 => ?_
           refine imp_i fun h183 => ?_
           refine imp_i fun h184 => ?_
           try simp only [Int.toNat_natCast, List.length_set, List.length_replicate, List.length_take, List.length_drop, List.length_append, List.length_cons, List.length_nil, Nat.min_self, List.take_take, lenCols_i, lenCols_b, List.drop_zero, List.take_length, List.take_nil, List.drop_nil, List.take_zero, List.nil_append, Nat.add_eq, Nat.mul_eq, Nat.sub_eq, Nat.zero_add, Nat.add_zero, Nat.sub_zero, Nat.mul_one] at h184
           have okl2 : okL l48 n4 n5 n7 n8 := ⟨okf, by omega, put_form (l := l47) (by omega) pp⟩
           have bk := put_back (g := b6) (by omega) h13 h14 (by omega) pp iv2.2.2.1 iv2.2.2.2
           obtain ⟨e22, e23⟩ : n53 = n8 + rawN (n12 - 2000000000000000000) n8 n7 * n7 ∧ n54 = 0 := by
             rcases h184 with ⟨o, _⟩ | ⟨_, a, b⟩
             · exact (pl_not o okl2).elim
             · exact ⟨by rw [a, bk], b⟩
           refine req_i ?_ ?_
           · -- r321
            first | omega | ((try simp only [Nat.mul_eq]); first | done | omega | assumption | grind [getD_set, getD_rep, toNat_succ, cntN_yes, cntN_no])
           refine req_i ?_ ?_
           · -- r322
            first | omega | ((try simp only [Nat.zero_add]); first | done | omega | assumption | grind [getD_set, getD_rep, toNat_succ, cntN_yes, cntN_no])
           refine req_i ?_ ?_
           · -- r323
            first | omega | ((try simp only [List.take_nil, List.take_zero, List.length_take, List.take_length, List.take_take, Nat.min_self, List.drop_nil, List.length_drop, List.drop_zero, List.length_cons, List.length_nil]); first | done | omega | assumption | grind [getD_set, getD_rep, toNat_succ, cntN_yes, cntN_no])
           refine req_i ?_ ?_
           · -- r324
            first | assumption | exact rep_bd (by omega) (by omega) | exact set_bd (by assumption) (by omega) (by omega) | exact take_bd (by assumption) | ((try simp only [List.take_nil, List.take_zero, List.length_take, List.take_length, List.take_take, Nat.min_self, List.drop_nil, List.length_drop, List.drop_zero, List.length_cons, List.length_nil]); first | assumption | exact rep_bd (by omega) (by omega) | exact set_bd (by assumption) (by omega) (by omega) | exact take_bd (by assumption) | grind [getD_set, getD_rep, toNat_succ, cntN_yes, cntN_no])
           refine req_i ?_ ?_
           · -- r325
            first | omega | assumption | grind
           refine req_i ?_ ?_
           · -- r326
            first | omega | assumption | grind
           refine req_i ?_ ?_
           · -- r327
            first | omega | assumption | grind
           refine req_i ?_ ?_
           · -- r328
            first | omega | assumption | grind
           refine req_i ?_ ?_
           · -- r329
            first | omega | assumption | grind
           refine req_i ?_ ?_
           · -- r330
            first | omega | assumption | grind
           refine req_i ?_ ?_
           · -- r331
            first | omega | assumption | grind
           refine req_i ?_ ?_
           · -- r332
            first | omega | assumption | grind
           refine req_i ?_ ?_
           · -- r333
            first | omega | assumption | grind
           refine req_i ?_ ?_
           · -- r334
            first | omega | assumption | grind
           refine req_i ?_ ?_
           · -- r335
            first | omega | ((try simp only [sigPut, cL, fV, putPost, plErr, okL, inV, okF, List.cons.injEq, DV.b.injEq, and_true, List.take_nil, List.take_zero, List.length_take, List.take_length, List.take_take, Nat.min_self, List.drop_nil, List.length_drop, List.drop_zero, List.length_cons, List.length_nil]); first | done | omega | assumption | grind [getD_set, getD_rep, toNat_succ, cntN_yes, cntN_no])
           refine all_i fun l55 => ?_
           refine imp_i fun h185 => ?_
           refine imp_i fun h186 => ?_
           refine all_i fun n56 => ?_
           refine imp_i fun h187 => ?_
           refine imp_i fun h188 => ?_
           refine imp_i fun h189 => ?_
           try simp only [Int.toNat_natCast, List.length_set, List.length_replicate, List.length_take, List.length_drop, List.length_append, List.length_cons, List.length_nil, Nat.min_self, List.take_take, lenCols_i, lenCols_b, List.drop_zero, List.take_length, List.take_nil, List.drop_nil, List.take_zero, List.nil_append, Nat.add_eq, Nat.mul_eq, Nat.sub_eq, Nat.zero_add, Nat.add_zero, Nat.sub_zero, Nat.mul_one] at h189
           have rs := rawN_self (n := rawN (n12 - 2000000000000000000) n8 n7) (s := n8) (u := n7) (by omega)
           have iv3 : inV n5 b6 n7 n8 n53 := ⟨by omega, by omega, by rw [e22, rs]; exact iv2.2.2⟩
           obtain ⟨p3, e25⟩ : putP l48 n4 n5 (rawN n53 n8 n7) l55 ∧ n56 = 0 := by
             rcases h189 with ⟨o, _⟩ | ⟨_, a, _⟩ | ⟨_, _, a, b⟩
             · exact (pl_not o okl2).elim
             · exact absurd iv3 a
             · exact ⟨a, b⟩
           rw [e22, rs] at p3
           have same := put_same pp p3
           refine bR_dec (fun h190 => ?_) (fun h190 => ?_)
           ·
            refine bR_dec (fun h191 => ?_) (fun h191 => ?_)
            ·
             refine bR_dec (fun h192 => ?_) (fun h192 => ?_)
             ·
              refine bR_dec (fun h193 => ?_) (fun h193 => ?_)
              ·
               refine bR_dec (fun h194 => ?_) (fun h194 => ?_)
               ·
                refine bR_dec (fun h195 => ?_) (fun h195 => ?_)
                ·
                 refine req_i ?_ ?_
                 · -- r336
                  first | omega | ((try simp only [Nat.mul_eq]); first | done | omega | assumption | grind [getD_set, getD_rep, toNat_succ, cntN_yes, cntN_no])
                 refine req_i ?_ ?_
                 · -- r337
                  first | omega | ((try simp only [Nat.zero_add]); first | done | omega | assumption | grind [getD_set, getD_rep, toNat_succ, cntN_yes, cntN_no])
                 refine req_i ?_ ?_
                 · -- r338
                  first | omega | ((try simp only [List.take_nil, List.take_zero, List.length_take, List.take_length, List.take_take, Nat.min_self, List.drop_nil, List.length_drop, List.drop_zero, List.length_cons, List.length_nil]); first | done | omega | assumption | grind [getD_set, getD_rep, toNat_succ, cntN_yes, cntN_no])
                 refine req_i ?_ ?_
                 · -- r339
                  first | assumption | exact rep_bd (by omega) (by omega) | exact set_bd (by assumption) (by omega) (by omega) | exact take_bd (by assumption) | ((try simp only [List.take_nil, List.take_zero, List.length_take, List.take_length, List.take_take, Nat.min_self, List.drop_nil, List.length_drop, List.drop_zero, List.length_cons, List.length_nil]); first | assumption | exact rep_bd (by omega) (by omega) | exact set_bd (by assumption) (by omega) (by omega) | exact take_bd (by assumption) | grind [getD_set, getD_rep, toNat_succ, cntN_yes, cntN_no])
                 refine req_i ?_ ?_
                 · -- r340
                  first | omega | ((try simp only [Nat.mul_eq]); first | done | omega | assumption | grind [getD_set, getD_rep, toNat_succ, cntN_yes, cntN_no])
                 refine req_i ?_ ?_
                 · -- r341
                  first | omega | ((try simp only [Nat.zero_add]); first | done | omega | assumption | grind [getD_set, getD_rep, toNat_succ, cntN_yes, cntN_no])
                 refine req_i ?_ ?_
                 · -- r342
                  first | omega | ((try simp only [List.take_nil, List.take_zero, List.length_take, List.take_length, List.take_take, Nat.min_self, List.drop_nil, List.length_drop, List.drop_zero, List.length_cons, List.length_nil]); first | done | omega | assumption | grind [getD_set, getD_rep, toNat_succ, cntN_yes, cntN_no])
                 refine req_i ?_ ?_
                 · -- r343
                  first | assumption | exact rep_bd (by omega) (by omega) | exact set_bd (by assumption) (by omega) (by omega) | exact take_bd (by assumption) | ((try simp only [List.take_nil, List.take_zero, List.length_take, List.take_length, List.take_take, Nat.min_self, List.drop_nil, List.length_drop, List.drop_zero, List.length_cons, List.length_nil]); first | assumption | exact rep_bd (by omega) (by omega) | exact set_bd (by assumption) (by omega) (by omega) | exact take_bd (by assumption) | grind [getD_set, getD_rep, toNat_succ, cntN_yes, cntN_no])
                 refine req_i ?_ ?_
                 · -- r344
                  first | omega | ((try simp only [sigAl, cL, alP, List.cons.injEq, DV.b.injEq, and_true, List.take_nil, List.take_zero, List.length_take, List.take_length, List.take_take, Nat.min_self, List.drop_nil, List.length_drop, List.drop_zero, List.length_cons, List.length_nil]); first | done | omega | assumption | grind [getD_set, getD_rep, toNat_succ, cntN_yes, cntN_no])
                 refine all_i fun b57 => ?_
                 refine imp_i fun h196 => ?_
                 try simp only [sigAl, cL, alP, List.cons.injEq, DV.b.injEq, and_true, List.take_nil, List.take_zero, List.length_take, List.take_length, List.take_take, Nat.min_self, List.drop_nil, List.length_drop, List.drop_zero, List.length_cons, List.length_nil] at h196
                 refine bR_i (fun h197 => ?_) (fun h197 => ?_)
                 ·
                  refine req_i ?_ ?_
                  · -- r345
                   first | omega | assumption | grind
                  refine all_i fun b58 => ?_
                  refine imp_i fun h198 => ?_
                  try simp only [sigTrue0, List.cons.injEq, DV.b.injEq, and_true, List.length_cons, List.length_nil] at h198
                  refine req_i ?_ ?_
                  · -- r346
                   first | omega | ((try simp only [sigBack, cAny, List.cons.injEq, DV.b.injEq, and_true, List.length_cons, List.length_nil]); first | done | omega | assumption | grind [getD_set, getD_rep, toNat_succ, cntN_yes, cntN_no])
                  rfl
                 ·
                  refine req_i ?_ ?_
                  · -- r347
                   rw [h196.2 same] at h197; cases h197
                  rfl
                ·
                 refine req_i ?_ ?_
                 · -- r348
                  first | omega | ((try simp only [sigBack, cAny, List.cons.injEq, DV.b.injEq, and_true, List.length_cons, List.length_nil]); first | done | omega | assumption | grind [getD_set, getD_rep, toNat_succ, cntN_yes, cntN_no])
                 rfl
               ·
                refine req_i ?_ ?_
                · -- r349
                 first | omega | ((try simp only [sigBack, cAny, List.cons.injEq, DV.b.injEq, and_true, List.length_cons, List.length_nil]); first | done | omega | assumption | grind [getD_set, getD_rep, toNat_succ, cntN_yes, cntN_no])
                rfl
              ·
               refine req_i ?_ ?_
               · -- r350
                first | omega | ((try simp only [sigBack, cAny, List.cons.injEq, DV.b.injEq, and_true, List.length_cons, List.length_nil]); first | done | omega | assumption | grind [getD_set, getD_rep, toNat_succ, cntN_yes, cntN_no])
               rfl
             ·
              refine req_i ?_ ?_
              · -- r351
               first | omega | ((try simp only [sigBack, cAny, List.cons.injEq, DV.b.injEq, and_true, List.length_cons, List.length_nil]); first | done | omega | assumption | grind [getD_set, getD_rep, toNat_succ, cntN_yes, cntN_no])
              rfl
            ·
             refine req_i ?_ ?_
             · -- r352
              first | omega | ((try simp only [sigBack, cAny, List.cons.injEq, DV.b.injEq, and_true, List.length_cons, List.length_nil]); first | done | omega | assumption | grind [getD_set, getD_rep, toNat_succ, cntN_yes, cntN_no])
             rfl
           ·
            refine req_i ?_ ?_
            · -- r353
             first | omega | ((try simp only [sigBack, cAny, List.cons.injEq, DV.b.injEq, and_true, List.length_cons, List.length_nil]); first | done | omega | assumption | grind [getD_set, getD_rep, toNat_succ, cntN_yes, cntN_no])
            rfl
theorem ext_FieldBack : ∀ p ∈ ([(29, Ext.ctr (ctOf sigNth)), (28, Ext.ctr (ctOf sigBl)), (27, Ext.ctr (ctOf sigOf)), (10, Ext.ctr (ctOf sigLim)), (30, Ext.ctr (ctOf sigCo)), (12, Ext.ctr (ctOf sigPut)), (14, Ext.ctr (ctOf sigGet)), (18, Ext.ctr (ctOf sigAl)), (9, Ext.ctr (ctOf sigTrue0))] : List (Nat × Ext)), ExtRow Try.prog p.1 p.2 := by
  intro p hp
  simp only [List.mem_cons, List.not_mem_nil, or_false] at hp
  rcases hp with rfl | rfl | rfl | rfl | rfl | rfl | rfl | rfl | rfl
  · trivial
  · trivial
  · trivial
  · trivial
  · trivial
  · trivial
  · trivial
  · trivial
  · trivial
theorem cts_FieldBack : CtsOk Try.prog [(29, Ext.ctr (ctOf sigNth)), (28, Ext.ctr (ctOf sigBl)), (27, Ext.ctr (ctOf sigOf)), (10, Ext.ctr (ctOf sigLim)), (30, Ext.ctr (ctOf sigCo)), (12, Ext.ctr (ctOf sigPut)), (14, Ext.ctr (ctOf sigGet)), (18, Ext.ctr (ctOf sigAl)), (9, Ext.ctr (ctOf sigTrue0))] := ctsOk_of (cs := [(29, sigNth), (28, sigBl), (27, sigOf), (10, sigLim), (30, sigCo), (12, sigPut), (14, sigGet), (18, sigAl), (9, sigTrue0)])
  (fun p hp => by
    simp only [List.mem_cons, List.not_mem_nil, or_false] at hp
    rcases hp with rfl | rfl | rfl | rfl | rfl | rfl | rfl | rfl | rfl
    · exact fn_nth
    · exact fn_below
    · exact fn_of
    · exact fn_lim
    · exact fn_coins
    · exact fn_put
    · exact fn_get
    · exact fn_al
    · exact fn_awake
)
  (fun f c h => by
    simp only [List.lookup_cons] at h
    repeat' split at h
    all_goals first | (cases h; done) | (rename_i e; have e := beq_iff_eq.1 e; subst e; cases h; refine ⟨_, ?_, rfl⟩; simp))
theorem fn_FieldBack : FnOk Try.prog 7 sigBack [] := fn_sound (by kernel_rfl) ext_FieldBack cts_FieldBack names vt_FieldBack
end Go.Proofs.Ytbgooiiihmnnmaa

