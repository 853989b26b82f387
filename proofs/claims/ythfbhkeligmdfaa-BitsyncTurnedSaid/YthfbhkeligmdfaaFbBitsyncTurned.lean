import Derived.Test.YthfbhkeligmdfaaSpec21e
import Derived.Test.YthfbhkeligmdfaaRows
import Derived.Test.YthfbhkeligmdfaaFaBitsyncTurned
namespace Go.Proofs.Ythfbhkeligmdfaa
open Go.Ev Go.Sp
set_option maxRecDepth 100000
theorem vc_BitsyncTurned : vcFn Try.prog [(3, Ext.ctr (ctOf sigTrue0)), (28, Ext.ctr (ctOf sigSms)), (29, Ext.ctr (ctOf sigTurn)), (9, Ext.ctr (ctOf sigNew)), (11, Ext.ctr (ctOf sigFeed)), (16, Ext.ctr (ctOf sigEqu)), (13, Ext.ctr (ctOf sigRead))] (fun f p _ => at2 f p 7 2042 turnL (none)) [] 100 7 sigTurned = (allB fun n0 : Int => 
impB ((-9223372036854775808 : Int) ≤ n0) (
impB (n0 ≤ (9223372036854775807 : Int)) (
allB fun n1 : Int => 
impB ((-9223372036854775808 : Int) ≤ n1) (
impB (n1 ≤ (9223372036854775807 : Int)) (
allB fun n2 : Int => 
impB ((-9223372036854775808 : Int) ≤ n2) (
impB (n2 ≤ (9223372036854775807 : Int)) (
allB fun l3 : List Int => 
impB (l3.length ≤ (9223372036854775807 : Nat)) (
impB (∀ (y : Int), y ∈ l3 → (-9223372036854775808 : Int) ≤ y ∧ y ≤ (9223372036854775807 : Int)) (
impB (sigTurned.pre [DV.n n0, DV.n n1, DV.n n2, DV.l l3]) (
reqB (sigTrue0.pre []) (
allB fun b4 : Bool => 
impB (sigTrue0.post [] [DV.b b4]) (
bR (dec ((60 : Int) < (↑l3.length : Int))) (
 reqB (sigTurned.post [DV.n n0, DV.n n1, DV.n n2, DV.l l3] [DV.b b4]) (
 true)) (
 reqB ((-9223372036854775808 : Int) ≤ n0) (
 reqB (n0 ≤ (9223372036854775807 : Int)) (
 reqB (sigTurn.pre [DV.n n0, DV.n (20 : Int)]) (
 allB fun n5 : Int => 
 impB ((0 : Int) ≤ n5) (
 impB (n5 ≤ (1000 : Int)) (
 impB (sigTurn.post [DV.n n0, DV.n (20 : Int)] [DV.n n5]) (
 reqB ((-9223372036854775808 : Int) ≤ n1) (
 reqB (n1 ≤ (9223372036854775807 : Int)) (
 reqB ((1 : Int) ≤ (1 : Int) + n5) (
 reqB ((1 : Int) + n5 ≤ (1000 : Int)) (
 reqB (sigTurn.pre [DV.n n1, DV.n ((1 : Int) + n5)]) (
 allB fun n6 : Int => 
 impB ((0 : Int) ≤ n6) (
 impB (n6 ≤ (1000 : Int)) (
 impB (sigTurn.post [DV.n n1, DV.n ((1 : Int) + n5)] [DV.n n6]) (
 reqB ((-9223372036854775808 : Int) ≤ n2) (
 reqB (n2 ≤ (9223372036854775807 : Int)) (
 reqB (sigTurn.pre [DV.n n2, DV.n (9 : Int)]) (
 allB fun n7 : Int => 
 impB ((0 : Int) ≤ n7) (
 impB (n7 ≤ (1000 : Int)) (
 impB (sigTurn.post [DV.n n2, DV.n (9 : Int)] [DV.n n7]) (
 reqB (((0 : Nat) + l3.length) * (1 : Nat) ≤ l3.length.mul (1 : Nat)) (
 reqB (l3.length ≤ (60 : Nat)) (
 reqB ((List.take l3.length (List.drop (0 : Nat) l3)).length = l3.length) (
 reqB (∀ (y : Int),
 y ∈ List.take l3.length (List.drop (0 : Nat) l3) → (-9223372036854775808 : Int) ≤ y ∧ y ≤ (9223372036854775807 : Int)) (
 reqB (sigSms.pre [DV.l (List.take l3.length (List.drop (0 : Nat) l3))]) (
 allB fun l8 : List Int => 
 impB (l8.length ≤ (60 : Nat)) (
 impB (∀ (y : Int), y ∈ l8 → (-100 : Int) ≤ y ∧ y ≤ (100 : Int)) (
 allB fun l9 : List Int => 
 impB (l9.length = l8.length) (
 impB (∀ (y : Int), y ∈ l9 → (-100 : Int) ≤ y ∧ y ≤ (100 : Int)) (
 impB (sigSms.post [DV.l (List.take l3.length (List.drop (0 : Nat) l3))] [DV.l l8, DV.l l9]) (
 reqB (((0 : Nat) + l8.length) * (2 : Nat) ≤ l8.length.mul (2 : Nat)) (
 reqB (l8.length ≤ (60 : Nat)) (
 reqB ((List.take l8.length (List.drop (0 : Nat) l8)).length = l8.length) (
 reqB (∀ (y : Int), y ∈ List.take l8.length (List.drop (0 : Nat) l8) → (-100 : Int) ≤ y ∧ y ≤ (100 : Int)) (
 reqB ((List.take l8.length (List.drop (0 : Nat) l9)).length = l8.length) (
 reqB (∀ (y : Int), y ∈ List.take l8.length (List.drop (0 : Nat) l9) → (-100 : Int) ≤ y ∧ y ≤ (100 : Int)) (
 reqB ((1 : Int) ≤ (1 : Int) + n7) (
 reqB ((1 : Int) + n7 ≤ (9 : Int)) (
 reqB (turnL.inv
 [DV.l (List.take l8.length (List.drop (0 : Nat) l8)), DV.l (List.take l8.length (List.drop (0 : Nat) l9)),
 DV.n ((1 : Int) + n7)]
 [DV.n (0 : Int), DV.l [], DV.l [], DV.l [], DV.l []]) (
 allB fun n10 : Int => 
 impB ((0 : Int) ≤ n10) (
 impB (n10 ≤ (60 : Int)) (
 allB fun l11 : List Int => 
 impB (l11.length ≤ (60 : Nat)) (
 impB (∀ (y : Int), y ∈ l11 → (-1000 : Int) ≤ y ∧ y ≤ (1000 : Int)) (
 allB fun l12 : List Int => 
 impB (l12.length = l11.length) (
 impB (∀ (y : Int), y ∈ l12 → (-1000 : Int) ≤ y ∧ y ≤ (1000 : Int)) (
 allB fun l13 : List Int => 
 impB (l13.length ≤ (60 : Nat)) (
 impB (∀ (y : Int), y ∈ l13 → (-1000 : Int) ≤ y ∧ y ≤ (1000 : Int)) (
 allB fun l14 : List Int => 
 impB (l14.length = l13.length) (
 impB (∀ (y : Int), y ∈ l14 → (-1000 : Int) ≤ y ∧ y ≤ (1000 : Int)) (
 impB (turnL.inv
 [DV.l (List.take l8.length (List.drop (0 : Nat) l8)), DV.l (List.take l8.length (List.drop (0 : Nat) l9)),
 DV.n ((1 : Int) + n7)]
 [DV.n n10, DV.l l11, DV.l l12, DV.l l13, DV.l l14]) (
 bR (dec (n10 < (↑l8.length : Int))) (
 reqB (n10.toNat < l8.length) (
 reqB (Nat.add (0 : Nat) n10.toNat < l9.length) (
 reqB (n10.toNat < l8.length) (
 reqB (Nat.add (0 : Nat) n10.toNat < l8.length) (
 reqB (l11.length + (1 : Nat) ≤ (1000000 : Nat)) (
 reqB (((0 : Nat) + l11.length) * (1 + (1 : Nat)) ≤ l11.length.mul (2 : Nat)) (
 reqB (n10.toNat < l8.length) (
 reqB (Nat.add (0 : Nat) n10.toNat < l8.length) (
 reqB (n10.toNat < l8.length) (
 reqB (Nat.add (0 : Nat) n10.toNat < l9.length) (
 reqB (l13.length + (1 : Nat) ≤ (1000000 : Nat)) (
 reqB (((0 : Nat) + l13.length) * (1 + (1 : Nat)) ≤ l13.length.mul (2 : Nat)) (
 bR (bR (dec ((1 : Int) + n5 = (1 : Int) + n5)) (
 bR (dec (n6 = n6)) (
 bR (dec ((1 : Int) + n7 = (1 : Int) + n7)) (
 bR (bR (b4) (
 b4) (
 bR (b4) (
 false) (
 true))) (
 bR (bR (dec ((0 : Nat) = (0 : Nat))) (
 dec (l8.length = l8.length)) (
 false)) (
 true) (
 false)) (
 false)) (
 false)) (
 false)) (
 false)) (
 bR (bR (bR (dec (l8.length.mul (2 : Nat) = l8.length.mul (2 : Nat))) (
 dec ([Col.i Go.IntKind.i64 (-100 : Int) (100 : Int) l8, Col.i Go.IntKind.i64 (-100 : Int) (100 : Int) l9] =
 [Col.i Go.IntKind.i64 (-100 : Int) (100 : Int) l8, Col.i Go.IntKind.i64 (-100 : Int) (100 : Int) l9])) (
 false)) (
 true) (
 false)) (
 reqB ((0 : Int) ≤ n10 + (1 : Int)) (
 reqB (n10 + (1 : Int) ≤ (60 : Int)) (
 reqB (((0 : Nat) + l11.length.add (1 : Nat)) * (2 : Nat) ≤ (l11.length.add (1 : Nat)).mul (1 + (1 : Nat))) (
 reqB (l11.length.add (1 : Nat) ≤ (60 : Nat)) (
 reqB ((List.take (l11.length.add (1 : Nat))
 (List.drop (0 : Nat)
 (List.take l11.length (List.drop (0 : Nat) l11) ++
 [(0 : Int) - l9.getD (Nat.add (0 : Nat) n10.toNat) (0 : Int)]))).length =
 l11.length.add (1 : Nat)) (
 reqB (∀ (y : Int),
 y ∈
 List.take (l11.length.add (1 : Nat))
 (List.drop (0 : Nat)
 (List.take l11.length (List.drop (0 : Nat) l11) ++
 [(0 : Int) - l9.getD (Nat.add (0 : Nat) n10.toNat) (0 : Int)])) →
 (-1000 : Int) ≤ y ∧ y ≤ (1000 : Int)) (
 reqB ((List.take (l11.length.add (1 : Nat))
 (List.drop (0 : Nat)
 (List.take l11.length (List.drop (0 : Nat) l12) ++ [l8.getD (Nat.add (0 : Nat) n10.toNat) (0 : Int)]))).length =
 l11.length.add (1 : Nat)) (
 reqB (∀ (y : Int),
 y ∈
 List.take (l11.length.add (1 : Nat))
 (List.drop (0 : Nat)
 (List.take l11.length (List.drop (0 : Nat) l12) ++ [l8.getD (Nat.add (0 : Nat) n10.toNat) (0 : Int)])) →
 (-1000 : Int) ≤ y ∧ y ≤ (1000 : Int)) (
 reqB (((0 : Nat) + l13.length.add (1 : Nat)) * (2 : Nat) ≤ (l13.length.add (1 : Nat)).mul (1 + (1 : Nat))) (
 reqB (l13.length.add (1 : Nat) ≤ (60 : Nat)) (
 reqB ((List.take (l13.length.add (1 : Nat))
 (List.drop (0 : Nat)
 (List.take l13.length (List.drop (0 : Nat) l13) ++
 [((0 : Int) - ((1 : Int) + n7)) * l8.getD (Nat.add (0 : Nat) n10.toNat) (0 : Int)]))).length =
 l13.length.add (1 : Nat)) (
 reqB (∀ (y : Int),
 y ∈
 List.take (l13.length.add (1 : Nat))
 (List.drop (0 : Nat)
 (List.take l13.length (List.drop (0 : Nat) l13) ++
 [((0 : Int) - ((1 : Int) + n7)) * l8.getD (Nat.add (0 : Nat) n10.toNat) (0 : Int)])) →
 (-1000 : Int) ≤ y ∧ y ≤ (1000 : Int)) (
 reqB ((List.take (l13.length.add (1 : Nat))
 (List.drop (0 : Nat)
 (List.take l13.length (List.drop (0 : Nat) l14) ++
 [((0 : Int) - ((1 : Int) + n7)) * l9.getD (Nat.add (0 : Nat) n10.toNat) (0 : Int)]))).length =
 l13.length.add (1 : Nat)) (
 reqB (∀ (y : Int),
 y ∈
 List.take (l13.length.add (1 : Nat))
 (List.drop (0 : Nat)
 (List.take l13.length (List.drop (0 : Nat) l14) ++
 [((0 : Int) - ((1 : Int) + n7)) * l9.getD (Nat.add (0 : Nat) n10.toNat) (0 : Int)])) →
 (-1000 : Int) ≤ y ∧ y ≤ (1000 : Int)) (
 reqB (turnL.inv
 [DV.l (List.take l8.length (List.drop (0 : Nat) l8)), DV.l (List.take l8.length (List.drop (0 : Nat) l9)),
 DV.n ((1 : Int) + n7)]
 [DV.n (n10 + (1 : Int)),
 DV.l
 (List.take (l11.length.add (1 : Nat))
 (List.drop (0 : Nat)
 (List.take l11.length (List.drop (0 : Nat) l11) ++
 [(0 : Int) - l9.getD (Nat.add (0 : Nat) n10.toNat) (0 : Int)]))),
 DV.l
 (List.take (l11.length.add (1 : Nat))
 (List.drop (0 : Nat)
 (List.take l11.length (List.drop (0 : Nat) l12) ++ [l8.getD (Nat.add (0 : Nat) n10.toNat) (0 : Int)]))),
 DV.l
 (List.take (l13.length.add (1 : Nat))
 (List.drop (0 : Nat)
 (List.take l13.length (List.drop (0 : Nat) l13) ++
 [((0 : Int) - ((1 : Int) + n7)) * l8.getD (Nat.add (0 : Nat) n10.toNat) (0 : Int)]))),
 DV.l
 (List.take (l13.length.add (1 : Nat))
 (List.drop (0 : Nat)
 (List.take l13.length (List.drop (0 : Nat) l14) ++
 [((0 : Int) - ((1 : Int) + n7)) * l9.getD (Nat.add (0 : Nat) n10.toNat) (0 : Int)])))]) (
 reqB (turnL.mea
 [DV.l (List.take l8.length (List.drop (0 : Nat) l8)),
 DV.l (List.take l8.length (List.drop (0 : Nat) l9)), DV.n ((1 : Int) + n7)]
 [DV.n (n10 + (1 : Int)),
 DV.l
 (List.take (l11.length.add (1 : Nat))
 (List.drop (0 : Nat)
 (List.take l11.length (List.drop (0 : Nat) l11) ++
 [(0 : Int) - l9.getD (Nat.add (0 : Nat) n10.toNat) (0 : Int)]))),
 DV.l
 (List.take (l11.length.add (1 : Nat))
 (List.drop (0 : Nat)
 (List.take l11.length (List.drop (0 : Nat) l12) ++ [l8.getD (Nat.add (0 : Nat) n10.toNat) (0 : Int)]))),
 DV.l
 (List.take (l13.length.add (1 : Nat))
 (List.drop (0 : Nat)
 (List.take l13.length (List.drop (0 : Nat) l13) ++
 [((0 : Int) - ((1 : Int) + n7)) * l8.getD (Nat.add (0 : Nat) n10.toNat) (0 : Int)]))),
 DV.l
 (List.take (l13.length.add (1 : Nat))
 (List.drop (0 : Nat)
 (List.take l13.length (List.drop (0 : Nat) l14) ++
 [((0 : Int) - ((1 : Int) + n7)) * l9.getD (Nat.add (0 : Nat) n10.toNat) (0 : Int)])))] <
 turnL.mea
 [DV.l (List.take l8.length (List.drop (0 : Nat) l8)),
 DV.l (List.take l8.length (List.drop (0 : Nat) l9)), DV.n ((1 : Int) + n7)]
 [DV.n n10, DV.l l11, DV.l l12, DV.l l13, DV.l l14]) (
 true))))))))))))))))) (
 false)) (
 false)))))))))))))) (
 reqB ((1 : Int) ≤ (1 : Int) + n5) (
 reqB ((1 : Int) + n5 ≤ (20 : Int)) (
 reqB (sigNew.pre [DV.n ((1 : Int) + n5)]) (
 allB fun l15 : List Int => 
 impB (l15.length ≤ (20 : Nat)) (
 impB (∀ (y : Int), y ∈ l15 → (0 : Int) ≤ y ∧ y ≤ (1000 : Int)) (
 allB fun n16 : Int => 
 impB ((0 : Int) ≤ n16) (
 impB (n16 ≤ (1000 : Int)) (
 allB fun n17 : Int => 
 impB ((-1000 : Int) ≤ n17) (
 impB (n17 ≤ (1000 : Int)) (
 allB fun n18 : Int => 
 impB ((-1000 : Int) ≤ n18) (
 impB (n18 ≤ (1000 : Int)) (
 allB fun n19 : Int => 
 impB ((0 : Int) ≤ n19) (
 impB (n19 ≤ (18 : Int)) (
 impB (sigNew.post [DV.n ((1 : Int) + n5)]
 [DV.l l15, DV.n n16, DV.n n17, DV.n n18, DV.n n19]) (
 reqB (((0 : Nat) + l15.length) * (1 : Nat) ≤ l15.length.mul (1 : Nat)) (
 reqB (l15.length ≤ (20 : Nat)) (
 reqB ((List.take l15.length (List.drop (0 : Nat) l15)).length = l15.length) (
 reqB (∀ (y : Int), y ∈ List.take l15.length (List.drop (0 : Nat) l15) → (0 : Int) ≤ y ∧ y ≤ (1000 : Int)) (
 reqB ((0 : Int) ≤ n16) (
 reqB (n16 ≤ (1000 : Int)) (
 reqB ((-1000 : Int) ≤ n17) (
 reqB (n17 ≤ (1000 : Int)) (
 reqB ((-1000 : Int) ≤ n18) (
 reqB (n18 ≤ (1000 : Int)) (
 reqB (((0 : Nat) + l8.length) * (2 : Nat) ≤ l8.length.mul (2 : Nat)) (
 reqB (l8.length ≤ (200 : Nat)) (
 reqB ((List.take l8.length (List.drop (0 : Nat) l8)).length = l8.length) (
 reqB (∀ (y : Int), y ∈ List.take l8.length (List.drop (0 : Nat) l8) → (-1000 : Int) ≤ y ∧ y ≤ (1000 : Int)) (
 reqB ((List.take l8.length (List.drop (0 : Nat) l9)).length = l8.length) (
 reqB (∀ (y : Int), y ∈ List.take l8.length (List.drop (0 : Nat) l9) → (-1000 : Int) ≤ y ∧ y ≤ (1000 : Int)) (
 reqB (sigFeed.pre
 [DV.l (List.take l15.length (List.drop (0 : Nat) l15)), DV.n n16, DV.n n17, DV.n n18,
 DV.l (List.take l8.length (List.drop (0 : Nat) l8)),
 DV.l (List.take l8.length (List.drop (0 : Nat) l9))]) (
 allB fun l20 : List Int => 
 impB (l20.length ≤ (20 : Nat)) (
 impB (∀ (y : Int), y ∈ l20 → (0 : Int) ≤ y ∧ y ≤ (1000 : Int)) (
 allB fun n21 : Int => 
 impB ((0 : Int) ≤ n21) (
 impB (n21 ≤ (1000 : Int)) (
 allB fun n22 : Int => 
 impB ((-1000 : Int) ≤ n22) (
 impB (n22 ≤ (1000 : Int)) (
 allB fun n23 : Int => 
 impB ((-1000 : Int) ≤ n23) (
 impB (n23 ≤ (1000 : Int)) (
 allB fun n24 : Int => 
 impB ((0 : Int) ≤ n24) (
 impB (n24 ≤ (18 : Int)) (
 impB (sigFeed.post
 [DV.l (List.take l15.length (List.drop (0 : Nat) l15)), DV.n n16, DV.n n17, DV.n n18,
 DV.l (List.take l8.length (List.drop (0 : Nat) l8)),
 DV.l (List.take l8.length (List.drop (0 : Nat) l9))]
 [DV.l l20, DV.n n21, DV.n n22, DV.n n23, DV.n n24]) (
 reqB (((0 : Nat) + l15.length) * (1 : Nat) ≤ l15.length.mul (1 : Nat)) (
 reqB (l15.length ≤ (20 : Nat)) (
 reqB ((List.take l15.length (List.drop (0 : Nat) l15)).length = l15.length) (
 reqB (∀ (y : Int), y ∈ List.take l15.length (List.drop (0 : Nat) l15) → (0 : Int) ≤ y ∧ y ≤ (1000 : Int)) (
 reqB ((0 : Int) ≤ n16) (
 reqB (n16 ≤ (1000 : Int)) (
 reqB ((-1000 : Int) ≤ n17) (
 reqB (n17 ≤ (1000 : Int)) (
 reqB ((-1000 : Int) ≤ n18) (
 reqB (n18 ≤ (1000 : Int)) (
 reqB (((0 : Nat) + l11.length) * (2 : Nat) ≤ l11.length.mul (2 : Nat)) (
 reqB (l11.length ≤ (200 : Nat)) (
 reqB ((List.take l11.length (List.drop (0 : Nat) l11)).length = l11.length) (
 reqB (∀ (y : Int), y ∈ List.take l11.length (List.drop (0 : Nat) l11) → (-1000 : Int) ≤ y ∧ y ≤ (1000 : Int)) (
 reqB ((List.take l11.length (List.drop (0 : Nat) l12)).length = l11.length) (
 reqB (∀ (y : Int), y ∈ List.take l11.length (List.drop (0 : Nat) l12) → (-1000 : Int) ≤ y ∧ y ≤ (1000 : Int)) (
 reqB (sigFeed.pre
 [DV.l (List.take l15.length (List.drop (0 : Nat) l15)), DV.n n16, DV.n n17, DV.n n18,
 DV.l (List.take l11.length (List.drop (0 : Nat) l11)),
 DV.l (List.take l11.length (List.drop (0 : Nat) l12))]) (
 allB fun l25 : List Int => 
 impB (l25.length ≤ (20 : Nat)) (
 impB (∀ (y : Int), y ∈ l25 → (0 : Int) ≤ y ∧ y ≤ (1000 : Int)) (
 allB fun n26 : Int => 
 impB ((0 : Int) ≤ n26) (
 impB (n26 ≤ (1000 : Int)) (
 allB fun n27 : Int => 
 impB ((-1000 : Int) ≤ n27) (
 impB (n27 ≤ (1000 : Int)) (
 allB fun n28 : Int => 
 impB ((-1000 : Int) ≤ n28) (
 impB (n28 ≤ (1000 : Int)) (
 allB fun n29 : Int => 
 impB ((0 : Int) ≤ n29) (
 impB (n29 ≤ (18 : Int)) (
 impB (sigFeed.post
 [DV.l (List.take l15.length (List.drop (0 : Nat) l15)), DV.n n16, DV.n n17, DV.n n18,
 DV.l (List.take l11.length (List.drop (0 : Nat) l11)),
 DV.l (List.take l11.length (List.drop (0 : Nat) l12))]
 [DV.l l25, DV.n n26, DV.n n27, DV.n n28, DV.n n29]) (
 reqB (((0 : Nat) + l15.length) * (1 : Nat) ≤ l15.length.mul (1 : Nat)) (
 reqB (l15.length ≤ (20 : Nat)) (
 reqB ((List.take l15.length (List.drop (0 : Nat) l15)).length = l15.length) (
 reqB (∀ (y : Int), y ∈ List.take l15.length (List.drop (0 : Nat) l15) → (0 : Int) ≤ y ∧ y ≤ (1000 : Int)) (
 reqB ((0 : Int) ≤ n16) (
 reqB (n16 ≤ (1000 : Int)) (
 reqB ((-1000 : Int) ≤ n17) (
 reqB (n17 ≤ (1000 : Int)) (
 reqB ((-1000 : Int) ≤ n18) (
 reqB (n18 ≤ (1000 : Int)) (
 reqB (((0 : Nat) + l13.length) * (2 : Nat) ≤ l13.length.mul (2 : Nat)) (
 reqB (l13.length ≤ (200 : Nat)) (
 reqB ((List.take l13.length (List.drop (0 : Nat) l13)).length = l13.length) (
 reqB (∀ (y : Int), y ∈ List.take l13.length (List.drop (0 : Nat) l13) → (-1000 : Int) ≤ y ∧ y ≤ (1000 : Int)) (
 reqB ((List.take l13.length (List.drop (0 : Nat) l14)).length = l13.length) (
 reqB (∀ (y : Int), y ∈ List.take l13.length (List.drop (0 : Nat) l14) → (-1000 : Int) ≤ y ∧ y ≤ (1000 : Int)) (
 reqB (sigFeed.pre
 [DV.l (List.take l15.length (List.drop (0 : Nat) l15)), DV.n n16, DV.n n17, DV.n n18,
 DV.l (List.take l13.length (List.drop (0 : Nat) l13)),
 DV.l (List.take l13.length (List.drop (0 : Nat) l14))]) (
 allB fun l30 : List Int => 
 impB (l30.length ≤ (20 : Nat)) (
 impB (∀ (y : Int), y ∈ l30 → (0 : Int) ≤ y ∧ y ≤ (1000 : Int)) (
 allB fun n31 : Int => 
 impB ((0 : Int) ≤ n31) (
 impB (n31 ≤ (1000 : Int)) (
 allB fun n32 : Int => 
 impB ((-1000 : Int) ≤ n32) (
 impB (n32 ≤ (1000 : Int)) (
 allB fun n33 : Int => 
 impB ((-1000 : Int) ≤ n33) (
 impB (n33 ≤ (1000 : Int)) (
 allB fun n34 : Int => 
 impB ((0 : Int) ≤ n34) (
 impB (n34 ≤ (18 : Int)) (
 impB (sigFeed.post
 [DV.l (List.take l15.length (List.drop (0 : Nat) l15)), DV.n n16, DV.n n17, DV.n n18,
 DV.l (List.take l13.length (List.drop (0 : Nat) l13)),
 DV.l (List.take l13.length (List.drop (0 : Nat) l14))]
 [DV.l l30, DV.n n31, DV.n n32, DV.n n33, DV.n n34]) (
 bR (dec (n19 ≠ (0 : Int))) (
 reqB (sigTurned.post [DV.n n0, DV.n n1, DV.n n2, DV.l l3] [DV.b Bool.false]) (
 true)) (
 bR (dec (n24 ≠ (0 : Int))) (
 reqB (sigTurned.post [DV.n n0, DV.n n1, DV.n n2, DV.l l3] [DV.b Bool.false]) (
 true)) (
 bR (dec (n29 ≠ (0 : Int))) (
 reqB (sigTurned.post [DV.n n0, DV.n n1, DV.n n2, DV.l l3] [DV.b Bool.false]) (
 true)) (
 bR (dec (n34 ≠ (0 : Int))) (
 reqB (sigTurned.post [DV.n n0, DV.n n1, DV.n n2, DV.l l3] [DV.b Bool.false]) (
 true)) (
 reqB (((0 : Nat) + l20.length) * (1 : Nat) ≤ l20.length.mul (1 : Nat)) (
 reqB (l20.length ≤ (1000 : Nat)) (
 reqB ((List.take l20.length (List.drop (0 : Nat) l20)).length = l20.length) (
 reqB (∀ (y : Int),
 y ∈ List.take l20.length (List.drop (0 : Nat) l20) →
 (-9223372036854775808 : Int) ≤ y ∧ y ≤ (9223372036854775807 : Int)) (
 reqB (((0 : Nat) + l25.length) * (1 : Nat) ≤ l25.length.mul (1 : Nat)) (
 reqB (l25.length ≤ (1000 : Nat)) (
 reqB ((List.take l25.length (List.drop (0 : Nat) l25)).length = l25.length) (
 reqB (∀ (y : Int),
 y ∈ List.take l25.length (List.drop (0 : Nat) l25) →
 (-9223372036854775808 : Int) ≤ y ∧ y ≤ (9223372036854775807 : Int)) (
 reqB (sigEqu.pre
 [DV.l (List.take l20.length (List.drop (0 : Nat) l20)),
 DV.l (List.take l25.length (List.drop (0 : Nat) l25))]) (
 allB fun b35 : Bool => 
 impB (sigEqu.post
 [DV.l (List.take l20.length (List.drop (0 : Nat) l20)),
 DV.l (List.take l25.length (List.drop (0 : Nat) l25))]
 [DV.b b35]) (
 bR (bR (b35) (
 false) (
 true)) (
 reqB (sigTurned.post [DV.n n0, DV.n n1, DV.n n2, DV.l l3] [DV.b Bool.false]) (
 true)) (
 reqB (((0 : Nat) + l20.length) * (1 : Nat) ≤ l20.length.mul (1 : Nat)) (
 reqB (l20.length ≤ (1000 : Nat)) (
 reqB ((List.take l20.length (List.drop (0 : Nat) l20)).length = l20.length) (
 reqB (∀ (y : Int),
 y ∈ List.take l20.length (List.drop (0 : Nat) l20) →
 (-9223372036854775808 : Int) ≤ y ∧ y ≤ (9223372036854775807 : Int)) (
 reqB (((0 : Nat) + l30.length) * (1 : Nat) ≤ l30.length.mul (1 : Nat)) (
 reqB (l30.length ≤ (1000 : Nat)) (
 reqB ((List.take l30.length (List.drop (0 : Nat) l30)).length = l30.length) (
 reqB (∀ (y : Int),
 y ∈ List.take l30.length (List.drop (0 : Nat) l30) →
 (-9223372036854775808 : Int) ≤ y ∧ y ≤ (9223372036854775807 : Int)) (
 reqB (sigEqu.pre
 [DV.l (List.take l20.length (List.drop (0 : Nat) l20)),
 DV.l (List.take l30.length (List.drop (0 : Nat) l30))]) (
 allB fun b36 : Bool => 
 impB (sigEqu.post
 [DV.l (List.take l20.length (List.drop (0 : Nat) l20)),
 DV.l (List.take l30.length (List.drop (0 : Nat) l30))]
 [DV.b b36]) (
 bR (bR (b36) (
 false) (
 true)) (
 reqB (sigTurned.post [DV.n n0, DV.n n1, DV.n n2, DV.l l3] [DV.b Bool.false]) (
 true)) (
 reqB (((0 : Nat) + l8.length) * (2 : Nat) ≤ l8.length.mul (2 : Nat)) (
 reqB (l8.length ≤ (200 : Nat)) (
 reqB ((List.take l8.length (List.drop (0 : Nat) l8)).length = l8.length) (
 reqB (∀ (y : Int),
 y ∈ List.take l8.length (List.drop (0 : Nat) l8) → (-9223372036854775808 : Int) ≤ y ∧ y ≤ (9223372036854775807 : Int)) (
 reqB ((List.take l8.length (List.drop (0 : Nat) l9)).length = l8.length) (
 reqB (∀ (y : Int),
 y ∈ List.take l8.length (List.drop (0 : Nat) l9) → (-9223372036854775808 : Int) ≤ y ∧ y ≤ (9223372036854775807 : Int)) (
 reqB ((-9223372036854775808 : Int) ≤ (1 : Int) + n5) (
 reqB ((1 : Int) + n5 ≤ (9223372036854775807 : Int)) (
 reqB ((-9223372036854775808 : Int) ≤ n6) (
 reqB (n6 ≤ (9223372036854775807 : Int)) (
 reqB (sigRead.pre
 [DV.l (List.take l8.length (List.drop (0 : Nat) l8)), DV.l (List.take l8.length (List.drop (0 : Nat) l9)),
 DV.n ((1 : Int) + n5), DV.n n6]) (
 allB fun l37 : List Int => 
 impB (l37.length ≤ (200 : Nat)) (
 impB (∀ (y : Int), y ∈ l37 → (0 : Int) ≤ y ∧ y ≤ (1 : Int)) (
 allB fun n38 : Int => 
 impB ((0 : Int) ≤ n38) (
 impB (n38 ≤ (18 : Int)) (
 impB (sigRead.post
 [DV.l (List.take l8.length (List.drop (0 : Nat) l8)), DV.l (List.take l8.length (List.drop (0 : Nat) l9)),
 DV.n ((1 : Int) + n5), DV.n n6]
 [DV.l l37, DV.n n38]) (
 reqB (((0 : Nat) + l11.length) * (2 : Nat) ≤ l11.length.mul (2 : Nat)) (
 reqB (l11.length ≤ (200 : Nat)) (
 reqB ((List.take l11.length (List.drop (0 : Nat) l11)).length = l11.length) (
 reqB (∀ (y : Int),
 y ∈ List.take l11.length (List.drop (0 : Nat) l11) →
 (-9223372036854775808 : Int) ≤ y ∧ y ≤ (9223372036854775807 : Int)) (
 reqB ((List.take l11.length (List.drop (0 : Nat) l12)).length = l11.length) (
 reqB (∀ (y : Int),
 y ∈ List.take l11.length (List.drop (0 : Nat) l12) →
 (-9223372036854775808 : Int) ≤ y ∧ y ≤ (9223372036854775807 : Int)) (
 reqB ((-9223372036854775808 : Int) ≤ (1 : Int) + n5) (
 reqB ((1 : Int) + n5 ≤ (9223372036854775807 : Int)) (
 reqB ((-9223372036854775808 : Int) ≤ n6) (
 reqB (n6 ≤ (9223372036854775807 : Int)) (
 reqB (sigRead.pre
 [DV.l (List.take l11.length (List.drop (0 : Nat) l11)),
 DV.l (List.take l11.length (List.drop (0 : Nat) l12)), DV.n ((1 : Int) + n5), DV.n n6]) (
 allB fun l39 : List Int => 
 impB (l39.length ≤ (200 : Nat)) (
 impB (∀ (y : Int), y ∈ l39 → (0 : Int) ≤ y ∧ y ≤ (1 : Int)) (
 allB fun n40 : Int => 
 impB ((0 : Int) ≤ n40) (
 impB (n40 ≤ (18 : Int)) (
 impB (sigRead.post
 [DV.l (List.take l11.length (List.drop (0 : Nat) l11)),
 DV.l (List.take l11.length (List.drop (0 : Nat) l12)), DV.n ((1 : Int) + n5), DV.n n6]
 [DV.l l39, DV.n n40]) (
 reqB (((0 : Nat) + l13.length) * (2 : Nat) ≤ l13.length.mul (2 : Nat)) (
 reqB (l13.length ≤ (200 : Nat)) (
 reqB ((List.take l13.length (List.drop (0 : Nat) l13)).length = l13.length) (
 reqB (∀ (y : Int),
 y ∈ List.take l13.length (List.drop (0 : Nat) l13) →
 (-9223372036854775808 : Int) ≤ y ∧ y ≤ (9223372036854775807 : Int)) (
 reqB ((List.take l13.length (List.drop (0 : Nat) l14)).length = l13.length) (
 reqB (∀ (y : Int),
 y ∈ List.take l13.length (List.drop (0 : Nat) l14) →
 (-9223372036854775808 : Int) ≤ y ∧ y ≤ (9223372036854775807 : Int)) (
 reqB ((-9223372036854775808 : Int) ≤ (1 : Int) + n5) (
 reqB ((1 : Int) + n5 ≤ (9223372036854775807 : Int)) (
 reqB ((-9223372036854775808 : Int) ≤ n6) (
 reqB (n6 ≤ (9223372036854775807 : Int)) (
 reqB (sigRead.pre
 [DV.l (List.take l13.length (List.drop (0 : Nat) l13)),
 DV.l (List.take l13.length (List.drop (0 : Nat) l14)), DV.n ((1 : Int) + n5), DV.n n6]) (
 allB fun l41 : List Int => 
 impB (l41.length ≤ (200 : Nat)) (
 impB (∀ (y : Int), y ∈ l41 → (0 : Int) ≤ y ∧ y ≤ (1 : Int)) (
 allB fun n42 : Int => 
 impB ((0 : Int) ≤ n42) (
 impB (n42 ≤ (18 : Int)) (
 impB (sigRead.post
 [DV.l (List.take l13.length (List.drop (0 : Nat) l13)),
 DV.l (List.take l13.length (List.drop (0 : Nat) l14)), DV.n ((1 : Int) + n5), DV.n n6]
 [DV.l l41, DV.n n42]) (
 bR (b4) (
 bR (dec (n38 = n40)) (
 bR (dec (n38 = n42)) (
 reqB (((0 : Nat) + l37.length) * (1 : Nat) ≤ l37.length.mul (1 : Nat)) (
 reqB (l37.length ≤ (1000 : Nat)) (
 reqB ((List.take l37.length (List.drop (0 : Nat) l37)).length = l37.length) (
 reqB (∀ (y : Int),
 y ∈ List.take l37.length (List.drop (0 : Nat) l37) →
 (-9223372036854775808 : Int) ≤ y ∧ y ≤ (9223372036854775807 : Int)) (
 reqB (((0 : Nat) + l39.length) * (1 : Nat) ≤ l39.length.mul (1 : Nat)) (
 reqB (l39.length ≤ (1000 : Nat)) (
 reqB ((List.take l39.length (List.drop (0 : Nat) l39)).length = l39.length) (
 reqB (∀ (y : Int),
 y ∈ List.take l39.length (List.drop (0 : Nat) l39) →
 (-9223372036854775808 : Int) ≤ y ∧ y ≤ (9223372036854775807 : Int)) (
 reqB (sigEqu.pre
 [DV.l (List.take l37.length (List.drop (0 : Nat) l37)),
 DV.l (List.take l39.length (List.drop (0 : Nat) l39))]) (
 allB fun b43 : Bool => 
 impB (sigEqu.post
 [DV.l (List.take l37.length (List.drop (0 : Nat) l37)),
 DV.l (List.take l39.length (List.drop (0 : Nat) l39))]
 [DV.b b43]) (
 bR (b43) (
 reqB (((0 : Nat) + l37.length) * (1 : Nat) ≤ l37.length.mul (1 : Nat)) (
 reqB (l37.length ≤ (1000 : Nat)) (
 reqB ((List.take l37.length (List.drop (0 : Nat) l37)).length = l37.length) (
 reqB (∀ (y : Int),
 y ∈ List.take l37.length (List.drop (0 : Nat) l37) →
 (-9223372036854775808 : Int) ≤ y ∧ y ≤ (9223372036854775807 : Int)) (
 reqB (((0 : Nat) + l41.length) * (1 : Nat) ≤ l41.length.mul (1 : Nat)) (
 reqB (l41.length ≤ (1000 : Nat)) (
 reqB ((List.take l41.length (List.drop (0 : Nat) l41)).length = l41.length) (
 reqB (∀ (y : Int),
 y ∈ List.take l41.length (List.drop (0 : Nat) l41) →
 (-9223372036854775808 : Int) ≤ y ∧ y ≤ (9223372036854775807 : Int)) (
 reqB (sigEqu.pre
 [DV.l (List.take l37.length (List.drop (0 : Nat) l37)),
 DV.l (List.take l41.length (List.drop (0 : Nat) l41))]) (
 allB fun b44 : Bool => 
 impB (sigEqu.post
 [DV.l (List.take l37.length (List.drop (0 : Nat) l37)),
 DV.l (List.take l41.length (List.drop (0 : Nat) l41))]
 [DV.b b44]) (
 bR (b44) (
 reqB (sigTurned.post [DV.n n0, DV.n n1, DV.n n2, DV.l l3]
 [DV.b (beqB (dec (n38 = (16 : Int))) (dec ((↑l8.length : Int) < n6 + ((1 : Int) + n5))))]) (
 true)) (
 reqB (sigTurned.post [DV.n n0, DV.n n1, DV.n n2, DV.l l3] [DV.b Bool.false]) (
 true))))))))))))) (
 reqB (sigTurned.post [DV.n n0, DV.n n1, DV.n n2, DV.l l3] [DV.b Bool.false]) (
 true))))))))))))) (
 reqB (sigTurned.post [DV.n n0, DV.n n1, DV.n n2, DV.l l3] [DV.b Bool.false]) (
 true))) (
 reqB (sigTurned.post [DV.n n0, DV.n n1, DV.n n2, DV.l l3] [DV.b Bool.false]) (
 true))) (
 reqB (sigTurned.post [DV.n n0, DV.n n1, DV.n n2, DV.l l3] [DV.b Bool.false]) (
 true)))))))))))))))))))))))))))))))))))))))))))))))))))))))))))))))))))))))))))))))))))))))))))))))))))))))))))))))))))))))))))))))))))))))))))))))))))))))))))))))))))))))))))))))))))))))))))))))))))))))))))))))))))))))))))))))))))))))))))))) := by kernel_rfl
set_option maxHeartbeats 8000000 in
theorem vt_BitsyncTurned : vcFn Try.prog [(3, Ext.ctr (ctOf sigTrue0)), (28, Ext.ctr (ctOf sigSms)), (29, Ext.ctr (ctOf sigTurn)), (9, Ext.ctr (ctOf sigNew)), (11, Ext.ctr (ctOf sigFeed)), (16, Ext.ctr (ctOf sigEqu)), (13, Ext.ctr (ctOf sigRead))] (fun f p _ => at2 f p 7 2042 turnL (none)) [] 100 7 sigTurned = true := by
  rw [vc_BitsyncTurned]
  try simp only [Int.toNat_natCast, List.length_set, List.length_replicate, List.length_take, List.length_drop, List.length_append, List.length_cons, List.length_nil, Nat.min_self, List.take_take, lenCols_i, lenCols_b, List.drop_zero, List.take_length, List.take_nil, List.drop_nil, List.take_zero, List.nil_append, Nat.add_eq, Nat.mul_eq, Nat.sub_eq, Nat.zero_add, Nat.add_zero, Nat.sub_zero, Nat.mul_one]
  refine all_i fun n0 => ?_
  refine imp_i fun h0 => ?_
  refine imp_i fun h1 => ?_
  refine all_i fun n1 => ?_
  refine imp_i fun h2 => ?_
  refine imp_i fun h3 => ?_
  refine all_i fun n2 => ?_
  refine imp_i fun h4 => ?_
  refine imp_i fun h5 => ?_
  refine all_i fun l3 => ?_
  refine imp_i fun h6 => ?_
  refine imp_i fun h7 => ?_
  refine imp_i fun h8 => ?_
  try simp only [sigTurned, cIn, List.cons.injEq, DV.b.injEq, and_true, List.length_cons, List.length_nil] at h8
  refine req_i ?_ ?_
  · -- r0
   first | omega | assumption | grind
  refine all_i fun b4 => ?_
  refine imp_i fun h9 => ?_
  try simp only [sigTrue0, List.cons.injEq, DV.b.injEq, and_true, List.length_cons, List.length_nil] at h9
  refine bR_dec (fun h10 => ?_) (fun h10 => ?_)
  ·
   refine req_i ?_ ?_
   · -- r1
    first | omega | ((try simp only [sigTurned, cIn, List.cons.injEq, DV.b.injEq, and_true, List.length_cons, List.length_nil]); first | done | omega | assumption | grind [getD_set, getD_rep, toNat_succ, cntN_yes, cntN_no])
   rfl
  ·
   refine req_i ?_ ?_
   · -- r2
    first | omega | assumption | grind
   refine req_i ?_ ?_
   · -- r3
    first | omega | assumption | grind
   refine req_i ?_ ?_
   · -- r4
    first | trivial | assumption | (simp only [sigTurn, turnPost, List.cons.injEq, DV.b.injEq, and_true, List.length_cons, List.length_nil]; done) | ((try simp only [sigTurn, turnPost, List.cons.injEq, DV.b.injEq, and_true, List.length_cons, List.length_nil]); first | omega | assumption | grind)
   refine all_i fun n5 => ?_
   refine imp_i fun h11 => ?_
   refine imp_i fun h12 => ?_
   refine imp_i fun h13 => ?_
   try simp only [sigTurn, turnPost, List.cons.injEq, DV.b.injEq, and_true, List.length_cons, List.length_nil] at h13
   refine req_i ?_ ?_
   · -- r5
    first | omega | assumption | grind
   refine req_i ?_ ?_
   · -- r6
    first | omega | assumption | grind
   refine req_i ?_ ?_
   · -- r7
    first | omega | assumption | grind
   refine req_i ?_ ?_
   · -- r8
    first | omega | assumption | grind
   refine req_i ?_ ?_
   · -- r9
    first | trivial | assumption | (simp only [sigTurn, turnPost, List.cons.injEq, DV.b.injEq, and_true, List.length_cons, List.length_nil]; done) | ((try simp only [sigTurn, turnPost, List.cons.injEq, DV.b.injEq, and_true, List.length_cons, List.length_nil]); first | omega | assumption | grind)
   refine all_i fun n6 => ?_
   refine imp_i fun h14 => ?_
   refine imp_i fun h15 => ?_
   refine imp_i fun h16 => ?_
   try simp only [sigTurn, turnPost, List.cons.injEq, DV.b.injEq, and_true, List.length_cons, List.length_nil] at h16
   have a6 := Int.emod_nonneg n1 (b := 1 + n5) (by omega)
   have b6 := Int.emod_lt_of_pos n1 (b := 1 + n5) (by omega)
   refine req_i ?_ ?_
   · -- r10
    first | omega | assumption | grind
   refine req_i ?_ ?_
   · -- r11
    first | omega | assumption | grind
   refine req_i ?_ ?_
   · -- r12
    first | trivial | assumption | (simp only [sigTurn, turnPost, List.cons.injEq, DV.b.injEq, and_true, List.length_cons, List.length_nil]; done) | ((try simp only [sigTurn, turnPost, List.cons.injEq, DV.b.injEq, and_true, List.length_cons, List.length_nil]); first | omega | assumption | grind)
   refine all_i fun n7 => ?_
   refine imp_i fun h17 => ?_
   refine imp_i fun h18 => ?_
   refine imp_i fun h19 => ?_
   try simp only [sigTurn, turnPost, List.cons.injEq, DV.b.injEq, and_true, List.length_cons, List.length_nil] at h19
   refine req_i ?_ ?_
   · -- r13
    first | omega | ((try simp only [Nat.mul_eq]); first | done | omega | assumption | grind [getD_set, getD_rep, toNat_succ, cntN_yes, cntN_no])
   refine req_i ?_ ?_
   · -- r14
    first | omega | ((try simp only [Nat.zero_add]); first | done | omega | assumption | grind [getD_set, getD_rep, toNat_succ, cntN_yes, cntN_no])
   refine req_i ?_ ?_
   · -- r15
    first | omega | ((try simp only [List.take_nil, List.take_zero, List.length_take, List.take_length, List.take_take, Nat.min_self, List.drop_nil, List.length_drop, List.drop_zero, List.length_cons, List.length_nil]); first | done | omega | assumption | grind [getD_set, getD_rep, toNat_succ, cntN_yes, cntN_no])
   refine req_i ?_ ?_
   · -- r16
    (try simp only [List.drop_zero, List.take_length]); first | assumption | exact sub_bd (by assumption) (by omega) (by omega)
   refine req_i ?_ ?_
   · -- r17
    first | trivial | assumption | (simp only [sigSms, cIn, smsPost, List.cons.injEq, DV.b.injEq, and_true, List.take_nil, List.take_zero, List.length_take, List.take_length, List.take_take, Nat.min_self, List.drop_nil, List.length_drop, List.drop_zero, List.length_cons, List.length_nil]; done) | ((try simp only [sigSms, cIn, smsPost, List.cons.injEq, DV.b.injEq, and_true, List.take_nil, List.take_zero, List.length_take, List.take_length, List.take_take, Nat.min_self, List.drop_nil, List.length_drop, List.drop_zero, List.length_cons, List.length_nil]); first | omega | assumption | grind)
   refine all_i fun l8 => ?_
   refine imp_i fun h20 => ?_
   refine imp_i fun h21 => ?_
   refine all_i fun l9 => ?_
   refine imp_i fun h22 => ?_
   have tkl9 := take_eq h22
   try simp only [tkl9]
   refine imp_i fun h23 => ?_
   refine imp_i fun h24 => ?_
   try simp only [sigSms, cIn, smsPost, List.cons.injEq, DV.b.injEq, and_true, List.take_nil, List.take_zero, List.length_take, List.take_length, List.take_take, Nat.min_self, List.drop_nil, List.length_drop, List.drop_zero, List.length_cons, List.length_nil] at h24
   refine req_i ?_ ?_
   · -- r18
    first | omega | ((try simp only [Nat.mul_eq]); first | done | omega | assumption | grind [getD_set, getD_rep, toNat_succ, cntN_yes, cntN_no])
   refine req_i ?_ ?_
   · -- r19
    first | omega | ((try simp only [Nat.zero_add]); first | done | omega | assumption | grind [getD_set, getD_rep, toNat_succ, cntN_yes, cntN_no])
   refine req_i ?_ ?_
   · -- r20
    first | omega | ((try simp only [List.take_nil, List.take_zero, List.length_take, List.take_length, List.take_take, Nat.min_self, List.drop_nil, List.length_drop, List.drop_zero, List.length_cons, List.length_nil]); first | done | omega | assumption | grind [getD_set, getD_rep, toNat_succ, cntN_yes, cntN_no])
   refine req_i ?_ ?_
   · -- r21
    (try simp only [List.drop_zero, List.take_length]); first | assumption | exact sub_bd (by assumption) (by omega) (by omega)
   refine req_i ?_ ?_
   · -- r22
    first | omega | ((try simp only [List.take_nil, List.take_zero, List.length_take, List.take_length, List.take_take, Nat.min_self, List.drop_nil, List.length_drop, List.drop_zero, List.length_cons, List.length_nil]); first | done | omega | assumption | grind [getD_set, getD_rep, toNat_succ, cntN_yes, cntN_no])
   refine req_i ?_ ?_
   · -- r23
    (try simp only [List.drop_zero, List.take_length]); first | assumption | exact sub_bd (by assumption) (by omega) (by omega)
   refine req_i ?_ ?_
   · -- r24
    first | omega | assumption | grind
   refine req_i ?_ ?_
   · -- r25
    first | omega | assumption | grind
   refine req_i ?_ ?_
   · -- r26
    exact ⟨by omega, by omega, rfl, rfl, fun j hj => absurd hj (Nat.not_lt_zero j), fun j hj => absurd hj (Nat.not_lt_zero j), fun j hj => absurd hj (Nat.not_lt_zero j), fun j hj => absurd hj (Nat.not_lt_zero j)⟩
   refine all_i fun n10 => ?_
   refine imp_i fun h25 => ?_
   refine imp_i fun h26 => ?_
   refine all_i fun l11 => ?_
   refine imp_i fun h27 => ?_
   refine imp_i fun h28 => ?_
   refine all_i fun l12 => ?_
   refine imp_i fun h29 => ?_
   have tkl12 := take_eq h29
   try simp only [tkl12]
   refine imp_i fun h30 => ?_
   refine all_i fun l13 => ?_
   refine imp_i fun h31 => ?_
   refine imp_i fun h32 => ?_
   refine all_i fun l14 => ?_
   refine imp_i fun h33 => ?_
   have tkl14 := take_eq h33
   try simp only [tkl14]
   refine imp_i fun h34 => ?_
   refine imp_i fun h35 => ?_
   try simp only [turnL, cTn, cA, turnInv, mea1, List.cons.injEq, DV.b.injEq, and_true, List.take_nil, List.take_zero, List.length_take, List.take_length, List.take_take, Nat.min_self, List.drop_nil, List.length_drop, List.drop_zero, List.length_cons, List.length_nil] at h35
   refine bR_dec (fun h36 => ?_) (fun h36 => ?_)
   ·
    have g8 := getD_bd (i := n10.toNat) h21 (by omega) (by omega)
    have g9 := getD_bd (i := n10.toNat) h23 (by omega) (by omega)
    have m8 := mul9 (f := 1 + n7) (by omega) (by omega) g8
    have m9 := mul9 (f := 1 + n7) (by omega) (by omega) g9
    have tk1 := take_snoc (l := l11) (m := l11) (x := 0 - l9.getD n10.toNat 0) rfl
    have tk2 := take_snoc (l := l11) (m := l12) (x := l8.getD n10.toNat 0) h29
    have tk3 := take_snoc (l := l13) (m := l13) (x := (0 - (1 + n7)) * l8.getD n10.toNat 0) rfl
    have tk4 := take_snoc (l := l13) (m := l14) (x := (0 - (1 + n7)) * l9.getD n10.toNat 0) h33
    have sn0 := snoc_all (f := fun j => -(l9.getD j 0)) (o := l11) (x := 0 - l9.getD n10.toNat 0) (fun j hj => h35.2.2.2.2.1 j (by omega)) (by rw [show l11.length = n10.toNat by omega]; omega)
    have sn1 := snoc_all (f := fun j => l8.getD j 0) (o := l12) (x := l8.getD n10.toNat 0) (fun j hj => h35.2.2.2.2.2.1 j (by omega)) (by rw [show l12.length = n10.toNat by omega])
    have sn2 := snoc_all (f := fun j => -(1 + n7) * l8.getD j 0) (o := l13) (x := (0 - (1 + n7)) * l8.getD n10.toNat 0) (fun j hj => h35.2.2.2.2.2.2.1 j (by omega)) (by rw [show l13.length = n10.toNat by omega]; rw [Int.zero_sub])
    have sn3 := snoc_all (f := fun j => -(1 + n7) * l9.getD j 0) (o := l14) (x := (0 - (1 + n7)) * l9.getD n10.toNat 0) (fun j hj => h35.2.2.2.2.2.2.2 j (by omega)) (by rw [show l14.length = n10.toNat by omega]; rw [Int.zero_sub])
    refine req_i ?_ ?_
    · -- r27
     first | omega | ((try simp only [Int.toNat_natCast, List.length_cons, List.length_nil]); first | done | omega | assumption | grind [getD_set, getD_rep, toNat_succ, cntN_yes, cntN_no])
    refine req_i ?_ ?_
    · -- r28
     first | omega | ((try simp only [Int.toNat_natCast, List.length_cons, List.length_nil, Nat.add_eq, Nat.zero_add, Nat.add_zero]); first | done | omega | assumption | grind [getD_set, getD_rep, toNat_succ, cntN_yes, cntN_no])
    refine req_i ?_ ?_
    · -- r29
     first | omega | ((try simp only [Int.toNat_natCast, List.length_cons, List.length_nil]); first | done | omega | assumption | grind [getD_set, getD_rep, toNat_succ, cntN_yes, cntN_no])
    refine req_i ?_ ?_
    · -- r30
     first | omega | ((try simp only [Int.toNat_natCast, List.length_cons, List.length_nil, Nat.add_eq, Nat.zero_add, Nat.add_zero]); first | done | omega | assumption | grind [getD_set, getD_rep, toNat_succ, cntN_yes, cntN_no])
    refine req_i ?_ ?_
    · -- r31
     first | omega | ((try simp only [Nat.zero_add]); first | done | omega | assumption | grind [getD_set, getD_rep, toNat_succ, cntN_yes, cntN_no])
    refine req_i ?_ ?_
    · -- r32
     first | omega | ((try simp only [Nat.mul_eq]); first | done | omega | assumption | grind [getD_set, getD_rep, toNat_succ, cntN_yes, cntN_no])
    refine req_i ?_ ?_
    · -- r33
     first | omega | ((try simp only [Int.toNat_natCast, List.length_cons, List.length_nil]); first | done | omega | assumption | grind [getD_set, getD_rep, toNat_succ, cntN_yes, cntN_no])
    refine req_i ?_ ?_
    · -- r34
     first | omega | ((try simp only [Int.toNat_natCast, List.length_cons, List.length_nil, Nat.add_eq, Nat.zero_add, Nat.add_zero]); first | done | omega | assumption | grind [getD_set, getD_rep, toNat_succ, cntN_yes, cntN_no])
    refine req_i ?_ ?_
    · -- r35
     first | omega | ((try simp only [Int.toNat_natCast, List.length_cons, List.length_nil]); first | done | omega | assumption | grind [getD_set, getD_rep, toNat_succ, cntN_yes, cntN_no])
    refine req_i ?_ ?_
    · -- r36
     first | omega | ((try simp only [Int.toNat_natCast, List.length_cons, List.length_nil, Nat.add_eq, Nat.zero_add, Nat.add_zero]); first | done | omega | assumption | grind [getD_set, getD_rep, toNat_succ, cntN_yes, cntN_no])
    refine req_i ?_ ?_
    · -- r37
     first | omega | ((try simp only [Nat.zero_add]); first | done | omega | assumption | grind [getD_set, getD_rep, toNat_succ, cntN_yes, cntN_no])
    refine req_i ?_ ?_
    · -- r38
     first | omega | ((try simp only [Nat.mul_eq]); first | done | omega | assumption | grind [getD_set, getD_rep, toNat_succ, cntN_yes, cntN_no])
    refine bR_t ?_ ?_
    · -- g0
     first | rfl | (simp only [bR_iff, bR_iff_f, dec_iff, dec_f, beqB_iff', andB_iff', reduceCtorEq, imp_self, false_implies, and_true, true_and, implies_true, and_self]; done) | (simp [bR_iff, dec_iff, beqB_iff', andB_iff']; done) | (simp [bR_iff, dec_iff, beqB_iff', andB_iff']; omega)
    refine bR_t ?_ ?_
    · -- g1
     first | rfl | (simp only [bR_iff, bR_iff_f, dec_iff, dec_f, beqB_iff', andB_iff', reduceCtorEq, imp_self, false_implies, and_true, true_and, implies_true, and_self]; done) | (simp [bR_iff, dec_iff, beqB_iff', andB_iff']; done) | (simp [bR_iff, dec_iff, beqB_iff', andB_iff']; omega)
    refine req_i ?_ ?_
    · -- r39
     first | omega | assumption | grind
    refine req_i ?_ ?_
    · -- r40
     first | omega | assumption | grind
    refine req_i ?_ ?_
    · -- r41
     first | omega | ((try simp only [Nat.add_eq, Nat.zero_add, Nat.add_zero, Nat.mul_eq]); first | done | omega | assumption | grind [getD_set, getD_rep, toNat_succ, cntN_yes, cntN_no])
    refine req_i ?_ ?_
    · -- r42
     first | omega | ((try simp only [Nat.add_eq, Nat.zero_add, Nat.add_zero]); first | done | omega | assumption | grind [getD_set, getD_rep, toNat_succ, cntN_yes, cntN_no])
    refine req_i ?_ ?_
    · -- r43
     first | omega | ((try simp only [Int.toNat_natCast, List.take_nil, List.take_zero, List.length_take, List.take_length, List.take_take, Nat.min_self, List.drop_nil, List.length_drop, List.drop_zero, List.nil_append, List.length_append, List.length_cons, List.length_nil, Nat.add_eq, Nat.zero_add, Nat.add_zero]); first | done | omega | assumption | grind [getD_set, getD_rep, toNat_succ, cntN_yes, cntN_no])
    refine req_i ?_ ?_
    · -- r44
     rw [tk1]; exact app_bd h28 (one_bd (by omega) (by omega))
    refine req_i ?_ ?_
    · -- r45
     first | omega | ((try simp only [Int.toNat_natCast, List.take_nil, List.take_zero, List.length_take, List.take_length, List.take_take, Nat.min_self, List.drop_nil, List.length_drop, List.drop_zero, List.nil_append, List.length_append, List.length_cons, List.length_nil, Nat.add_eq, Nat.zero_add, Nat.add_zero]); first | done | omega | assumption | grind [getD_set, getD_rep, toNat_succ, cntN_yes, cntN_no])
    refine req_i ?_ ?_
    · -- r46
     rw [tk2]; exact app_bd h30 (one_bd (by omega) (by omega))
    refine req_i ?_ ?_
    · -- r47
     first | omega | ((try simp only [Nat.add_eq, Nat.zero_add, Nat.add_zero, Nat.mul_eq]); first | done | omega | assumption | grind [getD_set, getD_rep, toNat_succ, cntN_yes, cntN_no])
    refine req_i ?_ ?_
    · -- r48
     first | omega | ((try simp only [Nat.add_eq, Nat.zero_add, Nat.add_zero]); first | done | omega | assumption | grind [getD_set, getD_rep, toNat_succ, cntN_yes, cntN_no])
    refine req_i ?_ ?_
    · -- r49
     first | omega | ((try simp only [Int.toNat_natCast, List.take_nil, List.take_zero, List.length_take, List.take_length, List.take_take, Nat.min_self, List.drop_nil, List.length_drop, List.drop_zero, List.nil_append, List.length_append, List.length_cons, List.length_nil, Nat.add_eq, Nat.zero_add, Nat.add_zero]); first | done | omega | assumption | grind [getD_set, getD_rep, toNat_succ, cntN_yes, cntN_no])
    refine req_i ?_ ?_
    · -- r50
     rw [tk3]; exact app_bd h32 (one_bd (by omega) (by omega))
    refine req_i ?_ ?_
    · -- r51
     first | omega | ((try simp only [Int.toNat_natCast, List.take_nil, List.take_zero, List.length_take, List.take_length, List.take_take, Nat.min_self, List.drop_nil, List.length_drop, List.drop_zero, List.nil_append, List.length_append, List.length_cons, List.length_nil, Nat.add_eq, Nat.zero_add, Nat.add_zero]); first | done | omega | assumption | grind [getD_set, getD_rep, toNat_succ, cntN_yes, cntN_no])
    refine req_i ?_ ?_
    · -- r52
     rw [tk4]; exact app_bd h34 (one_bd (by omega) (by omega))
    refine req_i ?_ ?_
    · -- r53
     rw [tk1, tk2, tk3, tk4]; exact ⟨by omega, by omega, by rw [List.length_append, List.length_singleton]; omega, by rw [List.length_append, List.length_singleton]; omega, sn0, fun j hj => sn1 j (by rw [List.length_append, List.length_singleton] at hj ⊢; omega), sn2, fun j hj => sn3 j (by rw [List.length_append, List.length_singleton] at hj ⊢; omega)⟩
    refine req_i ?_ ?_
    · -- r54
     first | omega | ((try simp only [turnL, cTn, cA, turnInv, mea1, List.cons.injEq, DV.b.injEq, and_true, Int.toNat_natCast, List.take_nil, List.take_zero, List.length_take, List.take_length, List.take_take, Nat.min_self, List.drop_nil, List.length_drop, List.drop_zero, List.nil_append, List.length_append, List.length_cons, List.length_nil, Nat.add_eq, Nat.zero_add, Nat.add_zero]); first | done | omega | assumption | grind [getD_set, getD_rep, toNat_succ, cntN_yes, cntN_no])
    rfl
   ·
    have h1 := all_neg (b := l11) (y := l9) (by omega) h35.2.2.2.2.1
    have h2 := all_same (b := l12) (y := l8) (by omega) (fun j hj => h35.2.2.2.2.2.1 j (by omega))
    have h3 := all_mul (b := l13) (y := l8) (f := 1 + n7) (by omega) h35.2.2.2.2.2.2.1
    have h4 := all_mul (b := l14) (y := l9) (f := 1 + n7) (by omega) (fun j hj => h35.2.2.2.2.2.2.2 j (by omega))
    refine req_i ?_ ?_
    · -- r55
     first | omega | assumption | grind
    refine req_i ?_ ?_
    · -- r56
     first | omega | assumption | grind
    refine req_i ?_ ?_
    · -- r57
     first | trivial | assumption | (simp only [sigNew, syncV, newPost, cChg, List.cons.injEq, DV.b.injEq, and_true, List.length_cons, List.length_nil]; done) | ((try simp only [sigNew, syncV, newPost, cChg, List.cons.injEq, DV.b.injEq, and_true, List.length_cons, List.length_nil]); first | omega | assumption | grind)
    refine all_i fun l15 => ?_
    refine imp_i fun h37 => ?_
    refine imp_i fun h38 => ?_
    refine all_i fun n16 => ?_
    refine imp_i fun h39 => ?_
    refine imp_i fun h40 => ?_
    refine all_i fun n17 => ?_
    refine imp_i fun h41 => ?_
    refine imp_i fun h42 => ?_
    refine all_i fun n18 => ?_
    refine imp_i fun h43 => ?_
    refine imp_i fun h44 => ?_
    refine all_i fun n19 => ?_
    refine imp_i fun h45 => ?_
    refine imp_i fun h46 => ?_
    refine imp_i fun h47 => ?_
    try simp only [sigNew, syncV, newPost, cChg, List.cons.injEq, DV.b.injEq, and_true, List.length_cons, List.length_nil] at h47
    obtain ⟨w1, w2, w3, w4, w5⟩ := h47
    have k15 : l15.length = (1 + n5).toNat := by rw [w2, List.length_replicate]
    have s15 : sumL l15 = 0 := by rw [w2, sumL_rep]
    refine req_i ?_ ?_
    · -- r58
     first | omega | ((try simp only [Nat.mul_eq]); first | done | omega | assumption | grind [getD_set, getD_rep, toNat_succ, cntN_yes, cntN_no])
    refine req_i ?_ ?_
    · -- r59
     first | omega | ((try simp only [Nat.zero_add]); first | done | omega | assumption | grind [getD_set, getD_rep, toNat_succ, cntN_yes, cntN_no])
    refine req_i ?_ ?_
    · -- r60
     first | omega | ((try simp only [List.take_nil, List.take_zero, List.length_take, List.take_length, List.take_take, Nat.min_self, List.drop_nil, List.length_drop, List.drop_zero, List.length_cons, List.length_nil]); first | done | omega | assumption | grind [getD_set, getD_rep, toNat_succ, cntN_yes, cntN_no])
    refine req_i ?_ ?_
    · -- r61
     (try simp only [List.drop_zero, List.take_length]); first | assumption | exact sub_bd (by assumption) (by omega) (by omega)
    refine req_i ?_ ?_
    · -- r62
     first | omega | assumption | grind
    refine req_i ?_ ?_
    · -- r63
     first | omega | assumption | grind
    refine req_i ?_ ?_
    · -- r64
     first | omega | assumption | grind
    refine req_i ?_ ?_
    · -- r65
     first | omega | assumption | grind
    refine req_i ?_ ?_
    · -- r66
     first | omega | assumption | grind
    refine req_i ?_ ?_
    · -- r67
     first | omega | assumption | grind
    refine req_i ?_ ?_
    · -- r68
     first | omega | ((try simp only [Nat.mul_eq]); first | done | omega | assumption | grind [getD_set, getD_rep, toNat_succ, cntN_yes, cntN_no])
    refine req_i ?_ ?_
    · -- r69
     first | omega | ((try simp only [Nat.zero_add]); first | done | omega | assumption | grind [getD_set, getD_rep, toNat_succ, cntN_yes, cntN_no])
    refine req_i ?_ ?_
    · -- r70
     first | omega | ((try simp only [List.take_nil, List.take_zero, List.length_take, List.take_length, List.take_take, Nat.min_self, List.drop_nil, List.length_drop, List.drop_zero, List.length_cons, List.length_nil]); first | done | omega | assumption | grind [getD_set, getD_rep, toNat_succ, cntN_yes, cntN_no])
    refine req_i ?_ ?_
    · -- r71
     (try simp only [List.drop_zero, List.take_length]); first | assumption | exact sub_bd (by assumption) (by omega) (by omega)
    refine req_i ?_ ?_
    · -- r72
     first | omega | ((try simp only [List.take_nil, List.take_zero, List.length_take, List.take_length, List.take_take, Nat.min_self, List.drop_nil, List.length_drop, List.drop_zero, List.length_cons, List.length_nil]); first | done | omega | assumption | grind [getD_set, getD_rep, toNat_succ, cntN_yes, cntN_no])
    refine req_i ?_ ?_
    · -- r73
     (try simp only [List.drop_zero, List.take_length]); first | assumption | exact sub_bd (by assumption) (by omega) (by omega)
    refine req_i ?_ ?_
    · -- r74
     exact ⟨by omega, by omega, fun _ => ⟨w4, w5⟩, by omega⟩
    refine all_i fun l20 => ?_
    refine imp_i fun h48 => ?_
    refine imp_i fun h49 => ?_
    refine all_i fun n21 => ?_
    refine imp_i fun h50 => ?_
    refine imp_i fun h51 => ?_
    refine all_i fun n22 => ?_
    refine imp_i fun h52 => ?_
    refine imp_i fun h53 => ?_
    refine all_i fun n23 => ?_
    refine imp_i fun h54 => ?_
    refine imp_i fun h55 => ?_
    refine all_i fun n24 => ?_
    refine imp_i fun h56 => ?_
    refine imp_i fun h57 => ?_
    refine imp_i fun h58 => ?_
    try simp only [Int.toNat_natCast, List.length_set, List.length_replicate, List.length_take, List.length_drop, List.length_append, List.length_cons, List.length_nil, Nat.min_self, List.take_take, lenCols_i, lenCols_b, List.drop_zero, List.take_length, List.take_nil, List.drop_nil, List.take_zero, List.nil_append, Nat.add_eq, Nat.mul_eq, Nat.sub_eq, Nat.zero_add, Nat.add_zero, Nat.sub_zero, Nat.mul_one] at h58
    obtain ⟨a1, a2, a3, a4, a5⟩ := h58
    refine req_i ?_ ?_
    · -- r75
     first | omega | ((try simp only [Nat.mul_eq]); first | done | omega | assumption | grind [getD_set, getD_rep, toNat_succ, cntN_yes, cntN_no])
    refine req_i ?_ ?_
    · -- r76
     first | omega | ((try simp only [Nat.zero_add]); first | done | omega | assumption | grind [getD_set, getD_rep, toNat_succ, cntN_yes, cntN_no])
    refine req_i ?_ ?_
    · -- r77
     first | omega | ((try simp only [List.take_nil, List.take_zero, List.length_take, List.take_length, List.take_take, Nat.min_self, List.drop_nil, List.length_drop, List.drop_zero, List.length_cons, List.length_nil]); first | done | omega | assumption | grind [getD_set, getD_rep, toNat_succ, cntN_yes, cntN_no])
    refine req_i ?_ ?_
    · -- r78
     (try simp only [List.drop_zero, List.take_length]); first | assumption | exact sub_bd (by assumption) (by omega) (by omega)
    refine req_i ?_ ?_
    · -- r79
     first | omega | assumption | grind
    refine req_i ?_ ?_
    · -- r80
     first | omega | assumption | grind
    refine req_i ?_ ?_
    · -- r81
     first | omega | assumption | grind
    refine req_i ?_ ?_
    · -- r82
     first | omega | assumption | grind
    refine req_i ?_ ?_
    · -- r83
     first | omega | assumption | grind
    refine req_i ?_ ?_
    · -- r84
     first | omega | assumption | grind
    refine req_i ?_ ?_
    · -- r85
     first | omega | ((try simp only [Nat.mul_eq]); first | done | omega | assumption | grind [getD_set, getD_rep, toNat_succ, cntN_yes, cntN_no])
    refine req_i ?_ ?_
    · -- r86
     first | omega | ((try simp only [Nat.zero_add]); first | done | omega | assumption | grind [getD_set, getD_rep, toNat_succ, cntN_yes, cntN_no])
    refine req_i ?_ ?_
    · -- r87
     first | omega | ((try simp only [List.take_nil, List.take_zero, List.length_take, List.take_length, List.take_take, Nat.min_self, List.drop_nil, List.length_drop, List.drop_zero, List.length_cons, List.length_nil]); first | done | omega | assumption | grind [getD_set, getD_rep, toNat_succ, cntN_yes, cntN_no])
    refine req_i ?_ ?_
    · -- r88
     (try simp only [List.drop_zero, List.take_length]); first | assumption | exact sub_bd (by assumption) (by omega) (by omega)
    refine req_i ?_ ?_
    · -- r89
     first | omega | ((try simp only [List.take_nil, List.take_zero, List.length_take, List.take_length, List.take_take, Nat.min_self, List.drop_nil, List.length_drop, List.drop_zero, List.length_cons, List.length_nil]); first | done | omega | assumption | grind [getD_set, getD_rep, toNat_succ, cntN_yes, cntN_no])
    refine req_i ?_ ?_
    · -- r90
     (try simp only [List.drop_zero, List.take_length]); first | assumption | exact sub_bd (by assumption) (by omega) (by omega)
    refine req_i ?_ ?_
    · -- r91
     exact ⟨by omega, by omega, fun _ => ⟨w4, w5⟩, by omega⟩
    refine all_i fun l25 => ?_
    refine imp_i fun h59 => ?_
    refine imp_i fun h60 => ?_
    refine all_i fun n26 => ?_
    refine imp_i fun h61 => ?_
    refine imp_i fun h62 => ?_
    refine all_i fun n27 => ?_
    refine imp_i fun h63 => ?_
    refine imp_i fun h64 => ?_
    refine all_i fun n28 => ?_
    refine imp_i fun h65 => ?_
    refine imp_i fun h66 => ?_
    refine all_i fun n29 => ?_
    refine imp_i fun h67 => ?_
    refine imp_i fun h68 => ?_
    refine imp_i fun h69 => ?_
    try simp only [Int.toNat_natCast, List.length_set, List.length_replicate, List.length_take, List.length_drop, List.length_append, List.length_cons, List.length_nil, Nat.min_self, List.take_take, lenCols_i, lenCols_b, List.drop_zero, List.take_length, List.take_nil, List.drop_nil, List.take_zero, List.nil_append, Nat.add_eq, Nat.mul_eq, Nat.sub_eq, Nat.zero_add, Nat.add_zero, Nat.sub_zero, Nat.mul_one] at h69
    obtain ⟨b1, b2, b3, b4, b5⟩ := h69
    have E1 : l20 = l25 := by rw [a2, b2, w4, w5, chN_congr (fun n => chg_turn h1 h2 n), show l11.length = l8.length by omega]
    refine req_i ?_ ?_
    · -- r92
     first | omega | ((try simp only [Nat.mul_eq]); first | done | omega | assumption | grind [getD_set, getD_rep, toNat_succ, cntN_yes, cntN_no])
    refine req_i ?_ ?_
    · -- r93
     first | omega | ((try simp only [Nat.zero_add]); first | done | omega | assumption | grind [getD_set, getD_rep, toNat_succ, cntN_yes, cntN_no])
    refine req_i ?_ ?_
    · -- r94
     first | omega | ((try simp only [List.take_nil, List.take_zero, List.length_take, List.take_length, List.take_take, Nat.min_self, List.drop_nil, List.length_drop, List.drop_zero, List.length_cons, List.length_nil]); first | done | omega | assumption | grind [getD_set, getD_rep, toNat_succ, cntN_yes, cntN_no])
    refine req_i ?_ ?_
    · -- r95
     (try simp only [List.drop_zero, List.take_length]); first | assumption | exact sub_bd (by assumption) (by omega) (by omega)
    refine req_i ?_ ?_
    · -- r96
     first | omega | assumption | grind
    refine req_i ?_ ?_
    · -- r97
     first | omega | assumption | grind
    refine req_i ?_ ?_
    · -- r98
     first | omega | assumption | grind
    refine req_i ?_ ?_
    · -- r99
     first | omega | assumption | grind
    refine req_i ?_ ?_
    · -- r100
     first | omega | assumption | grind
    refine req_i ?_ ?_
    · -- r101
     first | omega | assumption | grind
    refine req_i ?_ ?_
    · -- r102
     first | omega | ((try simp only [Nat.mul_eq]); first | done | omega | assumption | grind [getD_set, getD_rep, toNat_succ, cntN_yes, cntN_no])
    refine req_i ?_ ?_
    · -- r103
     first | omega | ((try simp only [Nat.zero_add]); first | done | omega | assumption | grind [getD_set, getD_rep, toNat_succ, cntN_yes, cntN_no])
    refine req_i ?_ ?_
    · -- r104
     first | omega | ((try simp only [List.take_nil, List.take_zero, List.length_take, List.take_length, List.take_take, Nat.min_self, List.drop_nil, List.length_drop, List.drop_zero, List.length_cons, List.length_nil]); first | done | omega | assumption | grind [getD_set, getD_rep, toNat_succ, cntN_yes, cntN_no])
    refine req_i ?_ ?_
    · -- r105
     (try simp only [List.drop_zero, List.take_length]); first | assumption | exact sub_bd (by assumption) (by omega) (by omega)
    refine req_i ?_ ?_
    · -- r106
     first | omega | ((try simp only [List.take_nil, List.take_zero, List.length_take, List.take_length, List.take_take, Nat.min_self, List.drop_nil, List.length_drop, List.drop_zero, List.length_cons, List.length_nil]); first | done | omega | assumption | grind [getD_set, getD_rep, toNat_succ, cntN_yes, cntN_no])
    refine req_i ?_ ?_
    · -- r107
     (try simp only [List.drop_zero, List.take_length]); first | assumption | exact sub_bd (by assumption) (by omega) (by omega)
    refine req_i ?_ ?_
    · -- r108
     exact ⟨by omega, by omega, fun _ => ⟨w4, w5⟩, by omega⟩
    refine all_i fun l30 => ?_
    refine imp_i fun h70 => ?_
    refine imp_i fun h71 => ?_
    refine all_i fun n31 => ?_
    refine imp_i fun h72 => ?_
    refine imp_i fun h73 => ?_
    refine all_i fun n32 => ?_
    refine imp_i fun h74 => ?_
    refine imp_i fun h75 => ?_
    refine all_i fun n33 => ?_
    refine imp_i fun h76 => ?_
    refine imp_i fun h77 => ?_
    refine all_i fun n34 => ?_
    refine imp_i fun h78 => ?_
    refine imp_i fun h79 => ?_
    refine imp_i fun h80 => ?_
    try simp only [Int.toNat_natCast, List.length_set, List.length_replicate, List.length_take, List.length_drop, List.length_append, List.length_cons, List.length_nil, Nat.min_self, List.take_take, lenCols_i, lenCols_b, List.drop_zero, List.take_length, List.take_nil, List.drop_nil, List.take_zero, List.nil_append, Nat.add_eq, Nat.mul_eq, Nat.sub_eq, Nat.zero_add, Nat.add_zero, Nat.sub_zero, Nat.mul_one] at h80
    obtain ⟨c1, c2, c3, c4, c5⟩ := h80
    have E2 : l20 = l30 := by rw [a2, c2, w4, w5, chN_congr (fun n => chg_mul (f := 1 + n7) (by omega) h3 h4 n), show l13.length = l8.length by omega]
    refine bR_dec (fun h81 => ?_) (fun h81 => ?_)
    ·
     refine req_i ?_ ?_
     · -- r109
      first | omega | ((try simp only [sigTurned, cIn, List.cons.injEq, DV.b.injEq, and_true, List.length_cons, List.length_nil]); first | done | omega | assumption | grind [getD_set, getD_rep, toNat_succ, cntN_yes, cntN_no])
     rfl
    ·
     refine bR_dec (fun h82 => ?_) (fun h82 => ?_)
     ·
      refine req_i ?_ ?_
      · -- r110
       first | omega | ((try simp only [sigTurned, cIn, List.cons.injEq, DV.b.injEq, and_true, List.length_cons, List.length_nil]); first | done | omega | assumption | grind [getD_set, getD_rep, toNat_succ, cntN_yes, cntN_no])
      rfl
     ·
      refine bR_dec (fun h83 => ?_) (fun h83 => ?_)
      ·
       refine req_i ?_ ?_
       · -- r111
        first | omega | ((try simp only [sigTurned, cIn, List.cons.injEq, DV.b.injEq, and_true, List.length_cons, List.length_nil]); first | done | omega | assumption | grind [getD_set, getD_rep, toNat_succ, cntN_yes, cntN_no])
       rfl
      ·
       refine bR_dec (fun h84 => ?_) (fun h84 => ?_)
       ·
        refine req_i ?_ ?_
        · -- r112
         first | omega | ((try simp only [sigTurned, cIn, List.cons.injEq, DV.b.injEq, and_true, List.length_cons, List.length_nil]); first | done | omega | assumption | grind [getD_set, getD_rep, toNat_succ, cntN_yes, cntN_no])
        rfl
       ·
        refine req_i ?_ ?_
        · -- r113
         first | omega | ((try simp only [Nat.mul_eq]); first | done | omega | assumption | grind [getD_set, getD_rep, toNat_succ, cntN_yes, cntN_no])
        refine req_i ?_ ?_
        · -- r114
         first | omega | ((try simp only [Nat.zero_add]); first | done | omega | assumption | grind [getD_set, getD_rep, toNat_succ, cntN_yes, cntN_no])
        refine req_i ?_ ?_
        · -- r115
         first | omega | ((try simp only [List.take_nil, List.take_zero, List.length_take, List.take_length, List.take_take, Nat.min_self, List.drop_nil, List.length_drop, List.drop_zero, List.length_cons, List.length_nil]); first | done | omega | assumption | grind [getD_set, getD_rep, toNat_succ, cntN_yes, cntN_no])
        refine req_i ?_ ?_
        · -- r116
         (try simp only [List.drop_zero, List.take_length]); first | assumption | exact sub_bd (by assumption) (by omega) (by omega)
        refine req_i ?_ ?_
        · -- r117
         first | omega | ((try simp only [Nat.mul_eq]); first | done | omega | assumption | grind [getD_set, getD_rep, toNat_succ, cntN_yes, cntN_no])
        refine req_i ?_ ?_
        · -- r118
         first | omega | ((try simp only [Nat.zero_add]); first | done | omega | assumption | grind [getD_set, getD_rep, toNat_succ, cntN_yes, cntN_no])
        refine req_i ?_ ?_
        · -- r119
         first | omega | ((try simp only [List.take_nil, List.take_zero, List.length_take, List.take_length, List.take_take, Nat.min_self, List.drop_nil, List.length_drop, List.drop_zero, List.length_cons, List.length_nil]); first | done | omega | assumption | grind [getD_set, getD_rep, toNat_succ, cntN_yes, cntN_no])
        refine req_i ?_ ?_
        · -- r120
         (try simp only [List.drop_zero, List.take_length]); first | assumption | exact sub_bd (by assumption) (by omega) (by omega)
        refine req_i ?_ ?_
        · -- r121
         first | omega | ((try simp only [sigEqu, cIn, equP, List.cons.injEq, DV.b.injEq, and_true, List.take_nil, List.take_zero, List.length_take, List.take_length, List.take_take, Nat.min_self, List.drop_nil, List.length_drop, List.drop_zero, List.length_cons, List.length_nil]); first | done | omega | assumption | grind [getD_set, getD_rep, toNat_succ, cntN_yes, cntN_no])
        refine all_i fun b35 => ?_
        refine imp_i fun h85 => ?_
        try simp only [sigEqu, cIn, equP, List.cons.injEq, DV.b.injEq, and_true, List.take_nil, List.take_zero, List.length_take, List.take_length, List.take_take, Nat.min_self, List.drop_nil, List.length_drop, List.drop_zero, List.length_cons, List.length_nil] at h85
        refine bR_i (fun h86 => ?_) (fun h86 => ?_)
        ·
         simp only [bR_iff, bR_iff_f, dec_iff, dec_f, Bool.false_eq_true, Bool.true_eq_false, false_implies, imp_false, and_true, true_and, implies_true, Classical.not_not] at h86
         refine req_i ?_ ?_
         · -- r122
          have hh := h85.2 E1; simp [hh, bR] at h86
         rfl
        ·
         simp only [bR_iff, bR_iff_f, dec_iff, dec_f, Bool.false_eq_true, Bool.true_eq_false, false_implies, imp_false, and_true, true_and, implies_true, Classical.not_not] at h86
         refine req_i ?_ ?_
         · -- r123
          first | omega | ((try simp only [Nat.mul_eq]); first | done | omega | assumption | grind [getD_set, getD_rep, toNat_succ, cntN_yes, cntN_no])
         refine req_i ?_ ?_
         · -- r124
          first | omega | ((try simp only [Nat.zero_add]); first | done | omega | assumption | grind [getD_set, getD_rep, toNat_succ, cntN_yes, cntN_no])
         refine req_i ?_ ?_
         · -- r125
          first | omega | ((try simp only [List.take_nil, List.take_zero, List.length_take, List.take_length, List.take_take, Nat.min_self, List.drop_nil, List.length_drop, List.drop_zero, List.length_cons, List.length_nil]); first | done | omega | assumption | grind [getD_set, getD_rep, toNat_succ, cntN_yes, cntN_no])
         refine req_i ?_ ?_
         · -- r126
          (try simp only [List.drop_zero, List.take_length]); first | assumption | exact sub_bd (by assumption) (by omega) (by omega)
         refine req_i ?_ ?_
         · -- r127
          first | omega | ((try simp only [Nat.mul_eq]); first | done | omega | assumption | grind [getD_set, getD_rep, toNat_succ, cntN_yes, cntN_no])
         refine req_i ?_ ?_
         · -- r128
          first | omega | ((try simp only [Nat.zero_add]); first | done | omega | assumption | grind [getD_set, getD_rep, toNat_succ, cntN_yes, cntN_no])
         refine req_i ?_ ?_
         · -- r129
          first | omega | ((try simp only [List.take_nil, List.take_zero, List.length_take, List.take_length, List.take_take, Nat.min_self, List.drop_nil, List.length_drop, List.drop_zero, List.length_cons, List.length_nil]); first | done | omega | assumption | grind [getD_set, getD_rep, toNat_succ, cntN_yes, cntN_no])
         refine req_i ?_ ?_
         · -- r130
          (try simp only [List.drop_zero, List.take_length]); first | assumption | exact sub_bd (by assumption) (by omega) (by omega)
         refine req_i ?_ ?_
         · -- r131
          first | omega | ((try simp only [sigEqu, cIn, equP, List.cons.injEq, DV.b.injEq, and_true, List.take_nil, List.take_zero, List.length_take, List.take_length, List.take_take, Nat.min_self, List.drop_nil, List.length_drop, List.drop_zero, List.length_cons, List.length_nil]); first | done | omega | assumption | grind [getD_set, getD_rep, toNat_succ, cntN_yes, cntN_no])
         refine all_i fun b36 => ?_
         refine imp_i fun h87 => ?_
         try simp only [sigEqu, cIn, equP, List.cons.injEq, DV.b.injEq, and_true, List.take_nil, List.take_zero, List.length_take, List.take_length, List.take_take, Nat.min_self, List.drop_nil, List.length_drop, List.drop_zero, List.length_cons, List.length_nil] at h87
         refine bR_i (fun h88 => ?_) (fun h88 => ?_)
         ·
          simp only [bR_iff, bR_iff_f, dec_iff, dec_f, Bool.false_eq_true, Bool.true_eq_false, false_implies, imp_false, and_true, true_and, implies_true, Classical.not_not] at h88
          refine req_i ?_ ?_
          · -- r132
           have hh := h87.2 E2; simp [hh, bR] at h88
          rfl
         ·
          simp only [bR_iff, bR_iff_f, dec_iff, dec_f, Bool.false_eq_true, Bool.true_eq_false, false_implies, imp_false, and_true, true_and, implies_true, Classical.not_not] at h88
          refine req_i ?_ ?_
          · -- r133
           first | omega | ((try simp only [Nat.mul_eq]); first | done | omega | assumption | grind [getD_set, getD_rep, toNat_succ, cntN_yes, cntN_no])
          refine req_i ?_ ?_
          · -- r134
           first | omega | ((try simp only [Nat.zero_add]); first | done | omega | assumption | grind [getD_set, getD_rep, toNat_succ, cntN_yes, cntN_no])
          refine req_i ?_ ?_
          · -- r135
           first | omega | ((try simp only [List.take_nil, List.take_zero, List.length_take, List.take_length, List.take_take, Nat.min_self, List.drop_nil, List.length_drop, List.drop_zero, List.length_cons, List.length_nil]); first | done | omega | assumption | grind [getD_set, getD_rep, toNat_succ, cntN_yes, cntN_no])
          refine req_i ?_ ?_
          · -- r136
           (try simp only [List.drop_zero, List.take_length]); first | assumption | exact sub_bd (by assumption) (by omega) (by omega)
          refine req_i ?_ ?_
          · -- r137
           first | omega | ((try simp only [List.take_nil, List.take_zero, List.length_take, List.take_length, List.take_take, Nat.min_self, List.drop_nil, List.length_drop, List.drop_zero, List.length_cons, List.length_nil]); first | done | omega | assumption | grind [getD_set, getD_rep, toNat_succ, cntN_yes, cntN_no])
          refine req_i ?_ ?_
          · -- r138
           (try simp only [List.drop_zero, List.take_length]); first | assumption | exact sub_bd (by assumption) (by omega) (by omega)
          refine req_i ?_ ?_
          · -- r139
           first | omega | assumption | grind
          refine req_i ?_ ?_
          · -- r140
           first | omega | assumption | grind
          refine req_i ?_ ?_
          · -- r141
           first | omega | assumption | grind
          refine req_i ?_ ?_
          · -- r142
           first | omega | assumption | grind
          refine req_i ?_ ?_
          · -- r143
           first | omega | ((try simp only [sigRead, cS2, cBt, readPost, List.cons.injEq, DV.b.injEq, and_true, List.take_nil, List.take_zero, List.length_take, List.take_length, List.take_take, Nat.min_self, List.drop_nil, List.length_drop, List.drop_zero, List.length_cons, List.length_nil]); first | done | omega | assumption | grind [getD_set, getD_rep, toNat_succ, cntN_yes, cntN_no])
          refine all_i fun l37 => ?_
          refine imp_i fun h89 => ?_
          refine imp_i fun h90 => ?_
          refine all_i fun n38 => ?_
          refine imp_i fun h91 => ?_
          refine imp_i fun h92 => ?_
          refine imp_i fun h93 => ?_
          try simp only [Int.toNat_natCast, List.length_set, List.length_replicate, List.length_take, List.length_drop, List.length_append, List.length_cons, List.length_nil, Nat.min_self, List.take_take, lenCols_i, lenCols_b, List.drop_zero, List.take_length, List.take_nil, List.drop_nil, List.take_zero, List.nil_append, Nat.add_eq, Nat.mul_eq, Nat.sub_eq, Nat.zero_add, Nat.add_zero, Nat.sub_zero, Nat.mul_one] at h93
          have g1 := good_small (m := 100) (pb := 1 + n5) (a := n6) (by omega) ⟨by omega, by omega, by omega, by omega⟩ h21 h23 (by omega)
          have R1 := read_good g1 h93
          refine req_i ?_ ?_
          · -- r144
           first | omega | ((try simp only [Nat.mul_eq]); first | done | omega | assumption | grind [getD_set, getD_rep, toNat_succ, cntN_yes, cntN_no])
          refine req_i ?_ ?_
          · -- r145
           first | omega | ((try simp only [Nat.zero_add]); first | done | omega | assumption | grind [getD_set, getD_rep, toNat_succ, cntN_yes, cntN_no])
          refine req_i ?_ ?_
          · -- r146
           first | omega | ((try simp only [List.take_nil, List.take_zero, List.length_take, List.take_length, List.take_take, Nat.min_self, List.drop_nil, List.length_drop, List.drop_zero, List.length_cons, List.length_nil]); first | done | omega | assumption | grind [getD_set, getD_rep, toNat_succ, cntN_yes, cntN_no])
          refine req_i ?_ ?_
          · -- r147
           (try simp only [List.drop_zero, List.take_length]); first | assumption | exact sub_bd (by assumption) (by omega) (by omega)
          refine req_i ?_ ?_
          · -- r148
           first | omega | ((try simp only [List.take_nil, List.take_zero, List.length_take, List.take_length, List.take_take, Nat.min_self, List.drop_nil, List.length_drop, List.drop_zero, List.length_cons, List.length_nil]); first | done | omega | assumption | grind [getD_set, getD_rep, toNat_succ, cntN_yes, cntN_no])
          refine req_i ?_ ?_
          · -- r149
           (try simp only [List.drop_zero, List.take_length]); first | assumption | exact sub_bd (by assumption) (by omega) (by omega)
          refine req_i ?_ ?_
          · -- r150
           first | omega | assumption | grind
          refine req_i ?_ ?_
          · -- r151
           first | omega | assumption | grind
          refine req_i ?_ ?_
          · -- r152
           first | omega | assumption | grind
          refine req_i ?_ ?_
          · -- r153
           first | omega | assumption | grind
          refine req_i ?_ ?_
          · -- r154
           first | omega | ((try simp only [sigRead, cS2, cBt, readPost, List.cons.injEq, DV.b.injEq, and_true, List.take_nil, List.take_zero, List.length_take, List.take_length, List.take_take, Nat.min_self, List.drop_nil, List.length_drop, List.drop_zero, List.length_cons, List.length_nil]); first | done | omega | assumption | grind [getD_set, getD_rep, toNat_succ, cntN_yes, cntN_no])
          refine all_i fun l39 => ?_
          refine imp_i fun h94 => ?_
          refine imp_i fun h95 => ?_
          refine all_i fun n40 => ?_
          refine imp_i fun h96 => ?_
          refine imp_i fun h97 => ?_
          refine imp_i fun h98 => ?_
          try simp only [Int.toNat_natCast, List.length_set, List.length_replicate, List.length_take, List.length_drop, List.length_append, List.length_cons, List.length_nil, Nat.min_self, List.take_take, lenCols_i, lenCols_b, List.drop_zero, List.take_length, List.take_nil, List.drop_nil, List.take_zero, List.nil_append, Nat.add_eq, Nat.mul_eq, Nat.sub_eq, Nat.zero_add, Nat.add_zero, Nat.sub_zero, Nat.mul_one] at h98
          have g2 := good_small (m := 1000) (pb := 1 + n5) (a := n6) (by omega) ⟨by omega, by omega, by omega, by omega⟩ h28 h30 (by omega)
          have R2 := read_good g2 h98
          have bt := bits_turn (x := l8) (y := l9) (bx := l11) (b := l12) (pb := 1 + n5) (a := n6) (by omega) (by omega) (by omega) h1 h2
          have QE : n38 = n40 := by rcases R1 with r | r <;> rcases R2 with s | s <;> omega
          have QL : l37 = l39 := by
            rcases R1 with ⟨r1, r2, r3⟩ | ⟨r1, r2, r3⟩ <;> rcases R2 with ⟨s1, s2, s3⟩ | ⟨s1, s2, s3⟩
            · rw [r2, s2]
            · exfalso; omega
            · exfalso; omega
            · rw [r2, s2, bt]
          refine req_i ?_ ?_
          · -- r155
           first | omega | ((try simp only [Nat.mul_eq]); first | done | omega | assumption | grind [getD_set, getD_rep, toNat_succ, cntN_yes, cntN_no])
          refine req_i ?_ ?_
          · -- r156
           first | omega | ((try simp only [Nat.zero_add]); first | done | omega | assumption | grind [getD_set, getD_rep, toNat_succ, cntN_yes, cntN_no])
          refine req_i ?_ ?_
          · -- r157
           first | omega | ((try simp only [List.take_nil, List.take_zero, List.length_take, List.take_length, List.take_take, Nat.min_self, List.drop_nil, List.length_drop, List.drop_zero, List.length_cons, List.length_nil]); first | done | omega | assumption | grind [getD_set, getD_rep, toNat_succ, cntN_yes, cntN_no])
          refine req_i ?_ ?_
          · -- r158
           (try simp only [List.drop_zero, List.take_length]); first | assumption | exact sub_bd (by assumption) (by omega) (by omega)
          refine req_i ?_ ?_
          · -- r159
           first | omega | ((try simp only [List.take_nil, List.take_zero, List.length_take, List.take_length, List.take_take, Nat.min_self, List.drop_nil, List.length_drop, List.drop_zero, List.length_cons, List.length_nil]); first | done | omega | assumption | grind [getD_set, getD_rep, toNat_succ, cntN_yes, cntN_no])
          refine req_i ?_ ?_
          · -- r160
           (try simp only [List.drop_zero, List.take_length]); first | assumption | exact sub_bd (by assumption) (by omega) (by omega)
          refine req_i ?_ ?_
          · -- r161
           first | omega | assumption | grind
          refine req_i ?_ ?_
          · -- r162
           first | omega | assumption | grind
          refine req_i ?_ ?_
          · -- r163
           first | omega | assumption | grind
          refine req_i ?_ ?_
          · -- r164
           first | omega | assumption | grind
          refine req_i ?_ ?_
          · -- r165
           first | omega | ((try simp only [sigRead, cS2, cBt, readPost, List.cons.injEq, DV.b.injEq, and_true, List.take_nil, List.take_zero, List.length_take, List.take_length, List.take_take, Nat.min_self, List.drop_nil, List.length_drop, List.drop_zero, List.length_cons, List.length_nil]); first | done | omega | assumption | grind [getD_set, getD_rep, toNat_succ, cntN_yes, cntN_no])
          refine all_i fun l41 => ?_
          refine imp_i fun h99 => ?_
          refine imp_i fun h100 => ?_
          refine all_i fun n42 => ?_
          refine imp_i fun h101 => ?_
          refine imp_i fun h102 => ?_
          refine imp_i fun h103 => ?_
          try simp only [Int.toNat_natCast, List.length_set, List.length_replicate, List.length_take, List.length_drop, List.length_append, List.length_cons, List.length_nil, Nat.min_self, List.take_take, lenCols_i, lenCols_b, List.drop_zero, List.take_length, List.take_nil, List.drop_nil, List.take_zero, List.nil_append, Nat.add_eq, Nat.mul_eq, Nat.sub_eq, Nat.zero_add, Nat.add_zero, Nat.sub_zero, Nat.mul_one] at h103
          have g3 := good_small (m := 1000) (pb := 1 + n5) (a := n6) (by omega) ⟨by omega, by omega, by omega, by omega⟩ h32 h34 (by omega)
          have R3 := read_good g3 h103
          have bm := bits_mul (x := l8) (y := l9) (cx := l13) (c := l14) (pb := 1 + n5) (a := n6) (f := 1 + n7) (by omega) (by omega) (by omega) (by omega) h3 h4
          have QE2 : n38 = n42 := by rcases R1 with r | r <;> rcases R3 with s | s <;> omega
          have QL2 : l37 = l41 := by
            rcases R1 with ⟨r1, r2, r3⟩ | ⟨r1, r2, r3⟩ <;> rcases R3 with ⟨s1, s2, s3⟩ | ⟨s1, s2, s3⟩
            · rw [r2, s2]
            · exfalso; omega
            · exfalso; omega
            · rw [r2, s2, bm]
          refine bR_i (fun h104 => ?_) (fun h104 => ?_)
          ·
           refine bR_dec (fun h105 => ?_) (fun h105 => ?_)
           ·
            refine bR_dec (fun h106 => ?_) (fun h106 => ?_)
            ·
             refine req_i ?_ ?_
             · -- r166
              first | omega | ((try simp only [Nat.mul_eq]); first | done | omega | assumption | grind [getD_set, getD_rep, toNat_succ, cntN_yes, cntN_no])
             refine req_i ?_ ?_
             · -- r167
              first | omega | ((try simp only [Nat.zero_add]); first | done | omega | assumption | grind [getD_set, getD_rep, toNat_succ, cntN_yes, cntN_no])
             refine req_i ?_ ?_
             · -- r168
              first | omega | ((try simp only [List.take_nil, List.take_zero, List.length_take, List.take_length, List.take_take, Nat.min_self, List.drop_nil, List.length_drop, List.drop_zero, List.length_cons, List.length_nil]); first | done | omega | assumption | grind [getD_set, getD_rep, toNat_succ, cntN_yes, cntN_no])
             refine req_i ?_ ?_
             · -- r169
              (try simp only [List.drop_zero, List.take_length]); first | assumption | exact sub_bd (by assumption) (by omega) (by omega)
             refine req_i ?_ ?_
             · -- r170
              first | omega | ((try simp only [Nat.mul_eq]); first | done | omega | assumption | grind [getD_set, getD_rep, toNat_succ, cntN_yes, cntN_no])
             refine req_i ?_ ?_
             · -- r171
              first | omega | ((try simp only [Nat.zero_add]); first | done | omega | assumption | grind [getD_set, getD_rep, toNat_succ, cntN_yes, cntN_no])
             refine req_i ?_ ?_
             · -- r172
              first | omega | ((try simp only [List.take_nil, List.take_zero, List.length_take, List.take_length, List.take_take, Nat.min_self, List.drop_nil, List.length_drop, List.drop_zero, List.length_cons, List.length_nil]); first | done | omega | assumption | grind [getD_set, getD_rep, toNat_succ, cntN_yes, cntN_no])
             refine req_i ?_ ?_
             · -- r173
              (try simp only [List.drop_zero, List.take_length]); first | assumption | exact sub_bd (by assumption) (by omega) (by omega)
             refine req_i ?_ ?_
             · -- r174
              first | omega | ((try simp only [sigEqu, cIn, equP, List.cons.injEq, DV.b.injEq, and_true, List.take_nil, List.take_zero, List.length_take, List.take_length, List.take_take, Nat.min_self, List.drop_nil, List.length_drop, List.drop_zero, List.length_cons, List.length_nil]); first | done | omega | assumption | grind [getD_set, getD_rep, toNat_succ, cntN_yes, cntN_no])
             refine all_i fun b43 => ?_
             refine imp_i fun h107 => ?_
             try simp only [sigEqu, cIn, equP, List.cons.injEq, DV.b.injEq, and_true, List.take_nil, List.take_zero, List.length_take, List.take_length, List.take_take, Nat.min_self, List.drop_nil, List.length_drop, List.drop_zero, List.length_cons, List.length_nil] at h107
             refine bR_i (fun h108 => ?_) (fun h108 => ?_)
             ·
              refine req_i ?_ ?_
              · -- r175
               first | omega | ((try simp only [Nat.mul_eq]); first | done | omega | assumption | grind [getD_set, getD_rep, toNat_succ, cntN_yes, cntN_no])
              refine req_i ?_ ?_
              · -- r176
               first | omega | ((try simp only [Nat.zero_add]); first | done | omega | assumption | grind [getD_set, getD_rep, toNat_succ, cntN_yes, cntN_no])
              refine req_i ?_ ?_
              · -- r177
               first | omega | ((try simp only [List.take_nil, List.take_zero, List.length_take, List.take_length, List.take_take, Nat.min_self, List.drop_nil, List.length_drop, List.drop_zero, List.length_cons, List.length_nil]); first | done | omega | assumption | grind [getD_set, getD_rep, toNat_succ, cntN_yes, cntN_no])
              refine req_i ?_ ?_
              · -- r178
               (try simp only [List.drop_zero, List.take_length]); first | assumption | exact sub_bd (by assumption) (by omega) (by omega)
              refine req_i ?_ ?_
              · -- r179
               first | omega | ((try simp only [Nat.mul_eq]); first | done | omega | assumption | grind [getD_set, getD_rep, toNat_succ, cntN_yes, cntN_no])
              refine req_i ?_ ?_
              · -- r180
               first | omega | ((try simp only [Nat.zero_add]); first | done | omega | assumption | grind [getD_set, getD_rep, toNat_succ, cntN_yes, cntN_no])
              refine req_i ?_ ?_
              · -- r181
               first | omega | ((try simp only [List.take_nil, List.take_zero, List.length_take, List.take_length, List.take_take, Nat.min_self, List.drop_nil, List.length_drop, List.drop_zero, List.length_cons, List.length_nil]); first | done | omega | assumption | grind [getD_set, getD_rep, toNat_succ, cntN_yes, cntN_no])
              refine req_i ?_ ?_
              · -- r182
               (try simp only [List.drop_zero, List.take_length]); first | assumption | exact sub_bd (by assumption) (by omega) (by omega)
              refine req_i ?_ ?_
              · -- r183
               first | omega | ((try simp only [sigEqu, cIn, equP, List.cons.injEq, DV.b.injEq, and_true, List.take_nil, List.take_zero, List.length_take, List.take_length, List.take_take, Nat.min_self, List.drop_nil, List.length_drop, List.drop_zero, List.length_cons, List.length_nil]); first | done | omega | assumption | grind [getD_set, getD_rep, toNat_succ, cntN_yes, cntN_no])
              refine all_i fun b44 => ?_
              refine imp_i fun h109 => ?_
              try simp only [sigEqu, cIn, equP, List.cons.injEq, DV.b.injEq, and_true, List.take_nil, List.take_zero, List.length_take, List.take_length, List.take_take, Nat.min_self, List.drop_nil, List.length_drop, List.drop_zero, List.length_cons, List.length_nil] at h109
              refine bR_i (fun h110 => ?_) (fun h110 => ?_)
              ·
               refine req_i ?_ ?_
               · -- r184
                exact congrArg (fun z => [DV.b z]) (beqB_iff'.2 (Bool.eq_iff_iff.2 (by rw [dec_iff, dec_iff]; rcases R1 with r | r <;> omega)))
               rfl
              ·
               refine req_i ?_ ?_
               · -- r185
                rw [h109.2 QL2] at h110; cases h110
               rfl
             ·
              refine req_i ?_ ?_
              · -- r186
               rw [h107.2 QL] at h108; cases h108
              rfl
            ·
             refine req_i ?_ ?_
             · -- r187
              first | omega | ((try simp only [sigTurned, cIn, List.cons.injEq, DV.b.injEq, and_true, List.length_cons, List.length_nil]); first | done | omega | assumption | grind [getD_set, getD_rep, toNat_succ, cntN_yes, cntN_no])
             rfl
           ·
            refine req_i ?_ ?_
            · -- r188
             first | omega | ((try simp only [sigTurned, cIn, List.cons.injEq, DV.b.injEq, and_true, List.length_cons, List.length_nil]); first | done | omega | assumption | grind [getD_set, getD_rep, toNat_succ, cntN_yes, cntN_no])
            rfl
          ·
           refine req_i ?_ ?_
           · -- r189
            rw [h9] at h104; cases h104
           rfl
theorem ext_BitsyncTurned : ∀ p ∈ ([(3, Ext.ctr (ctOf sigTrue0)), (28, Ext.ctr (ctOf sigSms)), (29, Ext.ctr (ctOf sigTurn)), (9, Ext.ctr (ctOf sigNew)), (11, Ext.ctr (ctOf sigFeed)), (16, Ext.ctr (ctOf sigEqu)), (13, Ext.ctr (ctOf sigRead))] : List (Nat × Ext)), ExtRow Try.prog p.1 p.2 := by
  intro p hp
  simp only [List.mem_cons, List.not_mem_nil, or_false] at hp
  rcases hp with rfl | rfl | rfl | rfl | rfl | rfl | rfl
  · trivial
  · trivial
  · trivial
  · trivial
  · trivial
  · trivial
  · trivial
theorem cts_BitsyncTurned : CtsOk Try.prog [(3, Ext.ctr (ctOf sigTrue0)), (28, Ext.ctr (ctOf sigSms)), (29, Ext.ctr (ctOf sigTurn)), (9, Ext.ctr (ctOf sigNew)), (11, Ext.ctr (ctOf sigFeed)), (16, Ext.ctr (ctOf sigEqu)), (13, Ext.ctr (ctOf sigRead))] := ctsOk_of (cs := [(3, sigTrue0), (28, sigSms), (29, sigTurn), (9, sigNew), (11, sigFeed), (16, sigEqu), (13, sigRead)])
  (fun p hp => by
    simp only [List.mem_cons, List.not_mem_nil, or_false] at hp
    rcases hp with rfl | rfl | rfl | rfl | rfl | rfl | rfl
    · exact fn_known
    · exact fn_sums
    · exact fn_turn
    · exact fn_new
    · exact fn_feed
    · exact fn_equ
    · exact fn_read
)
  (fun f c h => by
    simp only [List.lookup_cons] at h
    repeat' split at h
    all_goals first | (cases h; done) | (rename_i e; have e := beq_iff_eq.1 e; subst e; cases h; refine ⟨_, ?_, rfl⟩; simp))
theorem fn_BitsyncTurned : FnOk Try.prog 7 sigTurned [] := fn_sound (by kernel_rfl) ext_BitsyncTurned cts_BitsyncTurned names vt_BitsyncTurned
end Go.Proofs.Ythfbhkeligmdfaa

