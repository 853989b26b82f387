import Derived.Test.YtpmlodchbgfmeaaSpec08e
import Derived.Test.YtpmlodchbgfmeaaRows
import Derived.Test.YtpmlodchbgfmeaaFaGoldCodes
namespace Go.Proofs.Ytpmlodchbgfmeaa
open Go.Ev Go.Sp
set_option maxRecDepth 100000
theorem vc_codeR : vcFn Try.prog [(26, Ext.ctr (ctOf sigBits)), (24, Ext.ctr (ctOf sigLen))] (fun f p _ => at2 f p 27 2042 codeRL (none)) [] 100 27 sigCode = (allB fun n0 : Int => 
impB ((-9223372036854775808 : Int) ≤ n0) (
impB (n0 ≤ (9223372036854775807 : Int)) (
allB fun n1 : Int => 
impB ((-9223372036854775808 : Int) ≤ n1) (
impB (n1 ≤ (9223372036854775807 : Int)) (
impB (sigCode.pre [DV.n n0, DV.n n1]) (
reqB ((-9223372036854775808 : Int) ≤ n0) (
reqB (n0 ≤ (9223372036854775807 : Int)) (
reqB (sigLen.pre [DV.n n0]) (
allB fun n2 : Int => 
impB ((0 : Int) ≤ n2) (
impB (n2 ≤ (1023 : Int)) (
allB fun n3 : Int => 
impB ((0 : Int) ≤ n3) (
impB (n3 ≤ (18 : Int)) (
impB (sigLen.post [DV.n n0] [DV.n n2, DV.n n3]) (
bR (dec (n3 ≠ (0 : Int))) (
 reqB ((0 : Int) ≤ n3) (
 reqB (n3 ≤ (18 : Int)) (
 reqB (sigCode.post [DV.n n0, DV.n n1] [DV.l [], DV.n n3]) (
 true)))) (
 bR (dec (n1 < (1 : Int))) (
 reqB (sigCode.post [DV.n n0, DV.n n1] [DV.l [], DV.n (2 : Int)]) (
 true)) (
 bR (dec (n2 + (2 : Int) < n1)) (
 reqB (sigCode.post [DV.n n0, DV.n n1] [DV.l [], DV.n (2 : Int)]) (
 true)) (
 reqB ((-9223372036854775808 : Int) ≤ n0) (
 reqB (n0 ≤ (9223372036854775807 : Int)) (
 reqB (sigBits.pre [DV.n n0, DV.n (1 : Int)]) (
 allB fun l4 : List Int => 
 impB (l4.length ≤ (1100 : Nat)) (
 impB (∀ (y : Int), y ∈ l4 → (0 : Int) ≤ y ∧ y ≤ (1 : Int)) (
 allB fun n5 : Int => 
 impB ((0 : Int) ≤ n5) (
 impB (n5 ≤ (18 : Int)) (
 impB (sigBits.post [DV.n n0, DV.n (1 : Int)] [DV.l l4, DV.n n5]) (
 reqB ((-9223372036854775808 : Int) ≤ n0) (
 reqB (n0 ≤ (9223372036854775807 : Int)) (
 reqB (sigBits.pre [DV.n n0, DV.n (2 : Int)]) (
 allB fun l6 : List Int => 
 impB (l6.length ≤ (1100 : Nat)) (
 impB (∀ (y : Int), y ∈ l6 → (0 : Int) ≤ y ∧ y ≤ (1 : Int)) (
 allB fun n7 : Int => 
 impB ((0 : Int) ≤ n7) (
 impB (n7 ≤ (18 : Int)) (
 impB (sigBits.post [DV.n n0, DV.n (2 : Int)] [DV.l l6, DV.n n7]) (
 reqB (n2.toNat ≤ n2.toNat) (
 reqB (n2.toNat ≤ (1000000 : Nat)) (
 reqB (((0 : Nat) + l4.length) * (1 : Nat) ≤ l4.length.mul (1 : Nat)) (
 reqB (l4.length ≤ (1100 : Nat)) (
 reqB ((List.take l4.length (List.drop (0 : Nat) l4)).length = l4.length) (
 reqB (∀ (y : Int), y ∈ List.take l4.length (List.drop (0 : Nat) l4) → (0 : Int) ≤ y ∧ y ≤ (1 : Int)) (
 reqB (((0 : Nat) + l6.length) * (1 : Nat) ≤ l6.length.mul (1 : Nat)) (
 reqB (l6.length ≤ (1100 : Nat)) (
 reqB ((List.take l6.length (List.drop (0 : Nat) l6)).length = l6.length) (
 reqB (∀ (y : Int), y ∈ List.take l6.length (List.drop (0 : Nat) l6) → (0 : Int) ≤ y ∧ y ≤ (1 : Int)) (
 reqB ((-9223372036854775808 : Int) ≤ n1) (
 reqB (n1 ≤ (9223372036854775807 : Int)) (
 reqB (lenCols
 [Col.i Go.IntKind.i64 (Int.negSucc (9223372036854775807 : Nat)) (Int.ofNat (9223372036854775807 : Nat))
 (List.replicate n2.toNat (0 : Int))] ≤
 (1000000 : Nat)) (
 reqB ((List.replicate n2.toNat (0 : Int)).length =
 lenCols
 [Col.i Go.IntKind.i64 (Int.negSucc (9223372036854775807 : Nat)) (Int.ofNat (9223372036854775807 : Nat))
 (List.replicate n2.toNat (0 : Int))]) (
 reqB (∀ (y : Int), y ∈ List.replicate n2.toNat (0 : Int) → (-9223372036854775808 : Int) ≤ y ∧ y ≤ (9223372036854775807 : Int)) (
 reqB (codeRL.inv
 [DV.l (List.take l4.length (List.drop (0 : Nat) l4)), DV.l (List.take l6.length (List.drop (0 : Nat) l6)),
 DV.n n1]
 [DV.n (0 : Int), DV.l (List.replicate n2.toNat (0 : Int))]) (
 allB fun n8 : Int => 
 impB ((0 : Int) ≤ n8) (
 impB (n8 ≤ (1100 : Int)) (
 allB fun l9 : List Int => 
 impB (l9.length ≤ (1000000 : Nat)) (
 impB (∀ (y : Int), y ∈ l9 → (-9223372036854775808 : Int) ≤ y ∧ y ≤ (9223372036854775807 : Int)) (
 impB (codeRL.inv
 [DV.l (List.take l4.length (List.drop (0 : Nat) l4)), DV.l (List.take l6.length (List.drop (0 : Nat) l6)),
 DV.n n1]
 [DV.n n8, DV.l l9]) (
 bR (dec (n8 < n2)) (
 bR (dec (n1 ≠ (2 : Int))) (
 reqB (n8.toNat < l4.length) (
 reqB (Nat.add (0 : Nat) n8.toNat < l4.length) (
 bR (dec (n1 = (2 : Int))) (
 reqB (n8.toNat < l6.length) (
 reqB (Nat.add (0 : Nat) n8.toNat < l6.length) (
 bR (dec ((2 : Int) < n1)) (
 allB fun n10 : Int => 
 impB (n10 = Go.IntKind.i64.wrap (n8 + n1)) (
 impB (Int.negSucc (9223372036854775807 : Nat) ≤ n10) (
 impB (n10 ≤ Int.ofNat (9223372036854775807 : Nat)) (
 allB fun n11 : Int => 
 impB (n11 = Go.IntKind.i64.wrap (n10 - (3 : Int))) (
 impB (Int.negSucc (9223372036854775807 : Nat) ≤ n11) (
 impB (n11 ≤ Int.ofNat (9223372036854775807 : Nat)) (
 reqB (n2 ≠ (0 : Int)) (
 reqB ((0 : Int) ≤ n11.tmod n2) (
 reqB ((n11.tmod n2).toNat < l6.length) (
 reqB (Nat.add (0 : Nat) (n11.tmod n2).toNat < l6.length) (
 reqB (n8.toNat < n2.toNat) (
 reqB (Nat.add (0 : Nat) n8.toNat < l9.length) (
 bR (bR (dec (n0 = n0)) (
 bR (dec (n1 = n1)) (
 bR (dec (n2 = n2)) (
 bR (bR (dec ((0 : Nat) = (0 : Nat))) (
 dec (l4.length = l4.length)) (
 false)) (
 bR (bR (dec ((0 : Nat) = (0 : Nat))) (
 dec (l6.length = l6.length)) (
 false)) (
 bR (bR (dec ((0 : Nat) = (0 : Nat))) (
 dec (n2.toNat = n2.toNat)) (
 false)) (
 true) (
 false)) (
 false)) (
 false)) (
 false)) (
 false)) (
 false)) (
 bR (bR (bR (dec (l4.length.mul (1 : Nat) = l4.length.mul (1 : Nat))) (
 dec ([Col.i Go.IntKind.i64 (0 : Int) (1 : Int) l4] = [Col.i Go.IntKind.i64 (0 : Int) (1 : Int) l4])) (
 false)) (
 bR (bR (dec (l6.length.mul (1 : Nat) = l6.length.mul (1 : Nat))) (
 dec ([Col.i Go.IntKind.i64 (0 : Int) (1 : Int) l6] = [Col.i Go.IntKind.i64 (0 : Int) (1 : Int) l6])) (
 false)) (
 true) (
 false)) (
 false)) (
 reqB ((0 : Int) ≤ n8 + (1 : Int)) (
 reqB (n8 + (1 : Int) ≤ (1100 : Int)) (
 reqB (lenCols
 [Col.i Go.IntKind.i64 (-9223372036854775808 : Int) (9223372036854775807 : Int)
 (l9.set (Nat.add (0 : Nat) n8.toNat)
 ((1 : Int) -
 (2 : Int) *
 opI (SO.xor Go.IntKind.i64) (l6.getD (Nat.add (0 : Nat) n8.toNat) (0 : Int))
 (l6.getD (Nat.add (0 : Nat) (n11.tmod n2).toNat) (0 : Int))))] ≤
 (1000000 : Nat)) (
 reqB ((l9.set (Nat.add (0 : Nat) n8.toNat)
 ((1 : Int) -
 (2 : Int) *
 opI (SO.xor Go.IntKind.i64) (l6.getD (Nat.add (0 : Nat) n8.toNat) (0 : Int))
 (l6.getD (Nat.add (0 : Nat) (n11.tmod n2).toNat) (0 : Int)))).length =
 lenCols
 [Col.i Go.IntKind.i64 (-9223372036854775808 : Int) (9223372036854775807 : Int)
 (l9.set (Nat.add (0 : Nat) n8.toNat)
 ((1 : Int) -
 (2 : Int) *
 opI (SO.xor Go.IntKind.i64) (l6.getD (Nat.add (0 : Nat) n8.toNat) (0 : Int))
 (l6.getD (Nat.add (0 : Nat) (n11.tmod n2).toNat) (0 : Int))))]) (
 reqB (∀ (y : Int),
 y ∈
 l9.set (Nat.add (0 : Nat) n8.toNat)
 ((1 : Int) -
 (2 : Int) *
 opI (SO.xor Go.IntKind.i64) (l6.getD (Nat.add (0 : Nat) n8.toNat) (0 : Int))
 (l6.getD (Nat.add (0 : Nat) (n11.tmod n2).toNat) (0 : Int))) →
 (-9223372036854775808 : Int) ≤ y ∧ y ≤ (9223372036854775807 : Int)) (
 reqB (codeRL.inv
 [DV.l (List.take l4.length (List.drop (0 : Nat) l4)), DV.l (List.take l6.length (List.drop (0 : Nat) l6)),
 DV.n n1]
 [DV.n (n8 + (1 : Int)),
 DV.l
 (l9.set (Nat.add (0 : Nat) n8.toNat)
 ((1 : Int) -
 (2 : Int) *
 opI (SO.xor Go.IntKind.i64) (l6.getD (Nat.add (0 : Nat) n8.toNat) (0 : Int))
 (l6.getD (Nat.add (0 : Nat) (n11.tmod n2).toNat) (0 : Int))))]) (
 reqB (codeRL.mea
 [DV.l (List.take l4.length (List.drop (0 : Nat) l4)),
 DV.l (List.take l6.length (List.drop (0 : Nat) l6)), DV.n n1]
 [DV.n (n8 + (1 : Int)),
 DV.l
 (l9.set (Nat.add (0 : Nat) n8.toNat)
 ((1 : Int) -
 (2 : Int) *
 opI (SO.xor Go.IntKind.i64) (l6.getD (Nat.add (0 : Nat) n8.toNat) (0 : Int))
 (l6.getD (Nat.add (0 : Nat) (n11.tmod n2).toNat) (0 : Int))))] <
 codeRL.mea
 [DV.l (List.take l4.length (List.drop (0 : Nat) l4)),
 DV.l (List.take l6.length (List.drop (0 : Nat) l6)), DV.n n1]
 [DV.n n8, DV.l l9]) (
 true)))))))) (
 false)) (
 false)))))))))))))) (
 reqB (n8.toNat < n2.toNat) (
 reqB (Nat.add (0 : Nat) n8.toNat < l9.length) (
 bR (bR (dec (n0 = n0)) (
 bR (dec (n1 = n1)) (
 bR (dec (n2 = n2)) (
 bR (bR (dec ((0 : Nat) = (0 : Nat))) (
 dec (l4.length = l4.length)) (
 false)) (
 bR (bR (dec ((0 : Nat) = (0 : Nat))) (
 dec (l6.length = l6.length)) (
 false)) (
 bR (bR (dec ((0 : Nat) = (0 : Nat))) (
 dec (n2.toNat = n2.toNat)) (
 false)) (
 true) (
 false)) (
 false)) (
 false)) (
 false)) (
 false)) (
 false)) (
 bR (bR (bR (dec (l4.length.mul (1 : Nat) = l4.length.mul (1 : Nat))) (
 dec ([Col.i Go.IntKind.i64 (0 : Int) (1 : Int) l4] = [Col.i Go.IntKind.i64 (0 : Int) (1 : Int) l4])) (
 false)) (
 bR (bR (dec (l6.length.mul (1 : Nat) = l6.length.mul (1 : Nat))) (
 dec ([Col.i Go.IntKind.i64 (0 : Int) (1 : Int) l6] = [Col.i Go.IntKind.i64 (0 : Int) (1 : Int) l6])) (
 false)) (
 true) (
 false)) (
 false)) (
 reqB ((0 : Int) ≤ n8 + (1 : Int)) (
 reqB (n8 + (1 : Int) ≤ (1100 : Int)) (
 reqB (lenCols
 [Col.i Go.IntKind.i64 (-9223372036854775808 : Int) (9223372036854775807 : Int)
 (l9.set (Nat.add (0 : Nat) n8.toNat)
 ((1 : Int) - (2 : Int) * l6.getD (Nat.add (0 : Nat) n8.toNat) (0 : Int)))] ≤
 (1000000 : Nat)) (
 reqB ((l9.set (Nat.add (0 : Nat) n8.toNat) ((1 : Int) - (2 : Int) * l6.getD (Nat.add (0 : Nat) n8.toNat) (0 : Int))).length =
 lenCols
 [Col.i Go.IntKind.i64 (-9223372036854775808 : Int) (9223372036854775807 : Int)
 (l9.set (Nat.add (0 : Nat) n8.toNat) ((1 : Int) - (2 : Int) * l6.getD (Nat.add (0 : Nat) n8.toNat) (0 : Int)))]) (
 reqB (∀ (y : Int),
 y ∈ l9.set (Nat.add (0 : Nat) n8.toNat) ((1 : Int) - (2 : Int) * l6.getD (Nat.add (0 : Nat) n8.toNat) (0 : Int)) →
 (-9223372036854775808 : Int) ≤ y ∧ y ≤ (9223372036854775807 : Int)) (
 reqB (codeRL.inv
 [DV.l (List.take l4.length (List.drop (0 : Nat) l4)), DV.l (List.take l6.length (List.drop (0 : Nat) l6)),
 DV.n n1]
 [DV.n (n8 + (1 : Int)),
 DV.l
 (l9.set (Nat.add (0 : Nat) n8.toNat) ((1 : Int) - (2 : Int) * l6.getD (Nat.add (0 : Nat) n8.toNat) (0 : Int)))]) (
 reqB (codeRL.mea
 [DV.l (List.take l4.length (List.drop (0 : Nat) l4)),
 DV.l (List.take l6.length (List.drop (0 : Nat) l6)), DV.n n1]
 [DV.n (n8 + (1 : Int)),
 DV.l
 (l9.set (Nat.add (0 : Nat) n8.toNat)
 ((1 : Int) - (2 : Int) * l6.getD (Nat.add (0 : Nat) n8.toNat) (0 : Int)))] <
 codeRL.mea
 [DV.l (List.take l4.length (List.drop (0 : Nat) l4)),
 DV.l (List.take l6.length (List.drop (0 : Nat) l6)), DV.n n1]
 [DV.n n8, DV.l l9]) (
 true)))))))) (
 false)) (
 false))))))) (
 bR (dec ((2 : Int) < n1)) (
 allB fun n12 : Int => 
 impB (n12 = Go.IntKind.i64.wrap (n8 + n1)) (
 impB (Int.negSucc (9223372036854775807 : Nat) ≤ n12) (
 impB (n12 ≤ Int.ofNat (9223372036854775807 : Nat)) (
 allB fun n13 : Int => 
 impB (n13 = Go.IntKind.i64.wrap (n12 - (3 : Int))) (
 impB (Int.negSucc (9223372036854775807 : Nat) ≤ n13) (
 impB (n13 ≤ Int.ofNat (9223372036854775807 : Nat)) (
 reqB (n2 ≠ (0 : Int)) (
 reqB ((0 : Int) ≤ n13.tmod n2) (
 reqB ((n13.tmod n2).toNat < l6.length) (
 reqB (Nat.add (0 : Nat) (n13.tmod n2).toNat < l6.length) (
 reqB (n8.toNat < n2.toNat) (
 reqB (Nat.add (0 : Nat) n8.toNat < l9.length) (
 bR (bR (dec (n0 = n0)) (
 bR (dec (n1 = n1)) (
 bR (dec (n2 = n2)) (
 bR (bR (dec ((0 : Nat) = (0 : Nat))) (
 dec (l4.length = l4.length)) (
 false)) (
 bR (bR (dec ((0 : Nat) = (0 : Nat))) (
 dec (l6.length = l6.length)) (
 false)) (
 bR (bR (dec ((0 : Nat) = (0 : Nat))) (
 dec (n2.toNat = n2.toNat)) (
 false)) (
 true) (
 false)) (
 false)) (
 false)) (
 false)) (
 false)) (
 false)) (
 bR (bR (bR (dec (l4.length.mul (1 : Nat) = l4.length.mul (1 : Nat))) (
 dec ([Col.i Go.IntKind.i64 (0 : Int) (1 : Int) l4] = [Col.i Go.IntKind.i64 (0 : Int) (1 : Int) l4])) (
 false)) (
 bR (bR (dec (l6.length.mul (1 : Nat) = l6.length.mul (1 : Nat))) (
 dec ([Col.i Go.IntKind.i64 (0 : Int) (1 : Int) l6] = [Col.i Go.IntKind.i64 (0 : Int) (1 : Int) l6])) (
 false)) (
 true) (
 false)) (
 false)) (
 reqB ((0 : Int) ≤ n8 + (1 : Int)) (
 reqB (n8 + (1 : Int) ≤ (1100 : Int)) (
 reqB (lenCols
 [Col.i Go.IntKind.i64 (-9223372036854775808 : Int) (9223372036854775807 : Int)
 (l9.set (Nat.add (0 : Nat) n8.toNat)
 ((1 : Int) -
 (2 : Int) *
 opI (SO.xor Go.IntKind.i64) (l4.getD (Nat.add (0 : Nat) n8.toNat) (0 : Int))
 (l6.getD (Nat.add (0 : Nat) (n13.tmod n2).toNat) (0 : Int))))] ≤
 (1000000 : Nat)) (
 reqB ((l9.set (Nat.add (0 : Nat) n8.toNat)
 ((1 : Int) -
 (2 : Int) *
 opI (SO.xor Go.IntKind.i64) (l4.getD (Nat.add (0 : Nat) n8.toNat) (0 : Int))
 (l6.getD (Nat.add (0 : Nat) (n13.tmod n2).toNat) (0 : Int)))).length =
 lenCols
 [Col.i Go.IntKind.i64 (-9223372036854775808 : Int) (9223372036854775807 : Int)
 (l9.set (Nat.add (0 : Nat) n8.toNat)
 ((1 : Int) -
 (2 : Int) *
 opI (SO.xor Go.IntKind.i64) (l4.getD (Nat.add (0 : Nat) n8.toNat) (0 : Int))
 (l6.getD (Nat.add (0 : Nat) (n13.tmod n2).toNat) (0 : Int))))]) (
 reqB (∀ (y : Int),
 y ∈
 l9.set (Nat.add (0 : Nat) n8.toNat)
 ((1 : Int) -
 (2 : Int) *
 opI (SO.xor Go.IntKind.i64) (l4.getD (Nat.add (0 : Nat) n8.toNat) (0 : Int))
 (l6.getD (Nat.add (0 : Nat) (n13.tmod n2).toNat) (0 : Int))) →
 (-9223372036854775808 : Int) ≤ y ∧ y ≤ (9223372036854775807 : Int)) (
 reqB (codeRL.inv
 [DV.l (List.take l4.length (List.drop (0 : Nat) l4)), DV.l (List.take l6.length (List.drop (0 : Nat) l6)),
 DV.n n1]
 [DV.n (n8 + (1 : Int)),
 DV.l
 (l9.set (Nat.add (0 : Nat) n8.toNat)
 ((1 : Int) -
 (2 : Int) *
 opI (SO.xor Go.IntKind.i64) (l4.getD (Nat.add (0 : Nat) n8.toNat) (0 : Int))
 (l6.getD (Nat.add (0 : Nat) (n13.tmod n2).toNat) (0 : Int))))]) (
 reqB (codeRL.mea
 [DV.l (List.take l4.length (List.drop (0 : Nat) l4)),
 DV.l (List.take l6.length (List.drop (0 : Nat) l6)), DV.n n1]
 [DV.n (n8 + (1 : Int)),
 DV.l
 (l9.set (Nat.add (0 : Nat) n8.toNat)
 ((1 : Int) -
 (2 : Int) *
 opI (SO.xor Go.IntKind.i64) (l4.getD (Nat.add (0 : Nat) n8.toNat) (0 : Int))
 (l6.getD (Nat.add (0 : Nat) (n13.tmod n2).toNat) (0 : Int))))] <
 codeRL.mea
 [DV.l (List.take l4.length (List.drop (0 : Nat) l4)),
 DV.l (List.take l6.length (List.drop (0 : Nat) l6)), DV.n n1]
 [DV.n n8, DV.l l9]) (
 true)))))))) (
 false)) (
 false)))))))))))))) (
 reqB (n8.toNat < n2.toNat) (
 reqB (Nat.add (0 : Nat) n8.toNat < l9.length) (
 bR (bR (dec (n0 = n0)) (
 bR (dec (n1 = n1)) (
 bR (dec (n2 = n2)) (
 bR (bR (dec ((0 : Nat) = (0 : Nat))) (
 dec (l4.length = l4.length)) (
 false)) (
 bR (bR (dec ((0 : Nat) = (0 : Nat))) (
 dec (l6.length = l6.length)) (
 false)) (
 bR (bR (dec ((0 : Nat) = (0 : Nat))) (
 dec (n2.toNat = n2.toNat)) (
 false)) (
 true) (
 false)) (
 false)) (
 false)) (
 false)) (
 false)) (
 false)) (
 bR (bR (bR (dec (l4.length.mul (1 : Nat) = l4.length.mul (1 : Nat))) (
 dec ([Col.i Go.IntKind.i64 (0 : Int) (1 : Int) l4] = [Col.i Go.IntKind.i64 (0 : Int) (1 : Int) l4])) (
 false)) (
 bR (bR (dec (l6.length.mul (1 : Nat) = l6.length.mul (1 : Nat))) (
 dec ([Col.i Go.IntKind.i64 (0 : Int) (1 : Int) l6] = [Col.i Go.IntKind.i64 (0 : Int) (1 : Int) l6])) (
 false)) (
 true) (
 false)) (
 false)) (
 reqB ((0 : Int) ≤ n8 + (1 : Int)) (
 reqB (n8 + (1 : Int) ≤ (1100 : Int)) (
 reqB (lenCols
 [Col.i Go.IntKind.i64 (-9223372036854775808 : Int) (9223372036854775807 : Int)
 (l9.set (Nat.add (0 : Nat) n8.toNat)
 ((1 : Int) - (2 : Int) * l4.getD (Nat.add (0 : Nat) n8.toNat) (0 : Int)))] ≤
 (1000000 : Nat)) (
 reqB ((l9.set (Nat.add (0 : Nat) n8.toNat) ((1 : Int) - (2 : Int) * l4.getD (Nat.add (0 : Nat) n8.toNat) (0 : Int))).length =
 lenCols
 [Col.i Go.IntKind.i64 (-9223372036854775808 : Int) (9223372036854775807 : Int)
 (l9.set (Nat.add (0 : Nat) n8.toNat) ((1 : Int) - (2 : Int) * l4.getD (Nat.add (0 : Nat) n8.toNat) (0 : Int)))]) (
 reqB (∀ (y : Int),
 y ∈ l9.set (Nat.add (0 : Nat) n8.toNat) ((1 : Int) - (2 : Int) * l4.getD (Nat.add (0 : Nat) n8.toNat) (0 : Int)) →
 (-9223372036854775808 : Int) ≤ y ∧ y ≤ (9223372036854775807 : Int)) (
 reqB (codeRL.inv
 [DV.l (List.take l4.length (List.drop (0 : Nat) l4)), DV.l (List.take l6.length (List.drop (0 : Nat) l6)),
 DV.n n1]
 [DV.n (n8 + (1 : Int)),
 DV.l
 (l9.set (Nat.add (0 : Nat) n8.toNat) ((1 : Int) - (2 : Int) * l4.getD (Nat.add (0 : Nat) n8.toNat) (0 : Int)))]) (
 reqB (codeRL.mea
 [DV.l (List.take l4.length (List.drop (0 : Nat) l4)),
 DV.l (List.take l6.length (List.drop (0 : Nat) l6)), DV.n n1]
 [DV.n (n8 + (1 : Int)),
 DV.l
 (l9.set (Nat.add (0 : Nat) n8.toNat)
 ((1 : Int) - (2 : Int) * l4.getD (Nat.add (0 : Nat) n8.toNat) (0 : Int)))] <
 codeRL.mea
 [DV.l (List.take l4.length (List.drop (0 : Nat) l4)),
 DV.l (List.take l6.length (List.drop (0 : Nat) l6)), DV.n n1]
 [DV.n n8, DV.l l9]) (
 true)))))))) (
 false)) (
 false)))))))) (
 bR (dec (n1 = (2 : Int))) (
 reqB (n8.toNat < l6.length) (
 reqB (Nat.add (0 : Nat) n8.toNat < l6.length) (
 bR (dec ((2 : Int) < n1)) (
 allB fun n14 : Int => 
 impB (n14 = Go.IntKind.i64.wrap (n8 + n1)) (
 impB (Int.negSucc (9223372036854775807 : Nat) ≤ n14) (
 impB (n14 ≤ Int.ofNat (9223372036854775807 : Nat)) (
 allB fun n15 : Int => 
 impB (n15 = Go.IntKind.i64.wrap (n14 - (3 : Int))) (
 impB (Int.negSucc (9223372036854775807 : Nat) ≤ n15) (
 impB (n15 ≤ Int.ofNat (9223372036854775807 : Nat)) (
 reqB (n2 ≠ (0 : Int)) (
 reqB ((0 : Int) ≤ n15.tmod n2) (
 reqB ((n15.tmod n2).toNat < l6.length) (
 reqB (Nat.add (0 : Nat) (n15.tmod n2).toNat < l6.length) (
 reqB (n8.toNat < n2.toNat) (
 reqB (Nat.add (0 : Nat) n8.toNat < l9.length) (
 bR (bR (dec (n0 = n0)) (
 bR (dec (n1 = n1)) (
 bR (dec (n2 = n2)) (
 bR (bR (dec ((0 : Nat) = (0 : Nat))) (
 dec (l4.length = l4.length)) (
 false)) (
 bR (bR (dec ((0 : Nat) = (0 : Nat))) (
 dec (l6.length = l6.length)) (
 false)) (
 bR (bR (dec ((0 : Nat) = (0 : Nat))) (
 dec (n2.toNat = n2.toNat)) (
 false)) (
 true) (
 false)) (
 false)) (
 false)) (
 false)) (
 false)) (
 false)) (
 bR (bR (bR (dec (l4.length.mul (1 : Nat) = l4.length.mul (1 : Nat))) (
 dec ([Col.i Go.IntKind.i64 (0 : Int) (1 : Int) l4] = [Col.i Go.IntKind.i64 (0 : Int) (1 : Int) l4])) (
 false)) (
 bR (bR (dec (l6.length.mul (1 : Nat) = l6.length.mul (1 : Nat))) (
 dec ([Col.i Go.IntKind.i64 (0 : Int) (1 : Int) l6] = [Col.i Go.IntKind.i64 (0 : Int) (1 : Int) l6])) (
 false)) (
 true) (
 false)) (
 false)) (
 reqB ((0 : Int) ≤ n8 + (1 : Int)) (
 reqB (n8 + (1 : Int) ≤ (1100 : Int)) (
 reqB (lenCols
 [Col.i Go.IntKind.i64 (-9223372036854775808 : Int) (9223372036854775807 : Int)
 (l9.set (Nat.add (0 : Nat) n8.toNat)
 ((1 : Int) -
 (2 : Int) *
 opI (SO.xor Go.IntKind.i64) (l6.getD (Nat.add (0 : Nat) n8.toNat) (0 : Int))
 (l6.getD (Nat.add (0 : Nat) (n15.tmod n2).toNat) (0 : Int))))] ≤
 (1000000 : Nat)) (
 reqB ((l9.set (Nat.add (0 : Nat) n8.toNat)
 ((1 : Int) -
 (2 : Int) *
 opI (SO.xor Go.IntKind.i64) (l6.getD (Nat.add (0 : Nat) n8.toNat) (0 : Int))
 (l6.getD (Nat.add (0 : Nat) (n15.tmod n2).toNat) (0 : Int)))).length =
 lenCols
 [Col.i Go.IntKind.i64 (-9223372036854775808 : Int) (9223372036854775807 : Int)
 (l9.set (Nat.add (0 : Nat) n8.toNat)
 ((1 : Int) -
 (2 : Int) *
 opI (SO.xor Go.IntKind.i64) (l6.getD (Nat.add (0 : Nat) n8.toNat) (0 : Int))
 (l6.getD (Nat.add (0 : Nat) (n15.tmod n2).toNat) (0 : Int))))]) (
 reqB (∀ (y : Int),
 y ∈
 l9.set (Nat.add (0 : Nat) n8.toNat)
 ((1 : Int) -
 (2 : Int) *
 opI (SO.xor Go.IntKind.i64) (l6.getD (Nat.add (0 : Nat) n8.toNat) (0 : Int))
 (l6.getD (Nat.add (0 : Nat) (n15.tmod n2).toNat) (0 : Int))) →
 (-9223372036854775808 : Int) ≤ y ∧ y ≤ (9223372036854775807 : Int)) (
 reqB (codeRL.inv
 [DV.l (List.take l4.length (List.drop (0 : Nat) l4)), DV.l (List.take l6.length (List.drop (0 : Nat) l6)),
 DV.n n1]
 [DV.n (n8 + (1 : Int)),
 DV.l
 (l9.set (Nat.add (0 : Nat) n8.toNat)
 ((1 : Int) -
 (2 : Int) *
 opI (SO.xor Go.IntKind.i64) (l6.getD (Nat.add (0 : Nat) n8.toNat) (0 : Int))
 (l6.getD (Nat.add (0 : Nat) (n15.tmod n2).toNat) (0 : Int))))]) (
 reqB (codeRL.mea
 [DV.l (List.take l4.length (List.drop (0 : Nat) l4)),
 DV.l (List.take l6.length (List.drop (0 : Nat) l6)), DV.n n1]
 [DV.n (n8 + (1 : Int)),
 DV.l
 (l9.set (Nat.add (0 : Nat) n8.toNat)
 ((1 : Int) -
 (2 : Int) *
 opI (SO.xor Go.IntKind.i64) (l6.getD (Nat.add (0 : Nat) n8.toNat) (0 : Int))
 (l6.getD (Nat.add (0 : Nat) (n15.tmod n2).toNat) (0 : Int))))] <
 codeRL.mea
 [DV.l (List.take l4.length (List.drop (0 : Nat) l4)),
 DV.l (List.take l6.length (List.drop (0 : Nat) l6)), DV.n n1]
 [DV.n n8, DV.l l9]) (
 true)))))))) (
 false)) (
 false)))))))))))))) (
 reqB (n8.toNat < n2.toNat) (
 reqB (Nat.add (0 : Nat) n8.toNat < l9.length) (
 bR (bR (dec (n0 = n0)) (
 bR (dec (n1 = n1)) (
 bR (dec (n2 = n2)) (
 bR (bR (dec ((0 : Nat) = (0 : Nat))) (
 dec (l4.length = l4.length)) (
 false)) (
 bR (bR (dec ((0 : Nat) = (0 : Nat))) (
 dec (l6.length = l6.length)) (
 false)) (
 bR (bR (dec ((0 : Nat) = (0 : Nat))) (
 dec (n2.toNat = n2.toNat)) (
 false)) (
 true) (
 false)) (
 false)) (
 false)) (
 false)) (
 false)) (
 false)) (
 bR (bR (bR (dec (l4.length.mul (1 : Nat) = l4.length.mul (1 : Nat))) (
 dec ([Col.i Go.IntKind.i64 (0 : Int) (1 : Int) l4] = [Col.i Go.IntKind.i64 (0 : Int) (1 : Int) l4])) (
 false)) (
 bR (bR (dec (l6.length.mul (1 : Nat) = l6.length.mul (1 : Nat))) (
 dec ([Col.i Go.IntKind.i64 (0 : Int) (1 : Int) l6] = [Col.i Go.IntKind.i64 (0 : Int) (1 : Int) l6])) (
 false)) (
 true) (
 false)) (
 false)) (
 reqB ((0 : Int) ≤ n8 + (1 : Int)) (
 reqB (n8 + (1 : Int) ≤ (1100 : Int)) (
 reqB (lenCols
 [Col.i Go.IntKind.i64 (-9223372036854775808 : Int) (9223372036854775807 : Int)
 (l9.set (Nat.add (0 : Nat) n8.toNat)
 ((1 : Int) - (2 : Int) * l6.getD (Nat.add (0 : Nat) n8.toNat) (0 : Int)))] ≤
 (1000000 : Nat)) (
 reqB ((l9.set (Nat.add (0 : Nat) n8.toNat) ((1 : Int) - (2 : Int) * l6.getD (Nat.add (0 : Nat) n8.toNat) (0 : Int))).length =
 lenCols
 [Col.i Go.IntKind.i64 (-9223372036854775808 : Int) (9223372036854775807 : Int)
 (l9.set (Nat.add (0 : Nat) n8.toNat) ((1 : Int) - (2 : Int) * l6.getD (Nat.add (0 : Nat) n8.toNat) (0 : Int)))]) (
 reqB (∀ (y : Int),
 y ∈ l9.set (Nat.add (0 : Nat) n8.toNat) ((1 : Int) - (2 : Int) * l6.getD (Nat.add (0 : Nat) n8.toNat) (0 : Int)) →
 (-9223372036854775808 : Int) ≤ y ∧ y ≤ (9223372036854775807 : Int)) (
 reqB (codeRL.inv
 [DV.l (List.take l4.length (List.drop (0 : Nat) l4)), DV.l (List.take l6.length (List.drop (0 : Nat) l6)),
 DV.n n1]
 [DV.n (n8 + (1 : Int)),
 DV.l
 (l9.set (Nat.add (0 : Nat) n8.toNat) ((1 : Int) - (2 : Int) * l6.getD (Nat.add (0 : Nat) n8.toNat) (0 : Int)))]) (
 reqB (codeRL.mea
 [DV.l (List.take l4.length (List.drop (0 : Nat) l4)),
 DV.l (List.take l6.length (List.drop (0 : Nat) l6)), DV.n n1]
 [DV.n (n8 + (1 : Int)),
 DV.l
 (l9.set (Nat.add (0 : Nat) n8.toNat)
 ((1 : Int) - (2 : Int) * l6.getD (Nat.add (0 : Nat) n8.toNat) (0 : Int)))] <
 codeRL.mea
 [DV.l (List.take l4.length (List.drop (0 : Nat) l4)),
 DV.l (List.take l6.length (List.drop (0 : Nat) l6)), DV.n n1]
 [DV.n n8, DV.l l9]) (
 true)))))))) (
 false)) (
 false))))))) (
 bR (dec ((2 : Int) < n1)) (
 allB fun n16 : Int => 
 impB (n16 = Go.IntKind.i64.wrap (n8 + n1)) (
 impB (Int.negSucc (9223372036854775807 : Nat) ≤ n16) (
 impB (n16 ≤ Int.ofNat (9223372036854775807 : Nat)) (
 allB fun n17 : Int => 
 impB (n17 = Go.IntKind.i64.wrap (n16 - (3 : Int))) (
 impB (Int.negSucc (9223372036854775807 : Nat) ≤ n17) (
 impB (n17 ≤ Int.ofNat (9223372036854775807 : Nat)) (
 reqB (n2 ≠ (0 : Int)) (
 reqB ((0 : Int) ≤ n17.tmod n2) (
 reqB ((n17.tmod n2).toNat < l6.length) (
 reqB (Nat.add (0 : Nat) (n17.tmod n2).toNat < l6.length) (
 reqB (n8.toNat < n2.toNat) (
 reqB (Nat.add (0 : Nat) n8.toNat < l9.length) (
 bR (bR (dec (n0 = n0)) (
 bR (dec (n1 = n1)) (
 bR (dec (n2 = n2)) (
 bR (bR (dec ((0 : Nat) = (0 : Nat))) (
 dec (l4.length = l4.length)) (
 false)) (
 bR (bR (dec ((0 : Nat) = (0 : Nat))) (
 dec (l6.length = l6.length)) (
 false)) (
 bR (bR (dec ((0 : Nat) = (0 : Nat))) (
 dec (n2.toNat = n2.toNat)) (
 false)) (
 true) (
 false)) (
 false)) (
 false)) (
 false)) (
 false)) (
 false)) (
 bR (bR (bR (dec (l4.length.mul (1 : Nat) = l4.length.mul (1 : Nat))) (
 dec ([Col.i Go.IntKind.i64 (0 : Int) (1 : Int) l4] = [Col.i Go.IntKind.i64 (0 : Int) (1 : Int) l4])) (
 false)) (
 bR (bR (dec (l6.length.mul (1 : Nat) = l6.length.mul (1 : Nat))) (
 dec ([Col.i Go.IntKind.i64 (0 : Int) (1 : Int) l6] = [Col.i Go.IntKind.i64 (0 : Int) (1 : Int) l6])) (
 false)) (
 true) (
 false)) (
 false)) (
 reqB ((0 : Int) ≤ n8 + (1 : Int)) (
 reqB (n8 + (1 : Int) ≤ (1100 : Int)) (
 reqB (lenCols
 [Col.i Go.IntKind.i64 (-9223372036854775808 : Int) (9223372036854775807 : Int)
 (l9.set (Nat.add (0 : Nat) n8.toNat)
 ((1 : Int) -
 (2 : Int) *
 opI (SO.xor Go.IntKind.i64) (0 : Int)
 (l6.getD (Nat.add (0 : Nat) (n17.tmod n2).toNat) (0 : Int))))] ≤
 (1000000 : Nat)) (
 reqB ((l9.set (Nat.add (0 : Nat) n8.toNat)
 ((1 : Int) -
 (2 : Int) *
 opI (SO.xor Go.IntKind.i64) (0 : Int)
 (l6.getD (Nat.add (0 : Nat) (n17.tmod n2).toNat) (0 : Int)))).length =
 lenCols
 [Col.i Go.IntKind.i64 (-9223372036854775808 : Int) (9223372036854775807 : Int)
 (l9.set (Nat.add (0 : Nat) n8.toNat)
 ((1 : Int) -
 (2 : Int) *
 opI (SO.xor Go.IntKind.i64) (0 : Int)
 (l6.getD (Nat.add (0 : Nat) (n17.tmod n2).toNat) (0 : Int))))]) (
 reqB (∀ (y : Int),
 y ∈
 l9.set (Nat.add (0 : Nat) n8.toNat)
 ((1 : Int) -
 (2 : Int) *
 opI (SO.xor Go.IntKind.i64) (0 : Int)
 (l6.getD (Nat.add (0 : Nat) (n17.tmod n2).toNat) (0 : Int))) →
 (-9223372036854775808 : Int) ≤ y ∧ y ≤ (9223372036854775807 : Int)) (
 reqB (codeRL.inv
 [DV.l (List.take l4.length (List.drop (0 : Nat) l4)), DV.l (List.take l6.length (List.drop (0 : Nat) l6)),
 DV.n n1]
 [DV.n (n8 + (1 : Int)),
 DV.l
 (l9.set (Nat.add (0 : Nat) n8.toNat)
 ((1 : Int) -
 (2 : Int) *
 opI (SO.xor Go.IntKind.i64) (0 : Int)
 (l6.getD (Nat.add (0 : Nat) (n17.tmod n2).toNat) (0 : Int))))]) (
 reqB (codeRL.mea
 [DV.l (List.take l4.length (List.drop (0 : Nat) l4)),
 DV.l (List.take l6.length (List.drop (0 : Nat) l6)), DV.n n1]
 [DV.n (n8 + (1 : Int)),
 DV.l
 (l9.set (Nat.add (0 : Nat) n8.toNat)
 ((1 : Int) -
 (2 : Int) *
 opI (SO.xor Go.IntKind.i64) (0 : Int)
 (l6.getD (Nat.add (0 : Nat) (n17.tmod n2).toNat) (0 : Int))))] <
 codeRL.mea
 [DV.l (List.take l4.length (List.drop (0 : Nat) l4)),
 DV.l (List.take l6.length (List.drop (0 : Nat) l6)), DV.n n1]
 [DV.n n8, DV.l l9]) (
 true)))))))) (
 false)) (
 false)))))))))))))) (
 reqB (n8.toNat < n2.toNat) (
 reqB (Nat.add (0 : Nat) n8.toNat < l9.length) (
 bR (bR (dec (n0 = n0)) (
 bR (dec (n1 = n1)) (
 bR (dec (n2 = n2)) (
 bR (bR (dec ((0 : Nat) = (0 : Nat))) (
 dec (l4.length = l4.length)) (
 false)) (
 bR (bR (dec ((0 : Nat) = (0 : Nat))) (
 dec (l6.length = l6.length)) (
 false)) (
 bR (bR (dec ((0 : Nat) = (0 : Nat))) (
 dec (n2.toNat = n2.toNat)) (
 false)) (
 true) (
 false)) (
 false)) (
 false)) (
 false)) (
 false)) (
 false)) (
 bR (bR (bR (dec (l4.length.mul (1 : Nat) = l4.length.mul (1 : Nat))) (
 dec ([Col.i Go.IntKind.i64 (0 : Int) (1 : Int) l4] = [Col.i Go.IntKind.i64 (0 : Int) (1 : Int) l4])) (
 false)) (
 bR (bR (dec (l6.length.mul (1 : Nat) = l6.length.mul (1 : Nat))) (
 dec ([Col.i Go.IntKind.i64 (0 : Int) (1 : Int) l6] = [Col.i Go.IntKind.i64 (0 : Int) (1 : Int) l6])) (
 false)) (
 true) (
 false)) (
 false)) (
 reqB ((0 : Int) ≤ n8 + (1 : Int)) (
 reqB (n8 + (1 : Int) ≤ (1100 : Int)) (
 reqB (lenCols
 [Col.i Go.IntKind.i64 (-9223372036854775808 : Int) (9223372036854775807 : Int)
 (l9.set (Nat.add (0 : Nat) n8.toNat) (Int.ofNat (1 : Nat)))] ≤
 (1000000 : Nat)) (
 reqB ((l9.set (Nat.add (0 : Nat) n8.toNat) (Int.ofNat (1 : Nat))).length =
 lenCols
 [Col.i Go.IntKind.i64 (-9223372036854775808 : Int) (9223372036854775807 : Int)
 (l9.set (Nat.add (0 : Nat) n8.toNat) (Int.ofNat (1 : Nat)))]) (
 reqB (∀ (y : Int),
 y ∈ l9.set (Nat.add (0 : Nat) n8.toNat) (Int.ofNat (1 : Nat)) →
 (-9223372036854775808 : Int) ≤ y ∧ y ≤ (9223372036854775807 : Int)) (
 reqB (codeRL.inv
 [DV.l (List.take l4.length (List.drop (0 : Nat) l4)), DV.l (List.take l6.length (List.drop (0 : Nat) l6)),
 DV.n n1]
 [DV.n (n8 + (1 : Int)), DV.l (l9.set (Nat.add (0 : Nat) n8.toNat) (Int.ofNat (1 : Nat)))]) (
 reqB (codeRL.mea
 [DV.l (List.take l4.length (List.drop (0 : Nat) l4)),
 DV.l (List.take l6.length (List.drop (0 : Nat) l6)), DV.n n1]
 [DV.n (n8 + (1 : Int)), DV.l (l9.set (Nat.add (0 : Nat) n8.toNat) (Int.ofNat (1 : Nat)))] <
 codeRL.mea
 [DV.l (List.take l4.length (List.drop (0 : Nat) l4)),
 DV.l (List.take l6.length (List.drop (0 : Nat) l6)), DV.n n1]
 [DV.n n8, DV.l l9]) (
 true)))))))) (
 false)) (
 false))))))) (
 reqB (((0 : Nat) + n2.toNat) * (1 : Nat) ≤ l9.length.mul (1 : Nat)) (
 reqB (n2.toNat ≤ (1100 : Nat)) (
 reqB ((List.take n2.toNat (List.drop (0 : Nat) l9)).length = n2.toNat) (
 reqB (∀ (y : Int), y ∈ List.take n2.toNat (List.drop (0 : Nat) l9) → (-1 : Int) ≤ y ∧ y ≤ (1 : Int)) (
 reqB (sigCode.post [DV.n n0, DV.n n1]
 [DV.l (List.take n2.toNat (List.drop (0 : Nat) l9)), DV.n (0 : Int)]) (
 true)))))))))))))))))))))))))))))))))))))))))))))))))))))))))))) := by kernel_rfl
set_option maxHeartbeats 8000000 in
theorem vt_codeR : vcFn Try.prog [(26, Ext.ctr (ctOf sigBits)), (24, Ext.ctr (ctOf sigLen))] (fun f p _ => at2 f p 27 2042 codeRL (none)) [] 100 27 sigCode = true := by
  rw [vc_codeR]
  try simp only [Int.toNat_natCast, List.length_set, List.length_replicate, List.length_take, List.length_drop, List.length_append, List.length_cons, List.length_nil, Nat.min_self, List.take_take, lenCols_i, lenCols_b, List.drop_zero, List.take_length, Nat.add_eq, Nat.mul_eq, Nat.sub_eq, Nat.zero_add, Nat.sub_zero, Nat.mul_one]
  refine all_i fun n0 => ?_
  refine imp_i fun h0 => ?_
  refine imp_i fun h1 => ?_
  refine all_i fun n1 => ?_
  refine imp_i fun h2 => ?_
  refine imp_i fun h3 => ?_
  refine imp_i fun h4 => ?_
  try simp only [sigCode, cCh, codePost, List.cons.injEq, DV.b.injEq, and_true, List.length_cons, List.length_nil] at h4
  refine req_i ?_ ?_
  · -- r0
   first | omega | assumption | grind
  refine req_i ?_ ?_
  · -- r1
   first | omega | assumption | grind
  refine req_i ?_ ?_
  · -- r2
   first | trivial | assumption | (simp only [sigLen, sigLenR, iR, lenPost, List.cons.injEq, DV.b.injEq, and_true, List.length_cons, List.length_nil]; done) | ((try simp only [sigLen, sigLenR, iR, lenPost, List.cons.injEq, DV.b.injEq, and_true, List.length_cons, List.length_nil]); first | omega | assumption | grind)
  refine all_i fun n2 => ?_
  refine imp_i fun h5 => ?_
  refine imp_i fun h6 => ?_
  refine all_i fun n3 => ?_
  refine imp_i fun h7 => ?_
  refine imp_i fun h8 => ?_
  refine imp_i fun h9 => ?_
  try simp only [Int.toNat_natCast, List.length_set, List.length_replicate, List.length_take, List.length_drop, List.length_append, List.length_cons, List.length_nil, Nat.min_self, List.take_take, lenCols_i, lenCols_b, List.drop_zero, List.take_length, Nat.add_eq, Nat.mul_eq, Nat.sub_eq, Nat.zero_add, Nat.sub_zero, Nat.mul_one] at h9
  have hb := ite_case h9
  have nb := @nG_bd n0
  refine bR_dec (fun h10 => ?_) (fun h10 => ?_)
  ·
   refine req_i ?_ ?_
   · -- r3
    first | omega | assumption | grind
   refine req_i ?_ ?_
   · -- r4
    first | omega | assumption | grind
   refine req_i ?_ ?_
   · -- r5
    obtain ⟨k1, k2, k3⟩ := hb.resolve_left (fun g => h10 g.2.1); exact code_no (fun g => k1 g.1) k2
   rfl
  ·
   obtain ⟨ok, _, e2⟩ := hb.resolve_right (fun g => h10 (by rw [g.2.1]; decide))
   refine bR_dec (fun h11 => ?_) (fun h11 => ?_)
   ·
    refine req_i ?_ ?_
    · -- r6
     exact code_no (fun g => by omega) rfl
    rfl
   ·
    refine bR_dec (fun h12 => ?_) (fun h12 => ?_)
    ·
     refine req_i ?_ ?_
     · -- r7
      exact code_no (fun g => by omega) rfl
     rfl
    ·
     refine req_i ?_ ?_
     · -- r8
      first | omega | assumption | grind
     refine req_i ?_ ?_
     · -- r9
      first | omega | assumption | grind
     refine req_i ?_ ?_
     · -- r10
      first | trivial | assumption | (simp only [sigBits, sigBitsR, iR, cB, bitsPost, List.cons.injEq, DV.b.injEq, and_true, List.length_cons, List.length_nil]; done) | ((try simp only [sigBits, sigBitsR, iR, cB, bitsPost, List.cons.injEq, DV.b.injEq, and_true, List.length_cons, List.length_nil]); first | omega | assumption | grind)
     refine all_i fun l4 => ?_
     refine imp_i fun h13 => ?_
     refine imp_i fun h14 => ?_
     refine all_i fun n5 => ?_
     refine imp_i fun h15 => ?_
     refine imp_i fun h16 => ?_
     refine imp_i fun h17 => ?_
     try simp only [Int.toNat_natCast, List.length_set, List.length_replicate, List.length_take, List.length_drop, List.length_append, List.length_cons, List.length_nil, Nat.min_self, List.take_take, lenCols_i, lenCols_b, List.drop_zero, List.take_length, Nat.add_eq, Nat.mul_eq, Nat.sub_eq, Nat.zero_add, Nat.sub_zero, Nat.mul_one] at h17
     obtain ⟨_, e4⟩ := (ite_case h17).resolve_right (fun g => g.1 ⟨ok, .inl rfl⟩) |>.2
     have bl4 := bits_len (w := 1) ok (.inl rfl)
     rw [← e4] at bl4
     refine req_i ?_ ?_
     · -- r11
      first | omega | assumption | grind
     refine req_i ?_ ?_
     · -- r12
      first | omega | assumption | grind
     refine req_i ?_ ?_
     · -- r13
      first | trivial | assumption | (simp only [sigBits, sigBitsR, iR, cB, bitsPost, List.cons.injEq, DV.b.injEq, and_true, List.length_cons, List.length_nil]; done) | ((try simp only [sigBits, sigBitsR, iR, cB, bitsPost, List.cons.injEq, DV.b.injEq, and_true, List.length_cons, List.length_nil]); first | omega | assumption | grind)
     refine all_i fun l6 => ?_
     refine imp_i fun h18 => ?_
     refine imp_i fun h19 => ?_
     refine all_i fun n7 => ?_
     refine imp_i fun h20 => ?_
     refine imp_i fun h21 => ?_
     refine imp_i fun h22 => ?_
     try simp only [Int.toNat_natCast, List.length_set, List.length_replicate, List.length_take, List.length_drop, List.length_append, List.length_cons, List.length_nil, Nat.min_self, List.take_take, lenCols_i, lenCols_b, List.drop_zero, List.take_length, Nat.add_eq, Nat.mul_eq, Nat.sub_eq, Nat.zero_add, Nat.sub_zero, Nat.mul_one] at h22
     obtain ⟨_, e6⟩ := (ite_case h22).resolve_right (fun g => g.1 ⟨ok, .inr rfl⟩) |>.2
     have bl6 := bits_len (w := 2) ok (.inr rfl)
     rw [← e6, ← e2] at bl6
     refine req_i ?_ ?_
     · -- r14
      first | omega | assumption | grind
     refine req_i ?_ ?_
     · -- r15
      first | omega | assumption | grind
     refine req_i ?_ ?_
     · -- r16
      first | omega | ((try simp only [Nat.mul_eq]); first | done | omega | assumption | grind [getD_set, getD_rep, toNat_succ, cntN_yes, cntN_no])
     refine req_i ?_ ?_
     · -- r17
      first | omega | ((try simp only [Nat.zero_add]); first | done | omega | assumption | grind [getD_set, getD_rep, toNat_succ, cntN_yes, cntN_no])
     refine req_i ?_ ?_
     · -- r18
      first | omega | ((try simp only [List.length_take, List.take_length, List.take_take, Nat.min_self, List.length_drop, List.drop_zero, List.length_cons, List.length_nil]); first | done | omega | assumption | grind [getD_set, getD_rep, toNat_succ, cntN_yes, cntN_no])
     refine req_i ?_ ?_
     · -- r19
      first | assumption | exact rep_bd (by omega) (by omega) | exact set_bd (by assumption) (by omega) (by omega) | exact take_bd (by assumption) | ((try simp only [List.length_take, List.take_length, List.take_take, Nat.min_self, List.length_drop, List.drop_zero, List.length_cons, List.length_nil]); first | assumption | exact rep_bd (by omega) (by omega) | exact set_bd (by assumption) (by omega) (by omega) | exact take_bd (by assumption) | grind [getD_set, getD_rep, toNat_succ, cntN_yes, cntN_no])
     refine req_i ?_ ?_
     · -- r20
      first | omega | ((try simp only [Nat.mul_eq]); first | done | omega | assumption | grind [getD_set, getD_rep, toNat_succ, cntN_yes, cntN_no])
     refine req_i ?_ ?_
     · -- r21
      first | omega | ((try simp only [Nat.zero_add]); first | done | omega | assumption | grind [getD_set, getD_rep, toNat_succ, cntN_yes, cntN_no])
     refine req_i ?_ ?_
     · -- r22
      first | omega | ((try simp only [List.length_take, List.take_length, List.take_take, Nat.min_self, List.length_drop, List.drop_zero, List.length_cons, List.length_nil]); first | done | omega | assumption | grind [getD_set, getD_rep, toNat_succ, cntN_yes, cntN_no])
     refine req_i ?_ ?_
     · -- r23
      first | assumption | exact rep_bd (by omega) (by omega) | exact set_bd (by assumption) (by omega) (by omega) | exact take_bd (by assumption) | ((try simp only [List.length_take, List.take_length, List.take_take, Nat.min_self, List.length_drop, List.drop_zero, List.length_cons, List.length_nil]); first | assumption | exact rep_bd (by omega) (by omega) | exact set_bd (by assumption) (by omega) (by omega) | exact take_bd (by assumption) | grind [getD_set, getD_rep, toNat_succ, cntN_yes, cntN_no])
     refine req_i ?_ ?_
     · -- r24
      first | omega | assumption | grind
     refine req_i ?_ ?_
     · -- r25
      first | omega | assumption | grind
     refine req_i ?_ ?_
     · -- r26
      first | omega | ((try simp only [Int.toNat_natCast, List.length_replicate, List.length_cons, List.length_nil, lenCols_i, lenCols_b]); first | done | omega | assumption | grind [getD_set, getD_rep, toNat_succ, cntN_yes, cntN_no])
     refine req_i ?_ ?_
     · -- r27
      first | omega | ((try simp only [Int.toNat_natCast, List.length_replicate, List.length_cons, List.length_nil, lenCols_i, lenCols_b]); first | done | omega | assumption | grind [getD_set, getD_rep, toNat_succ, cntN_yes, cntN_no])
     refine req_i ?_ ?_
     · -- r28
      first | assumption | exact rep_bd (by omega) (by omega) | exact set_bd (by assumption) (by omega) (by omega) | exact take_bd (by assumption) | ((try simp only [Int.toNat_natCast, List.length_replicate, List.length_cons, List.length_nil]); first | assumption | exact rep_bd (by omega) (by omega) | exact set_bd (by assumption) (by omega) (by omega) | exact take_bd (by assumption) | grind [getD_set, getD_rep, toNat_succ, cntN_yes, cntN_no])
     refine req_i ?_ ?_
     · -- r29
      first | omega | ((try simp only [codeRL, cB, codeFInv, meaC, List.cons.injEq, DV.b.injEq, and_true, Int.toNat_natCast, List.length_replicate, List.length_take, List.take_length, List.take_take, Nat.min_self, List.length_drop, List.drop_zero, List.length_cons, List.length_nil]); first | done | omega | assumption | grind [getD_set, getD_rep, toNat_succ, cntN_yes, cntN_no])
     refine all_i fun n8 => ?_
     refine imp_i fun h23 => ?_
     refine imp_i fun h24 => ?_
     refine all_i fun l9 => ?_
     refine imp_i fun h25 => ?_
     refine imp_i fun h26 => ?_
     refine imp_i fun h27 => ?_
     try simp only [codeRL, cB, codeFInv, meaC, List.cons.injEq, DV.b.injEq, and_true, List.length_take, List.take_length, List.take_take, Nat.min_self, List.length_drop, List.drop_zero, List.length_cons, List.length_nil] at h27
     refine bR_dec (fun h28 => ?_) (fun h28 => ?_)
     ·
      have a0 := getD_bd (i := n8.toNat) h14 (by omega) (by omega)
      have a1 := getD_bd (i := n8.toNat) h19 (by omega) (by omega)
      refine bR_dec (fun h29 => ?_) (fun h29 => ?_)
      ·
       refine req_i ?_ ?_
       · -- r30
        first | omega | ((try simp only [Int.toNat_natCast, List.length_cons, List.length_nil]); first | done | omega | assumption | grind [getD_set, getD_rep, toNat_succ, cntN_yes, cntN_no])
       refine req_i ?_ ?_
       · -- r31
        first | omega | ((try simp only [Int.toNat_natCast, List.length_cons, List.length_nil, Nat.add_eq, Nat.zero_add]); first | done | omega | assumption | grind [getD_set, getD_rep, toNat_succ, cntN_yes, cntN_no])
       refine bR_dec (fun h30 => absurd h30 h29) (fun h30 => ?_)
       refine bR_dec (fun h31 => ?_) (fun h31 => ?_)
       ·
        refine all_i fun n12 => ?_
        refine imp_i fun h32 => ?_
        simp only [wrap_i64] at h32
        refine imp_i fun h33 => ?_
        refine imp_i fun h34 => ?_
        refine all_i fun n13 => ?_
        refine imp_i fun h35 => ?_
        simp only [wrap_i64] at h35
        refine imp_i fun h36 => ?_
        refine imp_i fun h37 => ?_
        have w1 : n13 = n8 + n1 - 3 := by omega
        have a2 := getD_bd (i := (n13.tmod n2).toNat) h19 (by omega) (by omega)
        have a4 := tmod_nn (a := n13) (b := n2) (by omega)
        have a5 := Int.emod_nonneg n13 (b := n2) (by omega)
        have a6 := Int.emod_lt_of_pos n13 (b := n2) (by omega)
        have a7 : n13.tmod n2 = (n8 + n1 - 3) % (l6.length : Int) := by rw [a4, w1, bl6]
        have a3 := xor_bit a0.1 a0.2 a2.1 a2.2
        refine req_i ?_ ?_
        · -- r32
         first | omega | assumption | grind
        refine req_i ?_ ?_
        · -- r33
         first | omega | assumption | grind
        refine req_i ?_ ?_
        · -- r34
         first | omega | ((try simp only [Int.toNat_natCast, List.length_cons, List.length_nil]); first | done | omega | assumption | grind [getD_set, getD_rep, toNat_succ, cntN_yes, cntN_no])
        refine req_i ?_ ?_
        · -- r35
         first | omega | ((try simp only [Int.toNat_natCast, List.length_cons, List.length_nil, Nat.add_eq, Nat.zero_add]); first | done | omega | assumption | grind [getD_set, getD_rep, toNat_succ, cntN_yes, cntN_no])
        refine req_i ?_ ?_
        · -- r36
         first | omega | assumption | grind
        refine req_i ?_ ?_
        · -- r37
         first | omega | ((try simp only [Int.toNat_natCast, List.length_cons, List.length_nil, Nat.add_eq, Nat.zero_add]); first | done | omega | assumption | grind [getD_set, getD_rep, toNat_succ, cntN_yes, cntN_no])
        refine bR_t ?_ ?_
        · -- g0
         first | rfl | (simp only [bR_iff, bR_iff_f, dec_iff, dec_f, beqB_iff', andB_iff', reduceCtorEq, imp_self, false_implies, and_true, true_and, implies_true, and_self]; done) | (simp [bR_iff, dec_iff, beqB_iff', andB_iff']; done) | (simp [bR_iff, dec_iff, beqB_iff', andB_iff']; omega)
        refine bR_t ?_ ?_
        · -- g1
         first | rfl | (simp only [bR_iff, bR_iff_f, dec_iff, dec_f, beqB_iff', andB_iff', reduceCtorEq, imp_self, false_implies, and_true, true_and, implies_true, and_self]; done) | (simp [bR_iff, dec_iff, beqB_iff', andB_iff']; done) | (simp [bR_iff, dec_iff, beqB_iff', andB_iff']; omega)
        refine req_i ?_ ?_
        · -- r38
         first | omega | assumption | grind
        refine req_i ?_ ?_
        · -- r39
         first | omega | assumption | grind
        refine req_i ?_ ?_
        · -- r40
         first | omega | ((try simp only [Int.toNat_natCast, List.length_set, List.length_cons, List.length_nil, lenCols_i, lenCols_b, Nat.add_eq, Nat.zero_add]); first | done | omega | assumption | grind [getD_set, getD_rep, toNat_succ, cntN_yes, cntN_no])
        refine req_i ?_ ?_
        · -- r41
         first | omega | ((try simp only [Int.toNat_natCast, List.length_set, List.length_cons, List.length_nil, lenCols_i, lenCols_b, Nat.add_eq, Nat.zero_add]); first | done | omega | assumption | grind [getD_set, getD_rep, toNat_succ, cntN_yes, cntN_no])
        refine req_i ?_ ?_
        · -- r42
         first | assumption | exact rep_bd (by omega) (by omega) | exact set_bd (by assumption) (by omega) (by omega) | exact take_bd (by assumption) | ((try simp only [Int.toNat_natCast, List.length_set, List.length_cons, List.length_nil, Nat.add_eq, Nat.zero_add]); first | assumption | exact rep_bd (by omega) (by omega) | exact set_bd (by assumption) (by omega) (by omega) | exact take_bd (by assumption) | grind [getD_set, getD_rep, toNat_succ, cntN_yes, cntN_no])
        refine req_i ?_ ?_
        · -- r43
         simp only [codeRL, codeFInv, List.drop_zero, List.take_length, Nat.add_eq, Nat.zero_add]; exact codeF_step h27.1 (by omega) h27.2.2.1 h27.2.2.2 (by rw [a3, chipB3 (by omega) (by omega) a7])
        refine req_i ?_ ?_
        · -- r44
         first | omega | ((try simp only [codeRL, cB, codeFInv, meaC, List.cons.injEq, DV.b.injEq, and_true, Int.toNat_natCast, List.length_set, List.length_take, List.take_length, List.take_take, Nat.min_self, List.length_drop, List.drop_zero, List.length_cons, List.length_nil, Nat.add_eq, Nat.zero_add]); first | done | omega | assumption | grind [getD_set, getD_rep, toNat_succ, cntN_yes, cntN_no])
        rfl
       ·
        refine req_i ?_ ?_
        · -- r45
         first | omega | assumption | grind
        refine req_i ?_ ?_
        · -- r46
         first | omega | ((try simp only [Int.toNat_natCast, List.length_cons, List.length_nil, Nat.add_eq, Nat.zero_add]); first | done | omega | assumption | grind [getD_set, getD_rep, toNat_succ, cntN_yes, cntN_no])
        refine bR_t ?_ ?_
        · -- g2
         first | rfl | (simp only [bR_iff, bR_iff_f, dec_iff, dec_f, beqB_iff', andB_iff', reduceCtorEq, imp_self, false_implies, and_true, true_and, implies_true, and_self]; done) | (simp [bR_iff, dec_iff, beqB_iff', andB_iff']; done) | (simp [bR_iff, dec_iff, beqB_iff', andB_iff']; omega)
        refine bR_t ?_ ?_
        · -- g3
         first | rfl | (simp only [bR_iff, bR_iff_f, dec_iff, dec_f, beqB_iff', andB_iff', reduceCtorEq, imp_self, false_implies, and_true, true_and, implies_true, and_self]; done) | (simp [bR_iff, dec_iff, beqB_iff', andB_iff']; done) | (simp [bR_iff, dec_iff, beqB_iff', andB_iff']; omega)
        refine req_i ?_ ?_
        · -- r47
         first | omega | assumption | grind
        refine req_i ?_ ?_
        · -- r48
         first | omega | assumption | grind
        refine req_i ?_ ?_
        · -- r49
         first | omega | ((try simp only [Int.toNat_natCast, List.length_set, List.length_cons, List.length_nil, lenCols_i, lenCols_b, Nat.add_eq, Nat.zero_add]); first | done | omega | assumption | grind [getD_set, getD_rep, toNat_succ, cntN_yes, cntN_no])
        refine req_i ?_ ?_
        · -- r50
         first | omega | ((try simp only [Int.toNat_natCast, List.length_set, List.length_cons, List.length_nil, lenCols_i, lenCols_b, Nat.add_eq, Nat.zero_add]); first | done | omega | assumption | grind [getD_set, getD_rep, toNat_succ, cntN_yes, cntN_no])
        refine req_i ?_ ?_
        · -- r51
         first | assumption | exact rep_bd (by omega) (by omega) | exact set_bd (by assumption) (by omega) (by omega) | exact take_bd (by assumption) | ((try simp only [Int.toNat_natCast, List.length_set, List.length_cons, List.length_nil, Nat.add_eq, Nat.zero_add]); first | assumption | exact rep_bd (by omega) (by omega) | exact set_bd (by assumption) (by omega) (by omega) | exact take_bd (by assumption) | grind [getD_set, getD_rep, toNat_succ, cntN_yes, cntN_no])
        refine req_i ?_ ?_
        · -- r52
         simp only [codeRL, codeFInv, List.drop_zero, List.take_length, Nat.add_eq, Nat.zero_add]; exact codeF_step h27.1 (by omega) h27.2.2.1 h27.2.2.2 (by rw [show n1 = 1 by omega, chipB1])
        refine req_i ?_ ?_
        · -- r53
         first | omega | ((try simp only [codeRL, cB, codeFInv, meaC, List.cons.injEq, DV.b.injEq, and_true, Int.toNat_natCast, List.length_set, List.length_take, List.take_length, List.take_take, Nat.min_self, List.length_drop, List.drop_zero, List.length_cons, List.length_nil, Nat.add_eq, Nat.zero_add]); first | done | omega | assumption | grind [getD_set, getD_rep, toNat_succ, cntN_yes, cntN_no])
        rfl
      ·
       refine bR_dec (fun h38 => ?_) (fun h38 => absurd h38 h29)
       refine req_i ?_ ?_
       · -- r54
        first | omega | ((try simp only [Int.toNat_natCast, List.length_cons, List.length_nil]); first | done | omega | assumption | grind [getD_set, getD_rep, toNat_succ, cntN_yes, cntN_no])
       refine req_i ?_ ?_
       · -- r55
        first | omega | ((try simp only [Int.toNat_natCast, List.length_cons, List.length_nil, Nat.add_eq, Nat.zero_add]); first | done | omega | assumption | grind [getD_set, getD_rep, toNat_succ, cntN_yes, cntN_no])
       refine bR_dec (fun h39 => ?_) (fun h39 => ?_)
       ·
        refine all_i fun n14 => ?_
        refine imp_i fun h40 => ?_
        simp only [wrap_i64] at h40
        refine imp_i fun h41 => ?_
        refine imp_i fun h42 => ?_
        refine all_i fun n15 => ?_
        refine imp_i fun h43 => ?_
        simp only [wrap_i64] at h43
        refine imp_i fun h44 => ?_
        refine imp_i fun h45 => ?_
        refine req_i ?_ ?_
        · -- r56
         first | omega | assumption | grind
        refine req_i ?_ ?_
        · -- r57
         first | omega | assumption | grind
        refine req_i ?_ ?_
        · -- r58
         first | omega | ((try simp only [Int.toNat_natCast, List.length_cons, List.length_nil]); first | done | omega | assumption | grind [getD_set, getD_rep, toNat_succ, cntN_yes, cntN_no])
        refine req_i ?_ ?_
        · -- r59
         first | omega | ((try simp only [Int.toNat_natCast, List.length_cons, List.length_nil, Nat.add_eq, Nat.zero_add]); first | done | omega | assumption | grind [getD_set, getD_rep, toNat_succ, cntN_yes, cntN_no])
        refine req_i ?_ ?_
        · -- r60
         first | omega | assumption | grind
        refine req_i ?_ ?_
        · -- r61
         first | omega | ((try simp only [Int.toNat_natCast, List.length_cons, List.length_nil, Nat.add_eq, Nat.zero_add]); first | done | omega | assumption | grind [getD_set, getD_rep, toNat_succ, cntN_yes, cntN_no])
        refine bR_t ?_ ?_
        · -- g4
         first | rfl | (simp only [bR_iff, bR_iff_f, dec_iff, dec_f, beqB_iff', andB_iff', reduceCtorEq, imp_self, false_implies, and_true, true_and, implies_true, and_self]; done) | (simp [bR_iff, dec_iff, beqB_iff', andB_iff']; done) | (simp [bR_iff, dec_iff, beqB_iff', andB_iff']; omega)
        refine bR_t ?_ ?_
        · -- g5
         first | rfl | (simp only [bR_iff, bR_iff_f, dec_iff, dec_f, beqB_iff', andB_iff', reduceCtorEq, imp_self, false_implies, and_true, true_and, implies_true, and_self]; done) | (simp [bR_iff, dec_iff, beqB_iff', andB_iff']; done) | (simp [bR_iff, dec_iff, beqB_iff', andB_iff']; omega)
        refine req_i ?_ ?_
        · -- r62
         first | omega | assumption | grind
        refine req_i ?_ ?_
        · -- r63
         first | omega | assumption | grind
        refine req_i ?_ ?_
        · -- r64
         first | omega | ((try simp only [Int.toNat_natCast, List.length_set, List.length_cons, List.length_nil, lenCols_i, lenCols_b, Nat.add_eq, Nat.zero_add]); first | done | omega | assumption | grind [getD_set, getD_rep, toNat_succ, cntN_yes, cntN_no])
        refine req_i ?_ ?_
        · -- r65
         first | omega | ((try simp only [Int.toNat_natCast, List.length_set, List.length_cons, List.length_nil, lenCols_i, lenCols_b, Nat.add_eq, Nat.zero_add]); first | done | omega | assumption | grind [getD_set, getD_rep, toNat_succ, cntN_yes, cntN_no])
        refine req_i ?_ ?_
        · -- r66
         first | assumption | exact rep_bd (by omega) (by omega) | exact set_bd (by assumption) (by omega) (by omega) | exact take_bd (by assumption) | ((try simp only [Int.toNat_natCast, List.length_set, List.length_cons, List.length_nil, Nat.add_eq, Nat.zero_add]); first | assumption | exact rep_bd (by omega) (by omega) | exact set_bd (by assumption) (by omega) (by omega) | exact take_bd (by assumption) | grind [getD_set, getD_rep, toNat_succ, cntN_yes, cntN_no])
        refine req_i ?_ ?_
        · -- r67
         first | omega | ((try simp only [codeRL, cB, codeFInv, meaC, List.cons.injEq, DV.b.injEq, and_true, Int.toNat_natCast, List.length_set, List.length_take, List.take_length, List.take_take, Nat.min_self, List.length_drop, List.drop_zero, List.length_cons, List.length_nil, Nat.add_eq, Nat.zero_add]); first | done | omega | assumption | grind [getD_set, getD_rep, toNat_succ, cntN_yes, cntN_no])
        refine req_i ?_ ?_
        · -- r68
         first | omega | ((try simp only [codeRL, cB, codeFInv, meaC, List.cons.injEq, DV.b.injEq, and_true, Int.toNat_natCast, List.length_set, List.length_take, List.take_length, List.take_take, Nat.min_self, List.length_drop, List.drop_zero, List.length_cons, List.length_nil, Nat.add_eq, Nat.zero_add]); first | done | omega | assumption | grind [getD_set, getD_rep, toNat_succ, cntN_yes, cntN_no])
        rfl
       ·
        refine req_i ?_ ?_
        · -- r69
         first | omega | assumption | grind
        refine req_i ?_ ?_
        · -- r70
         first | omega | ((try simp only [Int.toNat_natCast, List.length_cons, List.length_nil, Nat.add_eq, Nat.zero_add]); first | done | omega | assumption | grind [getD_set, getD_rep, toNat_succ, cntN_yes, cntN_no])
        refine bR_t ?_ ?_
        · -- g6
         first | rfl | (simp only [bR_iff, bR_iff_f, dec_iff, dec_f, beqB_iff', andB_iff', reduceCtorEq, imp_self, false_implies, and_true, true_and, implies_true, and_self]; done) | (simp [bR_iff, dec_iff, beqB_iff', andB_iff']; done) | (simp [bR_iff, dec_iff, beqB_iff', andB_iff']; omega)
        refine bR_t ?_ ?_
        · -- g7
         first | rfl | (simp only [bR_iff, bR_iff_f, dec_iff, dec_f, beqB_iff', andB_iff', reduceCtorEq, imp_self, false_implies, and_true, true_and, implies_true, and_self]; done) | (simp [bR_iff, dec_iff, beqB_iff', andB_iff']; done) | (simp [bR_iff, dec_iff, beqB_iff', andB_iff']; omega)
        refine req_i ?_ ?_
        · -- r71
         first | omega | assumption | grind
        refine req_i ?_ ?_
        · -- r72
         first | omega | assumption | grind
        refine req_i ?_ ?_
        · -- r73
         first | omega | ((try simp only [Int.toNat_natCast, List.length_set, List.length_cons, List.length_nil, lenCols_i, lenCols_b, Nat.add_eq, Nat.zero_add]); first | done | omega | assumption | grind [getD_set, getD_rep, toNat_succ, cntN_yes, cntN_no])
        refine req_i ?_ ?_
        · -- r74
         first | omega | ((try simp only [Int.toNat_natCast, List.length_set, List.length_cons, List.length_nil, lenCols_i, lenCols_b, Nat.add_eq, Nat.zero_add]); first | done | omega | assumption | grind [getD_set, getD_rep, toNat_succ, cntN_yes, cntN_no])
        refine req_i ?_ ?_
        · -- r75
         first | assumption | exact rep_bd (by omega) (by omega) | exact set_bd (by assumption) (by omega) (by omega) | exact take_bd (by assumption) | ((try simp only [Int.toNat_natCast, List.length_set, List.length_cons, List.length_nil, Nat.add_eq, Nat.zero_add]); first | assumption | exact rep_bd (by omega) (by omega) | exact set_bd (by assumption) (by omega) (by omega) | exact take_bd (by assumption) | grind [getD_set, getD_rep, toNat_succ, cntN_yes, cntN_no])
        refine req_i ?_ ?_
        · -- r76
         simp only [codeRL, codeFInv, List.drop_zero, List.take_length, Nat.add_eq, Nat.zero_add]; exact codeF_step h27.1 (by omega) h27.2.2.1 h27.2.2.2 (by rw [h38, chipB2])
        refine req_i ?_ ?_
        · -- r77
         first | omega | ((try simp only [codeRL, cB, codeFInv, meaC, List.cons.injEq, DV.b.injEq, and_true, Int.toNat_natCast, List.length_set, List.length_take, List.take_length, List.take_take, Nat.min_self, List.length_drop, List.drop_zero, List.length_cons, List.length_nil, Nat.add_eq, Nat.zero_add]); first | done | omega | assumption | grind [getD_set, getD_rep, toNat_succ, cntN_yes, cntN_no])
        rfl
     ·
      refine req_i ?_ ?_
      · -- r78
       first | omega | ((try simp only [Int.toNat_natCast, List.length_cons, List.length_nil, Nat.mul_eq]); first | done | omega | assumption | grind [getD_set, getD_rep, toNat_succ, cntN_yes, cntN_no])
      refine req_i ?_ ?_
      · -- r79
       first | omega | assumption | grind
      refine req_i ?_ ?_
      · -- r80
       first | omega | ((try simp only [Int.toNat_natCast, List.length_take, List.take_length, List.take_take, Nat.min_self, List.length_drop, List.drop_zero, List.length_cons, List.length_nil]); first | done | omega | assumption | grind [getD_set, getD_rep, toNat_succ, cntN_yes, cntN_no])
      refine req_i ?_ ?_
      · -- r81
       (try simp only [List.drop_zero]); rw [List.take_of_length_le (by omega), chips_of (p := n1) (u := l4) (v := l6) h27.2.2.1 fun j hj => h27.2.2.2 j (by omega)]; exact chips_bd h14 h19
      refine req_i ?_ ?_
      · -- r82
       (try simp only [List.drop_zero]); rw [List.take_of_length_le (by omega)]; exact code_yes ⟨ok, by omega, by omega⟩ rfl (by rw [chips_of (p := n1) (u := l4) (v := l6) h27.2.2.1 fun j hj => h27.2.2.2 j (by omega), e4, e6]; rfl)
      rfl
theorem ext_codeR : ∀ p ∈ ([(26, Ext.ctr (ctOf sigBits)), (24, Ext.ctr (ctOf sigLen))] : List (Nat × Ext)), ExtRow Try.prog p.1 p.2 := by
  intro p hp
  simp only [List.mem_cons, List.not_mem_nil, or_false] at hp
  rcases hp with rfl | rfl
  · trivial
  · trivial
theorem cts_codeR : CtsOk Try.prog [(26, Ext.ctr (ctOf sigBits)), (24, Ext.ctr (ctOf sigLen))] := ctsOk_of (cs := [(26, sigBits), (24, sigLen)])
  (fun p hp => by
    simp only [List.mem_cons, List.not_mem_nil, or_false] at hp
    rcases hp with rfl | rfl
    · exact fn_bitsR
    · exact fn_lenR
)
  (fun f c h => by
    simp only [List.lookup_cons] at h
    repeat' split at h
    all_goals first | (cases h; done) | (rename_i e; have e := beq_iff_eq.1 e; subst e; cases h; refine ⟨_, ?_, rfl⟩; simp))
theorem fn_codeR : FnOk Try.prog 27 sigCode [] := fn_sound (by kernel_rfl) ext_codeR cts_codeR names vt_codeR
end Go.Proofs.Ytpmlodchbgfmeaa

namespace Go.Proofs.Ytpmlodchbgfmeaa
open Go.Ev Go.Sp
set_option maxRecDepth 100000
theorem vc_sum : vcFn Try.prog [(15, Ext.ctr (ctOf sigCode))] (fun f p _ => at2 f p 16 122 sumLS (none)) [] 100 16 sigSum = (allB fun n0 : Int => 
impB ((-9223372036854775808 : Int) ≤ n0) (
impB (n0 ≤ (9223372036854775807 : Int)) (
allB fun n1 : Int => 
impB ((-9223372036854775808 : Int) ≤ n1) (
impB (n1 ≤ (9223372036854775807 : Int)) (
impB (sigSum.pre [DV.n n0, DV.n n1]) (
reqB ((-9223372036854775808 : Int) ≤ n0) (
reqB (n0 ≤ (9223372036854775807 : Int)) (
reqB ((-9223372036854775808 : Int) ≤ n1) (
reqB (n1 ≤ (9223372036854775807 : Int)) (
reqB (sigCode.pre [DV.n n0, DV.n n1]) (
allB fun l2 : List Int => 
impB (l2.length ≤ (1100 : Nat)) (
impB (∀ (y : Int), y ∈ l2 → (-1 : Int) ≤ y ∧ y ≤ (1 : Int)) (
allB fun n3 : Int => 
impB ((0 : Int) ≤ n3) (
impB (n3 ≤ (18 : Int)) (
impB (sigCode.post [DV.n n0, DV.n n1] [DV.l l2, DV.n n3]) (
reqB (((0 : Nat) + l2.length) * (1 : Nat) ≤ l2.length.mul (1 : Nat)) (
reqB (l2.length ≤ (1100 : Nat)) (
reqB ((List.take l2.length (List.drop (0 : Nat) l2)).length = l2.length) (
reqB (∀ (y : Int), y ∈ List.take l2.length (List.drop (0 : Nat) l2) → (-1 : Int) ≤ y ∧ y ≤ (1 : Int)) (
reqB (sumLS.inv [DV.l (List.take l2.length (List.drop (0 : Nat) l2))] [DV.n (0 : Int), DV.n (0 : Int)]) (
allB fun n4 : Int => 
impB ((0 : Int) ≤ n4) (
impB (n4 ≤ (1100 : Int)) (
allB fun n5 : Int => 
impB ((-1100 : Int) ≤ n5) (
impB (n5 ≤ (1100 : Int)) (
impB (sumLS.inv [DV.l (List.take l2.length (List.drop (0 : Nat) l2))] [DV.n n4, DV.n n5]) (
bR (dec (n4 < (↑l2.length : Int))) (
 reqB (n4.toNat < l2.length) (
 reqB (Nat.add (0 : Nat) n4.toNat < l2.length) (
 bR (bR (dec (n3 = n3)) (
 bR (bR (dec ((0 : Nat) = (0 : Nat))) (
 dec (l2.length = l2.length)) (
 false)) (
 bR (dec ((↑l2.length : Int) = (↑l2.length : Int))) (
 true) (
 false)) (
 false)) (
 false)) (
 bR (bR (bR (dec (l2.length.mul (1 : Nat) = l2.length.mul (1 : Nat))) (
 dec ([Col.i Go.IntKind.i64 (-1 : Int) (1 : Int) l2] = [Col.i Go.IntKind.i64 (-1 : Int) (1 : Int) l2])) (
 false)) (
 true) (
 false)) (
 reqB ((0 : Int) ≤ n4 + (1 : Int)) (
 reqB (n4 + (1 : Int) ≤ (1100 : Int)) (
 reqB ((-1100 : Int) ≤ n5 + l2.getD (Nat.add (0 : Nat) n4.toNat) (0 : Int)) (
 reqB (n5 + l2.getD (Nat.add (0 : Nat) n4.toNat) (0 : Int) ≤ (1100 : Int)) (
 reqB (sumLS.inv [DV.l (List.take l2.length (List.drop (0 : Nat) l2))]
 [DV.n (n4 + (1 : Int)), DV.n (n5 + l2.getD (Nat.add (0 : Nat) n4.toNat) (0 : Int))]) (
 reqB (sumLS.mea [DV.l (List.take l2.length (List.drop (0 : Nat) l2))]
 [DV.n (n4 + (1 : Int)), DV.n (n5 + l2.getD (Nat.add (0 : Nat) n4.toNat) (0 : Int))] <
 sumLS.mea [DV.l (List.take l2.length (List.drop (0 : Nat) l2))] [DV.n n4, DV.n n5]) (
 true))))))) (
 false)) (
 false)))) (
 reqB ((-1100 : Int) ≤ n5) (
 reqB (n5 ≤ (1100 : Int)) (
 reqB ((0 : Int) ≤ n3) (
 reqB (n3 ≤ (18 : Int)) (
 reqB (sigSum.post [DV.n n0, DV.n n1] [DV.n n5, DV.n n3]) (
 true)))))))))))))))))))))))))))))))) := by kernel_rfl
set_option maxHeartbeats 8000000 in
theorem vt_sum : vcFn Try.prog [(15, Ext.ctr (ctOf sigCode))] (fun f p _ => at2 f p 16 122 sumLS (none)) [] 100 16 sigSum = true := by
  rw [vc_sum]
  try simp only [Int.toNat_natCast, List.length_set, List.length_replicate, List.length_take, List.length_drop, List.length_append, List.length_cons, List.length_nil, Nat.min_self, List.take_take, lenCols_i, lenCols_b, List.drop_zero, List.take_length, Nat.add_eq, Nat.mul_eq, Nat.sub_eq, Nat.zero_add, Nat.sub_zero, Nat.mul_one]
  refine all_i fun n0 => ?_
  refine imp_i fun h0 => ?_
  refine imp_i fun h1 => ?_
  refine all_i fun n1 => ?_
  refine imp_i fun h2 => ?_
  refine imp_i fun h3 => ?_
  refine imp_i fun h4 => ?_
  try simp only [sigSum, sumPost, List.cons.injEq, DV.b.injEq, and_true, List.length_cons, List.length_nil] at h4
  refine req_i ?_ ?_
  · -- r0
   first | omega | assumption | grind
  refine req_i ?_ ?_
  · -- r1
   first | omega | assumption | grind
  refine req_i ?_ ?_
  · -- r2
   first | omega | assumption | grind
  refine req_i ?_ ?_
  · -- r3
   first | omega | assumption | grind
  refine req_i ?_ ?_
  · -- r4
   first | trivial | assumption | (simp only [sigCode, cCh, codePost, List.cons.injEq, DV.b.injEq, and_true, List.length_cons, List.length_nil]; done) | ((try simp only [sigCode, cCh, codePost, List.cons.injEq, DV.b.injEq, and_true, List.length_cons, List.length_nil]); first | omega | assumption | grind)
  refine all_i fun l2 => ?_
  refine imp_i fun h5 => ?_
  refine imp_i fun h6 => ?_
  refine all_i fun n3 => ?_
  refine imp_i fun h7 => ?_
  refine imp_i fun h8 => ?_
  refine imp_i fun h9 => ?_
  try simp only [Int.toNat_natCast, List.length_set, List.length_replicate, List.length_take, List.length_drop, List.length_append, List.length_cons, List.length_nil, Nat.min_self, List.take_take, lenCols_i, lenCols_b, List.drop_zero, List.take_length, Nat.add_eq, Nat.mul_eq, Nat.sub_eq, Nat.zero_add, Nat.sub_zero, Nat.mul_one] at h9
  refine req_i ?_ ?_
  · -- r5
   first | omega | ((try simp only [Nat.mul_eq]); first | done | omega | assumption | grind [getD_set, getD_rep, toNat_succ, cntN_yes, cntN_no])
  refine req_i ?_ ?_
  · -- r6
   first | omega | ((try simp only [Nat.zero_add]); first | done | omega | assumption | grind [getD_set, getD_rep, toNat_succ, cntN_yes, cntN_no])
  refine req_i ?_ ?_
  · -- r7
   first | omega | ((try simp only [List.length_take, List.take_length, List.take_take, Nat.min_self, List.length_drop, List.drop_zero, List.length_cons, List.length_nil]); first | done | omega | assumption | grind [getD_set, getD_rep, toNat_succ, cntN_yes, cntN_no])
  refine req_i ?_ ?_
  · -- r8
   first | assumption | exact rep_bd (by omega) (by omega) | exact set_bd (by assumption) (by omega) (by omega) | exact take_bd (by assumption) | ((try simp only [List.length_take, List.take_length, List.take_take, Nat.min_self, List.length_drop, List.drop_zero, List.length_cons, List.length_nil]); first | assumption | exact rep_bd (by omega) (by omega) | exact set_bd (by assumption) (by omega) (by omega) | exact take_bd (by assumption) | grind [getD_set, getD_rep, toNat_succ, cntN_yes, cntN_no])
  refine req_i ?_ ?_
  · -- r9
   exact ⟨by omega, by omega, rfl⟩
  refine all_i fun n4 => ?_
  refine imp_i fun h10 => ?_
  refine imp_i fun h11 => ?_
  refine all_i fun n5 => ?_
  refine imp_i fun h12 => ?_
  refine imp_i fun h13 => ?_
  refine imp_i fun h14 => ?_
  try simp only [sumLS, cCh, sumInv, meaC, List.cons.injEq, DV.b.injEq, and_true, List.length_take, List.take_length, List.take_take, Nat.min_self, List.length_drop, List.drop_zero, List.length_cons, List.length_nil] at h14
  refine bR_dec (fun h15 => ?_) (fun h15 => ?_)
  ·
   have s0 := sumL_t (n := n4.toNat) h6 h5
   have s1 := sumL_t (n := (n4 + 1).toNat) h6 h5
   have s2 := sumL_take (l := l2) (i := n4) (by omega) (by omega)
   refine req_i ?_ ?_
   · -- r10
    first | omega | ((try simp only [Int.toNat_natCast, List.length_cons, List.length_nil]); first | done | omega | assumption | grind [getD_set, getD_rep, toNat_succ, cntN_yes, cntN_no])
   refine req_i ?_ ?_
   · -- r11
    first | omega | ((try simp only [Int.toNat_natCast, List.length_cons, List.length_nil, Nat.add_eq, Nat.zero_add]); first | done | omega | assumption | grind [getD_set, getD_rep, toNat_succ, cntN_yes, cntN_no])
   refine bR_t ?_ ?_
   · -- g0
    first | rfl | (simp only [bR_iff, bR_iff_f, dec_iff, dec_f, beqB_iff', andB_iff', reduceCtorEq, imp_self, false_implies, and_true, true_and, implies_true, and_self]; done) | (simp [bR_iff, dec_iff, beqB_iff', andB_iff']; done) | (simp [bR_iff, dec_iff, beqB_iff', andB_iff']; omega)
   refine bR_t ?_ ?_
   · -- g1
    first | rfl | (simp only [bR_iff, bR_iff_f, dec_iff, dec_f, beqB_iff', andB_iff', reduceCtorEq, imp_self, false_implies, and_true, true_and, implies_true, and_self]; done) | (simp [bR_iff, dec_iff, beqB_iff', andB_iff']; done) | (simp [bR_iff, dec_iff, beqB_iff', andB_iff']; omega)
   refine req_i ?_ ?_
   · -- r12
    first | omega | assumption | grind
   refine req_i ?_ ?_
   · -- r13
    first | omega | assumption | grind
   refine req_i ?_ ?_
   · -- r14
    first | omega | assumption | grind
   refine req_i ?_ ?_
   · -- r15
    first | omega | assumption | grind
   refine req_i ?_ ?_
   · -- r16
    first | omega | ((try simp only [sumLS, cCh, sumInv, meaC, List.cons.injEq, DV.b.injEq, and_true, Int.toNat_natCast, List.length_take, List.take_length, List.take_take, Nat.min_self, List.length_drop, List.drop_zero, List.length_cons, List.length_nil, Nat.add_eq, Nat.zero_add]); first | done | omega | assumption | grind [getD_set, getD_rep, toNat_succ, cntN_yes, cntN_no])
   refine req_i ?_ ?_
   · -- r17
    first | omega | ((try simp only [sumLS, cCh, sumInv, meaC, List.cons.injEq, DV.b.injEq, and_true, Int.toNat_natCast, List.length_take, List.take_length, List.take_take, Nat.min_self, List.length_drop, List.drop_zero, List.length_cons, List.length_nil, Nat.add_eq, Nat.zero_add]); first | done | omega | assumption | grind [getD_set, getD_rep, toNat_succ, cntN_yes, cntN_no])
   rfl
  ·
   refine req_i ?_ ?_
   · -- r18
    first | omega | assumption | grind
   refine req_i ?_ ?_
   · -- r19
    first | omega | assumption | grind
   refine req_i ?_ ?_
   · -- r20
    first | omega | assumption | grind
   refine req_i ?_ ?_
   · -- r21
    first | omega | assumption | grind
   refine req_i ?_ ?_
   · -- r22
    rcases ite_case h9 with ⟨k1, k2, k3⟩ | ⟨k1, k2, k3⟩
    · exact sum_yes k1 k2 (by rw [← k3, h14.2.2, List.take_of_length_le (by omega)])
    · exact sum_no k1 k2 (by rw [h14.2.2, k3, List.take_nil]; rfl)
   rfl
theorem ext_sum : ∀ p ∈ ([(15, Ext.ctr (ctOf sigCode))] : List (Nat × Ext)), ExtRow Try.prog p.1 p.2 := by
  intro p hp
  simp only [List.mem_cons, List.not_mem_nil, or_false] at hp
  rcases hp with rfl
  · trivial
theorem cts_sum : CtsOk Try.prog [(15, Ext.ctr (ctOf sigCode))] := ctsOk_of (cs := [(15, sigCode)])
  (fun p hp => by
    simp only [List.mem_cons, List.not_mem_nil, or_false] at hp
    rcases hp with rfl
    · exact fn_code
)
  (fun f c h => by
    simp only [List.lookup_cons] at h
    repeat' split at h
    all_goals first | (cases h; done) | (rename_i e; have e := beq_iff_eq.1 e; subst e; cases h; refine ⟨_, ?_, rfl⟩; simp))
theorem fn_sum : FnOk Try.prog 16 sigSum [] := fn_sound (by kernel_rfl) ext_sum cts_sum names vt_sum
end Go.Proofs.Ytpmlodchbgfmeaa

namespace Go.Proofs.Ytpmlodchbgfmeaa
open Go.Ev Go.Sp
set_option maxRecDepth 100000
theorem vc_sumR : vcFn Try.prog [(27, Ext.ctr (ctOf sigCode))] (fun f p _ => at2 f p 28 250 sumRL (none)) [] 100 28 sigSum = (allB fun n0 : Int => 
impB ((-9223372036854775808 : Int) ≤ n0) (
impB (n0 ≤ (9223372036854775807 : Int)) (
allB fun n1 : Int => 
impB ((-9223372036854775808 : Int) ≤ n1) (
impB (n1 ≤ (9223372036854775807 : Int)) (
impB (sigSum.pre [DV.n n0, DV.n n1]) (
reqB ((-9223372036854775808 : Int) ≤ n0) (
reqB (n0 ≤ (9223372036854775807 : Int)) (
reqB ((-9223372036854775808 : Int) ≤ n1) (
reqB (n1 ≤ (9223372036854775807 : Int)) (
reqB (sigCode.pre [DV.n n0, DV.n n1]) (
allB fun l2 : List Int => 
impB (l2.length ≤ (1100 : Nat)) (
impB (∀ (y : Int), y ∈ l2 → (-1 : Int) ≤ y ∧ y ≤ (1 : Int)) (
allB fun n3 : Int => 
impB ((0 : Int) ≤ n3) (
impB (n3 ≤ (18 : Int)) (
impB (sigCode.post [DV.n n0, DV.n n1] [DV.l l2, DV.n n3]) (
bR (dec (n3 ≠ (0 : Int))) (
 reqB ((0 : Int) ≤ n3) (
 reqB (n3 ≤ (18 : Int)) (
 reqB (sigSum.post [DV.n n0, DV.n n1] [DV.n (0 : Int), DV.n n3]) (
 true)))) (
 reqB (((0 : Nat) + l2.length) * (1 : Nat) ≤ l2.length.mul (1 : Nat)) (
 reqB (l2.length ≤ (1100 : Nat)) (
 reqB ((List.take l2.length (List.drop (0 : Nat) l2)).length = l2.length) (
 reqB (∀ (y : Int), y ∈ List.take l2.length (List.drop (0 : Nat) l2) → (-1 : Int) ≤ y ∧ y ≤ (1 : Int)) (
 reqB (sumRL.inv [DV.l (List.take l2.length (List.drop (0 : Nat) l2))] [DV.n (0 : Int), DV.n (0 : Int)]) (
 allB fun n4 : Int => 
 impB ((0 : Int) ≤ n4) (
 impB (n4 ≤ (1100 : Int)) (
 allB fun n5 : Int => 
 impB ((-1100 : Int) ≤ n5) (
 impB (n5 ≤ (1100 : Int)) (
 impB (sumRL.inv [DV.l (List.take l2.length (List.drop (0 : Nat) l2))] [DV.n n4, DV.n n5]) (
 bR (dec (n4 < (↑l2.length : Int))) (
 reqB (n4.toNat < l2.length) (
 reqB (Nat.add (0 : Nat) n4.toNat < l2.length) (
 bR (bR (bR (dec ((0 : Nat) = (0 : Nat))) (
 dec (l2.length = l2.length)) (
 false)) (
 true) (
 false)) (
 bR (bR (bR (dec (l2.length.mul (1 : Nat) = l2.length.mul (1 : Nat))) (
 dec ([Col.i Go.IntKind.i64 (-1 : Int) (1 : Int) l2] = [Col.i Go.IntKind.i64 (-1 : Int) (1 : Int) l2])) (
 false)) (
 true) (
 false)) (
 reqB ((0 : Int) ≤ n4 + (1 : Int)) (
 reqB (n4 + (1 : Int) ≤ (1100 : Int)) (
 reqB ((-1100 : Int) ≤ n5 + l2.getD (Nat.add (0 : Nat) n4.toNat) (0 : Int)) (
 reqB (n5 + l2.getD (Nat.add (0 : Nat) n4.toNat) (0 : Int) ≤ (1100 : Int)) (
 reqB (sumRL.inv [DV.l (List.take l2.length (List.drop (0 : Nat) l2))]
 [DV.n (n4 + (1 : Int)), DV.n (n5 + l2.getD (Nat.add (0 : Nat) n4.toNat) (0 : Int))]) (
 reqB (sumRL.mea [DV.l (List.take l2.length (List.drop (0 : Nat) l2))]
 [DV.n (n4 + (1 : Int)), DV.n (n5 + l2.getD (Nat.add (0 : Nat) n4.toNat) (0 : Int))] <
 sumRL.mea [DV.l (List.take l2.length (List.drop (0 : Nat) l2))] [DV.n n4, DV.n n5]) (
 true))))))) (
 false)) (
 false)))) (
 reqB ((-1100 : Int) ≤ n5) (
 reqB (n5 ≤ (1100 : Int)) (
 reqB (sigSum.post [DV.n n0, DV.n n1] [DV.n n5, DV.n (0 : Int)]) (
 true))))))))))))))))))))))))))))))) := by kernel_rfl
set_option maxHeartbeats 8000000 in
theorem vt_sumR : vcFn Try.prog [(27, Ext.ctr (ctOf sigCode))] (fun f p _ => at2 f p 28 250 sumRL (none)) [] 100 28 sigSum = true := by
  rw [vc_sumR]
  try simp only [Int.toNat_natCast, List.length_set, List.length_replicate, List.length_take, List.length_drop, List.length_append, List.length_cons, List.length_nil, Nat.min_self, List.take_take, lenCols_i, lenCols_b, List.drop_zero, List.take_length, Nat.add_eq, Nat.mul_eq, Nat.sub_eq, Nat.zero_add, Nat.sub_zero, Nat.mul_one]
  refine all_i fun n0 => ?_
  refine imp_i fun h0 => ?_
  refine imp_i fun h1 => ?_
  refine all_i fun n1 => ?_
  refine imp_i fun h2 => ?_
  refine imp_i fun h3 => ?_
  refine imp_i fun h4 => ?_
  try simp only [sigSum, sumPost, List.cons.injEq, DV.b.injEq, and_true, List.length_cons, List.length_nil] at h4
  refine req_i ?_ ?_
  · -- r0
   first | omega | assumption | grind
  refine req_i ?_ ?_
  · -- r1
   first | omega | assumption | grind
  refine req_i ?_ ?_
  · -- r2
   first | omega | assumption | grind
  refine req_i ?_ ?_
  · -- r3
   first | omega | assumption | grind
  refine req_i ?_ ?_
  · -- r4
   first | trivial | assumption | (simp only [sigCode, cCh, codePost, List.cons.injEq, DV.b.injEq, and_true, List.length_cons, List.length_nil]; done) | ((try simp only [sigCode, cCh, codePost, List.cons.injEq, DV.b.injEq, and_true, List.length_cons, List.length_nil]); first | omega | assumption | grind)
  refine all_i fun l2 => ?_
  refine imp_i fun h5 => ?_
  refine imp_i fun h6 => ?_
  refine all_i fun n3 => ?_
  refine imp_i fun h7 => ?_
  refine imp_i fun h8 => ?_
  refine imp_i fun h9 => ?_
  try simp only [Int.toNat_natCast, List.length_set, List.length_replicate, List.length_take, List.length_drop, List.length_append, List.length_cons, List.length_nil, Nat.min_self, List.take_take, lenCols_i, lenCols_b, List.drop_zero, List.take_length, Nat.add_eq, Nat.mul_eq, Nat.sub_eq, Nat.zero_add, Nat.sub_zero, Nat.mul_one] at h9
  have hb := ite_case h9
  refine bR_dec (fun h10 => ?_) (fun h10 => ?_)
  ·
   refine req_i ?_ ?_
   · -- r5
    first | omega | assumption | grind
   refine req_i ?_ ?_
   · -- r6
    first | omega | assumption | grind
   refine req_i ?_ ?_
   · -- r7
    obtain ⟨k1, k2, k3⟩ := hb.resolve_left (fun g => h10 g.2.1); exact sum_no k1 k2 rfl
   rfl
  ·
   refine req_i ?_ ?_
   · -- r8
    first | omega | ((try simp only [Nat.mul_eq]); first | done | omega | assumption | grind [getD_set, getD_rep, toNat_succ, cntN_yes, cntN_no])
   refine req_i ?_ ?_
   · -- r9
    first | omega | ((try simp only [Nat.zero_add]); first | done | omega | assumption | grind [getD_set, getD_rep, toNat_succ, cntN_yes, cntN_no])
   refine req_i ?_ ?_
   · -- r10
    first | omega | ((try simp only [List.length_take, List.take_length, List.take_take, Nat.min_self, List.length_drop, List.drop_zero, List.length_cons, List.length_nil]); first | done | omega | assumption | grind [getD_set, getD_rep, toNat_succ, cntN_yes, cntN_no])
   refine req_i ?_ ?_
   · -- r11
    first | assumption | exact rep_bd (by omega) (by omega) | exact set_bd (by assumption) (by omega) (by omega) | exact take_bd (by assumption) | ((try simp only [List.length_take, List.take_length, List.take_take, Nat.min_self, List.length_drop, List.drop_zero, List.length_cons, List.length_nil]); first | assumption | exact rep_bd (by omega) (by omega) | exact set_bd (by assumption) (by omega) (by omega) | exact take_bd (by assumption) | grind [getD_set, getD_rep, toNat_succ, cntN_yes, cntN_no])
   refine req_i ?_ ?_
   · -- r12
    exact ⟨by omega, by omega, rfl⟩
   refine all_i fun n4 => ?_
   refine imp_i fun h11 => ?_
   refine imp_i fun h12 => ?_
   refine all_i fun n5 => ?_
   refine imp_i fun h13 => ?_
   refine imp_i fun h14 => ?_
   refine imp_i fun h15 => ?_
   try simp only [sumRL, cCh, sumInv, meaC, List.cons.injEq, DV.b.injEq, and_true, List.length_take, List.take_length, List.take_take, Nat.min_self, List.length_drop, List.drop_zero, List.length_cons, List.length_nil] at h15
   refine bR_dec (fun h16 => ?_) (fun h16 => ?_)
   ·
    have s0 := sumL_t (n := n4.toNat) h6 h5
    have s1 := sumL_t (n := (n4 + 1).toNat) h6 h5
    have s2 := sumL_take (l := l2) (i := n4) (by omega) (by omega)
    refine req_i ?_ ?_
    · -- r13
     first | omega | ((try simp only [Int.toNat_natCast, List.length_cons, List.length_nil]); first | done | omega | assumption | grind [getD_set, getD_rep, toNat_succ, cntN_yes, cntN_no])
    refine req_i ?_ ?_
    · -- r14
     first | omega | ((try simp only [Int.toNat_natCast, List.length_cons, List.length_nil, Nat.add_eq, Nat.zero_add]); first | done | omega | assumption | grind [getD_set, getD_rep, toNat_succ, cntN_yes, cntN_no])
    refine bR_t ?_ ?_
    · -- g0
     first | rfl | (simp only [bR_iff, bR_iff_f, dec_iff, dec_f, beqB_iff', andB_iff', reduceCtorEq, imp_self, false_implies, and_true, true_and, implies_true, and_self]; done) | (simp [bR_iff, dec_iff, beqB_iff', andB_iff']; done) | (simp [bR_iff, dec_iff, beqB_iff', andB_iff']; omega)
    refine bR_t ?_ ?_
    · -- g1
     first | rfl | (simp only [bR_iff, bR_iff_f, dec_iff, dec_f, beqB_iff', andB_iff', reduceCtorEq, imp_self, false_implies, and_true, true_and, implies_true, and_self]; done) | (simp [bR_iff, dec_iff, beqB_iff', andB_iff']; done) | (simp [bR_iff, dec_iff, beqB_iff', andB_iff']; omega)
    refine req_i ?_ ?_
    · -- r15
     first | omega | assumption | grind
    refine req_i ?_ ?_
    · -- r16
     first | omega | assumption | grind
    refine req_i ?_ ?_
    · -- r17
     first | omega | assumption | grind
    refine req_i ?_ ?_
    · -- r18
     first | omega | assumption | grind
    refine req_i ?_ ?_
    · -- r19
     first | omega | ((try simp only [sumRL, cCh, sumInv, meaC, List.cons.injEq, DV.b.injEq, and_true, Int.toNat_natCast, List.length_take, List.take_length, List.take_take, Nat.min_self, List.length_drop, List.drop_zero, List.length_cons, List.length_nil, Nat.add_eq, Nat.zero_add]); first | done | omega | assumption | grind [getD_set, getD_rep, toNat_succ, cntN_yes, cntN_no])
    refine req_i ?_ ?_
    · -- r20
     first | omega | ((try simp only [sumRL, cCh, sumInv, meaC, List.cons.injEq, DV.b.injEq, and_true, Int.toNat_natCast, List.length_take, List.take_length, List.take_take, Nat.min_self, List.length_drop, List.drop_zero, List.length_cons, List.length_nil, Nat.add_eq, Nat.zero_add]); first | done | omega | assumption | grind [getD_set, getD_rep, toNat_succ, cntN_yes, cntN_no])
    rfl
   ·
    refine req_i ?_ ?_
    · -- r21
     first | omega | assumption | grind
    refine req_i ?_ ?_
    · -- r22
     first | omega | assumption | grind
    refine req_i ?_ ?_
    · -- r23
     obtain ⟨k1, k2, k3⟩ := hb.resolve_right (fun g => h10 (by rw [g.2.1]; decide)); exact sum_yes k1 rfl (by rw [← k3, h15.2.2, List.take_of_length_le (by omega)])
    rfl
theorem ext_sumR : ∀ p ∈ ([(27, Ext.ctr (ctOf sigCode))] : List (Nat × Ext)), ExtRow Try.prog p.1 p.2 := by
  intro p hp
  simp only [List.mem_cons, List.not_mem_nil, or_false] at hp
  rcases hp with rfl
  · trivial
theorem cts_sumR : CtsOk Try.prog [(27, Ext.ctr (ctOf sigCode))] := ctsOk_of (cs := [(27, sigCode)])
  (fun p hp => by
    simp only [List.mem_cons, List.not_mem_nil, or_false] at hp
    rcases hp with rfl
    · exact fn_codeR
)
  (fun f c h => by
    simp only [List.lookup_cons] at h
    repeat' split at h
    all_goals first | (cases h; done) | (rename_i e; have e := beq_iff_eq.1 e; subst e; cases h; refine ⟨_, ?_, rfl⟩; simp))
theorem fn_sumR : FnOk Try.prog 28 sigSum [] := fn_sound (by kernel_rfl) ext_sumR cts_sumR names vt_sumR
end Go.Proofs.Ytpmlodchbgfmeaa

namespace Go.Proofs.Ytpmlodchbgfmeaa
open Go.Ev Go.Sp
set_option maxRecDepth 100000
theorem vc_awake : vcFn Try.prog [] noA [] 300 20 sigTrue0 = (impB (sigTrue0.pre []) (
reqB (sigTrue0.post [] [DV.b Bool.true]) (
true))) := by kernel_rfl
set_option maxHeartbeats 8000000 in
theorem vt_awake : vcFn Try.prog [] noA [] 300 20 sigTrue0 = true := by
  rw [vc_awake]
  try simp only [Int.toNat_natCast, List.length_set, List.length_replicate, List.length_take, List.length_drop, List.length_append, List.length_cons, List.length_nil, Nat.min_self, List.take_take, lenCols_i, lenCols_b, List.drop_zero, List.take_length, Nat.add_eq, Nat.mul_eq, Nat.sub_eq, Nat.zero_add, Nat.sub_zero, Nat.mul_one]
  refine imp_i fun h0 => ?_
  try simp only [sigTrue0, List.cons.injEq, DV.b.injEq, and_true, List.length_cons, List.length_nil] at h0
  refine req_i ?_ ?_
  · -- r0
   first | omega | ((try simp only [sigTrue0, List.cons.injEq, DV.b.injEq, and_true, List.length_cons, List.length_nil]); first | done | omega | assumption | grind [getD_set, getD_rep, toNat_succ, cntN_yes, cntN_no])
  rfl
theorem ext_awake : ∀ p ∈ ([] : List (Nat × Ext)), ExtRow Try.prog p.1 p.2 := by
  intro p hp
  cases hp
theorem cts_awake : CtsOk Try.prog [] := fun f c h => by cases h
theorem fn_awake : FnOk Try.prog 20 sigTrue0 [] := fn_sound (by kernel_rfl) ext_awake cts_awake names vt_awake
end Go.Proofs.Ytpmlodchbgfmeaa

namespace Go.Proofs.Ytpmlodchbgfmeaa
open Go.Ev Go.Sp
set_option maxRecDepth 100000
theorem vc_GoldCodes : vcFn Try.prog [(11, Ext.ctr (ctOf sigLen)), (24, Ext.ctr (ctOf sigLen)), (17, Ext.ctr (ctOf sigTaps)), (25, Ext.ctr (ctOf sigTaps)), (14, Ext.ctr (ctOf sigEquG)), (13, Ext.ctr (ctOf sigBits)), (26, Ext.ctr (ctOf sigBits)), (15, Ext.ctr (ctOf sigCode)), (27, Ext.ctr (ctOf sigCode)), (16, Ext.ctr (ctOf sigSum)), (28, Ext.ctr (ctOf sigSum)), (20, Ext.ctr (ctOf sigTrue0))] noA [] 100 5 sigNG3 = (allB fun n0 : Int => 
impB ((-9223372036854775808 : Int) ≤ n0) (
impB (n0 ≤ (9223372036854775807 : Int)) (
allB fun n1 : Int => 
impB ((-9223372036854775808 : Int) ≤ n1) (
impB (n1 ≤ (9223372036854775807 : Int)) (
allB fun n2 : Int => 
impB ((-9223372036854775808 : Int) ≤ n2) (
impB (n2 ≤ (9223372036854775807 : Int)) (
impB ((sigNG (3 : Nat)).pre [DV.n n0, DV.n n1, DV.n n2]) (
reqB ((-9223372036854775808 : Int) ≤ n0) (
reqB (n0 ≤ (9223372036854775807 : Int)) (
reqB (sigLen.pre [DV.n n0]) (
allB fun n3 : Int => 
impB ((0 : Int) ≤ n3) (
impB (n3 ≤ (1023 : Int)) (
allB fun n4 : Int => 
impB ((0 : Int) ≤ n4) (
impB (n4 ≤ (18 : Int)) (
impB (sigLen.post [DV.n n0] [DV.n n3, DV.n n4]) (
reqB ((-9223372036854775808 : Int) ≤ n0) (
reqB (n0 ≤ (9223372036854775807 : Int)) (
reqB (sigLen.pre [DV.n n0]) (
allB fun n5 : Int => 
impB ((0 : Int) ≤ n5) (
impB (n5 ≤ (1023 : Int)) (
allB fun n6 : Int => 
impB ((0 : Int) ≤ n6) (
impB (n6 ≤ (18 : Int)) (
impB (sigLen.post [DV.n n0] [DV.n n5, DV.n n6]) (
reqB ((-9223372036854775808 : Int) ≤ n0) (
reqB (n0 ≤ (9223372036854775807 : Int)) (
reqB ((-9223372036854775808 : Int) ≤ n2) (
reqB (n2 ≤ (9223372036854775807 : Int)) (
reqB (sigTaps.pre [DV.n n0, DV.n n2]) (
allB fun l7 : List Int => 
impB (l7.length ≤ (4 : Nat)) (
impB (∀ (y : Int), y ∈ l7 → (0 : Int) ≤ y ∧ y ≤ (9 : Int)) (
allB fun n8 : Int => 
impB ((0 : Int) ≤ n8) (
impB (n8 ≤ (18 : Int)) (
impB (sigTaps.post [DV.n n0, DV.n n2] [DV.l l7, DV.n n8]) (
reqB ((-9223372036854775808 : Int) ≤ n0) (
reqB (n0 ≤ (9223372036854775807 : Int)) (
reqB ((-9223372036854775808 : Int) ≤ n2) (
reqB (n2 ≤ (9223372036854775807 : Int)) (
reqB (sigTaps.pre [DV.n n0, DV.n n2]) (
allB fun l9 : List Int => 
impB (l9.length ≤ (4 : Nat)) (
impB (∀ (y : Int), y ∈ l9 → (0 : Int) ≤ y ∧ y ≤ (9 : Int)) (
allB fun n10 : Int => 
impB ((0 : Int) ≤ n10) (
impB (n10 ≤ (18 : Int)) (
impB (sigTaps.post [DV.n n0, DV.n n2] [DV.l l9, DV.n n10]) (
bR (dec (n3 ≠ n5)) (
 reqB ((sigNG (3 : Nat)).post [DV.n n0, DV.n n1, DV.n n2] [DV.b Bool.false]) (
 true)) (
 bR (dec (n4 ≠ n6)) (
 reqB ((sigNG (3 : Nat)).post [DV.n n0, DV.n n1, DV.n n2] [DV.b Bool.false]) (
 true)) (
 reqB (((0 : Nat) + l7.length) * (1 : Nat) ≤ l7.length.mul (1 : Nat)) (
 reqB (l7.length ≤ (1100 : Nat)) (
 reqB ((List.take l7.length (List.drop (0 : Nat) l7)).length = l7.length) (
 reqB (∀ (y : Int),
 y ∈ List.take l7.length (List.drop (0 : Nat) l7) → (-9223372036854775808 : Int) ≤ y ∧ y ≤ (9223372036854775807 : Int)) (
 reqB (((0 : Nat) + l9.length) * (1 : Nat) ≤ l9.length.mul (1 : Nat)) (
 reqB (l9.length ≤ (1100 : Nat)) (
 reqB ((List.take l9.length (List.drop (0 : Nat) l9)).length = l9.length) (
 reqB (∀ (y : Int),
 y ∈ List.take l9.length (List.drop (0 : Nat) l9) → (-9223372036854775808 : Int) ≤ y ∧ y ≤ (9223372036854775807 : Int)) (
 reqB (sigEquG.pre
 [DV.l (List.take l7.length (List.drop (0 : Nat) l7)), DV.l (List.take l9.length (List.drop (0 : Nat) l9))]) (
 allB fun b11 : Bool => 
 impB (sigEquG.post
 [DV.l (List.take l7.length (List.drop (0 : Nat) l7)), DV.l (List.take l9.length (List.drop (0 : Nat) l9))]
 [DV.b b11]) (
 bR (bR (b11) (
 false) (
 true)) (
 reqB ((sigNG (3 : Nat)).post [DV.n n0, DV.n n1, DV.n n2] [DV.b Bool.false]) (
 true)) (
 bR (dec (n8 ≠ n10)) (
 reqB ((sigNG (3 : Nat)).post [DV.n n0, DV.n n1, DV.n n2] [DV.b Bool.false]) (
 true)) (
 reqB ((-9223372036854775808 : Int) ≤ n0) (
 reqB (n0 ≤ (9223372036854775807 : Int)) (
 reqB ((-9223372036854775808 : Int) ≤ n2) (
 reqB (n2 ≤ (9223372036854775807 : Int)) (
 reqB (sigBits.pre [DV.n n0, DV.n n2]) (
 allB fun l12 : List Int => 
 impB (l12.length ≤ (1100 : Nat)) (
 impB (∀ (y : Int), y ∈ l12 → (0 : Int) ≤ y ∧ y ≤ (1 : Int)) (
 allB fun n13 : Int => 
 impB ((0 : Int) ≤ n13) (
 impB (n13 ≤ (18 : Int)) (
 impB (sigBits.post [DV.n n0, DV.n n2] [DV.l l12, DV.n n13]) (
 reqB ((-9223372036854775808 : Int) ≤ n0) (
 reqB (n0 ≤ (9223372036854775807 : Int)) (
 reqB ((-9223372036854775808 : Int) ≤ n2) (
 reqB (n2 ≤ (9223372036854775807 : Int)) (
 reqB (sigBits.pre [DV.n n0, DV.n n2]) (
 allB fun l14 : List Int => 
 impB (l14.length ≤ (1100 : Nat)) (
 impB (∀ (y : Int), y ∈ l14 → (0 : Int) ≤ y ∧ y ≤ (1 : Int)) (
 allB fun n15 : Int => 
 impB ((0 : Int) ≤ n15) (
 impB (n15 ≤ (18 : Int)) (
 impB (sigBits.post [DV.n n0, DV.n n2] [DV.l l14, DV.n n15]) (
 reqB (((0 : Nat) + l12.length) * (1 : Nat) ≤ l12.length.mul (1 : Nat)) (
 reqB (l12.length ≤ (1100 : Nat)) (
 reqB ((List.take l12.length (List.drop (0 : Nat) l12)).length = l12.length) (
 reqB (∀ (y : Int),
 y ∈ List.take l12.length (List.drop (0 : Nat) l12) →
 (-9223372036854775808 : Int) ≤ y ∧ y ≤ (9223372036854775807 : Int)) (
 reqB (((0 : Nat) + l14.length) * (1 : Nat) ≤ l14.length.mul (1 : Nat)) (
 reqB (l14.length ≤ (1100 : Nat)) (
 reqB ((List.take l14.length (List.drop (0 : Nat) l14)).length = l14.length) (
 reqB (∀ (y : Int),
 y ∈ List.take l14.length (List.drop (0 : Nat) l14) →
 (-9223372036854775808 : Int) ≤ y ∧ y ≤ (9223372036854775807 : Int)) (
 reqB (sigEquG.pre
 [DV.l (List.take l12.length (List.drop (0 : Nat) l12)),
 DV.l (List.take l14.length (List.drop (0 : Nat) l14))]) (
 allB fun b16 : Bool => 
 impB (sigEquG.post
 [DV.l (List.take l12.length (List.drop (0 : Nat) l12)),
 DV.l (List.take l14.length (List.drop (0 : Nat) l14))]
 [DV.b b16]) (
 bR (bR (b16) (
 false) (
 true)) (
 reqB ((sigNG (3 : Nat)).post [DV.n n0, DV.n n1, DV.n n2] [DV.b Bool.false]) (
 true)) (
 bR (dec (n13 ≠ n15)) (
 reqB ((sigNG (3 : Nat)).post [DV.n n0, DV.n n1, DV.n n2] [DV.b Bool.false]) (
 true)) (
 reqB ((-9223372036854775808 : Int) ≤ n0) (
 reqB (n0 ≤ (9223372036854775807 : Int)) (
 reqB ((-9223372036854775808 : Int) ≤ n1) (
 reqB (n1 ≤ (9223372036854775807 : Int)) (
 reqB (sigCode.pre [DV.n n0, DV.n n1]) (
 allB fun l17 : List Int => 
 impB (l17.length ≤ (1100 : Nat)) (
 impB (∀ (y : Int), y ∈ l17 → (-1 : Int) ≤ y ∧ y ≤ (1 : Int)) (
 allB fun n18 : Int => 
 impB ((0 : Int) ≤ n18) (
 impB (n18 ≤ (18 : Int)) (
 impB (sigCode.post [DV.n n0, DV.n n1] [DV.l l17, DV.n n18]) (
 reqB ((-9223372036854775808 : Int) ≤ n0) (
 reqB (n0 ≤ (9223372036854775807 : Int)) (
 reqB ((-9223372036854775808 : Int) ≤ n1) (
 reqB (n1 ≤ (9223372036854775807 : Int)) (
 reqB (sigCode.pre [DV.n n0, DV.n n1]) (
 allB fun l19 : List Int => 
 impB (l19.length ≤ (1100 : Nat)) (
 impB (∀ (y : Int), y ∈ l19 → (-1 : Int) ≤ y ∧ y ≤ (1 : Int)) (
 allB fun n20 : Int => 
 impB ((0 : Int) ≤ n20) (
 impB (n20 ≤ (18 : Int)) (
 impB (sigCode.post [DV.n n0, DV.n n1] [DV.l l19, DV.n n20]) (
 reqB ((-9223372036854775808 : Int) ≤ n0) (
 reqB (n0 ≤ (9223372036854775807 : Int)) (
 reqB ((-9223372036854775808 : Int) ≤ n1) (
 reqB (n1 ≤ (9223372036854775807 : Int)) (
 reqB (sigSum.pre [DV.n n0, DV.n n1]) (
 allB fun n21 : Int => 
 impB ((-1100 : Int) ≤ n21) (
 impB (n21 ≤ (1100 : Int)) (
 allB fun n22 : Int => 
 impB ((0 : Int) ≤ n22) (
 impB (n22 ≤ (18 : Int)) (
 impB (sigSum.post [DV.n n0, DV.n n1] [DV.n n21, DV.n n22]) (
 reqB ((-9223372036854775808 : Int) ≤ n0) (
 reqB (n0 ≤ (9223372036854775807 : Int)) (
 reqB ((-9223372036854775808 : Int) ≤ n1) (
 reqB (n1 ≤ (9223372036854775807 : Int)) (
 reqB (sigSum.pre [DV.n n0, DV.n n1]) (
 allB fun n23 : Int => 
 impB ((-1100 : Int) ≤ n23) (
 impB (n23 ≤ (1100 : Int)) (
 allB fun n24 : Int => 
 impB ((0 : Int) ≤ n24) (
 impB (n24 ≤ (18 : Int)) (
 impB (sigSum.post [DV.n n0, DV.n n1] [DV.n n23, DV.n n24]) (
 reqB (((0 : Nat) + l17.length) * (1 : Nat) ≤ l17.length.mul (1 : Nat)) (
 reqB (l17.length ≤ (1100 : Nat)) (
 reqB ((List.take l17.length (List.drop (0 : Nat) l17)).length = l17.length) (
 reqB (∀ (y : Int),
 y ∈ List.take l17.length (List.drop (0 : Nat) l17) →
 (-9223372036854775808 : Int) ≤ y ∧ y ≤ (9223372036854775807 : Int)) (
 reqB (((0 : Nat) + l19.length) * (1 : Nat) ≤ l19.length.mul (1 : Nat)) (
 reqB (l19.length ≤ (1100 : Nat)) (
 reqB ((List.take l19.length (List.drop (0 : Nat) l19)).length = l19.length) (
 reqB (∀ (y : Int),
 y ∈ List.take l19.length (List.drop (0 : Nat) l19) →
 (-9223372036854775808 : Int) ≤ y ∧ y ≤ (9223372036854775807 : Int)) (
 reqB (sigEquG.pre
 [DV.l (List.take l17.length (List.drop (0 : Nat) l17)),
 DV.l (List.take l19.length (List.drop (0 : Nat) l19))]) (
 allB fun b25 : Bool => 
 impB (sigEquG.post
 [DV.l (List.take l17.length (List.drop (0 : Nat) l17)),
 DV.l (List.take l19.length (List.drop (0 : Nat) l19))]
 [DV.b b25]) (
 bR (b25) (
 bR (dec (n18 = n20)) (
 bR (dec (n21 = n23)) (
 bR (dec (n22 = n24)) (
 reqB (sigTrue0.pre []) (
 allB fun b26 : Bool => 
 impB (sigTrue0.post [] [DV.b b26]) (
 reqB ((sigNG (3 : Nat)).post [DV.n n0, DV.n n1, DV.n n2] [DV.b b26]) (
 true)))) (
 reqB ((sigNG (3 : Nat)).post [DV.n n0, DV.n n1, DV.n n2] [DV.b Bool.false]) (
 true))) (
 reqB ((sigNG (3 : Nat)).post [DV.n n0, DV.n n1, DV.n n2] [DV.b Bool.false]) (
 true))) (
 reqB ((sigNG (3 : Nat)).post [DV.n n0, DV.n n1, DV.n n2] [DV.b Bool.false]) (
 true))) (
 reqB ((sigNG (3 : Nat)).post [DV.n n0, DV.n n1, DV.n n2] [DV.b Bool.false]) (
 true)))))))))))))))))))))))))))))))))))))))))))))))))))))))))))))))))))))))))))))))))))))))))))))))))))))))))))))))))))))))))))))))))))))))))))))) := by kernel_rfl
set_option maxHeartbeats 8000000 in
theorem vt_GoldCodes : vcFn Try.prog [(11, Ext.ctr (ctOf sigLen)), (24, Ext.ctr (ctOf sigLen)), (17, Ext.ctr (ctOf sigTaps)), (25, Ext.ctr (ctOf sigTaps)), (14, Ext.ctr (ctOf sigEquG)), (13, Ext.ctr (ctOf sigBits)), (26, Ext.ctr (ctOf sigBits)), (15, Ext.ctr (ctOf sigCode)), (27, Ext.ctr (ctOf sigCode)), (16, Ext.ctr (ctOf sigSum)), (28, Ext.ctr (ctOf sigSum)), (20, Ext.ctr (ctOf sigTrue0))] noA [] 100 5 sigNG3 = true := by
  rw [vc_GoldCodes]
  try simp only [Int.toNat_natCast, List.length_set, List.length_replicate, List.length_take, List.length_drop, List.length_append, List.length_cons, List.length_nil, Nat.min_self, List.take_take, lenCols_i, lenCols_b, List.drop_zero, List.take_length, Nat.add_eq, Nat.mul_eq, Nat.sub_eq, Nat.zero_add, Nat.sub_zero, Nat.mul_one]
  refine all_i fun n0 => ?_
  refine imp_i fun h0 => ?_
  refine imp_i fun h1 => ?_
  refine all_i fun n1 => ?_
  refine imp_i fun h2 => ?_
  refine imp_i fun h3 => ?_
  refine all_i fun n2 => ?_
  refine imp_i fun h4 => ?_
  refine imp_i fun h5 => ?_
  refine imp_i fun h6 => ?_
  try simp only [sigNG, List.cons.injEq, DV.b.injEq, and_true, List.length_cons, List.length_nil] at h6
  refine req_i ?_ ?_
  · -- r0
   first | omega | assumption | grind
  refine req_i ?_ ?_
  · -- r1
   first | omega | assumption | grind
  refine req_i ?_ ?_
  · -- r2
   first | trivial | assumption | (simp only [sigLen, sigLenR, iR, lenPost, List.cons.injEq, DV.b.injEq, and_true, List.length_cons, List.length_nil]; done) | ((try simp only [sigLen, sigLenR, iR, lenPost, List.cons.injEq, DV.b.injEq, and_true, List.length_cons, List.length_nil]); first | omega | assumption | grind)
  refine all_i fun n3 => ?_
  refine imp_i fun h7 => ?_
  refine imp_i fun h8 => ?_
  refine all_i fun n4 => ?_
  refine imp_i fun h9 => ?_
  refine imp_i fun h10 => ?_
  refine imp_i fun h11 => ?_
  try simp only [Int.toNat_natCast, List.length_set, List.length_replicate, List.length_take, List.length_drop, List.length_append, List.length_cons, List.length_nil, Nat.min_self, List.take_take, lenCols_i, lenCols_b, List.drop_zero, List.take_length, Nat.add_eq, Nat.mul_eq, Nat.sub_eq, Nat.zero_add, Nat.sub_zero, Nat.mul_one] at h11
  refine req_i ?_ ?_
  · -- r3
   first | omega | assumption | grind
  refine req_i ?_ ?_
  · -- r4
   first | omega | assumption | grind
  refine req_i ?_ ?_
  · -- r5
   first | trivial | assumption | (simp only [sigLen, sigLenR, iR, lenPost, List.cons.injEq, DV.b.injEq, and_true, List.length_cons, List.length_nil]; done) | ((try simp only [sigLen, sigLenR, iR, lenPost, List.cons.injEq, DV.b.injEq, and_true, List.length_cons, List.length_nil]); first | omega | assumption | grind)
  refine all_i fun n5 => ?_
  refine imp_i fun h12 => ?_
  refine imp_i fun h13 => ?_
  refine all_i fun n6 => ?_
  refine imp_i fun h14 => ?_
  refine imp_i fun h15 => ?_
  refine imp_i fun h16 => ?_
  try simp only [Int.toNat_natCast, List.length_set, List.length_replicate, List.length_take, List.length_drop, List.length_append, List.length_cons, List.length_nil, Nat.min_self, List.take_take, lenCols_i, lenCols_b, List.drop_zero, List.take_length, Nat.add_eq, Nat.mul_eq, Nat.sub_eq, Nat.zero_add, Nat.sub_zero, Nat.mul_one] at h16
  obtain ⟨q1, q2⟩ := len_fun h11 h16
  refine req_i ?_ ?_
  · -- r6
   first | omega | assumption | grind
  refine req_i ?_ ?_
  · -- r7
   first | omega | assumption | grind
  refine req_i ?_ ?_
  · -- r8
   first | omega | assumption | grind
  refine req_i ?_ ?_
  · -- r9
   first | omega | assumption | grind
  refine req_i ?_ ?_
  · -- r10
   first | trivial | assumption | (simp only [sigTaps, sigTapsR, iR, cTp, tapsPost, List.cons.injEq, DV.b.injEq, and_true, List.length_cons, List.length_nil]; done) | ((try simp only [sigTaps, sigTapsR, iR, cTp, tapsPost, List.cons.injEq, DV.b.injEq, and_true, List.length_cons, List.length_nil]); first | omega | assumption | grind)
  refine all_i fun l7 => ?_
  refine imp_i fun h17 => ?_
  refine imp_i fun h18 => ?_
  refine all_i fun n8 => ?_
  refine imp_i fun h19 => ?_
  refine imp_i fun h20 => ?_
  refine imp_i fun h21 => ?_
  try simp only [Int.toNat_natCast, List.length_set, List.length_replicate, List.length_take, List.length_drop, List.length_append, List.length_cons, List.length_nil, Nat.min_self, List.take_take, lenCols_i, lenCols_b, List.drop_zero, List.take_length, Nat.add_eq, Nat.mul_eq, Nat.sub_eq, Nat.zero_add, Nat.sub_zero, Nat.mul_one] at h21
  refine req_i ?_ ?_
  · -- r11
   first | omega | assumption | grind
  refine req_i ?_ ?_
  · -- r12
   first | omega | assumption | grind
  refine req_i ?_ ?_
  · -- r13
   first | omega | assumption | grind
  refine req_i ?_ ?_
  · -- r14
   first | omega | assumption | grind
  refine req_i ?_ ?_
  · -- r15
   first | trivial | assumption | (simp only [sigTaps, sigTapsR, iR, cTp, tapsPost, List.cons.injEq, DV.b.injEq, and_true, List.length_cons, List.length_nil]; done) | ((try simp only [sigTaps, sigTapsR, iR, cTp, tapsPost, List.cons.injEq, DV.b.injEq, and_true, List.length_cons, List.length_nil]); first | omega | assumption | grind)
  refine all_i fun l9 => ?_
  refine imp_i fun h22 => ?_
  refine imp_i fun h23 => ?_
  refine all_i fun n10 => ?_
  refine imp_i fun h24 => ?_
  refine imp_i fun h25 => ?_
  refine imp_i fun h26 => ?_
  try simp only [Int.toNat_natCast, List.length_set, List.length_replicate, List.length_take, List.length_drop, List.length_append, List.length_cons, List.length_nil, Nat.min_self, List.take_take, lenCols_i, lenCols_b, List.drop_zero, List.take_length, Nat.add_eq, Nat.mul_eq, Nat.sub_eq, Nat.zero_add, Nat.sub_zero, Nat.mul_one] at h26
  obtain ⟨q3, q4⟩ := taps_fun h21 h26
  refine bR_dec (fun h27 => ?_) (fun h27 => ?_)
  ·
   refine req_i ?_ ?_
   · -- r16
    first | omega | ((try simp only [sigNG, List.cons.injEq, DV.b.injEq, and_true, List.length_cons, List.length_nil]); first | done | omega | assumption | grind [getD_set, getD_rep, toNat_succ, cntN_yes, cntN_no])
   rfl
  ·
   refine bR_dec (fun h28 => ?_) (fun h28 => ?_)
   ·
    refine req_i ?_ ?_
    · -- r17
     first | omega | ((try simp only [sigNG, List.cons.injEq, DV.b.injEq, and_true, List.length_cons, List.length_nil]); first | done | omega | assumption | grind [getD_set, getD_rep, toNat_succ, cntN_yes, cntN_no])
    rfl
   ·
    refine req_i ?_ ?_
    · -- r18
     first | omega | ((try simp only [Nat.mul_eq]); first | done | omega | assumption | grind [getD_set, getD_rep, toNat_succ, cntN_yes, cntN_no])
    refine req_i ?_ ?_
    · -- r19
     first | omega | ((try simp only [Nat.zero_add]); first | done | omega | assumption | grind [getD_set, getD_rep, toNat_succ, cntN_yes, cntN_no])
    refine req_i ?_ ?_
    · -- r20
     first | omega | ((try simp only [List.length_take, List.take_length, List.take_take, Nat.min_self, List.length_drop, List.drop_zero, List.length_cons, List.length_nil]); first | done | omega | assumption | grind [getD_set, getD_rep, toNat_succ, cntN_yes, cntN_no])
    refine req_i ?_ ?_
    · -- r21
     first | assumption | exact rep_bd (by omega) (by omega) | exact set_bd (by assumption) (by omega) (by omega) | exact take_bd (by assumption) | ((try simp only [List.length_take, List.take_length, List.take_take, Nat.min_self, List.length_drop, List.drop_zero, List.length_cons, List.length_nil]); first | assumption | exact rep_bd (by omega) (by omega) | exact set_bd (by assumption) (by omega) (by omega) | exact take_bd (by assumption) | grind [getD_set, getD_rep, toNat_succ, cntN_yes, cntN_no])
    refine req_i ?_ ?_
    · -- r22
     first | omega | ((try simp only [Nat.mul_eq]); first | done | omega | assumption | grind [getD_set, getD_rep, toNat_succ, cntN_yes, cntN_no])
    refine req_i ?_ ?_
    · -- r23
     first | omega | ((try simp only [Nat.zero_add]); first | done | omega | assumption | grind [getD_set, getD_rep, toNat_succ, cntN_yes, cntN_no])
    refine req_i ?_ ?_
    · -- r24
     first | omega | ((try simp only [List.length_take, List.take_length, List.take_take, Nat.min_self, List.length_drop, List.drop_zero, List.length_cons, List.length_nil]); first | done | omega | assumption | grind [getD_set, getD_rep, toNat_succ, cntN_yes, cntN_no])
    refine req_i ?_ ?_
    · -- r25
     first | assumption | exact rep_bd (by omega) (by omega) | exact set_bd (by assumption) (by omega) (by omega) | exact take_bd (by assumption) | ((try simp only [List.length_take, List.take_length, List.take_take, Nat.min_self, List.length_drop, List.drop_zero, List.length_cons, List.length_nil]); first | assumption | exact rep_bd (by omega) (by omega) | exact set_bd (by assumption) (by omega) (by omega) | exact take_bd (by assumption) | grind [getD_set, getD_rep, toNat_succ, cntN_yes, cntN_no])
    refine req_i ?_ ?_
    · -- r26
     first | omega | ((try simp only [sigEquG, cW, equGP, List.cons.injEq, DV.b.injEq, and_true, List.length_take, List.take_length, List.take_take, Nat.min_self, List.length_drop, List.drop_zero, List.length_cons, List.length_nil]); first | done | omega | assumption | grind [getD_set, getD_rep, toNat_succ, cntN_yes, cntN_no])
    refine all_i fun b11 => ?_
    refine imp_i fun h29 => ?_
    try simp only [sigEquG, cW, equGP, List.cons.injEq, DV.b.injEq, and_true, List.length_take, List.take_length, List.take_take, Nat.min_self, List.length_drop, List.drop_zero, List.length_cons, List.length_nil] at h29
    refine bR_i (fun h30 => ?_) (fun h30 => ?_)
    ·
     simp only [bR_iff, bR_iff_f, dec_iff, dec_f, Bool.false_eq_true, Bool.true_eq_false, false_implies, imp_false, and_true, true_and, implies_true, Classical.not_not] at h30
     refine req_i ?_ ?_
     · -- r27
      have := h29.2 q3; simp [this, bR] at h30
     rfl
    ·
     simp only [bR_iff, bR_iff_f, dec_iff, dec_f, Bool.false_eq_true, Bool.true_eq_false, false_implies, imp_false, and_true, true_and, implies_true, Classical.not_not] at h30
     refine bR_dec (fun h31 => ?_) (fun h31 => ?_)
     ·
      refine req_i ?_ ?_
      · -- r28
       first | omega | ((try simp only [sigNG, List.cons.injEq, DV.b.injEq, and_true, List.length_cons, List.length_nil]); first | done | omega | assumption | grind [getD_set, getD_rep, toNat_succ, cntN_yes, cntN_no])
      rfl
     ·
      refine req_i ?_ ?_
      · -- r29
       first | omega | assumption | grind
      refine req_i ?_ ?_
      · -- r30
       first | omega | assumption | grind
      refine req_i ?_ ?_
      · -- r31
       first | omega | assumption | grind
      refine req_i ?_ ?_
      · -- r32
       first | omega | assumption | grind
      refine req_i ?_ ?_
      · -- r33
       first | trivial | assumption | (simp only [sigBits, sigBitsR, iR, cB, bitsPost, List.cons.injEq, DV.b.injEq, and_true, List.length_cons, List.length_nil]; done) | ((try simp only [sigBits, sigBitsR, iR, cB, bitsPost, List.cons.injEq, DV.b.injEq, and_true, List.length_cons, List.length_nil]); first | omega | assumption | grind)
      refine all_i fun l12 => ?_
      refine imp_i fun h32 => ?_
      refine imp_i fun h33 => ?_
      refine all_i fun n13 => ?_
      refine imp_i fun h34 => ?_
      refine imp_i fun h35 => ?_
      refine imp_i fun h36 => ?_
      try simp only [Int.toNat_natCast, List.length_set, List.length_replicate, List.length_take, List.length_drop, List.length_append, List.length_cons, List.length_nil, Nat.min_self, List.take_take, lenCols_i, lenCols_b, List.drop_zero, List.take_length, Nat.add_eq, Nat.mul_eq, Nat.sub_eq, Nat.zero_add, Nat.sub_zero, Nat.mul_one] at h36
      refine req_i ?_ ?_
      · -- r34
       first | omega | assumption | grind
      refine req_i ?_ ?_
      · -- r35
       first | omega | assumption | grind
      refine req_i ?_ ?_
      · -- r36
       first | omega | assumption | grind
      refine req_i ?_ ?_
      · -- r37
       first | omega | assumption | grind
      refine req_i ?_ ?_
      · -- r38
       first | trivial | assumption | (simp only [sigBits, sigBitsR, iR, cB, bitsPost, List.cons.injEq, DV.b.injEq, and_true, List.length_cons, List.length_nil]; done) | ((try simp only [sigBits, sigBitsR, iR, cB, bitsPost, List.cons.injEq, DV.b.injEq, and_true, List.length_cons, List.length_nil]); first | omega | assumption | grind)
      refine all_i fun l14 => ?_
      refine imp_i fun h37 => ?_
      refine imp_i fun h38 => ?_
      refine all_i fun n15 => ?_
      refine imp_i fun h39 => ?_
      refine imp_i fun h40 => ?_
      refine imp_i fun h41 => ?_
      try simp only [Int.toNat_natCast, List.length_set, List.length_replicate, List.length_take, List.length_drop, List.length_append, List.length_cons, List.length_nil, Nat.min_self, List.take_take, lenCols_i, lenCols_b, List.drop_zero, List.take_length, Nat.add_eq, Nat.mul_eq, Nat.sub_eq, Nat.zero_add, Nat.sub_zero, Nat.mul_one] at h41
      obtain ⟨q5, q6⟩ := bits_fun h36 h41
      refine req_i ?_ ?_
      · -- r39
       first | omega | ((try simp only [Nat.mul_eq]); first | done | omega | assumption | grind [getD_set, getD_rep, toNat_succ, cntN_yes, cntN_no])
      refine req_i ?_ ?_
      · -- r40
       first | omega | ((try simp only [Nat.zero_add]); first | done | omega | assumption | grind [getD_set, getD_rep, toNat_succ, cntN_yes, cntN_no])
      refine req_i ?_ ?_
      · -- r41
       first | omega | ((try simp only [List.length_take, List.take_length, List.take_take, Nat.min_self, List.length_drop, List.drop_zero, List.length_cons, List.length_nil]); first | done | omega | assumption | grind [getD_set, getD_rep, toNat_succ, cntN_yes, cntN_no])
      refine req_i ?_ ?_
      · -- r42
       first | assumption | exact rep_bd (by omega) (by omega) | exact set_bd (by assumption) (by omega) (by omega) | exact take_bd (by assumption) | ((try simp only [List.length_take, List.take_length, List.take_take, Nat.min_self, List.length_drop, List.drop_zero, List.length_cons, List.length_nil]); first | assumption | exact rep_bd (by omega) (by omega) | exact set_bd (by assumption) (by omega) (by omega) | exact take_bd (by assumption) | grind [getD_set, getD_rep, toNat_succ, cntN_yes, cntN_no])
      refine req_i ?_ ?_
      · -- r43
       first | omega | ((try simp only [Nat.mul_eq]); first | done | omega | assumption | grind [getD_set, getD_rep, toNat_succ, cntN_yes, cntN_no])
      refine req_i ?_ ?_
      · -- r44
       first | omega | ((try simp only [Nat.zero_add]); first | done | omega | assumption | grind [getD_set, getD_rep, toNat_succ, cntN_yes, cntN_no])
      refine req_i ?_ ?_
      · -- r45
       first | omega | ((try simp only [List.length_take, List.take_length, List.take_take, Nat.min_self, List.length_drop, List.drop_zero, List.length_cons, List.length_nil]); first | done | omega | assumption | grind [getD_set, getD_rep, toNat_succ, cntN_yes, cntN_no])
      refine req_i ?_ ?_
      · -- r46
       first | assumption | exact rep_bd (by omega) (by omega) | exact set_bd (by assumption) (by omega) (by omega) | exact take_bd (by assumption) | ((try simp only [List.length_take, List.take_length, List.take_take, Nat.min_self, List.length_drop, List.drop_zero, List.length_cons, List.length_nil]); first | assumption | exact rep_bd (by omega) (by omega) | exact set_bd (by assumption) (by omega) (by omega) | exact take_bd (by assumption) | grind [getD_set, getD_rep, toNat_succ, cntN_yes, cntN_no])
      refine req_i ?_ ?_
      · -- r47
       first | omega | ((try simp only [sigEquG, cW, equGP, List.cons.injEq, DV.b.injEq, and_true, List.length_take, List.take_length, List.take_take, Nat.min_self, List.length_drop, List.drop_zero, List.length_cons, List.length_nil]); first | done | omega | assumption | grind [getD_set, getD_rep, toNat_succ, cntN_yes, cntN_no])
      refine all_i fun b16 => ?_
      refine imp_i fun h42 => ?_
      try simp only [sigEquG, cW, equGP, List.cons.injEq, DV.b.injEq, and_true, List.length_take, List.take_length, List.take_take, Nat.min_self, List.length_drop, List.drop_zero, List.length_cons, List.length_nil] at h42
      refine bR_i (fun h43 => ?_) (fun h43 => ?_)
      ·
       simp only [bR_iff, bR_iff_f, dec_iff, dec_f, Bool.false_eq_true, Bool.true_eq_false, false_implies, imp_false, and_true, true_and, implies_true, Classical.not_not] at h43
       refine req_i ?_ ?_
       · -- r48
        have := h42.2 q5; simp [this, bR] at h43
       rfl
      ·
       simp only [bR_iff, bR_iff_f, dec_iff, dec_f, Bool.false_eq_true, Bool.true_eq_false, false_implies, imp_false, and_true, true_and, implies_true, Classical.not_not] at h43
       refine bR_dec (fun h44 => ?_) (fun h44 => ?_)
       ·
        refine req_i ?_ ?_
        · -- r49
         first | omega | ((try simp only [sigNG, List.cons.injEq, DV.b.injEq, and_true, List.length_cons, List.length_nil]); first | done | omega | assumption | grind [getD_set, getD_rep, toNat_succ, cntN_yes, cntN_no])
        rfl
       ·
        refine req_i ?_ ?_
        · -- r50
         first | omega | assumption | grind
        refine req_i ?_ ?_
        · -- r51
         first | omega | assumption | grind
        refine req_i ?_ ?_
        · -- r52
         first | omega | assumption | grind
        refine req_i ?_ ?_
        · -- r53
         first | omega | assumption | grind
        refine req_i ?_ ?_
        · -- r54
         first | trivial | assumption | (simp only [sigCode, cCh, codePost, List.cons.injEq, DV.b.injEq, and_true, List.length_cons, List.length_nil]; done) | ((try simp only [sigCode, cCh, codePost, List.cons.injEq, DV.b.injEq, and_true, List.length_cons, List.length_nil]); first | omega | assumption | grind)
        refine all_i fun l17 => ?_
        refine imp_i fun h45 => ?_
        refine imp_i fun h46 => ?_
        refine all_i fun n18 => ?_
        refine imp_i fun h47 => ?_
        refine imp_i fun h48 => ?_
        refine imp_i fun h49 => ?_
        try simp only [Int.toNat_natCast, List.length_set, List.length_replicate, List.length_take, List.length_drop, List.length_append, List.length_cons, List.length_nil, Nat.min_self, List.take_take, lenCols_i, lenCols_b, List.drop_zero, List.take_length, Nat.add_eq, Nat.mul_eq, Nat.sub_eq, Nat.zero_add, Nat.sub_zero, Nat.mul_one] at h49
        refine req_i ?_ ?_
        · -- r55
         first | omega | assumption | grind
        refine req_i ?_ ?_
        · -- r56
         first | omega | assumption | grind
        refine req_i ?_ ?_
        · -- r57
         first | omega | assumption | grind
        refine req_i ?_ ?_
        · -- r58
         first | omega | assumption | grind
        refine req_i ?_ ?_
        · -- r59
         first | trivial | assumption | (simp only [sigCode, cCh, codePost, List.cons.injEq, DV.b.injEq, and_true, List.length_cons, List.length_nil]; done) | ((try simp only [sigCode, cCh, codePost, List.cons.injEq, DV.b.injEq, and_true, List.length_cons, List.length_nil]); first | omega | assumption | grind)
        refine all_i fun l19 => ?_
        refine imp_i fun h50 => ?_
        refine imp_i fun h51 => ?_
        refine all_i fun n20 => ?_
        refine imp_i fun h52 => ?_
        refine imp_i fun h53 => ?_
        refine imp_i fun h54 => ?_
        try simp only [Int.toNat_natCast, List.length_set, List.length_replicate, List.length_take, List.length_drop, List.length_append, List.length_cons, List.length_nil, Nat.min_self, List.take_take, lenCols_i, lenCols_b, List.drop_zero, List.take_length, Nat.add_eq, Nat.mul_eq, Nat.sub_eq, Nat.zero_add, Nat.sub_zero, Nat.mul_one] at h54
        obtain ⟨q7, q8⟩ := code_fun h49 h54
        refine req_i ?_ ?_
        · -- r60
         first | omega | assumption | grind
        refine req_i ?_ ?_
        · -- r61
         first | omega | assumption | grind
        refine req_i ?_ ?_
        · -- r62
         first | omega | assumption | grind
        refine req_i ?_ ?_
        · -- r63
         first | omega | assumption | grind
        refine req_i ?_ ?_
        · -- r64
         first | trivial | assumption | (simp only [sigSum, sumPost, List.cons.injEq, DV.b.injEq, and_true, List.length_cons, List.length_nil]; done) | ((try simp only [sigSum, sumPost, List.cons.injEq, DV.b.injEq, and_true, List.length_cons, List.length_nil]); first | omega | assumption | grind)
        refine all_i fun n21 => ?_
        refine imp_i fun h55 => ?_
        refine imp_i fun h56 => ?_
        refine all_i fun n22 => ?_
        refine imp_i fun h57 => ?_
        refine imp_i fun h58 => ?_
        refine imp_i fun h59 => ?_
        try simp only [Int.toNat_natCast, List.length_set, List.length_replicate, List.length_take, List.length_drop, List.length_append, List.length_cons, List.length_nil, Nat.min_self, List.take_take, lenCols_i, lenCols_b, List.drop_zero, List.take_length, Nat.add_eq, Nat.mul_eq, Nat.sub_eq, Nat.zero_add, Nat.sub_zero, Nat.mul_one] at h59
        refine req_i ?_ ?_
        · -- r65
         first | omega | assumption | grind
        refine req_i ?_ ?_
        · -- r66
         first | omega | assumption | grind
        refine req_i ?_ ?_
        · -- r67
         first | omega | assumption | grind
        refine req_i ?_ ?_
        · -- r68
         first | omega | assumption | grind
        refine req_i ?_ ?_
        · -- r69
         first | trivial | assumption | (simp only [sigSum, sumPost, List.cons.injEq, DV.b.injEq, and_true, List.length_cons, List.length_nil]; done) | ((try simp only [sigSum, sumPost, List.cons.injEq, DV.b.injEq, and_true, List.length_cons, List.length_nil]); first | omega | assumption | grind)
        refine all_i fun n23 => ?_
        refine imp_i fun h60 => ?_
        refine imp_i fun h61 => ?_
        refine all_i fun n24 => ?_
        refine imp_i fun h62 => ?_
        refine imp_i fun h63 => ?_
        refine imp_i fun h64 => ?_
        try simp only [Int.toNat_natCast, List.length_set, List.length_replicate, List.length_take, List.length_drop, List.length_append, List.length_cons, List.length_nil, Nat.min_self, List.take_take, lenCols_i, lenCols_b, List.drop_zero, List.take_length, Nat.add_eq, Nat.mul_eq, Nat.sub_eq, Nat.zero_add, Nat.sub_zero, Nat.mul_one] at h64
        obtain ⟨q9, q10⟩ := sum_fun h59 h64
        refine req_i ?_ ?_
        · -- r70
         first | omega | ((try simp only [Nat.mul_eq]); first | done | omega | assumption | grind [getD_set, getD_rep, toNat_succ, cntN_yes, cntN_no])
        refine req_i ?_ ?_
        · -- r71
         first | omega | ((try simp only [Nat.zero_add]); first | done | omega | assumption | grind [getD_set, getD_rep, toNat_succ, cntN_yes, cntN_no])
        refine req_i ?_ ?_
        · -- r72
         first | omega | ((try simp only [List.length_take, List.take_length, List.take_take, Nat.min_self, List.length_drop, List.drop_zero, List.length_cons, List.length_nil]); first | done | omega | assumption | grind [getD_set, getD_rep, toNat_succ, cntN_yes, cntN_no])
        refine req_i ?_ ?_
        · -- r73
         first | assumption | exact rep_bd (by omega) (by omega) | exact set_bd (by assumption) (by omega) (by omega) | exact take_bd (by assumption) | ((try simp only [List.length_take, List.take_length, List.take_take, Nat.min_self, List.length_drop, List.drop_zero, List.length_cons, List.length_nil]); first | assumption | exact rep_bd (by omega) (by omega) | exact set_bd (by assumption) (by omega) (by omega) | exact take_bd (by assumption) | grind [getD_set, getD_rep, toNat_succ, cntN_yes, cntN_no])
        refine req_i ?_ ?_
        · -- r74
         first | omega | ((try simp only [Nat.mul_eq]); first | done | omega | assumption | grind [getD_set, getD_rep, toNat_succ, cntN_yes, cntN_no])
        refine req_i ?_ ?_
        · -- r75
         first | omega | ((try simp only [Nat.zero_add]); first | done | omega | assumption | grind [getD_set, getD_rep, toNat_succ, cntN_yes, cntN_no])
        refine req_i ?_ ?_
        · -- r76
         first | omega | ((try simp only [List.length_take, List.take_length, List.take_take, Nat.min_self, List.length_drop, List.drop_zero, List.length_cons, List.length_nil]); first | done | omega | assumption | grind [getD_set, getD_rep, toNat_succ, cntN_yes, cntN_no])
        refine req_i ?_ ?_
        · -- r77
         first | assumption | exact rep_bd (by omega) (by omega) | exact set_bd (by assumption) (by omega) (by omega) | exact take_bd (by assumption) | ((try simp only [List.length_take, List.take_length, List.take_take, Nat.min_self, List.length_drop, List.drop_zero, List.length_cons, List.length_nil]); first | assumption | exact rep_bd (by omega) (by omega) | exact set_bd (by assumption) (by omega) (by omega) | exact take_bd (by assumption) | grind [getD_set, getD_rep, toNat_succ, cntN_yes, cntN_no])
        refine req_i ?_ ?_
        · -- r78
         first | omega | ((try simp only [sigEquG, cW, equGP, List.cons.injEq, DV.b.injEq, and_true, List.length_take, List.take_length, List.take_take, Nat.min_self, List.length_drop, List.drop_zero, List.length_cons, List.length_nil]); first | done | omega | assumption | grind [getD_set, getD_rep, toNat_succ, cntN_yes, cntN_no])
        refine all_i fun b25 => ?_
        refine imp_i fun h65 => ?_
        try simp only [sigEquG, cW, equGP, List.cons.injEq, DV.b.injEq, and_true, List.length_take, List.take_length, List.take_take, Nat.min_self, List.length_drop, List.drop_zero, List.length_cons, List.length_nil] at h65
        refine bR_i (fun h66 => ?_) (fun h66 => ?_)
        ·
         refine bR_dec (fun h67 => ?_) (fun h67 => ?_)
         ·
          refine bR_dec (fun h68 => ?_) (fun h68 => ?_)
          ·
           refine bR_dec (fun h69 => ?_) (fun h69 => ?_)
           ·
            refine req_i ?_ ?_
            · -- r79
             first | omega | assumption | grind
            refine all_i fun b26 => ?_
            refine imp_i fun h70 => ?_
            try simp only [sigTrue0, List.cons.injEq, DV.b.injEq, and_true, List.length_cons, List.length_nil] at h70
            refine req_i ?_ ?_
            · -- r80
             first | omega | ((try simp only [sigNG, List.cons.injEq, DV.b.injEq, and_true, List.length_cons, List.length_nil]); first | done | omega | assumption | grind [getD_set, getD_rep, toNat_succ, cntN_yes, cntN_no])
            rfl
           ·
            refine req_i ?_ ?_
            · -- r81
             first | omega | ((try simp only [sigNG, List.cons.injEq, DV.b.injEq, and_true, List.length_cons, List.length_nil]); first | done | omega | assumption | grind [getD_set, getD_rep, toNat_succ, cntN_yes, cntN_no])
            rfl
          ·
           refine req_i ?_ ?_
           · -- r82
            first | omega | ((try simp only [sigNG, List.cons.injEq, DV.b.injEq, and_true, List.length_cons, List.length_nil]); first | done | omega | assumption | grind [getD_set, getD_rep, toNat_succ, cntN_yes, cntN_no])
           rfl
         ·
          refine req_i ?_ ?_
          · -- r83
           first | omega | ((try simp only [sigNG, List.cons.injEq, DV.b.injEq, and_true, List.length_cons, List.length_nil]); first | done | omega | assumption | grind [getD_set, getD_rep, toNat_succ, cntN_yes, cntN_no])
          rfl
        ·
         refine req_i ?_ ?_
         · -- r84
          have := h65.2 q7; simp_all
         rfl
theorem ext_GoldCodes : ∀ p ∈ ([(11, Ext.ctr (ctOf sigLen)), (24, Ext.ctr (ctOf sigLen)), (17, Ext.ctr (ctOf sigTaps)), (25, Ext.ctr (ctOf sigTaps)), (14, Ext.ctr (ctOf sigEquG)), (13, Ext.ctr (ctOf sigBits)), (26, Ext.ctr (ctOf sigBits)), (15, Ext.ctr (ctOf sigCode)), (27, Ext.ctr (ctOf sigCode)), (16, Ext.ctr (ctOf sigSum)), (28, Ext.ctr (ctOf sigSum)), (20, Ext.ctr (ctOf sigTrue0))] : List (Nat × Ext)), ExtRow Try.prog p.1 p.2 := by
  intro p hp
  simp only [List.mem_cons, List.not_mem_nil, or_false] at hp
  rcases hp with rfl | rfl | rfl | rfl | rfl | rfl | rfl | rfl | rfl | rfl | rfl | rfl
  · trivial
  · trivial
  · trivial
  · trivial
  · trivial
  · trivial
  · trivial
  · trivial
  · trivial
  · trivial
  · trivial
  · trivial
theorem cts_GoldCodes : CtsOk Try.prog [(11, Ext.ctr (ctOf sigLen)), (24, Ext.ctr (ctOf sigLen)), (17, Ext.ctr (ctOf sigTaps)), (25, Ext.ctr (ctOf sigTaps)), (14, Ext.ctr (ctOf sigEquG)), (13, Ext.ctr (ctOf sigBits)), (26, Ext.ctr (ctOf sigBits)), (15, Ext.ctr (ctOf sigCode)), (27, Ext.ctr (ctOf sigCode)), (16, Ext.ctr (ctOf sigSum)), (28, Ext.ctr (ctOf sigSum)), (20, Ext.ctr (ctOf sigTrue0))] := ctsOk_of (cs := [(11, sigLen), (24, sigLen), (17, sigTaps), (25, sigTaps), (14, sigEquG), (13, sigBits), (26, sigBits), (15, sigCode), (27, sigCode), (16, sigSum), (28, sigSum), (20, sigTrue0)])
  (fun p hp => by
    simp only [List.mem_cons, List.not_mem_nil, or_false] at hp
    rcases hp with rfl | rfl | rfl | rfl | rfl | rfl | rfl | rfl | rfl | rfl | rfl | rfl
    · exact fn_len
    · exact fn_lenR
    · exact fn_taps
    · exact fn_tapsR
    · exact fn_equ
    · exact fn_bits
    · exact fn_bitsR
    · exact fn_code
    · exact fn_codeR
    · exact fn_sum
    · exact fn_sumR
    · exact fn_awake
)
  (fun f c h => by
    simp only [List.lookup_cons] at h
    repeat' split at h
    all_goals first | (cases h; done) | (rename_i e; have e := beq_iff_eq.1 e; subst e; cases h; refine ⟨_, ?_, rfl⟩; simp))
theorem fn_GoldCodes : FnOk Try.prog 5 sigNG3 [] := fn_sound (by kernel_rfl) ext_GoldCodes cts_GoldCodes names vt_GoldCodes
end Go.Proofs.Ytpmlodchbgfmeaa

