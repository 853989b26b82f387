import Derived.Test.YtofeleohcpaclaaDoorSpec17e
import Derived.Test.YtofeleohcpaclaaDoorRows
import Derived.Test.YtofeleohcpaclaaDoorFnames
namespace Go.Proofs.YtofeleohcpaclaaDoor
open Go.Ev Go.Sp
set_option maxRecDepth 100000
theorem vc_Turn : vcFn Tryd.prog [] noA gl11 100 12 sigTurnD = (allB fun n0 : Int => 
impB ((-9223372036854775808 : Int) ≤ n0) (
impB (n0 ≤ (9223372036854775807 : Int)) (
allB fun n1 : Int => 
impB ((-9223372036854775808 : Int) ≤ n1) (
impB (n1 ≤ (9223372036854775807 : Int)) (
allB fun n2 : Int => 
impB ((-9223372036854775808 : Int) ≤ n2) (
impB (n2 ≤ (9223372036854775807 : Int)) (
allB fun n3 : Int => 
impB ((-9223372036854775808 : Int) ≤ n3) (
impB (n3 ≤ (9223372036854775807 : Int)) (
impB (sigTurnD.pre [DV.n n0, DV.n n1, DV.n n2, DV.n n3]) (
bR (dec (Min.min n0 n1 < (-1048576 : Int))) (
 reqB (sigTurnD.post [DV.n n0, DV.n n1, DV.n n2, DV.n n3]
 [DV.n (0 : Int), DV.n (0 : Int), DV.n (2 : Int)]) (
 true)) (
 bR (dec ((1048576 : Int) < Max.max n0 n1)) (
 reqB (sigTurnD.post [DV.n n0, DV.n n1, DV.n n2, DV.n n3]
 [DV.n (0 : Int), DV.n (0 : Int), DV.n (2 : Int)]) (
 true)) (
 bR (dec (Min.min n2 n3 < (-1048576 : Int))) (
 reqB (sigTurnD.post [DV.n n0, DV.n n1, DV.n n2, DV.n n3]
 [DV.n (0 : Int), DV.n (0 : Int), DV.n (2 : Int)]) (
 true)) (
 bR (dec ((1048576 : Int) < Max.max n2 n3)) (
 reqB (sigTurnD.post [DV.n n0, DV.n n1, DV.n n2, DV.n n3]
 [DV.n (0 : Int), DV.n (0 : Int), DV.n (2 : Int)]) (
 true)) (
 bR (bR (bR (false) (
 bR (false) (
 bR (false) (
 bR (false) (
 bR (false) (
 bR (dec (n2 = n2)) (
 bR (dec (n3 = n3)) (
 true) (
 false)) (
 false)) (
 bR (true) (
 bR (dec (n2 = n2)) (
 bR (dec (n3 = n3)) (
 true) (
 false)) (
 false)) (
 bR (bR (dec (n2 = n2)) (
 bR (dec (n3 = n3)) (
 true) (
 false)) (
 false)) (
 bR (dec (n2 = n2)) (
 bR (dec (n3 = n3)) (
 true) (
 false)) (
 false)) (
 false)))) (
 bR (false) (
 bR (false) (
 bR (dec (n2 = n2)) (
 bR (dec (n3 = n3)) (
 true) (
 false)) (
 false)) (
 bR (true) (
 bR (bR (bR (bR (dec (n2 = n2)) (
 bR (dec (n3 = n3)) (
 true) (
 false)) (
 false)) (
 true) (
 false)) (
 true) (
 false)) (
 true) (
 false)) (
 bR (bR (bR (bR (bR (dec (n2 = n2)) (
 bR (dec (n3 = n3)) (
 true) (
 false)) (
 false)) (
 true) (
 false)) (
 true) (
 false)) (
 true) (
 false)) (
 bR (dec (n2 = n2)) (
 bR (dec (n3 = n3)) (
 true) (
 false)) (
 false)) (
 false)))) (
 bR (false) (
 bR (dec (n2 = n2)) (
 bR (dec (n3 = n3)) (
 true) (
 false)) (
 false)) (
 bR (true) (
 bR (bR (bR (bR (bR (dec (n2 = n2)) (
 bR (dec (n3 = n3)) (
 true) (
 false)) (
 false)) (
 true) (
 false)) (
 true) (
 false)) (
 true) (
 false)) (
 bR (dec (n2 = n2)) (
 bR (dec (n3 = n3)) (
 true) (
 false)) (
 false)) (
 false)) (
 bR (bR (bR (bR (bR (bR (dec (n2 = n2)) (
 bR (dec (n3 = n3)) (
 true) (
 false)) (
 false)) (
 true) (
 false)) (
 true) (
 false)) (
 true) (
 false)) (
 bR (dec (n2 = n2)) (
 bR (dec (n3 = n3)) (
 true) (
 false)) (
 false)) (
 false)) (
 bR (dec (n2 = n2)) (
 bR (dec (n3 = n3)) (
 true) (
 false)) (
 false)) (
 false)))))) (
 bR (false) (
 bR (false) (
 bR (dec (n2 = n2)) (
 bR (dec (n3 = n3)) (
 true) (
 false)) (
 false)) (
 bR (true) (
 bR (dec (n2 = n2)) (
 bR (dec (n3 = n3)) (
 true) (
 false)) (
 false)) (
 bR (bR (dec (n2 = n2)) (
 bR (dec (n3 = n3)) (
 true) (
 false)) (
 false)) (
 bR (dec (n2 = n2)) (
 bR (dec (n3 = n3)) (
 true) (
 false)) (
 false)) (
 false)))) (
 bR (false) (
 bR (false) (
 bR (dec (n2 = n2)) (
 bR (dec (n3 = n3)) (
 true) (
 false)) (
 false)) (
 bR (true) (
 bR (bR (bR (dec (n2 = n2)) (
 bR (dec (n3 = n3)) (
 true) (
 false)) (
 false)) (
 true) (
 false)) (
 true) (
 false)) (
 bR (bR (bR (bR (dec (n2 = n2)) (
 bR (dec (n3 = n3)) (
 true) (
 false)) (
 false)) (
 true) (
 false)) (
 true) (
 false)) (
 bR (dec (n2 = n2)) (
 bR (dec (n3 = n3)) (
 true) (
 false)) (
 false)) (
 false)))) (
 bR (false) (
 bR (dec (n2 = n2)) (
 bR (dec (n3 = n3)) (
 true) (
 false)) (
 false)) (
 bR (true) (
 bR (bR (bR (bR (dec (n2 = n2)) (
 bR (dec (n3 = n3)) (
 true) (
 false)) (
 false)) (
 true) (
 false)) (
 true) (
 false)) (
 bR (dec (n2 = n2)) (
 bR (dec (n3 = n3)) (
 true) (
 false)) (
 false)) (
 false)) (
 bR (bR (bR (bR (bR (dec (n2 = n2)) (
 bR (dec (n3 = n3)) (
 true) (
 false)) (
 false)) (
 true) (
 false)) (
 true) (
 false)) (
 bR (dec (n2 = n2)) (
 bR (dec (n3 = n3)) (
 true) (
 false)) (
 false)) (
 false)) (
 bR (dec (n2 = n2)) (
 bR (dec (n3 = n3)) (
 true) (
 false)) (
 false)) (
 false))))))) (
 bR (false) (
 bR (false) (
 bR (false) (
 bR (dec (n2 = n2)) (
 bR (dec (n3 = n3)) (
 true) (
 false)) (
 false)) (
 bR (true) (
 bR (dec (n2 = n2)) (
 bR (dec (n3 = n3)) (
 true) (
 false)) (
 false)) (
 bR (bR (dec (n2 = n2)) (
 bR (dec (n3 = n3)) (
 true) (
 false)) (
 false)) (
 bR (dec (n2 = n2)) (
 bR (dec (n3 = n3)) (
 true) (
 false)) (
 false)) (
 false)))) (
 bR (false) (
 bR (false) (
 bR (dec (n2 = n2)) (
 bR (dec (n3 = n3)) (
 true) (
 false)) (
 false)) (
 bR (true) (
 bR (bR (bR (dec (n2 = n2)) (
 bR (dec (n3 = n3)) (
 true) (
 false)) (
 false)) (
 true) (
 false)) (
 true) (
 false)) (
 bR (bR (bR (bR (dec (n2 = n2)) (
 bR (dec (n3 = n3)) (
 true) (
 false)) (
 false)) (
 true) (
 false)) (
 true) (
 false)) (
 bR (dec (n2 = n2)) (
 bR (dec (n3 = n3)) (
 true) (
 false)) (
 false)) (
 false)))) (
 bR (false) (
 bR (dec (n2 = n2)) (
 bR (dec (n3 = n3)) (
 true) (
 false)) (
 false)) (
 bR (true) (
 bR (bR (bR (bR (dec (n2 = n2)) (
 bR (dec (n3 = n3)) (
 true) (
 false)) (
 false)) (
 true) (
 false)) (
 true) (
 false)) (
 bR (dec (n2 = n2)) (
 bR (dec (n3 = n3)) (
 true) (
 false)) (
 false)) (
 false)) (
 bR (bR (bR (bR (bR (dec (n2 = n2)) (
 bR (dec (n3 = n3)) (
 true) (
 false)) (
 false)) (
 true) (
 false)) (
 true) (
 false)) (
 bR (dec (n2 = n2)) (
 bR (dec (n3 = n3)) (
 true) (
 false)) (
 false)) (
 false)) (
 bR (dec (n2 = n2)) (
 bR (dec (n3 = n3)) (
 true) (
 false)) (
 false)) (
 false)))))) (
 bR (false) (
 bR (false) (
 bR (dec (n2 = n2)) (
 bR (dec (n3 = n3)) (
 true) (
 false)) (
 false)) (
 bR (true) (
 bR (dec (n2 = n2)) (
 bR (dec (n3 = n3)) (
 true) (
 false)) (
 false)) (
 bR (bR (dec (n2 = n2)) (
 bR (dec (n3 = n3)) (
 true) (
 false)) (
 false)) (
 bR (dec (n2 = n2)) (
 bR (dec (n3 = n3)) (
 true) (
 false)) (
 false)) (
 false)))) (
 bR (false) (
 bR (false) (
 bR (dec (n2 = n2)) (
 bR (dec (n3 = n3)) (
 true) (
 false)) (
 false)) (
 bR (true) (
 bR (bR (dec (n2 = n2)) (
 bR (dec (n3 = n3)) (
 true) (
 false)) (
 false)) (
 true) (
 false)) (
 bR (bR (bR (dec (n2 = n2)) (
 bR (dec (n3 = n3)) (
 true) (
 false)) (
 false)) (
 true) (
 false)) (
 bR (dec (n2 = n2)) (
 bR (dec (n3 = n3)) (
 true) (
 false)) (
 false)) (
 false)))) (
 bR (false) (
 bR (dec (n2 = n2)) (
 bR (dec (n3 = n3)) (
 true) (
 false)) (
 false)) (
 bR (true) (
 bR (bR (bR (dec (n2 = n2)) (
 bR (dec (n3 = n3)) (
 true) (
 false)) (
 false)) (
 true) (
 false)) (
 bR (dec (n2 = n2)) (
 bR (dec (n3 = n3)) (
 true) (
 false)) (
 false)) (
 false)) (
 bR (bR (bR (bR (dec (n2 = n2)) (
 bR (dec (n3 = n3)) (
 true) (
 false)) (
 false)) (
 true) (
 false)) (
 bR (dec (n2 = n2)) (
 bR (dec (n3 = n3)) (
 true) (
 false)) (
 false)) (
 false)) (
 bR (dec (n2 = n2)) (
 bR (dec (n3 = n3)) (
 true) (
 false)) (
 false)) (
 false)))))))) (
 bR (false) (
 bR (false) (
 bR (false) (
 bR (false) (
 bR (dec (n2 = n2)) (
 bR (dec (n3 = n3)) (
 true) (
 false)) (
 false)) (
 bR (true) (
 bR (dec (n2 = n2)) (
 bR (dec (n3 = n3)) (
 true) (
 false)) (
 false)) (
 bR (bR (dec (n2 = n2)) (
 bR (dec (n3 = n3)) (
 true) (
 false)) (
 false)) (
 bR (dec (n2 = n2)) (
 bR (dec (n3 = n3)) (
 true) (
 false)) (
 false)) (
 false)))) (
 bR (false) (
 bR (false) (
 bR (dec (n2 = n2)) (
 bR (dec (n3 = n3)) (
 true) (
 false)) (
 false)) (
 bR (true) (
 bR (bR (bR (dec (n2 = n2)) (
 bR (dec (n3 = n3)) (
 true) (
 false)) (
 false)) (
 true) (
 false)) (
 true) (
 false)) (
 bR (bR (bR (bR (dec (n2 = n2)) (
 bR (dec (n3 = n3)) (
 true) (
 false)) (
 false)) (
 true) (
 false)) (
 true) (
 false)) (
 bR (dec (n2 = n2)) (
 bR (dec (n3 = n3)) (
 true) (
 false)) (
 false)) (
 false)))) (
 bR (false) (
 bR (dec (n2 = n2)) (
 bR (dec (n3 = n3)) (
 true) (
 false)) (
 false)) (
 bR (true) (
 bR (bR (bR (bR (dec (n2 = n2)) (
 bR (dec (n3 = n3)) (
 true) (
 false)) (
 false)) (
 true) (
 false)) (
 true) (
 false)) (
 bR (dec (n2 = n2)) (
 bR (dec (n3 = n3)) (
 true) (
 false)) (
 false)) (
 false)) (
 bR (bR (bR (bR (bR (dec (n2 = n2)) (
 bR (dec (n3 = n3)) (
 true) (
 false)) (
 false)) (
 true) (
 false)) (
 true) (
 false)) (
 bR (dec (n2 = n2)) (
 bR (dec (n3 = n3)) (
 true) (
 false)) (
 false)) (
 false)) (
 bR (dec (n2 = n2)) (
 bR (dec (n3 = n3)) (
 true) (
 false)) (
 false)) (
 false)))))) (
 bR (false) (
 bR (false) (
 bR (dec (n2 = n2)) (
 bR (dec (n3 = n3)) (
 true) (
 false)) (
 false)) (
 bR (true) (
 bR (dec (n2 = n2)) (
 bR (dec (n3 = n3)) (
 true) (
 false)) (
 false)) (
 bR (bR (dec (n2 = n2)) (
 bR (dec (n3 = n3)) (
 true) (
 false)) (
 false)) (
 bR (dec (n2 = n2)) (
 bR (dec (n3 = n3)) (
 true) (
 false)) (
 false)) (
 false)))) (
 bR (false) (
 bR (false) (
 bR (dec (n2 = n2)) (
 bR (dec (n3 = n3)) (
 true) (
 false)) (
 false)) (
 bR (true) (
 bR (bR (dec (n2 = n2)) (
 bR (dec (n3 = n3)) (
 true) (
 false)) (
 false)) (
 true) (
 false)) (
 bR (bR (bR (dec (n2 = n2)) (
 bR (dec (n3 = n3)) (
 true) (
 false)) (
 false)) (
 true) (
 false)) (
 bR (dec (n2 = n2)) (
 bR (dec (n3 = n3)) (
 true) (
 false)) (
 false)) (
 false)))) (
 bR (false) (
 bR (dec (n2 = n2)) (
 bR (dec (n3 = n3)) (
 true) (
 false)) (
 false)) (
 bR (true) (
 bR (bR (bR (dec (n2 = n2)) (
 bR (dec (n3 = n3)) (
 true) (
 false)) (
 false)) (
 true) (
 false)) (
 bR (dec (n2 = n2)) (
 bR (dec (n3 = n3)) (
 true) (
 false)) (
 false)) (
 false)) (
 bR (bR (bR (bR (dec (n2 = n2)) (
 bR (dec (n3 = n3)) (
 true) (
 false)) (
 false)) (
 true) (
 false)) (
 bR (dec (n2 = n2)) (
 bR (dec (n3 = n3)) (
 true) (
 false)) (
 false)) (
 false)) (
 bR (dec (n2 = n2)) (
 bR (dec (n3 = n3)) (
 true) (
 false)) (
 false)) (
 false))))))) (
 bR (false) (
 bR (false) (
 bR (false) (
 bR (dec (n2 = n2)) (
 bR (dec (n3 = n3)) (
 true) (
 false)) (
 false)) (
 bR (true) (
 bR (dec (n2 = n2)) (
 bR (dec (n3 = n3)) (
 true) (
 false)) (
 false)) (
 bR (bR (dec (n2 = n2)) (
 bR (dec (n3 = n3)) (
 true) (
 false)) (
 false)) (
 bR (dec (n2 = n2)) (
 bR (dec (n3 = n3)) (
 true) (
 false)) (
 false)) (
 false)))) (
 bR (false) (
 bR (false) (
 bR (dec (n2 = n2)) (
 bR (dec (n3 = n3)) (
 true) (
 false)) (
 false)) (
 bR (true) (
 bR (bR (dec (n2 = n2)) (
 bR (dec (n3 = n3)) (
 true) (
 false)) (
 false)) (
 true) (
 false)) (
 bR (bR (bR (dec (n2 = n2)) (
 bR (dec (n3 = n3)) (
 true) (
 false)) (
 false)) (
 true) (
 false)) (
 bR (dec (n2 = n2)) (
 bR (dec (n3 = n3)) (
 true) (
 false)) (
 false)) (
 false)))) (
 bR (false) (
 bR (dec (n2 = n2)) (
 bR (dec (n3 = n3)) (
 true) (
 false)) (
 false)) (
 bR (true) (
 bR (bR (bR (dec (n2 = n2)) (
 bR (dec (n3 = n3)) (
 true) (
 false)) (
 false)) (
 true) (
 false)) (
 bR (dec (n2 = n2)) (
 bR (dec (n3 = n3)) (
 true) (
 false)) (
 false)) (
 false)) (
 bR (bR (bR (bR (dec (n2 = n2)) (
 bR (dec (n3 = n3)) (
 true) (
 false)) (
 false)) (
 true) (
 false)) (
 bR (dec (n2 = n2)) (
 bR (dec (n3 = n3)) (
 true) (
 false)) (
 false)) (
 false)) (
 bR (dec (n2 = n2)) (
 bR (dec (n3 = n3)) (
 true) (
 false)) (
 false)) (
 false)))))) (
 bR (false) (
 bR (false) (
 bR (dec (n2 = n2)) (
 bR (dec (n3 = n3)) (
 true) (
 false)) (
 false)) (
 bR (true) (
 bR (dec (n2 = n2)) (
 bR (dec (n3 = n3)) (
 true) (
 false)) (
 false)) (
 bR (bR (dec (n2 = n2)) (
 bR (dec (n3 = n3)) (
 true) (
 false)) (
 false)) (
 bR (dec (n2 = n2)) (
 bR (dec (n3 = n3)) (
 true) (
 false)) (
 false)) (
 false)))) (
 bR (false) (
 bR (false) (
 bR (dec (n2 = n2)) (
 bR (dec (n3 = n3)) (
 true) (
 false)) (
 false)) (
 bR (true) (
 bR (dec (n2 = n2)) (
 bR (dec (n3 = n3)) (
 true) (
 false)) (
 false)) (
 bR (bR (dec (n2 = n2)) (
 bR (dec (n3 = n3)) (
 true) (
 false)) (
 false)) (
 bR (dec (n2 = n2)) (
 bR (dec (n3 = n3)) (
 true) (
 false)) (
 false)) (
 false)))) (
 bR (false) (
 bR (dec (n2 = n2)) (
 bR (dec (n3 = n3)) (
 true) (
 false)) (
 false)) (
 bR (true) (
 bR (bR (dec (n2 = n2)) (
 bR (dec (n3 = n3)) (
 true) (
 false)) (
 false)) (
 bR (dec (n2 = n2)) (
 bR (dec (n3 = n3)) (
 true) (
 false)) (
 false)) (
 false)) (
 bR (bR (bR (dec (n2 = n2)) (
 bR (dec (n3 = n3)) (
 true) (
 false)) (
 false)) (
 bR (dec (n2 = n2)) (
 bR (dec (n3 = n3)) (
 true) (
 false)) (
 false)) (
 false)) (
 bR (dec (n2 = n2)) (
 bR (dec (n3 = n3)) (
 true) (
 false)) (
 false)) (
 false))))))))) (
 true) (
 false)) (
 allB fun n4 : Int => 
 impB (n4 = Go.IntKind.i64.wrap (n2 * n0)) (
 impB (Int.negSucc (9223372036854775807 : Nat) ≤ n4) (
 impB (n4 ≤ Int.ofNat (9223372036854775807 : Nat)) (
 allB fun n5 : Int => 
 impB (n5 = Go.IntKind.i64.wrap (n3 * n1)) (
 impB (Int.negSucc (9223372036854775807 : Nat) ≤ n5) (
 impB (n5 ≤ Int.ofNat (9223372036854775807 : Nat)) (
 allB fun n6 : Int => 
 impB (n6 = Go.IntKind.i64.wrap (n4 + n5)) (
 impB (Int.negSucc (9223372036854775807 : Nat) ≤ n6) (
 impB (n6 ≤ Int.ofNat (9223372036854775807 : Nat)) (
 allB fun n7 : Int => 
 impB (n7 = Go.IntKind.i64.wrap (n3 * n0)) (
 impB (Int.negSucc (9223372036854775807 : Nat) ≤ n7) (
 impB (n7 ≤ Int.ofNat (9223372036854775807 : Nat)) (
 allB fun n8 : Int => 
 impB (n8 = Go.IntKind.i64.wrap (n2 * n1)) (
 impB (Int.negSucc (9223372036854775807 : Nat) ≤ n8) (
 impB (n8 ≤ Int.ofNat (9223372036854775807 : Nat)) (
 allB fun n9 : Int => 
 impB (n9 = Go.IntKind.i64.wrap (n7 - n8)) (
 impB (Int.negSucc (9223372036854775807 : Nat) ≤ n9) (
 impB (n9 ≤ Int.ofNat (9223372036854775807 : Nat)) (
 reqB ((-2199023255552 : Int) ≤ n6) (
 reqB (n6 ≤ (2199023255552 : Int)) (
 reqB ((-2199023255552 : Int) ≤ n9) (
 reqB (n9 ≤ (2199023255552 : Int)) (
 reqB (sigTurnD.post [DV.n n0, DV.n n1, DV.n n2, DV.n n3]
 [DV.n n6, DV.n n9, DV.n (0 : Int)]) (
 true)))))))))))))))))))))))) (
 false))))))))))))))) := by kernel_rfl
set_option maxHeartbeats 8000000 in
theorem vt_Turn : vcFn Tryd.prog [] noA gl11 100 12 sigTurnD = true := by
  rw [vc_Turn]
  try simp only [Int.toNat_natCast, List.length_set, List.length_replicate, List.length_take, List.length_drop, List.length_append, List.length_cons, List.length_nil, Nat.min_self, List.take_take, lenCols_i, lenCols_b, List.drop_zero, List.take_length, Nat.add_eq, Nat.mul_eq, Nat.sub_eq, Nat.zero_add, Nat.sub_zero, Nat.mul_one]
  refine all_i fun n0 => ?_
  refine imp_i fun h0 => ?_
  refine imp_i fun h1 => ?_
  refine all_i fun n1 => ?_
  refine imp_i fun h2 => ?_
  refine imp_i fun h3 => ?_
  refine all_i fun n2 => ?_
  refine imp_i fun h4 => ?_
  refine imp_i fun h5 => ?_
  refine all_i fun n3 => ?_
  refine imp_i fun h6 => ?_
  refine imp_i fun h7 => ?_
  refine imp_i fun h8 => ?_
  try simp only [sigTurnD, smpV, t41, turnPost, insd, tI, tQ, List.cons.injEq, DV.b.injEq, and_true, List.length_cons, List.length_nil] at h8
  refine bR_dec (fun h9 => ?_) (fun h9 => ?_)
  ·
   refine req_i ?_ ?_
   · -- r0
    first | omega | ((try simp only [sigTurnD, smpV, t41, turnPost, insd, tI, tQ, List.cons.injEq, DV.b.injEq, and_true, List.length_cons, List.length_nil]); first | done | omega | assumption | grind [getD_set, getD_rep, toNat_succ, cntN_yes, cntN_no])
   rfl
  ·
   refine bR_dec (fun h10 => ?_) (fun h10 => ?_)
   ·
    refine req_i ?_ ?_
    · -- r1
     first | omega | ((try simp only [sigTurnD, smpV, t41, turnPost, insd, tI, tQ, List.cons.injEq, DV.b.injEq, and_true, List.length_cons, List.length_nil]); first | done | omega | assumption | grind [getD_set, getD_rep, toNat_succ, cntN_yes, cntN_no])
    rfl
   ·
    refine bR_dec (fun h11 => ?_) (fun h11 => ?_)
    ·
     refine req_i ?_ ?_
     · -- r2
      first | omega | ((try simp only [sigTurnD, smpV, t41, turnPost, insd, tI, tQ, List.cons.injEq, DV.b.injEq, and_true, List.length_cons, List.length_nil]); first | done | omega | assumption | grind [getD_set, getD_rep, toNat_succ, cntN_yes, cntN_no])
     rfl
    ·
     refine bR_dec (fun h12 => ?_) (fun h12 => ?_)
     ·
      refine req_i ?_ ?_
      · -- r3
       first | omega | ((try simp only [sigTurnD, smpV, t41, turnPost, insd, tI, tQ, List.cons.injEq, DV.b.injEq, and_true, List.length_cons, List.length_nil]); first | done | omega | assumption | grind [getD_set, getD_rep, toNat_succ, cntN_yes, cntN_no])
      rfl
     ·
      refine bR_t ?_ ?_
      · -- g0
       first | rfl | (simp only [bR_iff, bR_iff_f, dec_iff, dec_f, beqB_iff', andB_iff', reduceCtorEq, imp_self, false_implies, and_true, true_and, implies_true, and_self]; done) | (simp [bR_iff, dec_iff, beqB_iff', andB_iff']; done) | (simp [bR_iff, dec_iff, beqB_iff', andB_iff']; omega)
      refine all_i fun n4 => ?_
      refine imp_i fun h13 => ?_
      simp only [wrap_i64] at h13
      have ph13 := mul_abs (a := n2) (b := n0) (A := 1048576) (B := 1048576) (by omega) (by omega) (by omega) (by omega)
      have h13 : n4 = n2 * n0 := by omega
      refine imp_i fun h14 => ?_
      refine imp_i fun h15 => ?_
      refine all_i fun n5 => ?_
      refine imp_i fun h16 => ?_
      simp only [wrap_i64] at h16
      have ph16 := mul_abs (a := n3) (b := n1) (A := 1048576) (B := 1048576) (by omega) (by omega) (by omega) (by omega)
      have h16 : n5 = n3 * n1 := by omega
      refine imp_i fun h17 => ?_
      refine imp_i fun h18 => ?_
      refine all_i fun n6 => ?_
      refine imp_i fun h19 => ?_
      simp only [wrap_i64] at h19
      have h19 : n6 = n4 + n5 := by omega
      refine imp_i fun h20 => ?_
      refine imp_i fun h21 => ?_
      refine all_i fun n7 => ?_
      refine imp_i fun h22 => ?_
      simp only [wrap_i64] at h22
      have ph22 := mul_abs (a := n3) (b := n0) (A := 1048576) (B := 1048576) (by omega) (by omega) (by omega) (by omega)
      have h22 : n7 = n3 * n0 := by omega
      refine imp_i fun h23 => ?_
      refine imp_i fun h24 => ?_
      refine all_i fun n8 => ?_
      refine imp_i fun h25 => ?_
      simp only [wrap_i64] at h25
      have ph25 := mul_abs (a := n2) (b := n1) (A := 1048576) (B := 1048576) (by omega) (by omega) (by omega) (by omega)
      have h25 : n8 = n2 * n1 := by omega
      refine imp_i fun h26 => ?_
      refine imp_i fun h27 => ?_
      refine all_i fun n9 => ?_
      refine imp_i fun h28 => ?_
      simp only [wrap_i64] at h28
      have h28 : n9 = n7 - n8 := by omega
      refine imp_i fun h29 => ?_
      refine imp_i fun h30 => ?_
      refine req_i ?_ ?_
      · -- r4
       first | omega | assumption | grind
      refine req_i ?_ ?_
      · -- r5
       first | omega | assumption | grind
      refine req_i ?_ ?_
      · -- r6
       first | omega | assumption | grind
      refine req_i ?_ ?_
      · -- r7
       first | omega | assumption | grind
      refine req_i ?_ ?_
      · -- r8
       first | omega | ((try simp only [sigTurnD, smpV, t41, turnPost, insd, tI, tQ, List.cons.injEq, DV.b.injEq, and_true, List.length_cons, List.length_nil]); first | done | omega | assumption | grind [getD_set, getD_rep, toNat_succ, cntN_yes, cntN_no])
      rfl
theorem ext_Turn : ∀ p ∈ ([] : List (Nat × Ext)), ExtRow Tryd.prog p.1 p.2 := by
  intro p hp
  cases hp
theorem cts_Turn : CtsOk Tryd.prog [] := fun f c h => by cases h
theorem fn_Turn : FnOk Tryd.prog 12 sigTurnD gl11 := fn_sound (by kernel_rfl) ext_Turn cts_Turn names vt_Turn
end Go.Proofs.YtofeleohcpaclaaDoor

namespace Go.Proofs.YtofeleohcpaclaaDoor
open Go.Ev Go.Sp
set_option maxRecDepth 100000
theorem vc_ins : vcFn Tryd.prog [] noA gl11 100 43 sigIns = (allB fun n0 : Int => 
impB ((-9223372036854775808 : Int) ≤ n0) (
impB (n0 ≤ (9223372036854775807 : Int)) (
allB fun n1 : Int => 
impB ((-9223372036854775808 : Int) ≤ n1) (
impB (n1 ≤ (9223372036854775807 : Int)) (
impB (sigIns.pre [DV.n n0, DV.n n1]) (
bR (dec ((-1048576 : Int) ≤ n0)) (
 bR (dec (n0 ≤ (1048576 : Int))) (
 bR (dec ((-1048576 : Int) ≤ n1)) (
 reqB (sigIns.post [DV.n n0, DV.n n1] [DV.b (dec (n1 ≤ (1048576 : Int)))]) (
 true)) (
 reqB (sigIns.post [DV.n n0, DV.n n1] [DV.b Bool.false]) (
 true))) (
 reqB (sigIns.post [DV.n n0, DV.n n1] [DV.b Bool.false]) (
 true))) (
 reqB (sigIns.post [DV.n n0, DV.n n1] [DV.b Bool.false]) (
 true)))))))) := by kernel_rfl
set_option maxHeartbeats 8000000 in
theorem vt_ins : vcFn Tryd.prog [] noA gl11 100 43 sigIns = true := by
  rw [vc_ins]
  try simp only [Int.toNat_natCast, List.length_set, List.length_replicate, List.length_take, List.length_drop, List.length_append, List.length_cons, List.length_nil, Nat.min_self, List.take_take, lenCols_i, lenCols_b, List.drop_zero, List.take_length, Nat.add_eq, Nat.mul_eq, Nat.sub_eq, Nat.zero_add, Nat.sub_zero, Nat.mul_one]
  refine all_i fun n0 => ?_
  refine imp_i fun h0 => ?_
  refine imp_i fun h1 => ?_
  refine all_i fun n1 => ?_
  refine imp_i fun h2 => ?_
  refine imp_i fun h3 => ?_
  refine imp_i fun h4 => ?_
  try simp only [sigIns, smpV, insPost, insd, List.cons.injEq, DV.b.injEq, and_true, List.length_cons, List.length_nil] at h4
  refine bR_dec (fun h5 => ?_) (fun h5 => ?_)
  ·
   refine bR_dec (fun h6 => ?_) (fun h6 => ?_)
   ·
    refine bR_dec (fun h7 => ?_) (fun h7 => ?_)
    ·
     refine req_i ?_ ?_
     · -- r0
      first | omega | ((try simp only [sigIns, smpV, insPost, insd, List.cons.injEq, DV.b.injEq, and_true, List.length_cons, List.length_nil, dec_iff]); first | done | omega | assumption | grind [getD_set, getD_rep, toNat_succ, cntN_yes, cntN_no])
     rfl
    ·
     refine req_i ?_ ?_
     · -- r1
      first | omega | ((try simp only [sigIns, smpV, insPost, insd, List.cons.injEq, DV.b.injEq, and_true, List.length_cons, List.length_nil]); first | done | omega | assumption | grind [getD_set, getD_rep, toNat_succ, cntN_yes, cntN_no])
     rfl
   ·
    refine req_i ?_ ?_
    · -- r2
     first | omega | ((try simp only [sigIns, smpV, insPost, insd, List.cons.injEq, DV.b.injEq, and_true, List.length_cons, List.length_nil]); first | done | omega | assumption | grind [getD_set, getD_rep, toNat_succ, cntN_yes, cntN_no])
    rfl
  ·
   refine req_i ?_ ?_
   · -- r3
    first | omega | ((try simp only [sigIns, smpV, insPost, insd, List.cons.injEq, DV.b.injEq, and_true, List.length_cons, List.length_nil]); first | done | omega | assumption | grind [getD_set, getD_rep, toNat_succ, cntN_yes, cntN_no])
   rfl
theorem ext_ins : ∀ p ∈ ([] : List (Nat × Ext)), ExtRow Tryd.prog p.1 p.2 := by
  intro p hp
  cases hp
theorem cts_ins : CtsOk Tryd.prog [] := fun f c h => by cases h
theorem fn_ins : FnOk Tryd.prog 43 sigIns gl11 := fn_sound (by kernel_rfl) ext_ins cts_ins names vt_ins
end Go.Proofs.YtofeleohcpaclaaDoor

namespace Go.Proofs.YtofeleohcpaclaaDoor
open Go.Ev Go.Sp
set_option maxRecDepth 100000
theorem vc_TurnR : vcFn Tryd.prog [(43, Ext.ctr (ctOfG gl11 sigIns))] noA gl11 100 24 sigTurnD = (allB fun n0 : Int => 
impB ((-9223372036854775808 : Int) ≤ n0) (
impB (n0 ≤ (9223372036854775807 : Int)) (
allB fun n1 : Int => 
impB ((-9223372036854775808 : Int) ≤ n1) (
impB (n1 ≤ (9223372036854775807 : Int)) (
allB fun n2 : Int => 
impB ((-9223372036854775808 : Int) ≤ n2) (
impB (n2 ≤ (9223372036854775807 : Int)) (
allB fun n3 : Int => 
impB ((-9223372036854775808 : Int) ≤ n3) (
impB (n3 ≤ (9223372036854775807 : Int)) (
impB (sigTurnD.pre [DV.n n0, DV.n n1, DV.n n2, DV.n n3]) (
reqB ((-9223372036854775808 : Int) ≤ n0) (
reqB (n0 ≤ (9223372036854775807 : Int)) (
reqB ((-9223372036854775808 : Int) ≤ n1) (
reqB (n1 ≤ (9223372036854775807 : Int)) (
reqB (sigIns.pre [DV.n n0, DV.n n1]) (
allB fun b4 : Bool => 
impB (sigIns.post [DV.n n0, DV.n n1] [DV.b b4]) (
bR (bR (b4) (
 false) (
 true)) (
 reqB (sigTurnD.post [DV.n n0, DV.n n1, DV.n n2, DV.n n3]
 [DV.n (0 : Int), DV.n (0 : Int), DV.n (2 : Int)]) (
 true)) (
 reqB ((-9223372036854775808 : Int) ≤ n2) (
 reqB (n2 ≤ (9223372036854775807 : Int)) (
 reqB ((-9223372036854775808 : Int) ≤ n3) (
 reqB (n3 ≤ (9223372036854775807 : Int)) (
 reqB (sigIns.pre [DV.n n2, DV.n n3]) (
 allB fun b5 : Bool => 
 impB (sigIns.post [DV.n n2, DV.n n3] [DV.b b5]) (
 bR (bR (b5) (
 false) (
 true)) (
 reqB (sigTurnD.post [DV.n n0, DV.n n1, DV.n n2, DV.n n3]
 [DV.n (0 : Int), DV.n (0 : Int), DV.n (2 : Int)]) (
 true)) (
 allB fun n6 : Int => 
 impB (n6 = Go.IntKind.i64.wrap (n2 * n0)) (
 impB (Int.negSucc (9223372036854775807 : Nat) ≤ n6) (
 impB (n6 ≤ Int.ofNat (9223372036854775807 : Nat)) (
 allB fun n7 : Int => 
 impB (n7 = Go.IntKind.i64.wrap (n3 * n1)) (
 impB (Int.negSucc (9223372036854775807 : Nat) ≤ n7) (
 impB (n7 ≤ Int.ofNat (9223372036854775807 : Nat)) (
 allB fun n8 : Int => 
 impB (n8 = Go.IntKind.i64.wrap (n6 + n7)) (
 impB (Int.negSucc (9223372036854775807 : Nat) ≤ n8) (
 impB (n8 ≤ Int.ofNat (9223372036854775807 : Nat)) (
 allB fun n9 : Int => 
 impB (n9 = Go.IntKind.i64.wrap (n3 * n0)) (
 impB (Int.negSucc (9223372036854775807 : Nat) ≤ n9) (
 impB (n9 ≤ Int.ofNat (9223372036854775807 : Nat)) (
 allB fun n10 : Int => 
 impB (n10 = Go.IntKind.i64.wrap (n2 * n1)) (
 impB (Int.negSucc (9223372036854775807 : Nat) ≤ n10) (
 impB (n10 ≤ Int.ofNat (9223372036854775807 : Nat)) (
 allB fun n11 : Int => 
 impB (n11 = Go.IntKind.i64.wrap (n9 - n10)) (
 impB (Int.negSucc (9223372036854775807 : Nat) ≤ n11) (
 impB (n11 ≤ Int.ofNat (9223372036854775807 : Nat)) (
 reqB ((-2199023255552 : Int) ≤ n8) (
 reqB (n8 ≤ (2199023255552 : Int)) (
 reqB ((-2199023255552 : Int) ≤ n11) (
 reqB (n11 ≤ (2199023255552 : Int)) (
 reqB (sigTurnD.post [DV.n n0, DV.n n1, DV.n n2, DV.n n3]
 [DV.n n8, DV.n n11, DV.n (0 : Int)]) (
 true))))))))))))))))))))))))))))))))))))))))))))))) := by kernel_rfl
set_option maxHeartbeats 8000000 in
theorem vt_TurnR : vcFn Tryd.prog [(43, Ext.ctr (ctOfG gl11 sigIns))] noA gl11 100 24 sigTurnD = true := by
  rw [vc_TurnR]
  try simp only [Int.toNat_natCast, List.length_set, List.length_replicate, List.length_take, List.length_drop, List.length_append, List.length_cons, List.length_nil, Nat.min_self, List.take_take, lenCols_i, lenCols_b, List.drop_zero, List.take_length, Nat.add_eq, Nat.mul_eq, Nat.sub_eq, Nat.zero_add, Nat.sub_zero, Nat.mul_one]
  refine all_i fun n0 => ?_
  refine imp_i fun h0 => ?_
  refine imp_i fun h1 => ?_
  refine all_i fun n1 => ?_
  refine imp_i fun h2 => ?_
  refine imp_i fun h3 => ?_
  refine all_i fun n2 => ?_
  refine imp_i fun h4 => ?_
  refine imp_i fun h5 => ?_
  refine all_i fun n3 => ?_
  refine imp_i fun h6 => ?_
  refine imp_i fun h7 => ?_
  refine imp_i fun h8 => ?_
  try simp only [sigTurnD, smpV, t41, turnPost, insd, tI, tQ, List.cons.injEq, DV.b.injEq, and_true, List.length_cons, List.length_nil] at h8
  refine req_i ?_ ?_
  · -- r0
   first | omega | assumption | grind
  refine req_i ?_ ?_
  · -- r1
   first | omega | assumption | grind
  refine req_i ?_ ?_
  · -- r2
   first | omega | assumption | grind
  refine req_i ?_ ?_
  · -- r3
   first | omega | assumption | grind
  refine req_i ?_ ?_
  · -- r4
   first | trivial | assumption | (simp only [sigIns, smpV, insPost, insd, List.cons.injEq, DV.b.injEq, and_true, List.length_cons, List.length_nil]; done) | ((try simp only [sigIns, smpV, insPost, insd, List.cons.injEq, DV.b.injEq, and_true, List.length_cons, List.length_nil]); first | omega | assumption | grind)
  refine all_i fun b4 => ?_
  refine imp_i fun h9 => ?_
  try simp only [sigIns, smpV, insPost, insd, List.cons.injEq, DV.b.injEq, and_true, List.length_cons, List.length_nil] at h9
  refine bR_i (fun h10 => ?_) (fun h10 => ?_)
  ·
   simp only [bR_iff, bR_iff_f, dec_iff, dec_f, Bool.false_eq_true, Bool.true_eq_false, false_implies, imp_false, and_true, true_and, implies_true, Classical.not_not] at h10
   refine req_i ?_ ?_
   · -- r5
    exact .inl ⟨fun g => absurd (h9.2 g.1) (by simp [h10]), rfl, rfl, rfl⟩
   rfl
  ·
   simp only [bR_iff, bR_iff_f, dec_iff, dec_f, Bool.false_eq_true, Bool.true_eq_false, false_implies, imp_false, and_true, true_and, implies_true, Classical.not_not] at h10
   have ih10 := h9.1 (by first | exact h10 | simpa using h10)
   refine req_i ?_ ?_
   · -- r6
    first | omega | assumption | grind
   refine req_i ?_ ?_
   · -- r7
    first | omega | assumption | grind
   refine req_i ?_ ?_
   · -- r8
    first | omega | assumption | grind
   refine req_i ?_ ?_
   · -- r9
    first | omega | assumption | grind
   refine req_i ?_ ?_
   · -- r10
    first | trivial | assumption | (simp only [sigIns, smpV, insPost, insd, List.cons.injEq, DV.b.injEq, and_true, List.length_cons, List.length_nil]; done) | ((try simp only [sigIns, smpV, insPost, insd, List.cons.injEq, DV.b.injEq, and_true, List.length_cons, List.length_nil]); first | omega | assumption | grind)
   refine all_i fun b5 => ?_
   refine imp_i fun h11 => ?_
   try simp only [sigIns, smpV, insPost, insd, List.cons.injEq, DV.b.injEq, and_true, List.length_cons, List.length_nil] at h11
   refine bR_i (fun h12 => ?_) (fun h12 => ?_)
   ·
    simp only [bR_iff, bR_iff_f, dec_iff, dec_f, Bool.false_eq_true, Bool.true_eq_false, false_implies, imp_false, and_true, true_and, implies_true, Classical.not_not] at h12
    refine req_i ?_ ?_
    · -- r11
     exact .inl ⟨fun g => absurd (h11.2 g.2) (by simp [h12]), rfl, rfl, rfl⟩
    rfl
   ·
    simp only [bR_iff, bR_iff_f, dec_iff, dec_f, Bool.false_eq_true, Bool.true_eq_false, false_implies, imp_false, and_true, true_and, implies_true, Classical.not_not] at h12
    have ih12 := h11.1 (by first | exact h12 | simpa using h12)
    refine all_i fun n6 => ?_
    refine imp_i fun h13 => ?_
    simp only [wrap_i64] at h13
    have ph13 := mul_abs (a := n2) (b := n0) (A := 1048576) (B := 1048576) (by omega) (by omega) (by omega) (by omega)
    have h13 : n6 = n2 * n0 := by omega
    refine imp_i fun h14 => ?_
    refine imp_i fun h15 => ?_
    refine all_i fun n7 => ?_
    refine imp_i fun h16 => ?_
    simp only [wrap_i64] at h16
    have ph16 := mul_abs (a := n3) (b := n1) (A := 1048576) (B := 1048576) (by omega) (by omega) (by omega) (by omega)
    have h16 : n7 = n3 * n1 := by omega
    refine imp_i fun h17 => ?_
    refine imp_i fun h18 => ?_
    refine all_i fun n8 => ?_
    refine imp_i fun h19 => ?_
    simp only [wrap_i64] at h19
    have h19 : n8 = n6 + n7 := by omega
    refine imp_i fun h20 => ?_
    refine imp_i fun h21 => ?_
    refine all_i fun n9 => ?_
    refine imp_i fun h22 => ?_
    simp only [wrap_i64] at h22
    have ph22 := mul_abs (a := n3) (b := n0) (A := 1048576) (B := 1048576) (by omega) (by omega) (by omega) (by omega)
    have h22 : n9 = n3 * n0 := by omega
    refine imp_i fun h23 => ?_
    refine imp_i fun h24 => ?_
    refine all_i fun n10 => ?_
    refine imp_i fun h25 => ?_
    simp only [wrap_i64] at h25
    have ph25 := mul_abs (a := n2) (b := n1) (A := 1048576) (B := 1048576) (by omega) (by omega) (by omega) (by omega)
    have h25 : n10 = n2 * n1 := by omega
    refine imp_i fun h26 => ?_
    refine imp_i fun h27 => ?_
    refine all_i fun n11 => ?_
    refine imp_i fun h28 => ?_
    simp only [wrap_i64] at h28
    have h28 : n11 = n9 - n10 := by omega
    refine imp_i fun h29 => ?_
    refine imp_i fun h30 => ?_
    refine req_i ?_ ?_
    · -- r12
     first | omega | assumption | grind
    refine req_i ?_ ?_
    · -- r13
     first | omega | assumption | grind
    refine req_i ?_ ?_
    · -- r14
     first | omega | assumption | grind
    refine req_i ?_ ?_
    · -- r15
     first | omega | assumption | grind
    refine req_i ?_ ?_
    · -- r16
     first | omega | ((try simp only [sigTurnD, smpV, t41, turnPost, insd, tI, tQ, List.cons.injEq, DV.b.injEq, and_true, List.length_cons, List.length_nil]); first | done | omega | assumption | grind [getD_set, getD_rep, toNat_succ, cntN_yes, cntN_no])
    rfl
theorem ext_TurnR : ∀ p ∈ ([(43, Ext.ctr (ctOfG gl11 sigIns))] : List (Nat × Ext)), ExtRow Tryd.prog p.1 p.2 := by
  intro p hp
  simp only [List.mem_cons, List.not_mem_nil, or_false] at hp
  rcases hp with rfl
  · trivial
theorem cts_TurnR : CtsOk Tryd.prog [(43, Ext.ctr (ctOfG gl11 sigIns))] := ctsOk_ofG (cs := [(43, sigIns)])
  (fun p hp => by
    simp only [List.mem_cons, List.not_mem_nil, or_false] at hp
    rcases hp with rfl
    · exact fn_ins
)
  (fun f c h => by
    simp only [List.lookup_cons] at h
    repeat' split at h
    all_goals first | (cases h; done) | (rename_i e; have e := beq_iff_eq.1 e; subst e; cases h; refine ⟨_, ?_, rfl⟩; simp))
theorem fn_TurnR : FnOk Tryd.prog 24 sigTurnD gl11 := fn_sound (by kernel_rfl) ext_TurnR cts_TurnR names vt_TurnR
end Go.Proofs.YtofeleohcpaclaaDoor

namespace Go.Proofs.YtofeleohcpaclaaDoor
open Go.Ev Go.Sp
set_option maxRecDepth 100000
theorem vc_small : vcFn Tryd.prog [] noA gl11 100 75 sigSmall = (allB fun n0 : Int => 
impB ((-9223372036854775808 : Int) ≤ n0) (
impB (n0 ≤ (9223372036854775807 : Int)) (
allB fun n1 : Int => 
impB ((-9223372036854775808 : Int) ≤ n1) (
impB (n1 ≤ (9223372036854775807 : Int)) (
impB (sigSmall.pre [DV.n n0, DV.n n1]) (
bR (dec (n0 < (-70368744177664 : Int))) (
 reqB (sigSmall.post [DV.n n0, DV.n n1] [DV.n (2 : Int)]) (
 true)) (
 bR (dec ((70368744177664 : Int) < n0)) (
 reqB (sigSmall.post [DV.n n0, DV.n n1] [DV.n (2 : Int)]) (
 true)) (
 bR (dec (n1 < (-70368744177664 : Int))) (
 reqB (sigSmall.post [DV.n n0, DV.n n1] [DV.n (2 : Int)]) (
 true)) (
 bR (dec ((70368744177664 : Int) < n1)) (
 reqB (sigSmall.post [DV.n n0, DV.n n1] [DV.n (2 : Int)]) (
 true)) (
 reqB (sigSmall.post [DV.n n0, DV.n n1] [DV.n (0 : Int)]) (
 true))))))))))) := by kernel_rfl
set_option maxHeartbeats 8000000 in
theorem vt_small : vcFn Tryd.prog [] noA gl11 100 75 sigSmall = true := by
  rw [vc_small]
  try simp only [Int.toNat_natCast, List.length_set, List.length_replicate, List.length_take, List.length_drop, List.length_append, List.length_cons, List.length_nil, Nat.min_self, List.take_take, lenCols_i, lenCols_b, List.drop_zero, List.take_length, Nat.add_eq, Nat.mul_eq, Nat.sub_eq, Nat.zero_add, Nat.sub_zero, Nat.mul_one]
  refine all_i fun n0 => ?_
  refine imp_i fun h0 => ?_
  refine imp_i fun h1 => ?_
  refine all_i fun n1 => ?_
  refine imp_i fun h2 => ?_
  refine imp_i fun h3 => ?_
  refine imp_i fun h4 => ?_
  try simp only [sigSmall, smpV, smallPost, sml, List.cons.injEq, DV.b.injEq, and_true, List.length_cons, List.length_nil] at h4
  refine bR_dec (fun h5 => ?_) (fun h5 => ?_)
  ·
   refine req_i ?_ ?_
   · -- r0
    first | omega | ((try simp only [sigSmall, smpV, smallPost, sml, List.cons.injEq, DV.b.injEq, and_true, List.length_cons, List.length_nil]); first | done | omega | assumption | grind [getD_set, getD_rep, toNat_succ, cntN_yes, cntN_no])
   rfl
  ·
   refine bR_dec (fun h6 => ?_) (fun h6 => ?_)
   ·
    refine req_i ?_ ?_
    · -- r1
     first | omega | ((try simp only [sigSmall, smpV, smallPost, sml, List.cons.injEq, DV.b.injEq, and_true, List.length_cons, List.length_nil]); first | done | omega | assumption | grind [getD_set, getD_rep, toNat_succ, cntN_yes, cntN_no])
    rfl
   ·
    refine bR_dec (fun h7 => ?_) (fun h7 => ?_)
    ·
     refine req_i ?_ ?_
     · -- r2
      first | omega | ((try simp only [sigSmall, smpV, smallPost, sml, List.cons.injEq, DV.b.injEq, and_true, List.length_cons, List.length_nil]); first | done | omega | assumption | grind [getD_set, getD_rep, toNat_succ, cntN_yes, cntN_no])
     rfl
    ·
     refine bR_dec (fun h8 => ?_) (fun h8 => ?_)
     ·
      refine req_i ?_ ?_
      · -- r3
       first | omega | ((try simp only [sigSmall, smpV, smallPost, sml, List.cons.injEq, DV.b.injEq, and_true, List.length_cons, List.length_nil]); first | done | omega | assumption | grind [getD_set, getD_rep, toNat_succ, cntN_yes, cntN_no])
      rfl
     ·
      refine req_i ?_ ?_
      · -- r4
       first | omega | ((try simp only [sigSmall, smpV, smallPost, sml, List.cons.injEq, DV.b.injEq, and_true, List.length_cons, List.length_nil]); first | done | omega | assumption | grind [getD_set, getD_rep, toNat_succ, cntN_yes, cntN_no])
      rfl
theorem ext_small : ∀ p ∈ ([] : List (Nat × Ext)), ExtRow Tryd.prog p.1 p.2 := by
  intro p hp
  cases hp
theorem cts_small : CtsOk Tryd.prog [] := fun f c h => by cases h
theorem fn_small : FnOk Tryd.prog 75 sigSmall gl11 := fn_sound (by kernel_rfl) ext_small cts_small names vt_small
end Go.Proofs.YtofeleohcpaclaaDoor

namespace Go.Proofs.YtofeleohcpaclaaDoor
open Go.Ev Go.Sp
set_option maxRecDepth 100000
theorem vc_entry : vcFn Tryd.prog [] noA gl11 100 88 sigEnt = (allB fun n0 : Int => 
impB ((-2 : Int) ≤ n0) (
impB (n0 ≤ (70 : Int)) (
impB (sigEnt.pre [DV.n n0]) (
reqB ((n0 % Int.ofNat (16 : Nat)).toNat < (17 : Nat)) (
reqB (Nat.add (0 : Nat) (n0 % Int.ofNat (16 : Nat)).toNat <
 [(127 : Int), (126 : Int), (125 : Int), (122 : Int), (117 : Int), (112 : Int), (106 : Int), (98 : Int), (90 : Int),
 (81 : Int), (71 : Int), (60 : Int), (49 : Int), (37 : Int), (25 : Int), (12 : Int), (0 : Int)].length) (
reqB (((16 : Int) - n0 % Int.ofNat (16 : Nat)).toNat < (17 : Nat)) (
reqB (Nat.add (0 : Nat) ((16 : Int) - n0 % Int.ofNat (16 : Nat)).toNat <
 [(127 : Int), (126 : Int), (125 : Int), (122 : Int), (117 : Int), (112 : Int), (106 : Int), (98 : Int), (90 : Int),
 (81 : Int), (71 : Int), (60 : Int), (49 : Int), (37 : Int), (25 : Int), (12 : Int), (0 : Int)].length) (
bR (dec (n0 / Int.ofNat (16 : Nat) % Int.ofNat (4 : Nat) = (1 : Int))) (
 reqB ((-127 : Int) ≤
 (0 : Int) -
 [(127 : Int), (126 : Int), (125 : Int), (122 : Int), (117 : Int), (112 : Int), (106 : Int), (98 : Int), (90 : Int),
 (81 : Int), (71 : Int), (60 : Int), (49 : Int), (37 : Int), (25 : Int), (12 : Int), (0 : Int)].getD
 (Nat.add (0 : Nat) ((16 : Int) - n0 % Int.ofNat (16 : Nat)).toNat) (0 : Int)) (
 reqB ((0 : Int) -
 [(127 : Int), (126 : Int), (125 : Int), (122 : Int), (117 : Int), (112 : Int), (106 : Int), (98 : Int), (90 : Int),
 (81 : Int), (71 : Int), (60 : Int), (49 : Int), (37 : Int), (25 : Int), (12 : Int), (0 : Int)].getD
 (Nat.add (0 : Nat) ((16 : Int) - n0 % Int.ofNat (16 : Nat)).toNat) (0 : Int) ≤
 (127 : Int)) (
 reqB ((-127 : Int) ≤
 [(127 : Int), (126 : Int), (125 : Int), (122 : Int), (117 : Int), (112 : Int), (106 : Int), (98 : Int), (90 : Int),
 (81 : Int), (71 : Int), (60 : Int), (49 : Int), (37 : Int), (25 : Int), (12 : Int), (0 : Int)].getD
 (Nat.add (0 : Nat) (n0 % Int.ofNat (16 : Nat)).toNat) (0 : Int)) (
 reqB ([(127 : Int), (126 : Int), (125 : Int), (122 : Int), (117 : Int), (112 : Int), (106 : Int), (98 : Int), (90 : Int),
 (81 : Int), (71 : Int), (60 : Int), (49 : Int), (37 : Int), (25 : Int), (12 : Int), (0 : Int)].getD
 (Nat.add (0 : Nat) (n0 % Int.ofNat (16 : Nat)).toNat) (0 : Int) ≤
 (127 : Int)) (
 reqB (sigEnt.post [DV.n n0]
 [DV.n
 ((0 : Int) -
 [(127 : Int), (126 : Int), (125 : Int), (122 : Int), (117 : Int), (112 : Int), (106 : Int), (98 : Int),
 (90 : Int), (81 : Int), (71 : Int), (60 : Int), (49 : Int), (37 : Int), (25 : Int), (12 : Int),
 (0 : Int)].getD
 (Nat.add (0 : Nat) ((16 : Int) - n0 % Int.ofNat (16 : Nat)).toNat) (0 : Int)),
 DV.n
 ([(127 : Int), (126 : Int), (125 : Int), (122 : Int), (117 : Int), (112 : Int), (106 : Int), (98 : Int),
 (90 : Int), (81 : Int), (71 : Int), (60 : Int), (49 : Int), (37 : Int), (25 : Int), (12 : Int),
 (0 : Int)].getD
 (Nat.add (0 : Nat) (n0 % Int.ofNat (16 : Nat)).toNat) (0 : Int))]) (
 true)))))) (
 bR (dec (n0 / Int.ofNat (16 : Nat) % Int.ofNat (4 : Nat) = (2 : Int))) (
 reqB ((-127 : Int) ≤
 (0 : Int) -
 [(127 : Int), (126 : Int), (125 : Int), (122 : Int), (117 : Int), (112 : Int), (106 : Int), (98 : Int), (90 : Int),
 (81 : Int), (71 : Int), (60 : Int), (49 : Int), (37 : Int), (25 : Int), (12 : Int), (0 : Int)].getD
 (Nat.add (0 : Nat) (n0 % Int.ofNat (16 : Nat)).toNat) (0 : Int)) (
 reqB ((0 : Int) -
 [(127 : Int), (126 : Int), (125 : Int), (122 : Int), (117 : Int), (112 : Int), (106 : Int), (98 : Int), (90 : Int),
 (81 : Int), (71 : Int), (60 : Int), (49 : Int), (37 : Int), (25 : Int), (12 : Int), (0 : Int)].getD
 (Nat.add (0 : Nat) (n0 % Int.ofNat (16 : Nat)).toNat) (0 : Int) ≤
 (127 : Int)) (
 reqB ((-127 : Int) ≤
 (0 : Int) -
 [(127 : Int), (126 : Int), (125 : Int), (122 : Int), (117 : Int), (112 : Int), (106 : Int), (98 : Int), (90 : Int),
 (81 : Int), (71 : Int), (60 : Int), (49 : Int), (37 : Int), (25 : Int), (12 : Int), (0 : Int)].getD
 (Nat.add (0 : Nat) ((16 : Int) - n0 % Int.ofNat (16 : Nat)).toNat) (0 : Int)) (
 reqB ((0 : Int) -
 [(127 : Int), (126 : Int), (125 : Int), (122 : Int), (117 : Int), (112 : Int), (106 : Int), (98 : Int), (90 : Int),
 (81 : Int), (71 : Int), (60 : Int), (49 : Int), (37 : Int), (25 : Int), (12 : Int), (0 : Int)].getD
 (Nat.add (0 : Nat) ((16 : Int) - n0 % Int.ofNat (16 : Nat)).toNat) (0 : Int) ≤
 (127 : Int)) (
 reqB (sigEnt.post [DV.n n0]
 [DV.n
 ((0 : Int) -
 [(127 : Int), (126 : Int), (125 : Int), (122 : Int), (117 : Int), (112 : Int), (106 : Int), (98 : Int),
 (90 : Int), (81 : Int), (71 : Int), (60 : Int), (49 : Int), (37 : Int), (25 : Int), (12 : Int),
 (0 : Int)].getD
 (Nat.add (0 : Nat) (n0 % Int.ofNat (16 : Nat)).toNat) (0 : Int)),
 DV.n
 ((0 : Int) -
 [(127 : Int), (126 : Int), (125 : Int), (122 : Int), (117 : Int), (112 : Int), (106 : Int), (98 : Int),
 (90 : Int), (81 : Int), (71 : Int), (60 : Int), (49 : Int), (37 : Int), (25 : Int), (12 : Int),
 (0 : Int)].getD
 (Nat.add (0 : Nat) ((16 : Int) - n0 % Int.ofNat (16 : Nat)).toNat) (0 : Int))]) (
 true)))))) (
 bR (dec (n0 / Int.ofNat (16 : Nat) % Int.ofNat (4 : Nat) = (3 : Int))) (
 reqB ((-127 : Int) ≤
 [(127 : Int), (126 : Int), (125 : Int), (122 : Int), (117 : Int), (112 : Int), (106 : Int), (98 : Int), (90 : Int),
 (81 : Int), (71 : Int), (60 : Int), (49 : Int), (37 : Int), (25 : Int), (12 : Int), (0 : Int)].getD
 (Nat.add (0 : Nat) ((16 : Int) - n0 % Int.ofNat (16 : Nat)).toNat) (0 : Int)) (
 reqB ([(127 : Int), (126 : Int), (125 : Int), (122 : Int), (117 : Int), (112 : Int), (106 : Int), (98 : Int), (90 : Int),
 (81 : Int), (71 : Int), (60 : Int), (49 : Int), (37 : Int), (25 : Int), (12 : Int), (0 : Int)].getD
 (Nat.add (0 : Nat) ((16 : Int) - n0 % Int.ofNat (16 : Nat)).toNat) (0 : Int) ≤
 (127 : Int)) (
 reqB ((-127 : Int) ≤
 (0 : Int) -
 [(127 : Int), (126 : Int), (125 : Int), (122 : Int), (117 : Int), (112 : Int), (106 : Int), (98 : Int), (90 : Int),
 (81 : Int), (71 : Int), (60 : Int), (49 : Int), (37 : Int), (25 : Int), (12 : Int), (0 : Int)].getD
 (Nat.add (0 : Nat) (n0 % Int.ofNat (16 : Nat)).toNat) (0 : Int)) (
 reqB ((0 : Int) -
 [(127 : Int), (126 : Int), (125 : Int), (122 : Int), (117 : Int), (112 : Int), (106 : Int), (98 : Int), (90 : Int),
 (81 : Int), (71 : Int), (60 : Int), (49 : Int), (37 : Int), (25 : Int), (12 : Int), (0 : Int)].getD
 (Nat.add (0 : Nat) (n0 % Int.ofNat (16 : Nat)).toNat) (0 : Int) ≤
 (127 : Int)) (
 reqB (sigEnt.post [DV.n n0]
 [DV.n
 ([(127 : Int), (126 : Int), (125 : Int), (122 : Int), (117 : Int), (112 : Int), (106 : Int), (98 : Int),
 (90 : Int), (81 : Int), (71 : Int), (60 : Int), (49 : Int), (37 : Int), (25 : Int), (12 : Int),
 (0 : Int)].getD
 (Nat.add (0 : Nat) ((16 : Int) - n0 % Int.ofNat (16 : Nat)).toNat) (0 : Int)),
 DV.n
 ((0 : Int) -
 [(127 : Int), (126 : Int), (125 : Int), (122 : Int), (117 : Int), (112 : Int), (106 : Int), (98 : Int),
 (90 : Int), (81 : Int), (71 : Int), (60 : Int), (49 : Int), (37 : Int), (25 : Int), (12 : Int),
 (0 : Int)].getD
 (Nat.add (0 : Nat) (n0 % Int.ofNat (16 : Nat)).toNat) (0 : Int))]) (
 true)))))) (
 reqB ((-127 : Int) ≤
 [(127 : Int), (126 : Int), (125 : Int), (122 : Int), (117 : Int), (112 : Int), (106 : Int), (98 : Int), (90 : Int),
 (81 : Int), (71 : Int), (60 : Int), (49 : Int), (37 : Int), (25 : Int), (12 : Int), (0 : Int)].getD
 (Nat.add (0 : Nat) (n0 % Int.ofNat (16 : Nat)).toNat) (0 : Int)) (
 reqB ([(127 : Int), (126 : Int), (125 : Int), (122 : Int), (117 : Int), (112 : Int), (106 : Int), (98 : Int), (90 : Int),
 (81 : Int), (71 : Int), (60 : Int), (49 : Int), (37 : Int), (25 : Int), (12 : Int), (0 : Int)].getD
 (Nat.add (0 : Nat) (n0 % Int.ofNat (16 : Nat)).toNat) (0 : Int) ≤
 (127 : Int)) (
 reqB ((-127 : Int) ≤
 [(127 : Int), (126 : Int), (125 : Int), (122 : Int), (117 : Int), (112 : Int), (106 : Int), (98 : Int), (90 : Int),
 (81 : Int), (71 : Int), (60 : Int), (49 : Int), (37 : Int), (25 : Int), (12 : Int), (0 : Int)].getD
 (Nat.add (0 : Nat) ((16 : Int) - n0 % Int.ofNat (16 : Nat)).toNat) (0 : Int)) (
 reqB ([(127 : Int), (126 : Int), (125 : Int), (122 : Int), (117 : Int), (112 : Int), (106 : Int), (98 : Int), (90 : Int),
 (81 : Int), (71 : Int), (60 : Int), (49 : Int), (37 : Int), (25 : Int), (12 : Int), (0 : Int)].getD
 (Nat.add (0 : Nat) ((16 : Int) - n0 % Int.ofNat (16 : Nat)).toNat) (0 : Int) ≤
 (127 : Int)) (
 reqB (sigEnt.post [DV.n n0]
 [DV.n
 ([(127 : Int), (126 : Int), (125 : Int), (122 : Int), (117 : Int), (112 : Int), (106 : Int), (98 : Int),
 (90 : Int), (81 : Int), (71 : Int), (60 : Int), (49 : Int), (37 : Int), (25 : Int), (12 : Int),
 (0 : Int)].getD
 (Nat.add (0 : Nat) (n0 % Int.ofNat (16 : Nat)).toNat) (0 : Int)),
 DV.n
 ([(127 : Int), (126 : Int), (125 : Int), (122 : Int), (117 : Int), (112 : Int), (106 : Int), (98 : Int),
 (90 : Int), (81 : Int), (71 : Int), (60 : Int), (49 : Int), (37 : Int), (25 : Int), (12 : Int),
 (0 : Int)].getD
 (Nat.add (0 : Nat) ((16 : Int) - n0 % Int.ofNat (16 : Nat)).toNat) (0 : Int))]) (
 true)))))))))))))))) := by kernel_rfl
set_option maxHeartbeats 8000000 in
theorem vt_entry : vcFn Tryd.prog [] noA gl11 100 88 sigEnt = true := by
  rw [vc_entry]
  try simp only [Int.toNat_natCast, List.length_set, List.length_replicate, List.length_take, List.length_drop, List.length_append, List.length_cons, List.length_nil, Nat.min_self, List.take_take, lenCols_i, lenCols_b, List.drop_zero, List.take_length, Nat.add_eq, Nat.mul_eq, Nat.sub_eq, Nat.zero_add, Nat.sub_zero, Nat.mul_one]
  refine all_i fun n0 => ?_
  refine imp_i fun h0 => ?_
  refine imp_i fun h1 => ?_
  refine imp_i fun h2 => ?_
  try simp only [sigEnt, entPost, List.cons.injEq, DV.b.injEq, and_true, List.length_cons, List.length_nil] at h2
  refine req_i ?_ ?_
  · -- r0
   (try revert h3); (try revert h4); (try revert h5); (try revert h6); (try simp only [sigEnt, entPost]); (apply upto _ n0 h0 h1); decide +kernel
  refine req_i ?_ ?_
  · -- r1
   (try revert h3); (try revert h4); (try revert h5); (try revert h6); (try simp only [sigEnt, entPost]); (apply upto _ n0 h0 h1); decide +kernel
  refine req_i ?_ ?_
  · -- r2
   (try revert h3); (try revert h4); (try revert h5); (try revert h6); (try simp only [sigEnt, entPost]); (apply upto _ n0 h0 h1); decide +kernel
  refine req_i ?_ ?_
  · -- r3
   (try revert h3); (try revert h4); (try revert h5); (try revert h6); (try simp only [sigEnt, entPost]); (apply upto _ n0 h0 h1); decide +kernel
  refine bR_dec (fun h3 => ?_) (fun h3 => ?_)
  ·
   refine req_i ?_ ?_
   · -- r4
    (try revert h3); (try revert h4); (try revert h5); (try revert h6); (try simp only [sigEnt, entPost]); (apply upto _ n0 h0 h1); decide +kernel
   refine req_i ?_ ?_
   · -- r5
    (try revert h3); (try revert h4); (try revert h5); (try revert h6); (try simp only [sigEnt, entPost]); (apply upto _ n0 h0 h1); decide +kernel
   refine req_i ?_ ?_
   · -- r6
    (try revert h3); (try revert h4); (try revert h5); (try revert h6); (try simp only [sigEnt, entPost]); (apply upto _ n0 h0 h1); decide +kernel
   refine req_i ?_ ?_
   · -- r7
    (try revert h3); (try revert h4); (try revert h5); (try revert h6); (try simp only [sigEnt, entPost]); (apply upto _ n0 h0 h1); decide +kernel
   refine req_i ?_ ?_
   · -- r8
    (try revert h3); (try revert h4); (try revert h5); (try revert h6); (try simp only [sigEnt, entPost]); (apply upto _ n0 h0 h1); decide +kernel
   rfl
  ·
   refine bR_dec (fun h4 => ?_) (fun h4 => ?_)
   ·
    refine req_i ?_ ?_
    · -- r9
     (try revert h3); (try revert h4); (try revert h5); (try revert h6); (try simp only [sigEnt, entPost]); (apply upto _ n0 h0 h1); decide +kernel
    refine req_i ?_ ?_
    · -- r10
     (try revert h3); (try revert h4); (try revert h5); (try revert h6); (try simp only [sigEnt, entPost]); (apply upto _ n0 h0 h1); decide +kernel
    refine req_i ?_ ?_
    · -- r11
     (try revert h3); (try revert h4); (try revert h5); (try revert h6); (try simp only [sigEnt, entPost]); (apply upto _ n0 h0 h1); decide +kernel
    refine req_i ?_ ?_
    · -- r12
     (try revert h3); (try revert h4); (try revert h5); (try revert h6); (try simp only [sigEnt, entPost]); (apply upto _ n0 h0 h1); decide +kernel
    refine req_i ?_ ?_
    · -- r13
     (try revert h3); (try revert h4); (try revert h5); (try revert h6); (try simp only [sigEnt, entPost]); (apply upto _ n0 h0 h1); decide +kernel
    rfl
   ·
    refine bR_dec (fun h5 => ?_) (fun h5 => ?_)
    ·
     refine req_i ?_ ?_
     · -- r14
      (try revert h3); (try revert h4); (try revert h5); (try revert h6); (try simp only [sigEnt, entPost]); (apply upto _ n0 h0 h1); decide +kernel
     refine req_i ?_ ?_
     · -- r15
      (try revert h3); (try revert h4); (try revert h5); (try revert h6); (try simp only [sigEnt, entPost]); (apply upto _ n0 h0 h1); decide +kernel
     refine req_i ?_ ?_
     · -- r16
      (try revert h3); (try revert h4); (try revert h5); (try revert h6); (try simp only [sigEnt, entPost]); (apply upto _ n0 h0 h1); decide +kernel
     refine req_i ?_ ?_
     · -- r17
      (try revert h3); (try revert h4); (try revert h5); (try revert h6); (try simp only [sigEnt, entPost]); (apply upto _ n0 h0 h1); decide +kernel
     refine req_i ?_ ?_
     · -- r18
      (try revert h3); (try revert h4); (try revert h5); (try revert h6); (try simp only [sigEnt, entPost]); (apply upto _ n0 h0 h1); decide +kernel
     rfl
    ·
     refine req_i ?_ ?_
     · -- r19
      (try revert h3); (try revert h4); (try revert h5); (try revert h6); (try simp only [sigEnt, entPost]); (apply upto _ n0 h0 h1); decide +kernel
     refine req_i ?_ ?_
     · -- r20
      (try revert h3); (try revert h4); (try revert h5); (try revert h6); (try simp only [sigEnt, entPost]); (apply upto _ n0 h0 h1); decide +kernel
     refine req_i ?_ ?_
     · -- r21
      (try revert h3); (try revert h4); (try revert h5); (try revert h6); (try simp only [sigEnt, entPost]); (apply upto _ n0 h0 h1); decide +kernel
     refine req_i ?_ ?_
     · -- r22
      (try revert h3); (try revert h4); (try revert h5); (try revert h6); (try simp only [sigEnt, entPost]); (apply upto _ n0 h0 h1); decide +kernel
     refine req_i ?_ ?_
     · -- r23
      (try revert h3); (try revert h4); (try revert h5); (try revert h6); (try simp only [sigEnt, entPost]); (apply upto _ n0 h0 h1); decide +kernel
     rfl
theorem ext_entry : ∀ p ∈ ([] : List (Nat × Ext)), ExtRow Tryd.prog p.1 p.2 := by
  intro p hp
  cases hp
theorem cts_entry : CtsOk Tryd.prog [] := fun f c h => by cases h
theorem fn_entry : FnOk Tryd.prog 88 sigEnt gl11 := fn_sound (by kernel_rfl) ext_entry cts_entry names vt_entry
end Go.Proofs.YtofeleohcpaclaaDoor

namespace Go.Proofs.YtofeleohcpaclaaDoor
open Go.Ev Go.Sp
set_option maxRecDepth 100000
theorem vc_bnd : vcFn Tryd.prog [(88, Ext.ctr (ctOfG gl11 sigEnt))] noA gl11 100 77 sigBnd = (allB fun n0 : Int => 
impB ((-1 : Int) ≤ n0) (
impB (n0 ≤ (64 : Int)) (
impB (sigBnd.pre [DV.n n0]) (
reqB ((-2 : Int) ≤ n0) (
reqB (n0 ≤ (70 : Int)) (
reqB (sigEnt.pre [DV.n n0]) (
allB fun n1 : Int => 
impB ((-127 : Int) ≤ n1) (
impB (n1 ≤ (127 : Int)) (
allB fun n2 : Int => 
impB ((-127 : Int) ≤ n2) (
impB (n2 ≤ (127 : Int)) (
impB (sigEnt.post [DV.n n0] [DV.n n1, DV.n n2]) (
reqB ((-2 : Int) ≤ n0 + (1 : Int)) (
reqB (n0 + (1 : Int) ≤ (70 : Int)) (
reqB (sigEnt.pre [DV.n (n0 + (1 : Int))]) (
allB fun n3 : Int => 
impB ((-127 : Int) ≤ n3) (
impB (n3 ≤ (127 : Int)) (
allB fun n4 : Int => 
impB ((-127 : Int) ≤ n4) (
impB (n4 ≤ (127 : Int)) (
impB (sigEnt.post [DV.n (n0 + (1 : Int))] [DV.n n3, DV.n n4]) (
reqB ((-254 : Int) ≤ n1 + n3) (
reqB (n1 + n3 ≤ (254 : Int)) (
reqB ((-254 : Int) ≤ n2 + n4) (
reqB (n2 + n4 ≤ (254 : Int)) (
reqB (sigBnd.post [DV.n n0] [DV.n (n1 + n3), DV.n (n2 + n4)]) (
true))))))))))))))))))))))))) := by kernel_rfl
set_option maxHeartbeats 8000000 in
theorem vt_bnd : vcFn Tryd.prog [(88, Ext.ctr (ctOfG gl11 sigEnt))] noA gl11 100 77 sigBnd = true := by
  rw [vc_bnd]
  try simp only [Int.toNat_natCast, List.length_set, List.length_replicate, List.length_take, List.length_drop, List.length_append, List.length_cons, List.length_nil, Nat.min_self, List.take_take, lenCols_i, lenCols_b, List.drop_zero, List.take_length, Nat.add_eq, Nat.mul_eq, Nat.sub_eq, Nat.zero_add, Nat.sub_zero, Nat.mul_one]
  refine all_i fun n0 => ?_
  refine imp_i fun h0 => ?_
  refine imp_i fun h1 => ?_
  refine imp_i fun h2 => ?_
  try simp only [sigBnd, bndPost, List.cons.injEq, DV.b.injEq, and_true, List.length_cons, List.length_nil] at h2
  refine req_i ?_ ?_
  · -- r0
   first | omega | assumption | grind
  refine req_i ?_ ?_
  · -- r1
   first | omega | assumption | grind
  refine req_i ?_ ?_
  · -- r2
   first | trivial | assumption | (simp only [sigEnt, entPost, List.cons.injEq, DV.b.injEq, and_true, List.length_cons, List.length_nil]; done) | ((try simp only [sigEnt, entPost, List.cons.injEq, DV.b.injEq, and_true, List.length_cons, List.length_nil]); first | omega | assumption | grind)
  refine all_i fun n1 => ?_
  refine imp_i fun h3 => ?_
  refine imp_i fun h4 => ?_
  refine all_i fun n2 => ?_
  refine imp_i fun h5 => ?_
  refine imp_i fun h6 => ?_
  refine imp_i fun h7 => ?_
  try simp only [sigEnt, entPost, List.cons.injEq, DV.b.injEq, and_true, List.length_cons, List.length_nil] at h7
  refine req_i ?_ ?_
  · -- r3
   first | omega | assumption | grind
  refine req_i ?_ ?_
  · -- r4
   first | omega | assumption | grind
  refine req_i ?_ ?_
  · -- r5
   first | trivial | assumption | (simp only [sigEnt, entPost, List.cons.injEq, DV.b.injEq, and_true, List.length_cons, List.length_nil]; done) | ((try simp only [sigEnt, entPost, List.cons.injEq, DV.b.injEq, and_true, List.length_cons, List.length_nil]); first | omega | assumption | grind)
  refine all_i fun n3 => ?_
  refine imp_i fun h8 => ?_
  refine imp_i fun h9 => ?_
  refine all_i fun n4 => ?_
  refine imp_i fun h10 => ?_
  refine imp_i fun h11 => ?_
  refine imp_i fun h12 => ?_
  try simp only [sigEnt, entPost, List.cons.injEq, DV.b.injEq, and_true, List.length_cons, List.length_nil] at h12
  refine req_i ?_ ?_
  · -- r6
   first | omega | assumption | grind
  refine req_i ?_ ?_
  · -- r7
   first | omega | assumption | grind
  refine req_i ?_ ?_
  · -- r8
   first | omega | assumption | grind
  refine req_i ?_ ?_
  · -- r9
   first | omega | assumption | grind
  refine req_i ?_ ?_
  · -- r10
   simp only [sigBnd, bndPost, bI, bQ]; omega
  rfl
theorem ext_bnd : ∀ p ∈ ([(88, Ext.ctr (ctOfG gl11 sigEnt))] : List (Nat × Ext)), ExtRow Tryd.prog p.1 p.2 := by
  intro p hp
  simp only [List.mem_cons, List.not_mem_nil, or_false] at hp
  rcases hp with rfl
  · trivial
theorem cts_bnd : CtsOk Tryd.prog [(88, Ext.ctr (ctOfG gl11 sigEnt))] := ctsOk_ofG (cs := [(88, sigEnt)])
  (fun p hp => by
    simp only [List.mem_cons, List.not_mem_nil, or_false] at hp
    rcases hp with rfl
    · exact fn_entry
)
  (fun f c h => by
    simp only [List.lookup_cons] at h
    repeat' split at h
    all_goals first | (cases h; done) | (rename_i e; have e := beq_iff_eq.1 e; subst e; cases h; refine ⟨_, ?_, rfl⟩; simp))
theorem fn_bnd : FnOk Tryd.prog 77 sigBnd gl11 := fn_sound (by kernel_rfl) ext_bnd cts_bnd names vt_bnd
end Go.Proofs.YtofeleohcpaclaaDoor

namespace Go.Proofs.YtofeleohcpaclaaDoor
open Go.Ev Go.Sp
set_option maxRecDepth 100000
theorem vc_sector : vcFn Tryd.prog [(77, Ext.ctr (ctOfG gl11 sigBnd))] (fun f p _ => at2 f p 76 28 secL (none)) gl11 100 76 sigSec = (allB fun n0 : Int => 
impB ((-70368744177664 : Int) ≤ n0) (
impB (n0 ≤ (70368744177664 : Int)) (
allB fun n1 : Int => 
impB ((-70368744177664 : Int) ≤ n1) (
impB (n1 ≤ (70368744177664 : Int)) (
impB (sigSec.pre [DV.n n0, DV.n n1]) (
reqB ((-70368744177664 : Int) ≤ n0) (
reqB (n0 ≤ (70368744177664 : Int)) (
reqB ((-70368744177664 : Int) ≤ n1) (
reqB (n1 ≤ (70368744177664 : Int)) (
reqB (secL.inv [DV.n n0, DV.n n1] [DV.n (0 : Int), DV.n n0, DV.n n1]) (
allB fun n2 : Int => 
impB ((0 : Int) ≤ n2) (
impB (n2 ≤ (3 : Int)) (
allB fun n3 : Int => 
impB ((-70368744177664 : Int) ≤ n3) (
impB (n3 ≤ (70368744177664 : Int)) (
allB fun n4 : Int => 
impB ((-70368744177664 : Int) ≤ n4) (
impB (n4 ≤ (70368744177664 : Int)) (
impB (secL.inv [DV.n n0, DV.n n1] [DV.n n2, DV.n n3, DV.n n4]) (
reqB (sigBnd.pre [DV.n (-1 : Int)]) (
allB fun n5 : Int => 
impB ((-254 : Int) ≤ n5) (
impB (n5 ≤ (254 : Int)) (
allB fun n6 : Int => 
impB ((-254 : Int) ≤ n6) (
impB (n6 ≤ (254 : Int)) (
impB (sigBnd.post [DV.n (-1 : Int)] [DV.n n5, DV.n n6]) (
bR (dec (n5 * n4 - n6 * n3 < (0 : Int))) (
 reqB ((0 : Int) ≤ n2 + (1 : Int)) (
 reqB (n2 + (1 : Int) ≤ (3 : Int)) (
 reqB ((-70368744177664 : Int) ≤ n4) (
 reqB (n4 ≤ (70368744177664 : Int)) (
 reqB ((-70368744177664 : Int) ≤ (0 : Int) - n3) (
 reqB ((0 : Int) - n3 ≤ (70368744177664 : Int)) (
 reqB (secL.inv [DV.n n0, DV.n n1] [DV.n (n2 + (1 : Int)), DV.n n4, DV.n ((0 : Int) - n3)]) (
 reqB (secL.mea [DV.n n0, DV.n n1]
 [DV.n (n2 + (1 : Int)), DV.n n4, DV.n ((0 : Int) - n3)] <
 secL.mea [DV.n n0, DV.n n1] [DV.n n2, DV.n n3, DV.n n4]) (
 true))))))))) (
 reqB (sigBnd.pre [DV.n (15 : Int)]) (
 allB fun n7 : Int => 
 impB ((-254 : Int) ≤ n7) (
 impB (n7 ≤ (254 : Int)) (
 allB fun n8 : Int => 
 impB ((-254 : Int) ≤ n8) (
 impB (n8 ≤ (254 : Int)) (
 impB (sigBnd.post [DV.n (15 : Int)] [DV.n n7, DV.n n8]) (
 bR (dec (n3 * n8 - n4 * n7 ≤ (0 : Int))) (
 reqB ((0 : Int) ≤ n2 + (1 : Int)) (
 reqB (n2 + (1 : Int) ≤ (3 : Int)) (
 reqB ((-70368744177664 : Int) ≤ n4) (
 reqB (n4 ≤ (70368744177664 : Int)) (
 reqB ((-70368744177664 : Int) ≤ (0 : Int) - n3) (
 reqB ((0 : Int) - n3 ≤ (70368744177664 : Int)) (
 reqB (secL.inv [DV.n n0, DV.n n1] [DV.n (n2 + (1 : Int)), DV.n n4, DV.n ((0 : Int) - n3)]) (
 reqB (secL.mea [DV.n n0, DV.n n1]
 [DV.n (n2 + (1 : Int)), DV.n n4, DV.n ((0 : Int) - n3)] <
 secL.mea [DV.n n0, DV.n n1] [DV.n n2, DV.n n3, DV.n n4]) (
 true))))))))) (
 reqB (sigBnd.pre [DV.n (Int.ofNat (8 : Nat))]) (
 allB fun n9 : Int => 
 impB ((-254 : Int) ≤ n9) (
 impB (n9 ≤ (254 : Int)) (
 allB fun n10 : Int => 
 impB ((-254 : Int) ≤ n10) (
 impB (n10 ≤ (254 : Int)) (
 impB (sigBnd.post [DV.n (Int.ofNat (8 : Nat))] [DV.n n9, DV.n n10]) (
 bR (bR (dec ((0 : Int) < n3 * n10 - n4 * n9)) (
 false) (
 true)) (
 reqB (sigBnd.pre [DV.n (Int.ofNat (12 : Nat))]) (
 allB fun n11 : Int => 
 impB ((-254 : Int) ≤ n11) (
 impB (n11 ≤ (254 : Int)) (
 allB fun n12 : Int => 
 impB ((-254 : Int) ≤ n12) (
 impB (n12 ≤ (254 : Int)) (
 impB (sigBnd.post [DV.n (Int.ofNat (12 : Nat))] [DV.n n11, DV.n n12]) (
 bR (bR (dec ((0 : Int) < n3 * n12 - n4 * n11)) (
 false) (
 true)) (
 reqB (sigBnd.pre [DV.n (Int.ofNat (14 : Nat))]) (
 allB fun n13 : Int => 
 impB ((-254 : Int) ≤ n13) (
 impB (n13 ≤ (254 : Int)) (
 allB fun n14 : Int => 
 impB ((-254 : Int) ≤ n14) (
 impB (n14 ≤ (254 : Int)) (
 impB (sigBnd.post [DV.n (Int.ofNat (14 : Nat))] [DV.n n13, DV.n n14]) (
 bR (bR (dec ((0 : Int) < n3 * n14 - n4 * n13)) (
 false) (
 true)) (
 reqB (sigBnd.pre [DV.n (Int.ofNat (15 : Nat))]) (
 allB fun n15 : Int => 
 impB ((-254 : Int) ≤ n15) (
 impB (n15 ≤ (254 : Int)) (
 allB fun n16 : Int => 
 impB ((-254 : Int) ≤ n16) (
 impB (n16 ≤ (254 : Int)) (
 impB (sigBnd.post [DV.n (Int.ofNat (15 : Nat))] [DV.n n15, DV.n n16]) (
 bR (bR (dec ((0 : Int) < n3 * n16 - n4 * n15)) (
 false) (
 true)) (
 reqB ((0 : Int) ≤ (16 : Int) * n2 + Int.ofNat (16 : Nat)) (
 reqB ((16 : Int) * n2 + Int.ofNat (16 : Nat) ≤ (63 : Int)) (
 reqB (sigSec.post [DV.n n0, DV.n n1] [DV.n ((16 : Int) * n2 + Int.ofNat (16 : Nat))]) (
 true)))) (
 reqB ((0 : Int) ≤ (16 : Int) * n2 + Int.ofNat (15 : Nat)) (
 reqB ((16 : Int) * n2 + Int.ofNat (15 : Nat) ≤ (63 : Int)) (
 reqB (sigSec.post [DV.n n0, DV.n n1] [DV.n ((16 : Int) * n2 + Int.ofNat (15 : Nat))]) (
 true))))))))))) (
 reqB (sigBnd.pre [DV.n (Int.ofNat (13 : Nat))]) (
 allB fun n17 : Int => 
 impB ((-254 : Int) ≤ n17) (
 impB (n17 ≤ (254 : Int)) (
 allB fun n18 : Int => 
 impB ((-254 : Int) ≤ n18) (
 impB (n18 ≤ (254 : Int)) (
 impB (sigBnd.post [DV.n (Int.ofNat (13 : Nat))] [DV.n n17, DV.n n18]) (
 bR (bR (dec ((0 : Int) < n3 * n18 - n4 * n17)) (
 false) (
 true)) (
 reqB ((0 : Int) ≤ (16 : Int) * n2 + Int.ofNat (14 : Nat)) (
 reqB ((16 : Int) * n2 + Int.ofNat (14 : Nat) ≤ (63 : Int)) (
 reqB (sigSec.post [DV.n n0, DV.n n1] [DV.n ((16 : Int) * n2 + Int.ofNat (14 : Nat))]) (
 true)))) (
 reqB ((0 : Int) ≤ (16 : Int) * n2 + Int.ofNat (13 : Nat)) (
 reqB ((16 : Int) * n2 + Int.ofNat (13 : Nat) ≤ (63 : Int)) (
 reqB (sigSec.post [DV.n n0, DV.n n1] [DV.n ((16 : Int) * n2 + Int.ofNat (13 : Nat))]) (
 true)))))))))))))))))) (
 reqB (sigBnd.pre [DV.n (Int.ofNat (10 : Nat))]) (
 allB fun n19 : Int => 
 impB ((-254 : Int) ≤ n19) (
 impB (n19 ≤ (254 : Int)) (
 allB fun n20 : Int => 
 impB ((-254 : Int) ≤ n20) (
 impB (n20 ≤ (254 : Int)) (
 impB (sigBnd.post [DV.n (Int.ofNat (10 : Nat))] [DV.n n19, DV.n n20]) (
 bR (bR (dec ((0 : Int) < n3 * n20 - n4 * n19)) (
 false) (
 true)) (
 reqB (sigBnd.pre [DV.n (Int.ofNat (11 : Nat))]) (
 allB fun n21 : Int => 
 impB ((-254 : Int) ≤ n21) (
 impB (n21 ≤ (254 : Int)) (
 allB fun n22 : Int => 
 impB ((-254 : Int) ≤ n22) (
 impB (n22 ≤ (254 : Int)) (
 impB (sigBnd.post [DV.n (Int.ofNat (11 : Nat))] [DV.n n21, DV.n n22]) (
 bR (bR (dec ((0 : Int) < n3 * n22 - n4 * n21)) (
 false) (
 true)) (
 reqB ((0 : Int) ≤ (16 : Int) * n2 + Int.ofNat (12 : Nat)) (
 reqB ((16 : Int) * n2 + Int.ofNat (12 : Nat) ≤ (63 : Int)) (
 reqB (sigSec.post [DV.n n0, DV.n n1] [DV.n ((16 : Int) * n2 + Int.ofNat (12 : Nat))]) (
 true)))) (
 reqB ((0 : Int) ≤ (16 : Int) * n2 + Int.ofNat (11 : Nat)) (
 reqB ((16 : Int) * n2 + Int.ofNat (11 : Nat) ≤ (63 : Int)) (
 reqB (sigSec.post [DV.n n0, DV.n n1] [DV.n ((16 : Int) * n2 + Int.ofNat (11 : Nat))]) (
 true))))))))))) (
 reqB (sigBnd.pre [DV.n (Int.ofNat (9 : Nat))]) (
 allB fun n23 : Int => 
 impB ((-254 : Int) ≤ n23) (
 impB (n23 ≤ (254 : Int)) (
 allB fun n24 : Int => 
 impB ((-254 : Int) ≤ n24) (
 impB (n24 ≤ (254 : Int)) (
 impB (sigBnd.post [DV.n (Int.ofNat (9 : Nat))] [DV.n n23, DV.n n24]) (
 bR (bR (dec ((0 : Int) < n3 * n24 - n4 * n23)) (
 false) (
 true)) (
 reqB ((0 : Int) ≤ (16 : Int) * n2 + Int.ofNat (10 : Nat)) (
 reqB ((16 : Int) * n2 + Int.ofNat (10 : Nat) ≤ (63 : Int)) (
 reqB (sigSec.post [DV.n n0, DV.n n1] [DV.n ((16 : Int) * n2 + Int.ofNat (10 : Nat))]) (
 true)))) (
 reqB ((0 : Int) ≤ (16 : Int) * n2 + Int.ofNat (9 : Nat)) (
 reqB ((16 : Int) * n2 + Int.ofNat (9 : Nat) ≤ (63 : Int)) (
 reqB (sigSec.post [DV.n n0, DV.n n1] [DV.n ((16 : Int) * n2 + Int.ofNat (9 : Nat))]) (
 true))))))))))))))))))))))))) (
 reqB (sigBnd.pre [DV.n (Int.ofNat (4 : Nat))]) (
 allB fun n25 : Int => 
 impB ((-254 : Int) ≤ n25) (
 impB (n25 ≤ (254 : Int)) (
 allB fun n26 : Int => 
 impB ((-254 : Int) ≤ n26) (
 impB (n26 ≤ (254 : Int)) (
 impB (sigBnd.post [DV.n (Int.ofNat (4 : Nat))] [DV.n n25, DV.n n26]) (
 bR (bR (dec ((0 : Int) < n3 * n26 - n4 * n25)) (
 false) (
 true)) (
 reqB (sigBnd.pre [DV.n (Int.ofNat (6 : Nat))]) (
 allB fun n27 : Int => 
 impB ((-254 : Int) ≤ n27) (
 impB (n27 ≤ (254 : Int)) (
 allB fun n28 : Int => 
 impB ((-254 : Int) ≤ n28) (
 impB (n28 ≤ (254 : Int)) (
 impB (sigBnd.post [DV.n (Int.ofNat (6 : Nat))] [DV.n n27, DV.n n28]) (
 bR (bR (dec ((0 : Int) < n3 * n28 - n4 * n27)) (
 false) (
 true)) (
 reqB (sigBnd.pre [DV.n (Int.ofNat (7 : Nat))]) (
 allB fun n29 : Int => 
 impB ((-254 : Int) ≤ n29) (
 impB (n29 ≤ (254 : Int)) (
 allB fun n30 : Int => 
 impB ((-254 : Int) ≤ n30) (
 impB (n30 ≤ (254 : Int)) (
 impB (sigBnd.post [DV.n (Int.ofNat (7 : Nat))] [DV.n n29, DV.n n30]) (
 bR (bR (dec ((0 : Int) < n3 * n30 - n4 * n29)) (
 false) (
 true)) (
 reqB ((0 : Int) ≤ (16 : Int) * n2 + Int.ofNat (8 : Nat)) (
 reqB ((16 : Int) * n2 + Int.ofNat (8 : Nat) ≤ (63 : Int)) (
 reqB (sigSec.post [DV.n n0, DV.n n1] [DV.n ((16 : Int) * n2 + Int.ofNat (8 : Nat))]) (
 true)))) (
 reqB ((0 : Int) ≤ (16 : Int) * n2 + Int.ofNat (7 : Nat)) (
 reqB ((16 : Int) * n2 + Int.ofNat (7 : Nat) ≤ (63 : Int)) (
 reqB (sigSec.post [DV.n n0, DV.n n1] [DV.n ((16 : Int) * n2 + Int.ofNat (7 : Nat))]) (
 true))))))))))) (
 reqB (sigBnd.pre [DV.n (Int.ofNat (5 : Nat))]) (
 allB fun n31 : Int => 
 impB ((-254 : Int) ≤ n31) (
 impB (n31 ≤ (254 : Int)) (
 allB fun n32 : Int => 
 impB ((-254 : Int) ≤ n32) (
 impB (n32 ≤ (254 : Int)) (
 impB (sigBnd.post [DV.n (Int.ofNat (5 : Nat))] [DV.n n31, DV.n n32]) (
 bR (bR (dec ((0 : Int) < n3 * n32 - n4 * n31)) (
 false) (
 true)) (
 reqB ((0 : Int) ≤ (16 : Int) * n2 + Int.ofNat (6 : Nat)) (
 reqB ((16 : Int) * n2 + Int.ofNat (6 : Nat) ≤ (63 : Int)) (
 reqB (sigSec.post [DV.n n0, DV.n n1] [DV.n ((16 : Int) * n2 + Int.ofNat (6 : Nat))]) (
 true)))) (
 reqB ((0 : Int) ≤ (16 : Int) * n2 + Int.ofNat (5 : Nat)) (
 reqB ((16 : Int) * n2 + Int.ofNat (5 : Nat) ≤ (63 : Int)) (
 reqB (sigSec.post [DV.n n0, DV.n n1] [DV.n ((16 : Int) * n2 + Int.ofNat (5 : Nat))]) (
 true)))))))))))))))))) (
 reqB (sigBnd.pre [DV.n (Int.ofNat (2 : Nat))]) (
 allB fun n33 : Int => 
 impB ((-254 : Int) ≤ n33) (
 impB (n33 ≤ (254 : Int)) (
 allB fun n34 : Int => 
 impB ((-254 : Int) ≤ n34) (
 impB (n34 ≤ (254 : Int)) (
 impB (sigBnd.post [DV.n (Int.ofNat (2 : Nat))] [DV.n n33, DV.n n34]) (
 bR (bR (dec ((0 : Int) < n3 * n34 - n4 * n33)) (
 false) (
 true)) (
 reqB (sigBnd.pre [DV.n (Int.ofNat (3 : Nat))]) (
 allB fun n35 : Int => 
 impB ((-254 : Int) ≤ n35) (
 impB (n35 ≤ (254 : Int)) (
 allB fun n36 : Int => 
 impB ((-254 : Int) ≤ n36) (
 impB (n36 ≤ (254 : Int)) (
 impB (sigBnd.post [DV.n (Int.ofNat (3 : Nat))] [DV.n n35, DV.n n36]) (
 bR (bR (dec ((0 : Int) < n3 * n36 - n4 * n35)) (
 false) (
 true)) (
 reqB ((0 : Int) ≤ (16 : Int) * n2 + Int.ofNat (4 : Nat)) (
 reqB ((16 : Int) * n2 + Int.ofNat (4 : Nat) ≤ (63 : Int)) (
 reqB (sigSec.post [DV.n n0, DV.n n1] [DV.n ((16 : Int) * n2 + Int.ofNat (4 : Nat))]) (
 true)))) (
 reqB ((0 : Int) ≤ (16 : Int) * n2 + Int.ofNat (3 : Nat)) (
 reqB ((16 : Int) * n2 + Int.ofNat (3 : Nat) ≤ (63 : Int)) (
 reqB (sigSec.post [DV.n n0, DV.n n1] [DV.n ((16 : Int) * n2 + Int.ofNat (3 : Nat))]) (
 true))))))))))) (
 reqB (sigBnd.pre [DV.n (Int.ofNat (1 : Nat))]) (
 allB fun n37 : Int => 
 impB ((-254 : Int) ≤ n37) (
 impB (n37 ≤ (254 : Int)) (
 allB fun n38 : Int => 
 impB ((-254 : Int) ≤ n38) (
 impB (n38 ≤ (254 : Int)) (
 impB (sigBnd.post [DV.n (Int.ofNat (1 : Nat))] [DV.n n37, DV.n n38]) (
 bR (bR (dec ((0 : Int) < n3 * n38 - n4 * n37)) (
 false) (
 true)) (
 reqB ((0 : Int) ≤ (16 : Int) * n2 + Int.ofNat (2 : Nat)) (
 reqB ((16 : Int) * n2 + Int.ofNat (2 : Nat) ≤ (63 : Int)) (
 reqB (sigSec.post [DV.n n0, DV.n n1] [DV.n ((16 : Int) * n2 + Int.ofNat (2 : Nat))]) (
 true)))) (
 reqB (sigBnd.pre [DV.n (Int.ofNat (0 : Nat))]) (
 allB fun n39 : Int => 
 impB ((-254 : Int) ≤ n39) (
 impB (n39 ≤ (254 : Int)) (
 allB fun n40 : Int => 
 impB ((-254 : Int) ≤ n40) (
 impB (n40 ≤ (254 : Int)) (
 impB (sigBnd.post [DV.n (Int.ofNat (0 : Nat))] [DV.n n39, DV.n n40]) (
 bR (bR (dec ((0 : Int) < n3 * n40 - n4 * n39)) (
 false) (
 true)) (
 reqB ((0 : Int) ≤ (16 : Int) * n2 + Int.ofNat (1 : Nat)) (
 reqB ((16 : Int) * n2 + Int.ofNat (1 : Nat) ≤ (63 : Int)) (
 reqB (sigSec.post [DV.n n0, DV.n n1] [DV.n ((16 : Int) * n2 + Int.ofNat (1 : Nat))]) (
 true)))) (
 reqB ((0 : Int) ≤ (16 : Int) * n2 + (0 : Int)) (
 reqB ((16 : Int) * n2 + (0 : Int) ≤ (63 : Int)) (
 reqB (sigSec.post [DV.n n0, DV.n n1] [DV.n ((16 : Int) * n2 + (0 : Int))]) (
 true)))))))))))))))))))))))))))))))))))))))))))))))))))))))))))))))))))))) := by kernel_rfl
set_option maxHeartbeats 8000000 in
theorem vt_sector : vcFn Tryd.prog [(77, Ext.ctr (ctOfG gl11 sigBnd))] (fun f p _ => at2 f p 76 28 secL (none)) gl11 100 76 sigSec = true := by
  rw [vc_sector]
  try simp only [Int.toNat_natCast, List.length_set, List.length_replicate, List.length_take, List.length_drop, List.length_append, List.length_cons, List.length_nil, Nat.min_self, List.take_take, lenCols_i, lenCols_b, List.drop_zero, List.take_length, Nat.add_eq, Nat.mul_eq, Nat.sub_eq, Nat.zero_add, Nat.sub_zero, Nat.mul_one]
  refine all_i fun n0 => ?_
  refine imp_i fun h0 => ?_
  refine imp_i fun h1 => ?_
  refine all_i fun n1 => ?_
  refine imp_i fun h2 => ?_
  refine imp_i fun h3 => ?_
  refine imp_i fun h4 => ?_
  try simp only [sigSec, smV, secPre, secPost, List.cons.injEq, DV.b.injEq, and_true, List.length_cons, List.length_nil] at h4
  refine req_i ?_ ?_
  · -- r0
   first | omega | assumption | grind
  refine req_i ?_ ?_
  · -- r1
   first | omega | assumption | grind
  refine req_i ?_ ?_
  · -- r2
   first | omega | assumption | grind
  refine req_i ?_ ?_
  · -- r3
   first | omega | assumption | grind
  refine req_i ?_ ?_
  · -- r4
   exact ⟨rfl, rfl, by omega, by omega, h4, fun j a b => by omega⟩
  refine all_i fun n2 => ?_
  refine imp_i fun h5 => ?_
  refine imp_i fun h6 => ?_
  refine all_i fun n3 => ?_
  refine imp_i fun h7 => ?_
  refine imp_i fun h8 => ?_
  refine all_i fun n4 => ?_
  refine imp_i fun h9 => ?_
  refine imp_i fun h10 => ?_
  refine imp_i fun h11 => ?_
  try simp only [secL, secInv, secMea, List.cons.injEq, DV.b.injEq, and_true, List.length_cons, List.length_nil] at h11
  refine req_i ?_ ?_
  · -- r5
   first | trivial | assumption | (simp only [sigBnd, bndPost, List.cons.injEq, DV.b.injEq, and_true, List.length_cons, List.length_nil]; done) | ((try simp only [sigBnd, bndPost, List.cons.injEq, DV.b.injEq, and_true, List.length_cons, List.length_nil]); first | omega | assumption | grind)
  refine all_i fun n5 => ?_
  refine imp_i fun h12 => ?_
  refine imp_i fun h13 => ?_
  refine all_i fun n6 => ?_
  refine imp_i fun h14 => ?_
  refine imp_i fun h15 => ?_
  refine imp_i fun h16 => ?_
  try simp only [sigBnd, bndPost, List.cons.injEq, DV.b.injEq, and_true, List.length_cons, List.length_nil] at h16
  obtain ⟨rfl, rfl⟩ : n5 = 253 ∧ n6 = -12 := ⟨h16.1.trans (by decide +kernel), h16.2.trans (by decide +kernel)⟩
  refine bR_dec (fun h17 => ?_) (fun h17 => ?_)
  ·
   have st := sec_step h11 (.inl (by unfold cr; rw [bI_0, bQ_0]; omega))
   refine req_i ?_ ?_
   · -- r6
    first | omega | assumption | grind
   refine req_i ?_ ?_
   · -- r7
    first | omega | assumption | grind
   refine req_i ?_ ?_
   · -- r8
    first | omega | assumption | grind
   refine req_i ?_ ?_
   · -- r9
    first | omega | assumption | grind
   refine req_i ?_ ?_
   · -- r10
    first | omega | assumption | grind
   refine req_i ?_ ?_
   · -- r11
    first | omega | assumption | grind
   refine req_i ?_ ?_
   · -- r12
    exact st.2
   refine req_i ?_ ?_
   · -- r13
    show (4 - (n2 + 1)).toNat < (4 - n2).toNat; omega
   rfl
  ·
   refine req_i ?_ ?_
   · -- r14
    first | trivial | assumption | (simp only [sigBnd, bndPost, List.cons.injEq, DV.b.injEq, and_true, List.length_cons, List.length_nil]; done) | ((try simp only [sigBnd, bndPost, List.cons.injEq, DV.b.injEq, and_true, List.length_cons, List.length_nil]); first | omega | assumption | grind)
   refine all_i fun n7 => ?_
   refine imp_i fun h18 => ?_
   refine imp_i fun h19 => ?_
   refine all_i fun n8 => ?_
   refine imp_i fun h20 => ?_
   refine imp_i fun h21 => ?_
   refine imp_i fun h22 => ?_
   try simp only [sigBnd, bndPost, List.cons.injEq, DV.b.injEq, and_true, List.length_cons, List.length_nil] at h22
   obtain ⟨rfl, rfl⟩ : n7 = 12 ∧ n8 = 253 := ⟨h22.1.trans (by decide +kernel), h22.2.trans (by decide +kernel)⟩
   refine bR_dec (fun h23 => ?_) (fun h23 => ?_)
   ·
    have st := sec_step h11 (.inr (by unfold cr; rw [bI_16, bQ_16]; omega))
    refine req_i ?_ ?_
    · -- r15
     first | omega | assumption | grind
    refine req_i ?_ ?_
    · -- r16
     first | omega | assumption | grind
    refine req_i ?_ ?_
    · -- r17
     first | omega | assumption | grind
    refine req_i ?_ ?_
    · -- r18
     first | omega | assumption | grind
    refine req_i ?_ ?_
    · -- r19
     first | omega | assumption | grind
    refine req_i ?_ ?_
    · -- r20
     first | omega | assumption | grind
    refine req_i ?_ ?_
    · -- r21
     exact st.2
    refine req_i ?_ ?_
    · -- r22
     show (4 - (n2 + 1)).toNat < (4 - n2).toNat; omega
    rfl
   ·
    refine req_i ?_ ?_
    · -- r23
     first | trivial | assumption | (simp only [sigBnd, bndPost, List.cons.injEq, DV.b.injEq, and_true, List.length_cons, List.length_nil]; done) | ((try simp only [sigBnd, bndPost, List.cons.injEq, DV.b.injEq, and_true, List.length_cons, List.length_nil]); first | omega | assumption | grind)
    refine all_i fun n9 => ?_
    refine imp_i fun h24 => ?_
    refine imp_i fun h25 => ?_
    refine all_i fun n10 => ?_
    refine imp_i fun h26 => ?_
    refine imp_i fun h27 => ?_
    refine imp_i fun h28 => ?_
    try simp only [sigBnd, bndPost, List.cons.injEq, DV.b.injEq, and_true, List.length_cons, List.length_nil] at h28
    obtain ⟨rfl, rfl⟩ : n9 = 171 ∧ n10 = 188 := ⟨h28.1.trans (by decide +kernel), h28.2.trans (by decide +kernel)⟩
    refine bR_i (fun h29 => ?_) (fun h29 => ?_)
    ·
     simp only [bR_iff, bR_iff_f, dec_iff, dec_f, Bool.false_eq_true, Bool.true_eq_false, false_implies, imp_false, and_true, true_and, implies_true, Classical.not_not] at h29
     refine req_i ?_ ?_
     · -- r24
      first | trivial | assumption | (simp only [sigBnd, bndPost, List.cons.injEq, DV.b.injEq, and_true, List.length_cons, List.length_nil]; done) | ((try simp only [sigBnd, bndPost, List.cons.injEq, DV.b.injEq, and_true, List.length_cons, List.length_nil]); first | omega | assumption | grind)
     refine all_i fun n11 => ?_
     refine imp_i fun h30 => ?_
     refine imp_i fun h31 => ?_
     refine all_i fun n12 => ?_
     refine imp_i fun h32 => ?_
     refine imp_i fun h33 => ?_
     refine imp_i fun h34 => ?_
     try simp only [sigBnd, bndPost, List.cons.injEq, DV.b.injEq, and_true, List.length_cons, List.length_nil] at h34
     obtain ⟨rfl, rfl⟩ : n11 = 86 ∧ n12 = 239 := ⟨h34.1.trans (by decide +kernel), h34.2.trans (by decide +kernel)⟩
     refine bR_i (fun h35 => ?_) (fun h35 => ?_)
     ·
      simp only [bR_iff, bR_iff_f, dec_iff, dec_f, Bool.false_eq_true, Bool.true_eq_false, false_implies, imp_false, and_true, true_and, implies_true, Classical.not_not] at h35
      refine req_i ?_ ?_
      · -- r25
       first | trivial | assumption | (simp only [sigBnd, bndPost, List.cons.injEq, DV.b.injEq, and_true, List.length_cons, List.length_nil]; done) | ((try simp only [sigBnd, bndPost, List.cons.injEq, DV.b.injEq, and_true, List.length_cons, List.length_nil]); first | omega | assumption | grind)
      refine all_i fun n13 => ?_
      refine imp_i fun h36 => ?_
      refine imp_i fun h37 => ?_
      refine all_i fun n14 => ?_
      refine imp_i fun h38 => ?_
      refine imp_i fun h39 => ?_
      refine imp_i fun h40 => ?_
      try simp only [sigBnd, bndPost, List.cons.injEq, DV.b.injEq, and_true, List.length_cons, List.length_nil] at h40
      obtain ⟨rfl, rfl⟩ : n13 = 37 ∧ n14 = 251 := ⟨h40.1.trans (by decide +kernel), h40.2.trans (by decide +kernel)⟩
      refine bR_i (fun h41 => ?_) (fun h41 => ?_)
      ·
       simp only [bR_iff, bR_iff_f, dec_iff, dec_f, Bool.false_eq_true, Bool.true_eq_false, false_implies, imp_false, and_true, true_and, implies_true, Classical.not_not] at h41
       refine req_i ?_ ?_
       · -- r26
        first | trivial | assumption | (simp only [sigBnd, bndPost, List.cons.injEq, DV.b.injEq, and_true, List.length_cons, List.length_nil]; done) | ((try simp only [sigBnd, bndPost, List.cons.injEq, DV.b.injEq, and_true, List.length_cons, List.length_nil]); first | omega | assumption | grind)
       refine all_i fun n15 => ?_
       refine imp_i fun h42 => ?_
       refine imp_i fun h43 => ?_
       refine all_i fun n16 => ?_
       refine imp_i fun h44 => ?_
       refine imp_i fun h45 => ?_
       refine imp_i fun h46 => ?_
       try simp only [sigBnd, bndPost, List.cons.injEq, DV.b.injEq, and_true, List.length_cons, List.length_nil] at h46
       obtain ⟨rfl, rfl⟩ : n15 = 12 ∧ n16 = 253 := ⟨h46.1.trans (by decide +kernel), h46.2.trans (by decide +kernel)⟩
       refine bR_i (fun h47 => ?_) (fun h47 => ?_)
       ·
        simp only [bR_iff, bR_iff_f, dec_iff, dec_f, Bool.false_eq_true, Bool.true_eq_false, false_implies, imp_false, and_true, true_and, implies_true, Classical.not_not] at h47
        refine req_i ?_ ?_
        · -- r27
         first | omega | assumption | grind
        refine req_i ?_ ?_
        · -- r28
         first | omega | assumption | grind
        refine req_i ?_ ?_
        · -- r29
         first | omega | ((try simp only [sigSec, smV, secPre, secPost, List.cons.injEq, DV.b.injEq, and_true, List.length_cons, List.length_nil]); first | done | omega | assumption | grind [getD_set, getD_rep, toNat_succ, cntN_yes, cntN_no])
        rfl
       ·
        simp only [bR_iff, bR_iff_f, dec_iff, dec_f, Bool.false_eq_true, Bool.true_eq_false, false_implies, imp_false, and_true, true_and, implies_true, Classical.not_not] at h47
        refine req_i ?_ ?_
        · -- r30
         first | omega | assumption | grind
        refine req_i ?_ ?_
        · -- r31
         first | omega | assumption | grind
        refine req_i ?_ ?_
        · -- r32
         show sect n0 n1 (16 * n2 + 15)
         obtain ⟨i1, i2, i3, i4, i5, i6⟩ := h11
         rcases (show n2 = 0 ∨ n2 = 1 ∨ n2 = 2 ∨ n2 = 3 by omega) with e | e | e | e
         · have u1 : n3 = n0 := by rw [i1, e]; simp [rX]
           have u2 : n4 = n1 := by rw [i2, e]; simp [rY]
           exact sec_ok (k := 15) (k1 := 14) (by omega) (by decide) (by decide) (by decide) bI_15 bQ_15 bI_16 bQ_16 (by omega) (by omega)
         · have u1 : n3 = n1 := by rw [i1, e]; simp [rX]
           have u2 : n4 = -n0 := by rw [i2, e]; simp [rY]
           exact sec_ok (k := 31) (k1 := 30) (by omega) (by decide) (by decide) (by decide) bI_31 bQ_31 bI_32 bQ_32 (by omega) (by omega)
         · have u1 : n3 = -n0 := by rw [i1, e]; simp [rX]
           have u2 : n4 = -n1 := by rw [i2, e]; simp [rY]
           exact sec_ok (k := 47) (k1 := 46) (by omega) (by decide) (by decide) (by decide) bI_47 bQ_47 bI_48 bQ_48 (by omega) (by omega)
         · have u1 : n3 = -n1 := by rw [i1, e]; simp [rX]
           have u2 : n4 = n0 := by rw [i2, e]; simp [rY]
           exact sec_ok (k := 63) (k1 := 62) (by omega) (by decide) (by decide) (by decide) bI_63 bQ_63 bI_64 bQ_64 (by omega) (by omega)
        rfl
      ·
       simp only [bR_iff, bR_iff_f, dec_iff, dec_f, Bool.false_eq_true, Bool.true_eq_false, false_implies, imp_false, and_true, true_and, implies_true, Classical.not_not] at h41
       refine req_i ?_ ?_
       · -- r33
        first | trivial | assumption | (simp only [sigBnd, bndPost, List.cons.injEq, DV.b.injEq, and_true, List.length_cons, List.length_nil]; done) | ((try simp only [sigBnd, bndPost, List.cons.injEq, DV.b.injEq, and_true, List.length_cons, List.length_nil]); first | omega | assumption | grind)
       refine all_i fun n17 => ?_
       refine imp_i fun h48 => ?_
       refine imp_i fun h49 => ?_
       refine all_i fun n18 => ?_
       refine imp_i fun h50 => ?_
       refine imp_i fun h51 => ?_
       refine imp_i fun h52 => ?_
       try simp only [sigBnd, bndPost, List.cons.injEq, DV.b.injEq, and_true, List.length_cons, List.length_nil] at h52
       obtain ⟨rfl, rfl⟩ : n17 = 62 ∧ n18 = 247 := ⟨h52.1.trans (by decide +kernel), h52.2.trans (by decide +kernel)⟩
       refine bR_i (fun h53 => ?_) (fun h53 => ?_)
       ·
        simp only [bR_iff, bR_iff_f, dec_iff, dec_f, Bool.false_eq_true, Bool.true_eq_false, false_implies, imp_false, and_true, true_and, implies_true, Classical.not_not] at h53
        refine req_i ?_ ?_
        · -- r34
         first | omega | assumption | grind
        refine req_i ?_ ?_
        · -- r35
         first | omega | assumption | grind
        refine req_i ?_ ?_
        · -- r36
         show sect n0 n1 (16 * n2 + 14)
         obtain ⟨i1, i2, i3, i4, i5, i6⟩ := h11
         rcases (show n2 = 0 ∨ n2 = 1 ∨ n2 = 2 ∨ n2 = 3 by omega) with e | e | e | e
         · have u1 : n3 = n0 := by rw [i1, e]; simp [rX]
           have u2 : n4 = n1 := by rw [i2, e]; simp [rY]
           exact sec_ok (k := 14) (k1 := 13) (by omega) (by decide) (by decide) (by decide) bI_14 bQ_14 bI_15 bQ_15 (by omega) (by omega)
         · have u1 : n3 = n1 := by rw [i1, e]; simp [rX]
           have u2 : n4 = -n0 := by rw [i2, e]; simp [rY]
           exact sec_ok (k := 30) (k1 := 29) (by omega) (by decide) (by decide) (by decide) bI_30 bQ_30 bI_31 bQ_31 (by omega) (by omega)
         · have u1 : n3 = -n0 := by rw [i1, e]; simp [rX]
           have u2 : n4 = -n1 := by rw [i2, e]; simp [rY]
           exact sec_ok (k := 46) (k1 := 45) (by omega) (by decide) (by decide) (by decide) bI_46 bQ_46 bI_47 bQ_47 (by omega) (by omega)
         · have u1 : n3 = -n1 := by rw [i1, e]; simp [rX]
           have u2 : n4 = n0 := by rw [i2, e]; simp [rY]
           exact sec_ok (k := 62) (k1 := 61) (by omega) (by decide) (by decide) (by decide) bI_62 bQ_62 bI_63 bQ_63 (by omega) (by omega)
        rfl
       ·
        simp only [bR_iff, bR_iff_f, dec_iff, dec_f, Bool.false_eq_true, Bool.true_eq_false, false_implies, imp_false, and_true, true_and, implies_true, Classical.not_not] at h53
        refine req_i ?_ ?_
        · -- r37
         first | omega | assumption | grind
        refine req_i ?_ ?_
        · -- r38
         first | omega | assumption | grind
        refine req_i ?_ ?_
        · -- r39
         show sect n0 n1 (16 * n2 + 13)
         obtain ⟨i1, i2, i3, i4, i5, i6⟩ := h11
         rcases (show n2 = 0 ∨ n2 = 1 ∨ n2 = 2 ∨ n2 = 3 by omega) with e | e | e | e
         · have u1 : n3 = n0 := by rw [i1, e]; simp [rX]
           have u2 : n4 = n1 := by rw [i2, e]; simp [rY]
           exact sec_ok (k := 13) (k1 := 12) (by omega) (by decide) (by decide) (by decide) bI_13 bQ_13 bI_14 bQ_14 (by omega) (by omega)
         · have u1 : n3 = n1 := by rw [i1, e]; simp [rX]
           have u2 : n4 = -n0 := by rw [i2, e]; simp [rY]
           exact sec_ok (k := 29) (k1 := 28) (by omega) (by decide) (by decide) (by decide) bI_29 bQ_29 bI_30 bQ_30 (by omega) (by omega)
         · have u1 : n3 = -n0 := by rw [i1, e]; simp [rX]
           have u2 : n4 = -n1 := by rw [i2, e]; simp [rY]
           exact sec_ok (k := 45) (k1 := 44) (by omega) (by decide) (by decide) (by decide) bI_45 bQ_45 bI_46 bQ_46 (by omega) (by omega)
         · have u1 : n3 = -n1 := by rw [i1, e]; simp [rX]
           have u2 : n4 = n0 := by rw [i2, e]; simp [rY]
           exact sec_ok (k := 61) (k1 := 60) (by omega) (by decide) (by decide) (by decide) bI_61 bQ_61 bI_62 bQ_62 (by omega) (by omega)
        rfl
     ·
      simp only [bR_iff, bR_iff_f, dec_iff, dec_f, Bool.false_eq_true, Bool.true_eq_false, false_implies, imp_false, and_true, true_and, implies_true, Classical.not_not] at h35
      refine req_i ?_ ?_
      · -- r40
       first | trivial | assumption | (simp only [sigBnd, bndPost, List.cons.injEq, DV.b.injEq, and_true, List.length_cons, List.length_nil]; done) | ((try simp only [sigBnd, bndPost, List.cons.injEq, DV.b.injEq, and_true, List.length_cons, List.length_nil]); first | omega | assumption | grind)
      refine all_i fun n19 => ?_
      refine imp_i fun h54 => ?_
      refine imp_i fun h55 => ?_
      refine all_i fun n20 => ?_
      refine imp_i fun h56 => ?_
      refine imp_i fun h57 => ?_
      refine imp_i fun h58 => ?_
      try simp only [sigBnd, bndPost, List.cons.injEq, DV.b.injEq, and_true, List.length_cons, List.length_nil] at h58
      obtain ⟨rfl, rfl⟩ : n19 = 131 ∧ n20 = 218 := ⟨h58.1.trans (by decide +kernel), h58.2.trans (by decide +kernel)⟩
      refine bR_i (fun h59 => ?_) (fun h59 => ?_)
      ·
       simp only [bR_iff, bR_iff_f, dec_iff, dec_f, Bool.false_eq_true, Bool.true_eq_false, false_implies, imp_false, and_true, true_and, implies_true, Classical.not_not] at h59
       refine req_i ?_ ?_
       · -- r41
        first | trivial | assumption | (simp only [sigBnd, bndPost, List.cons.injEq, DV.b.injEq, and_true, List.length_cons, List.length_nil]; done) | ((try simp only [sigBnd, bndPost, List.cons.injEq, DV.b.injEq, and_true, List.length_cons, List.length_nil]); first | omega | assumption | grind)
       refine all_i fun n21 => ?_
       refine imp_i fun h60 => ?_
       refine imp_i fun h61 => ?_
       refine all_i fun n22 => ?_
       refine imp_i fun h62 => ?_
       refine imp_i fun h63 => ?_
       refine imp_i fun h64 => ?_
       try simp only [sigBnd, bndPost, List.cons.injEq, DV.b.injEq, and_true, List.length_cons, List.length_nil] at h64
       obtain ⟨rfl, rfl⟩ : n21 = 109 ∧ n22 = 229 := ⟨h64.1.trans (by decide +kernel), h64.2.trans (by decide +kernel)⟩
       refine bR_i (fun h65 => ?_) (fun h65 => ?_)
       ·
        simp only [bR_iff, bR_iff_f, dec_iff, dec_f, Bool.false_eq_true, Bool.true_eq_false, false_implies, imp_false, and_true, true_and, implies_true, Classical.not_not] at h65
        refine req_i ?_ ?_
        · -- r42
         first | omega | assumption | grind
        refine req_i ?_ ?_
        · -- r43
         first | omega | assumption | grind
        refine req_i ?_ ?_
        · -- r44
         show sect n0 n1 (16 * n2 + 12)
         obtain ⟨i1, i2, i3, i4, i5, i6⟩ := h11
         rcases (show n2 = 0 ∨ n2 = 1 ∨ n2 = 2 ∨ n2 = 3 by omega) with e | e | e | e
         · have u1 : n3 = n0 := by rw [i1, e]; simp [rX]
           have u2 : n4 = n1 := by rw [i2, e]; simp [rY]
           exact sec_ok (k := 12) (k1 := 11) (by omega) (by decide) (by decide) (by decide) bI_12 bQ_12 bI_13 bQ_13 (by omega) (by omega)
         · have u1 : n3 = n1 := by rw [i1, e]; simp [rX]
           have u2 : n4 = -n0 := by rw [i2, e]; simp [rY]
           exact sec_ok (k := 28) (k1 := 27) (by omega) (by decide) (by decide) (by decide) bI_28 bQ_28 bI_29 bQ_29 (by omega) (by omega)
         · have u1 : n3 = -n0 := by rw [i1, e]; simp [rX]
           have u2 : n4 = -n1 := by rw [i2, e]; simp [rY]
           exact sec_ok (k := 44) (k1 := 43) (by omega) (by decide) (by decide) (by decide) bI_44 bQ_44 bI_45 bQ_45 (by omega) (by omega)
         · have u1 : n3 = -n1 := by rw [i1, e]; simp [rX]
           have u2 : n4 = n0 := by rw [i2, e]; simp [rY]
           exact sec_ok (k := 60) (k1 := 59) (by omega) (by decide) (by decide) (by decide) bI_60 bQ_60 bI_61 bQ_61 (by omega) (by omega)
        rfl
       ·
        simp only [bR_iff, bR_iff_f, dec_iff, dec_f, Bool.false_eq_true, Bool.true_eq_false, false_implies, imp_false, and_true, true_and, implies_true, Classical.not_not] at h65
        refine req_i ?_ ?_
        · -- r45
         first | omega | assumption | grind
        refine req_i ?_ ?_
        · -- r46
         first | omega | assumption | grind
        refine req_i ?_ ?_
        · -- r47
         show sect n0 n1 (16 * n2 + 11)
         obtain ⟨i1, i2, i3, i4, i5, i6⟩ := h11
         rcases (show n2 = 0 ∨ n2 = 1 ∨ n2 = 2 ∨ n2 = 3 by omega) with e | e | e | e
         · have u1 : n3 = n0 := by rw [i1, e]; simp [rX]
           have u2 : n4 = n1 := by rw [i2, e]; simp [rY]
           exact sec_ok (k := 11) (k1 := 10) (by omega) (by decide) (by decide) (by decide) bI_11 bQ_11 bI_12 bQ_12 (by omega) (by omega)
         · have u1 : n3 = n1 := by rw [i1, e]; simp [rX]
           have u2 : n4 = -n0 := by rw [i2, e]; simp [rY]
           exact sec_ok (k := 27) (k1 := 26) (by omega) (by decide) (by decide) (by decide) bI_27 bQ_27 bI_28 bQ_28 (by omega) (by omega)
         · have u1 : n3 = -n0 := by rw [i1, e]; simp [rX]
           have u2 : n4 = -n1 := by rw [i2, e]; simp [rY]
           exact sec_ok (k := 43) (k1 := 42) (by omega) (by decide) (by decide) (by decide) bI_43 bQ_43 bI_44 bQ_44 (by omega) (by omega)
         · have u1 : n3 = -n1 := by rw [i1, e]; simp [rX]
           have u2 : n4 = n0 := by rw [i2, e]; simp [rY]
           exact sec_ok (k := 59) (k1 := 58) (by omega) (by decide) (by decide) (by decide) bI_59 bQ_59 bI_60 bQ_60 (by omega) (by omega)
        rfl
      ·
       simp only [bR_iff, bR_iff_f, dec_iff, dec_f, Bool.false_eq_true, Bool.true_eq_false, false_implies, imp_false, and_true, true_and, implies_true, Classical.not_not] at h59
       refine req_i ?_ ?_
       · -- r48
        first | trivial | assumption | (simp only [sigBnd, bndPost, List.cons.injEq, DV.b.injEq, and_true, List.length_cons, List.length_nil]; done) | ((try simp only [sigBnd, bndPost, List.cons.injEq, DV.b.injEq, and_true, List.length_cons, List.length_nil]); first | omega | assumption | grind)
       refine all_i fun n23 => ?_
       refine imp_i fun h66 => ?_
       refine imp_i fun h67 => ?_
       refine all_i fun n24 => ?_
       refine imp_i fun h68 => ?_
       refine imp_i fun h69 => ?_
       refine imp_i fun h70 => ?_
       try simp only [sigBnd, bndPost, List.cons.injEq, DV.b.injEq, and_true, List.length_cons, List.length_nil] at h70
       obtain ⟨rfl, rfl⟩ : n23 = 152 ∧ n24 = 204 := ⟨h70.1.trans (by decide +kernel), h70.2.trans (by decide +kernel)⟩
       refine bR_i (fun h71 => ?_) (fun h71 => ?_)
       ·
        simp only [bR_iff, bR_iff_f, dec_iff, dec_f, Bool.false_eq_true, Bool.true_eq_false, false_implies, imp_false, and_true, true_and, implies_true, Classical.not_not] at h71
        refine req_i ?_ ?_
        · -- r49
         first | omega | assumption | grind
        refine req_i ?_ ?_
        · -- r50
         first | omega | assumption | grind
        refine req_i ?_ ?_
        · -- r51
         show sect n0 n1 (16 * n2 + 10)
         obtain ⟨i1, i2, i3, i4, i5, i6⟩ := h11
         rcases (show n2 = 0 ∨ n2 = 1 ∨ n2 = 2 ∨ n2 = 3 by omega) with e | e | e | e
         · have u1 : n3 = n0 := by rw [i1, e]; simp [rX]
           have u2 : n4 = n1 := by rw [i2, e]; simp [rY]
           exact sec_ok (k := 10) (k1 := 9) (by omega) (by decide) (by decide) (by decide) bI_10 bQ_10 bI_11 bQ_11 (by omega) (by omega)
         · have u1 : n3 = n1 := by rw [i1, e]; simp [rX]
           have u2 : n4 = -n0 := by rw [i2, e]; simp [rY]
           exact sec_ok (k := 26) (k1 := 25) (by omega) (by decide) (by decide) (by decide) bI_26 bQ_26 bI_27 bQ_27 (by omega) (by omega)
         · have u1 : n3 = -n0 := by rw [i1, e]; simp [rX]
           have u2 : n4 = -n1 := by rw [i2, e]; simp [rY]
           exact sec_ok (k := 42) (k1 := 41) (by omega) (by decide) (by decide) (by decide) bI_42 bQ_42 bI_43 bQ_43 (by omega) (by omega)
         · have u1 : n3 = -n1 := by rw [i1, e]; simp [rX]
           have u2 : n4 = n0 := by rw [i2, e]; simp [rY]
           exact sec_ok (k := 58) (k1 := 57) (by omega) (by decide) (by decide) (by decide) bI_58 bQ_58 bI_59 bQ_59 (by omega) (by omega)
        rfl
       ·
        simp only [bR_iff, bR_iff_f, dec_iff, dec_f, Bool.false_eq_true, Bool.true_eq_false, false_implies, imp_false, and_true, true_and, implies_true, Classical.not_not] at h71
        refine req_i ?_ ?_
        · -- r52
         first | omega | assumption | grind
        refine req_i ?_ ?_
        · -- r53
         first | omega | assumption | grind
        refine req_i ?_ ?_
        · -- r54
         show sect n0 n1 (16 * n2 + 9)
         obtain ⟨i1, i2, i3, i4, i5, i6⟩ := h11
         rcases (show n2 = 0 ∨ n2 = 1 ∨ n2 = 2 ∨ n2 = 3 by omega) with e | e | e | e
         · have u1 : n3 = n0 := by rw [i1, e]; simp [rX]
           have u2 : n4 = n1 := by rw [i2, e]; simp [rY]
           exact sec_ok (k := 9) (k1 := 8) (by omega) (by decide) (by decide) (by decide) bI_9 bQ_9 bI_10 bQ_10 (by omega) (by omega)
         · have u1 : n3 = n1 := by rw [i1, e]; simp [rX]
           have u2 : n4 = -n0 := by rw [i2, e]; simp [rY]
           exact sec_ok (k := 25) (k1 := 24) (by omega) (by decide) (by decide) (by decide) bI_25 bQ_25 bI_26 bQ_26 (by omega) (by omega)
         · have u1 : n3 = -n0 := by rw [i1, e]; simp [rX]
           have u2 : n4 = -n1 := by rw [i2, e]; simp [rY]
           exact sec_ok (k := 41) (k1 := 40) (by omega) (by decide) (by decide) (by decide) bI_41 bQ_41 bI_42 bQ_42 (by omega) (by omega)
         · have u1 : n3 = -n1 := by rw [i1, e]; simp [rX]
           have u2 : n4 = n0 := by rw [i2, e]; simp [rY]
           exact sec_ok (k := 57) (k1 := 56) (by omega) (by decide) (by decide) (by decide) bI_57 bQ_57 bI_58 bQ_58 (by omega) (by omega)
        rfl
    ·
     simp only [bR_iff, bR_iff_f, dec_iff, dec_f, Bool.false_eq_true, Bool.true_eq_false, false_implies, imp_false, and_true, true_and, implies_true, Classical.not_not] at h29
     refine req_i ?_ ?_
     · -- r55
      first | trivial | assumption | (simp only [sigBnd, bndPost, List.cons.injEq, DV.b.injEq, and_true, List.length_cons, List.length_nil]; done) | ((try simp only [sigBnd, bndPost, List.cons.injEq, DV.b.injEq, and_true, List.length_cons, List.length_nil]); first | omega | assumption | grind)
     refine all_i fun n25 => ?_
     refine imp_i fun h72 => ?_
     refine imp_i fun h73 => ?_
     refine all_i fun n26 => ?_
     refine imp_i fun h74 => ?_
     refine imp_i fun h75 => ?_
     refine imp_i fun h76 => ?_
     try simp only [sigBnd, bndPost, List.cons.injEq, DV.b.injEq, and_true, List.length_cons, List.length_nil] at h76
     obtain ⟨rfl, rfl⟩ : n25 = 229 ∧ n26 = 109 := ⟨h76.1.trans (by decide +kernel), h76.2.trans (by decide +kernel)⟩
     refine bR_i (fun h77 => ?_) (fun h77 => ?_)
     ·
      simp only [bR_iff, bR_iff_f, dec_iff, dec_f, Bool.false_eq_true, Bool.true_eq_false, false_implies, imp_false, and_true, true_and, implies_true, Classical.not_not] at h77
      refine req_i ?_ ?_
      · -- r56
       first | trivial | assumption | (simp only [sigBnd, bndPost, List.cons.injEq, DV.b.injEq, and_true, List.length_cons, List.length_nil]; done) | ((try simp only [sigBnd, bndPost, List.cons.injEq, DV.b.injEq, and_true, List.length_cons, List.length_nil]); first | omega | assumption | grind)
      refine all_i fun n27 => ?_
      refine imp_i fun h78 => ?_
      refine imp_i fun h79 => ?_
      refine all_i fun n28 => ?_
      refine imp_i fun h80 => ?_
      refine imp_i fun h81 => ?_
      refine imp_i fun h82 => ?_
      try simp only [sigBnd, bndPost, List.cons.injEq, DV.b.injEq, and_true, List.length_cons, List.length_nil] at h82
      obtain ⟨rfl, rfl⟩ : n27 = 204 ∧ n28 = 152 := ⟨h82.1.trans (by decide +kernel), h82.2.trans (by decide +kernel)⟩
      refine bR_i (fun h83 => ?_) (fun h83 => ?_)
      ·
       simp only [bR_iff, bR_iff_f, dec_iff, dec_f, Bool.false_eq_true, Bool.true_eq_false, false_implies, imp_false, and_true, true_and, implies_true, Classical.not_not] at h83
       refine req_i ?_ ?_
       · -- r57
        first | trivial | assumption | (simp only [sigBnd, bndPost, List.cons.injEq, DV.b.injEq, and_true, List.length_cons, List.length_nil]; done) | ((try simp only [sigBnd, bndPost, List.cons.injEq, DV.b.injEq, and_true, List.length_cons, List.length_nil]); first | omega | assumption | grind)
       refine all_i fun n29 => ?_
       refine imp_i fun h84 => ?_
       refine imp_i fun h85 => ?_
       refine all_i fun n30 => ?_
       refine imp_i fun h86 => ?_
       refine imp_i fun h87 => ?_
       refine imp_i fun h88 => ?_
       try simp only [sigBnd, bndPost, List.cons.injEq, DV.b.injEq, and_true, List.length_cons, List.length_nil] at h88
       obtain ⟨rfl, rfl⟩ : n29 = 188 ∧ n30 = 171 := ⟨h88.1.trans (by decide +kernel), h88.2.trans (by decide +kernel)⟩
       refine bR_i (fun h89 => ?_) (fun h89 => ?_)
       ·
        simp only [bR_iff, bR_iff_f, dec_iff, dec_f, Bool.false_eq_true, Bool.true_eq_false, false_implies, imp_false, and_true, true_and, implies_true, Classical.not_not] at h89
        refine req_i ?_ ?_
        · -- r58
         first | omega | assumption | grind
        refine req_i ?_ ?_
        · -- r59
         first | omega | assumption | grind
        refine req_i ?_ ?_
        · -- r60
         show sect n0 n1 (16 * n2 + 8)
         obtain ⟨i1, i2, i3, i4, i5, i6⟩ := h11
         rcases (show n2 = 0 ∨ n2 = 1 ∨ n2 = 2 ∨ n2 = 3 by omega) with e | e | e | e
         · have u1 : n3 = n0 := by rw [i1, e]; simp [rX]
           have u2 : n4 = n1 := by rw [i2, e]; simp [rY]
           exact sec_ok (k := 8) (k1 := 7) (by omega) (by decide) (by decide) (by decide) bI_8 bQ_8 bI_9 bQ_9 (by omega) (by omega)
         · have u1 : n3 = n1 := by rw [i1, e]; simp [rX]
           have u2 : n4 = -n0 := by rw [i2, e]; simp [rY]
           exact sec_ok (k := 24) (k1 := 23) (by omega) (by decide) (by decide) (by decide) bI_24 bQ_24 bI_25 bQ_25 (by omega) (by omega)
         · have u1 : n3 = -n0 := by rw [i1, e]; simp [rX]
           have u2 : n4 = -n1 := by rw [i2, e]; simp [rY]
           exact sec_ok (k := 40) (k1 := 39) (by omega) (by decide) (by decide) (by decide) bI_40 bQ_40 bI_41 bQ_41 (by omega) (by omega)
         · have u1 : n3 = -n1 := by rw [i1, e]; simp [rX]
           have u2 : n4 = n0 := by rw [i2, e]; simp [rY]
           exact sec_ok (k := 56) (k1 := 55) (by omega) (by decide) (by decide) (by decide) bI_56 bQ_56 bI_57 bQ_57 (by omega) (by omega)
        rfl
       ·
        simp only [bR_iff, bR_iff_f, dec_iff, dec_f, Bool.false_eq_true, Bool.true_eq_false, false_implies, imp_false, and_true, true_and, implies_true, Classical.not_not] at h89
        refine req_i ?_ ?_
        · -- r61
         first | omega | assumption | grind
        refine req_i ?_ ?_
        · -- r62
         first | omega | assumption | grind
        refine req_i ?_ ?_
        · -- r63
         show sect n0 n1 (16 * n2 + 7)
         obtain ⟨i1, i2, i3, i4, i5, i6⟩ := h11
         rcases (show n2 = 0 ∨ n2 = 1 ∨ n2 = 2 ∨ n2 = 3 by omega) with e | e | e | e
         · have u1 : n3 = n0 := by rw [i1, e]; simp [rX]
           have u2 : n4 = n1 := by rw [i2, e]; simp [rY]
           exact sec_ok (k := 7) (k1 := 6) (by omega) (by decide) (by decide) (by decide) bI_7 bQ_7 bI_8 bQ_8 (by omega) (by omega)
         · have u1 : n3 = n1 := by rw [i1, e]; simp [rX]
           have u2 : n4 = -n0 := by rw [i2, e]; simp [rY]
           exact sec_ok (k := 23) (k1 := 22) (by omega) (by decide) (by decide) (by decide) bI_23 bQ_23 bI_24 bQ_24 (by omega) (by omega)
         · have u1 : n3 = -n0 := by rw [i1, e]; simp [rX]
           have u2 : n4 = -n1 := by rw [i2, e]; simp [rY]
           exact sec_ok (k := 39) (k1 := 38) (by omega) (by decide) (by decide) (by decide) bI_39 bQ_39 bI_40 bQ_40 (by omega) (by omega)
         · have u1 : n3 = -n1 := by rw [i1, e]; simp [rX]
           have u2 : n4 = n0 := by rw [i2, e]; simp [rY]
           exact sec_ok (k := 55) (k1 := 54) (by omega) (by decide) (by decide) (by decide) bI_55 bQ_55 bI_56 bQ_56 (by omega) (by omega)
        rfl
      ·
       simp only [bR_iff, bR_iff_f, dec_iff, dec_f, Bool.false_eq_true, Bool.true_eq_false, false_implies, imp_false, and_true, true_and, implies_true, Classical.not_not] at h83
       refine req_i ?_ ?_
       · -- r64
        first | trivial | assumption | (simp only [sigBnd, bndPost, List.cons.injEq, DV.b.injEq, and_true, List.length_cons, List.length_nil]; done) | ((try simp only [sigBnd, bndPost, List.cons.injEq, DV.b.injEq, and_true, List.length_cons, List.length_nil]); first | omega | assumption | grind)
       refine all_i fun n31 => ?_
       refine imp_i fun h90 => ?_
       refine imp_i fun h91 => ?_
       refine all_i fun n32 => ?_
       refine imp_i fun h92 => ?_
       refine imp_i fun h93 => ?_
       refine imp_i fun h94 => ?_
       try simp only [sigBnd, bndPost, List.cons.injEq, DV.b.injEq, and_true, List.length_cons, List.length_nil] at h94
       obtain ⟨rfl, rfl⟩ : n31 = 218 ∧ n32 = 131 := ⟨h94.1.trans (by decide +kernel), h94.2.trans (by decide +kernel)⟩
       refine bR_i (fun h95 => ?_) (fun h95 => ?_)
       ·
        simp only [bR_iff, bR_iff_f, dec_iff, dec_f, Bool.false_eq_true, Bool.true_eq_false, false_implies, imp_false, and_true, true_and, implies_true, Classical.not_not] at h95
        refine req_i ?_ ?_
        · -- r65
         first | omega | assumption | grind
        refine req_i ?_ ?_
        · -- r66
         first | omega | assumption | grind
        refine req_i ?_ ?_
        · -- r67
         show sect n0 n1 (16 * n2 + 6)
         obtain ⟨i1, i2, i3, i4, i5, i6⟩ := h11
         rcases (show n2 = 0 ∨ n2 = 1 ∨ n2 = 2 ∨ n2 = 3 by omega) with e | e | e | e
         · have u1 : n3 = n0 := by rw [i1, e]; simp [rX]
           have u2 : n4 = n1 := by rw [i2, e]; simp [rY]
           exact sec_ok (k := 6) (k1 := 5) (by omega) (by decide) (by decide) (by decide) bI_6 bQ_6 bI_7 bQ_7 (by omega) (by omega)
         · have u1 : n3 = n1 := by rw [i1, e]; simp [rX]
           have u2 : n4 = -n0 := by rw [i2, e]; simp [rY]
           exact sec_ok (k := 22) (k1 := 21) (by omega) (by decide) (by decide) (by decide) bI_22 bQ_22 bI_23 bQ_23 (by omega) (by omega)
         · have u1 : n3 = -n0 := by rw [i1, e]; simp [rX]
           have u2 : n4 = -n1 := by rw [i2, e]; simp [rY]
           exact sec_ok (k := 38) (k1 := 37) (by omega) (by decide) (by decide) (by decide) bI_38 bQ_38 bI_39 bQ_39 (by omega) (by omega)
         · have u1 : n3 = -n1 := by rw [i1, e]; simp [rX]
           have u2 : n4 = n0 := by rw [i2, e]; simp [rY]
           exact sec_ok (k := 54) (k1 := 53) (by omega) (by decide) (by decide) (by decide) bI_54 bQ_54 bI_55 bQ_55 (by omega) (by omega)
        rfl
       ·
        simp only [bR_iff, bR_iff_f, dec_iff, dec_f, Bool.false_eq_true, Bool.true_eq_false, false_implies, imp_false, and_true, true_and, implies_true, Classical.not_not] at h95
        refine req_i ?_ ?_
        · -- r68
         first | omega | assumption | grind
        refine req_i ?_ ?_
        · -- r69
         first | omega | assumption | grind
        refine req_i ?_ ?_
        · -- r70
         show sect n0 n1 (16 * n2 + 5)
         obtain ⟨i1, i2, i3, i4, i5, i6⟩ := h11
         rcases (show n2 = 0 ∨ n2 = 1 ∨ n2 = 2 ∨ n2 = 3 by omega) with e | e | e | e
         · have u1 : n3 = n0 := by rw [i1, e]; simp [rX]
           have u2 : n4 = n1 := by rw [i2, e]; simp [rY]
           exact sec_ok (k := 5) (k1 := 4) (by omega) (by decide) (by decide) (by decide) bI_5 bQ_5 bI_6 bQ_6 (by omega) (by omega)
         · have u1 : n3 = n1 := by rw [i1, e]; simp [rX]
           have u2 : n4 = -n0 := by rw [i2, e]; simp [rY]
           exact sec_ok (k := 21) (k1 := 20) (by omega) (by decide) (by decide) (by decide) bI_21 bQ_21 bI_22 bQ_22 (by omega) (by omega)
         · have u1 : n3 = -n0 := by rw [i1, e]; simp [rX]
           have u2 : n4 = -n1 := by rw [i2, e]; simp [rY]
           exact sec_ok (k := 37) (k1 := 36) (by omega) (by decide) (by decide) (by decide) bI_37 bQ_37 bI_38 bQ_38 (by omega) (by omega)
         · have u1 : n3 = -n1 := by rw [i1, e]; simp [rX]
           have u2 : n4 = n0 := by rw [i2, e]; simp [rY]
           exact sec_ok (k := 53) (k1 := 52) (by omega) (by decide) (by decide) (by decide) bI_53 bQ_53 bI_54 bQ_54 (by omega) (by omega)
        rfl
     ·
      simp only [bR_iff, bR_iff_f, dec_iff, dec_f, Bool.false_eq_true, Bool.true_eq_false, false_implies, imp_false, and_true, true_and, implies_true, Classical.not_not] at h77
      refine req_i ?_ ?_
      · -- r71
       first | trivial | assumption | (simp only [sigBnd, bndPost, List.cons.injEq, DV.b.injEq, and_true, List.length_cons, List.length_nil]; done) | ((try simp only [sigBnd, bndPost, List.cons.injEq, DV.b.injEq, and_true, List.length_cons, List.length_nil]); first | omega | assumption | grind)
      refine all_i fun n33 => ?_
      refine imp_i fun h96 => ?_
      refine imp_i fun h97 => ?_
      refine all_i fun n34 => ?_
      refine imp_i fun h98 => ?_
      refine imp_i fun h99 => ?_
      refine imp_i fun h100 => ?_
      try simp only [sigBnd, bndPost, List.cons.injEq, DV.b.injEq, and_true, List.length_cons, List.length_nil] at h100
      obtain ⟨rfl, rfl⟩ : n33 = 247 ∧ n34 = 62 := ⟨h100.1.trans (by decide +kernel), h100.2.trans (by decide +kernel)⟩
      refine bR_i (fun h101 => ?_) (fun h101 => ?_)
      ·
       simp only [bR_iff, bR_iff_f, dec_iff, dec_f, Bool.false_eq_true, Bool.true_eq_false, false_implies, imp_false, and_true, true_and, implies_true, Classical.not_not] at h101
       refine req_i ?_ ?_
       · -- r72
        first | trivial | assumption | (simp only [sigBnd, bndPost, List.cons.injEq, DV.b.injEq, and_true, List.length_cons, List.length_nil]; done) | ((try simp only [sigBnd, bndPost, List.cons.injEq, DV.b.injEq, and_true, List.length_cons, List.length_nil]); first | omega | assumption | grind)
       refine all_i fun n35 => ?_
       refine imp_i fun h102 => ?_
       refine imp_i fun h103 => ?_
       refine all_i fun n36 => ?_
       refine imp_i fun h104 => ?_
       refine imp_i fun h105 => ?_
       refine imp_i fun h106 => ?_
       try simp only [sigBnd, bndPost, List.cons.injEq, DV.b.injEq, and_true, List.length_cons, List.length_nil] at h106
       obtain ⟨rfl, rfl⟩ : n35 = 239 ∧ n36 = 86 := ⟨h106.1.trans (by decide +kernel), h106.2.trans (by decide +kernel)⟩
       refine bR_i (fun h107 => ?_) (fun h107 => ?_)
       ·
        simp only [bR_iff, bR_iff_f, dec_iff, dec_f, Bool.false_eq_true, Bool.true_eq_false, false_implies, imp_false, and_true, true_and, implies_true, Classical.not_not] at h107
        refine req_i ?_ ?_
        · -- r73
         first | omega | assumption | grind
        refine req_i ?_ ?_
        · -- r74
         first | omega | assumption | grind
        refine req_i ?_ ?_
        · -- r75
         show sect n0 n1 (16 * n2 + 4)
         obtain ⟨i1, i2, i3, i4, i5, i6⟩ := h11
         rcases (show n2 = 0 ∨ n2 = 1 ∨ n2 = 2 ∨ n2 = 3 by omega) with e | e | e | e
         · have u1 : n3 = n0 := by rw [i1, e]; simp [rX]
           have u2 : n4 = n1 := by rw [i2, e]; simp [rY]
           exact sec_ok (k := 4) (k1 := 3) (by omega) (by decide) (by decide) (by decide) bI_4 bQ_4 bI_5 bQ_5 (by omega) (by omega)
         · have u1 : n3 = n1 := by rw [i1, e]; simp [rX]
           have u2 : n4 = -n0 := by rw [i2, e]; simp [rY]
           exact sec_ok (k := 20) (k1 := 19) (by omega) (by decide) (by decide) (by decide) bI_20 bQ_20 bI_21 bQ_21 (by omega) (by omega)
         · have u1 : n3 = -n0 := by rw [i1, e]; simp [rX]
           have u2 : n4 = -n1 := by rw [i2, e]; simp [rY]
           exact sec_ok (k := 36) (k1 := 35) (by omega) (by decide) (by decide) (by decide) bI_36 bQ_36 bI_37 bQ_37 (by omega) (by omega)
         · have u1 : n3 = -n1 := by rw [i1, e]; simp [rX]
           have u2 : n4 = n0 := by rw [i2, e]; simp [rY]
           exact sec_ok (k := 52) (k1 := 51) (by omega) (by decide) (by decide) (by decide) bI_52 bQ_52 bI_53 bQ_53 (by omega) (by omega)
        rfl
       ·
        simp only [bR_iff, bR_iff_f, dec_iff, dec_f, Bool.false_eq_true, Bool.true_eq_false, false_implies, imp_false, and_true, true_and, implies_true, Classical.not_not] at h107
        refine req_i ?_ ?_
        · -- r76
         first | omega | assumption | grind
        refine req_i ?_ ?_
        · -- r77
         first | omega | assumption | grind
        refine req_i ?_ ?_
        · -- r78
         show sect n0 n1 (16 * n2 + 3)
         obtain ⟨i1, i2, i3, i4, i5, i6⟩ := h11
         rcases (show n2 = 0 ∨ n2 = 1 ∨ n2 = 2 ∨ n2 = 3 by omega) with e | e | e | e
         · have u1 : n3 = n0 := by rw [i1, e]; simp [rX]
           have u2 : n4 = n1 := by rw [i2, e]; simp [rY]
           exact sec_ok (k := 3) (k1 := 2) (by omega) (by decide) (by decide) (by decide) bI_3 bQ_3 bI_4 bQ_4 (by omega) (by omega)
         · have u1 : n3 = n1 := by rw [i1, e]; simp [rX]
           have u2 : n4 = -n0 := by rw [i2, e]; simp [rY]
           exact sec_ok (k := 19) (k1 := 18) (by omega) (by decide) (by decide) (by decide) bI_19 bQ_19 bI_20 bQ_20 (by omega) (by omega)
         · have u1 : n3 = -n0 := by rw [i1, e]; simp [rX]
           have u2 : n4 = -n1 := by rw [i2, e]; simp [rY]
           exact sec_ok (k := 35) (k1 := 34) (by omega) (by decide) (by decide) (by decide) bI_35 bQ_35 bI_36 bQ_36 (by omega) (by omega)
         · have u1 : n3 = -n1 := by rw [i1, e]; simp [rX]
           have u2 : n4 = n0 := by rw [i2, e]; simp [rY]
           exact sec_ok (k := 51) (k1 := 50) (by omega) (by decide) (by decide) (by decide) bI_51 bQ_51 bI_52 bQ_52 (by omega) (by omega)
        rfl
      ·
       simp only [bR_iff, bR_iff_f, dec_iff, dec_f, Bool.false_eq_true, Bool.true_eq_false, false_implies, imp_false, and_true, true_and, implies_true, Classical.not_not] at h101
       refine req_i ?_ ?_
       · -- r79
        first | trivial | assumption | (simp only [sigBnd, bndPost, List.cons.injEq, DV.b.injEq, and_true, List.length_cons, List.length_nil]; done) | ((try simp only [sigBnd, bndPost, List.cons.injEq, DV.b.injEq, and_true, List.length_cons, List.length_nil]); first | omega | assumption | grind)
       refine all_i fun n37 => ?_
       refine imp_i fun h108 => ?_
       refine imp_i fun h109 => ?_
       refine all_i fun n38 => ?_
       refine imp_i fun h110 => ?_
       refine imp_i fun h111 => ?_
       refine imp_i fun h112 => ?_
       try simp only [sigBnd, bndPost, List.cons.injEq, DV.b.injEq, and_true, List.length_cons, List.length_nil] at h112
       obtain ⟨rfl, rfl⟩ : n37 = 251 ∧ n38 = 37 := ⟨h112.1.trans (by decide +kernel), h112.2.trans (by decide +kernel)⟩
       refine bR_i (fun h113 => ?_) (fun h113 => ?_)
       ·
        simp only [bR_iff, bR_iff_f, dec_iff, dec_f, Bool.false_eq_true, Bool.true_eq_false, false_implies, imp_false, and_true, true_and, implies_true, Classical.not_not] at h113
        refine req_i ?_ ?_
        · -- r80
         first | omega | assumption | grind
        refine req_i ?_ ?_
        · -- r81
         first | omega | assumption | grind
        refine req_i ?_ ?_
        · -- r82
         show sect n0 n1 (16 * n2 + 2)
         obtain ⟨i1, i2, i3, i4, i5, i6⟩ := h11
         rcases (show n2 = 0 ∨ n2 = 1 ∨ n2 = 2 ∨ n2 = 3 by omega) with e | e | e | e
         · have u1 : n3 = n0 := by rw [i1, e]; simp [rX]
           have u2 : n4 = n1 := by rw [i2, e]; simp [rY]
           exact sec_ok (k := 2) (k1 := 1) (by omega) (by decide) (by decide) (by decide) bI_2 bQ_2 bI_3 bQ_3 (by omega) (by omega)
         · have u1 : n3 = n1 := by rw [i1, e]; simp [rX]
           have u2 : n4 = -n0 := by rw [i2, e]; simp [rY]
           exact sec_ok (k := 18) (k1 := 17) (by omega) (by decide) (by decide) (by decide) bI_18 bQ_18 bI_19 bQ_19 (by omega) (by omega)
         · have u1 : n3 = -n0 := by rw [i1, e]; simp [rX]
           have u2 : n4 = -n1 := by rw [i2, e]; simp [rY]
           exact sec_ok (k := 34) (k1 := 33) (by omega) (by decide) (by decide) (by decide) bI_34 bQ_34 bI_35 bQ_35 (by omega) (by omega)
         · have u1 : n3 = -n1 := by rw [i1, e]; simp [rX]
           have u2 : n4 = n0 := by rw [i2, e]; simp [rY]
           exact sec_ok (k := 50) (k1 := 49) (by omega) (by decide) (by decide) (by decide) bI_50 bQ_50 bI_51 bQ_51 (by omega) (by omega)
        rfl
       ·
        simp only [bR_iff, bR_iff_f, dec_iff, dec_f, Bool.false_eq_true, Bool.true_eq_false, false_implies, imp_false, and_true, true_and, implies_true, Classical.not_not] at h113
        refine req_i ?_ ?_
        · -- r83
         first | trivial | assumption | (simp only [sigBnd, bndPost, List.cons.injEq, DV.b.injEq, and_true, List.length_cons, List.length_nil]; done) | ((try simp only [sigBnd, bndPost, List.cons.injEq, DV.b.injEq, and_true, List.length_cons, List.length_nil]); first | omega | assumption | grind)
        refine all_i fun n39 => ?_
        refine imp_i fun h114 => ?_
        refine imp_i fun h115 => ?_
        refine all_i fun n40 => ?_
        refine imp_i fun h116 => ?_
        refine imp_i fun h117 => ?_
        refine imp_i fun h118 => ?_
        try simp only [sigBnd, bndPost, List.cons.injEq, DV.b.injEq, and_true, List.length_cons, List.length_nil] at h118
        obtain ⟨rfl, rfl⟩ : n39 = 253 ∧ n40 = 12 := ⟨h118.1.trans (by decide +kernel), h118.2.trans (by decide +kernel)⟩
        refine bR_i (fun h119 => ?_) (fun h119 => ?_)
        ·
         simp only [bR_iff, bR_iff_f, dec_iff, dec_f, Bool.false_eq_true, Bool.true_eq_false, false_implies, imp_false, and_true, true_and, implies_true, Classical.not_not] at h119
         refine req_i ?_ ?_
         · -- r84
          first | omega | assumption | grind
         refine req_i ?_ ?_
         · -- r85
          first | omega | assumption | grind
         refine req_i ?_ ?_
         · -- r86
          show sect n0 n1 (16 * n2 + 1)
          obtain ⟨i1, i2, i3, i4, i5, i6⟩ := h11
          rcases (show n2 = 0 ∨ n2 = 1 ∨ n2 = 2 ∨ n2 = 3 by omega) with e | e | e | e
          · have u1 : n3 = n0 := by rw [i1, e]; simp [rX]
            have u2 : n4 = n1 := by rw [i2, e]; simp [rY]
            exact sec_ok (k := 1) (k1 := 0) (by omega) (by decide) (by decide) (by decide) bI_1 bQ_1 bI_2 bQ_2 (by omega) (by omega)
          · have u1 : n3 = n1 := by rw [i1, e]; simp [rX]
            have u2 : n4 = -n0 := by rw [i2, e]; simp [rY]
            exact sec_ok (k := 17) (k1 := 16) (by omega) (by decide) (by decide) (by decide) bI_17 bQ_17 bI_18 bQ_18 (by omega) (by omega)
          · have u1 : n3 = -n0 := by rw [i1, e]; simp [rX]
            have u2 : n4 = -n1 := by rw [i2, e]; simp [rY]
            exact sec_ok (k := 33) (k1 := 32) (by omega) (by decide) (by decide) (by decide) bI_33 bQ_33 bI_34 bQ_34 (by omega) (by omega)
          · have u1 : n3 = -n1 := by rw [i1, e]; simp [rX]
            have u2 : n4 = n0 := by rw [i2, e]; simp [rY]
            exact sec_ok (k := 49) (k1 := 48) (by omega) (by decide) (by decide) (by decide) bI_49 bQ_49 bI_50 bQ_50 (by omega) (by omega)
         rfl
        ·
         simp only [bR_iff, bR_iff_f, dec_iff, dec_f, Bool.false_eq_true, Bool.true_eq_false, false_implies, imp_false, and_true, true_and, implies_true, Classical.not_not] at h119
         refine req_i ?_ ?_
         · -- r87
          first | omega | assumption | grind
         refine req_i ?_ ?_
         · -- r88
          first | omega | assumption | grind
         refine req_i ?_ ?_
         · -- r89
          show sect n0 n1 (16 * n2 + 0)
          obtain ⟨i1, i2, i3, i4, i5, i6⟩ := h11
          rcases (show n2 = 0 ∨ n2 = 1 ∨ n2 = 2 ∨ n2 = 3 by omega) with e | e | e | e
          · have u1 : n3 = n0 := by rw [i1, e]; simp [rX]
            have u2 : n4 = n1 := by rw [i2, e]; simp [rY]
            exact sec_ok (k := 0) (k1 := -1) (by omega) (by decide) (by decide) (by decide) bI_0 bQ_0 bI_1 bQ_1 (by omega) (by omega)
          · have u1 : n3 = n1 := by rw [i1, e]; simp [rX]
            have u2 : n4 = -n0 := by rw [i2, e]; simp [rY]
            exact sec_ok (k := 16) (k1 := 15) (by omega) (by decide) (by decide) (by decide) bI_16 bQ_16 bI_17 bQ_17 (by omega) (by omega)
          · have u1 : n3 = -n0 := by rw [i1, e]; simp [rX]
            have u2 : n4 = -n1 := by rw [i2, e]; simp [rY]
            exact sec_ok (k := 32) (k1 := 31) (by omega) (by decide) (by decide) (by decide) bI_32 bQ_32 bI_33 bQ_33 (by omega) (by omega)
          · have u1 : n3 = -n1 := by rw [i1, e]; simp [rX]
            have u2 : n4 = n0 := by rw [i2, e]; simp [rY]
            exact sec_ok (k := 48) (k1 := 47) (by omega) (by decide) (by decide) (by decide) bI_48 bQ_48 bI_49 bQ_49 (by omega) (by omega)
         rfl
theorem ext_sector : ∀ p ∈ ([(77, Ext.ctr (ctOfG gl11 sigBnd))] : List (Nat × Ext)), ExtRow Tryd.prog p.1 p.2 := by
  intro p hp
  simp only [List.mem_cons, List.not_mem_nil, or_false] at hp
  rcases hp with rfl
  · trivial
theorem cts_sector : CtsOk Tryd.prog [(77, Ext.ctr (ctOfG gl11 sigBnd))] := ctsOk_ofG (cs := [(77, sigBnd)])
  (fun p hp => by
    simp only [List.mem_cons, List.not_mem_nil, or_false] at hp
    rcases hp with rfl
    · exact fn_bnd
)
  (fun f c h => by
    simp only [List.lookup_cons] at h
    repeat' split at h
    all_goals first | (cases h; done) | (rename_i e; have e := beq_iff_eq.1 e; subst e; cases h; refine ⟨_, ?_, rfl⟩; simp))
theorem fn_sector : FnOk Tryd.prog 76 sigSec gl11 := fn_sound (by kernel_rfl) ext_sector cts_sector names vt_sector
end Go.Proofs.YtofeleohcpaclaaDoor

namespace Go.Proofs.YtofeleohcpaclaaDoor
open Go.Ev Go.Sp
set_option maxRecDepth 100000
theorem vc_Fine : vcFn Tryd.prog [(75, Ext.ctr (ctOfG gl11 sigSmall)), (76, Ext.ctr (ctOfG gl11 sigSec)), (77, Ext.ctr (ctOfG gl11 sigBnd))] noA gl11 100 62 sigFine = (allB fun n0 : Int => 
impB ((-9223372036854775808 : Int) ≤ n0) (
impB (n0 ≤ (9223372036854775807 : Int)) (
allB fun n1 : Int => 
impB ((-9223372036854775808 : Int) ≤ n1) (
impB (n1 ≤ (9223372036854775807 : Int)) (
impB (sigFine.pre [DV.n n0, DV.n n1]) (
reqB ((-9223372036854775808 : Int) ≤ n0) (
reqB (n0 ≤ (9223372036854775807 : Int)) (
reqB ((-9223372036854775808 : Int) ≤ n1) (
reqB (n1 ≤ (9223372036854775807 : Int)) (
reqB (sigSmall.pre [DV.n n0, DV.n n1]) (
allB fun n2 : Int => 
impB ((0 : Int) ≤ n2) (
impB (n2 ≤ (18 : Int)) (
impB (sigSmall.post [DV.n n0, DV.n n1] [DV.n n2]) (
bR (dec (n2 ≠ (0 : Int))) (
 reqB ((0 : Int) ≤ n2) (
 reqB (n2 ≤ (18 : Int)) (
 reqB (sigFine.post [DV.n n0, DV.n n1] [DV.n (0 : Int), DV.n n2]) (
 true)))) (
 bR (bR (dec (n0 = (0 : Int))) (
 bR (dec (n1 = (0 : Int))) (
 true) (
 false)) (
 false)) (
 reqB ((0 : Int) ≤ n2) (
 reqB (n2 ≤ (18 : Int)) (
 reqB (sigFine.post [DV.n n0, DV.n n1] [DV.n (0 : Int), DV.n n2]) (
 true)))) (
 reqB ((-70368744177664 : Int) ≤ n0) (
 reqB (n0 ≤ (70368744177664 : Int)) (
 reqB ((-70368744177664 : Int) ≤ n1) (
 reqB (n1 ≤ (70368744177664 : Int)) (
 reqB (sigSec.pre [DV.n n0, DV.n n1]) (
 allB fun n3 : Int => 
 impB ((0 : Int) ≤ n3) (
 impB (n3 ≤ (63 : Int)) (
 impB (sigSec.post [DV.n n0, DV.n n1] [DV.n n3]) (
 reqB ((-1 : Int) ≤ n3 - (1 : Int)) (
 reqB (n3 - (1 : Int) ≤ (64 : Int)) (
 reqB (sigBnd.pre [DV.n (n3 - (1 : Int))]) (
 allB fun n4 : Int => 
 impB ((-254 : Int) ≤ n4) (
 impB (n4 ≤ (254 : Int)) (
 allB fun n5 : Int => 
 impB ((-254 : Int) ≤ n5) (
 impB (n5 ≤ (254 : Int)) (
 impB (sigBnd.post [DV.n (n3 - (1 : Int))] [DV.n n4, DV.n n5]) (
 allB fun n6 : Int => 
 impB (n6 = Go.IntKind.i64.wrap (n4 * n1)) (
 impB (Int.negSucc (9223372036854775807 : Nat) ≤ n6) (
 impB (n6 ≤ Int.ofNat (9223372036854775807 : Nat)) (
 allB fun n7 : Int => 
 impB (n7 = Go.IntKind.i64.wrap (n5 * n0)) (
 impB (Int.negSucc (9223372036854775807 : Nat) ≤ n7) (
 impB (n7 ≤ Int.ofNat (9223372036854775807 : Nat)) (
 allB fun n8 : Int => 
 impB (n8 = Go.IntKind.i64.wrap (n6 - n7)) (
 impB (Int.negSucc (9223372036854775807 : Nat) ≤ n8) (
 impB (n8 ≤ Int.ofNat (9223372036854775807 : Nat)) (
 reqB ((-1 : Int) ≤ n3) (
 reqB (n3 ≤ (64 : Int)) (
 reqB (sigBnd.pre [DV.n n3]) (
 allB fun n9 : Int => 
 impB ((-254 : Int) ≤ n9) (
 impB (n9 ≤ (254 : Int)) (
 allB fun n10 : Int => 
 impB ((-254 : Int) ≤ n10) (
 impB (n10 ≤ (254 : Int)) (
 impB (sigBnd.post [DV.n n3] [DV.n n9, DV.n n10]) (
 allB fun n11 : Int => 
 impB (n11 = Go.IntKind.i64.wrap (n0 * n10)) (
 impB (Int.negSucc (9223372036854775807 : Nat) ≤ n11) (
 impB (n11 ≤ Int.ofNat (9223372036854775807 : Nat)) (
 allB fun n12 : Int => 
 impB (n12 = Go.IntKind.i64.wrap (n1 * n9)) (
 impB (Int.negSucc (9223372036854775807 : Nat) ≤ n12) (
 impB (n12 ≤ Int.ofNat (9223372036854775807 : Nat)) (
 allB fun n13 : Int => 
 impB (n13 = Go.IntKind.i64.wrap (n11 - n12)) (
 impB (Int.negSucc (9223372036854775807 : Nat) ≤ n13) (
 impB (n13 ≤ Int.ofNat (9223372036854775807 : Nat)) (
 allB fun n14 : Int => 
 impB (n14 = Go.IntKind.i64.wrap ((64 : Int) * n8)) (
 impB (Int.negSucc (9223372036854775807 : Nat) ≤ n14) (
 impB (n14 ≤ Int.ofNat (9223372036854775807 : Nat)) (
 allB fun n15 : Int => 
 impB (n15 = Go.IntKind.i64.wrap (n8 + n13)) (
 impB (Int.negSucc (9223372036854775807 : Nat) ≤ n15) (
 impB (n15 ≤ Int.ofNat (9223372036854775807 : Nat)) (
 reqB (n15 ≠ (0 : Int)) (
 allB fun n16 : Int => 
 impB (n16 = Go.IntKind.i64.wrap (n14.tdiv n15)) (
 impB (Int.negSucc (9223372036854775807 : Nat) ≤ n16) (
 impB (n16 ≤ Int.ofNat (9223372036854775807 : Nat)) (
 allB fun n17 : Int => 
 impB (n17 = Go.IntKind.i64.wrap ((64 : Int) * n3 - (32 : Int) + n16)) (
 impB (Int.negSucc (9223372036854775807 : Nat) ≤ n17) (
 impB (n17 ≤ Int.ofNat (9223372036854775807 : Nat)) (
 allB fun n18 : Int => 
 impB (n18 = Go.IntKind.i64.wrap (n17 + (4096 : Int))) (
 impB (Int.negSucc (9223372036854775807 : Nat) ≤ n18) (
 impB (n18 ≤ Int.ofNat (9223372036854775807 : Nat)) (
 reqB ((0 : Int) ≤ n18.tmod (4096 : Int)) (
 reqB (n18.tmod (4096 : Int) ≤ (4095 : Int)) (
 reqB (sigFine.post [DV.n n0, DV.n n1] [DV.n (n18.tmod (4096 : Int)), DV.n (0 : Int)]) (
 true))))))))))))))))))))))))))))))))))))))))))))))))))))))))))))))))))))))))))))) := by kernel_rfl
set_option maxHeartbeats 8000000 in
theorem vt_Fine : vcFn Tryd.prog [(75, Ext.ctr (ctOfG gl11 sigSmall)), (76, Ext.ctr (ctOfG gl11 sigSec)), (77, Ext.ctr (ctOfG gl11 sigBnd))] noA gl11 100 62 sigFine = true := by
  rw [vc_Fine]
  try simp only [Int.toNat_natCast, List.length_set, List.length_replicate, List.length_take, List.length_drop, List.length_append, List.length_cons, List.length_nil, Nat.min_self, List.take_take, lenCols_i, lenCols_b, List.drop_zero, List.take_length, Nat.add_eq, Nat.mul_eq, Nat.sub_eq, Nat.zero_add, Nat.sub_zero, Nat.mul_one]
  refine all_i fun n0 => ?_
  refine imp_i fun h0 => ?_
  refine imp_i fun h1 => ?_
  refine all_i fun n1 => ?_
  refine imp_i fun h2 => ?_
  refine imp_i fun h3 => ?_
  refine imp_i fun h4 => ?_
  try simp only [sigFine, smpV, finePost, sml, List.cons.injEq, DV.b.injEq, and_true, List.length_cons, List.length_nil] at h4
  refine req_i ?_ ?_
  · -- r0
   first | omega | assumption | grind
  refine req_i ?_ ?_
  · -- r1
   first | omega | assumption | grind
  refine req_i ?_ ?_
  · -- r2
   first | omega | assumption | grind
  refine req_i ?_ ?_
  · -- r3
   first | omega | assumption | grind
  refine req_i ?_ ?_
  · -- r4
   first | trivial | assumption | (simp only [sigSmall, smpV, smallPost, sml, List.cons.injEq, DV.b.injEq, and_true, List.length_cons, List.length_nil]; done) | ((try simp only [sigSmall, smpV, smallPost, sml, List.cons.injEq, DV.b.injEq, and_true, List.length_cons, List.length_nil]); first | omega | assumption | grind)
  refine all_i fun n2 => ?_
  refine imp_i fun h5 => ?_
  refine imp_i fun h6 => ?_
  refine imp_i fun h7 => ?_
  try simp only [sigSmall, smpV, smallPost, sml, List.cons.injEq, DV.b.injEq, and_true, List.length_cons, List.length_nil] at h7
  refine bR_dec (fun h8 => ?_) (fun h8 => ?_)
  ·
   refine req_i ?_ ?_
   · -- r5
    first | omega | assumption | grind
   refine req_i ?_ ?_
   · -- r6
    first | omega | assumption | grind
   refine req_i ?_ ?_
   · -- r7
    refine .inr ⟨?_, by omega, by omega⟩; unfold sml; omega
   rfl
  ·
   have hsm : sml n0 n1 := by unfold sml; omega
   refine bR_i (fun h9 => ?_) (fun h9 => ?_)
   ·
    simp only [bR_iff, bR_iff_f, dec_iff, dec_f, Bool.false_eq_true, Bool.true_eq_false, false_implies, imp_false, and_true, true_and, implies_true, Classical.not_not] at h9
    refine req_i ?_ ?_
    · -- r8
     first | omega | assumption | grind
    refine req_i ?_ ?_
    · -- r9
     first | omega | assumption | grind
    refine req_i ?_ ?_
    · -- r10
     have z : n0 = 0 ∧ n1 = 0 := by omega
     obtain ⟨rfl, rfl⟩ := z
     exact .inl ⟨by unfold sml; omega, by omega, fineOf_0.symm⟩
    rfl
   ·
    simp only [bR_iff, bR_iff_f, dec_iff, dec_f, Bool.false_eq_true, Bool.true_eq_false, false_implies, imp_false, and_true, true_and, implies_true, Classical.not_not] at h9
    refine req_i ?_ ?_
    · -- r11
     first | omega | assumption | grind
    refine req_i ?_ ?_
    · -- r12
     first | omega | assumption | grind
    refine req_i ?_ ?_
    · -- r13
     first | omega | assumption | grind
    refine req_i ?_ ?_
    · -- r14
     first | omega | assumption | grind
    refine req_i ?_ ?_
    · -- r15
     first | trivial | assumption | (simp only [sigSec, smV, secPre, secPost, List.cons.injEq, DV.b.injEq, and_true, List.length_cons, List.length_nil]; done) | ((try simp only [sigSec, smV, secPre, secPost, List.cons.injEq, DV.b.injEq, and_true, List.length_cons, List.length_nil]); first | omega | assumption | grind)
    refine all_i fun n3 => ?_
    refine imp_i fun h10 => ?_
    refine imp_i fun h11 => ?_
    refine imp_i fun h12 => ?_
    try simp only [sigSec, smV, secPre, secPost, List.cons.injEq, DV.b.injEq, and_true, List.length_cons, List.length_nil] at h12
    refine req_i ?_ ?_
    · -- r16
     first | omega | assumption | grind
    refine req_i ?_ ?_
    · -- r17
     first | omega | assumption | grind
    refine req_i ?_ ?_
    · -- r18
     first | trivial | assumption | (simp only [sigBnd, bndPost, List.cons.injEq, DV.b.injEq, and_true, List.length_cons, List.length_nil]; done) | ((try simp only [sigBnd, bndPost, List.cons.injEq, DV.b.injEq, and_true, List.length_cons, List.length_nil]); first | omega | assumption | grind)
    refine all_i fun n4 => ?_
    refine imp_i fun h13 => ?_
    refine imp_i fun h14 => ?_
    refine all_i fun n5 => ?_
    refine imp_i fun h15 => ?_
    refine imp_i fun h16 => ?_
    refine imp_i fun h17 => ?_
    try simp only [sigBnd, bndPost, List.cons.injEq, DV.b.injEq, and_true, List.length_cons, List.length_nil] at h17
    refine all_i fun n6 => ?_
    refine imp_i fun h18 => ?_
    simp only [wrap_i64] at h18
    have ph18 := mul_abs (a := n4) (b := n1) (A := 254) (B := 70368744177664) (by omega) (by omega) (by omega) (by omega)
    have h18 : n6 = n4 * n1 := by omega
    refine imp_i fun h19 => ?_
    refine imp_i fun h20 => ?_
    refine all_i fun n7 => ?_
    refine imp_i fun h21 => ?_
    simp only [wrap_i64] at h21
    have ph21 := mul_abs (a := n5) (b := n0) (A := 254) (B := 70368744177664) (by omega) (by omega) (by omega) (by omega)
    have h21 : n7 = n5 * n0 := by omega
    refine imp_i fun h22 => ?_
    refine imp_i fun h23 => ?_
    refine all_i fun n8 => ?_
    refine imp_i fun h24 => ?_
    simp only [wrap_i64] at h24
    have c1 : n8 = -cr n0 n1 (n3 - 1) := by
      have cc : cr n0 n1 (n3 - 1) = n0 * n5 - n1 * n4 := by unfold cr; rw [← h17.1, ← h17.2]
      rw [cc, Int.mul_comm n0 n5, Int.mul_comm n1 n4]; omega
    refine imp_i fun h25 => ?_
    refine imp_i fun h26 => ?_
    refine req_i ?_ ?_
    · -- r19
     first | omega | assumption | grind
    refine req_i ?_ ?_
    · -- r20
     first | omega | assumption | grind
    refine req_i ?_ ?_
    · -- r21
     first | trivial | assumption | (simp only [sigBnd, bndPost, List.cons.injEq, DV.b.injEq, and_true, List.length_cons, List.length_nil]; done) | ((try simp only [sigBnd, bndPost, List.cons.injEq, DV.b.injEq, and_true, List.length_cons, List.length_nil]); first | omega | assumption | grind)
    refine all_i fun n9 => ?_
    refine imp_i fun h27 => ?_
    refine imp_i fun h28 => ?_
    refine all_i fun n10 => ?_
    refine imp_i fun h29 => ?_
    refine imp_i fun h30 => ?_
    refine imp_i fun h31 => ?_
    try simp only [sigBnd, bndPost, List.cons.injEq, DV.b.injEq, and_true, List.length_cons, List.length_nil] at h31
    refine all_i fun n11 => ?_
    refine imp_i fun h32 => ?_
    simp only [wrap_i64] at h32
    have ph32 := mul_abs (a := n0) (b := n10) (A := 70368744177664) (B := 254) (by omega) (by omega) (by omega) (by omega)
    have h32 : n11 = n0 * n10 := by omega
    refine imp_i fun h33 => ?_
    refine imp_i fun h34 => ?_
    refine all_i fun n12 => ?_
    refine imp_i fun h35 => ?_
    simp only [wrap_i64] at h35
    have ph35 := mul_abs (a := n1) (b := n9) (A := 70368744177664) (B := 254) (by omega) (by omega) (by omega) (by omega)
    have h35 : n12 = n1 * n9 := by omega
    refine imp_i fun h36 => ?_
    refine imp_i fun h37 => ?_
    refine all_i fun n13 => ?_
    refine imp_i fun h38 => ?_
    simp only [wrap_i64] at h38
    have c2 : n13 = cr n0 n1 n3 := by
      have cc : cr n0 n1 n3 = n0 * n10 - n1 * n9 := by unfold cr; rw [← h31.1, ← h31.2]
      rw [cc]; omega
    obtain ⟨s1, s2, s3, s4⟩ := h12
    have d1 := cr_bd (k := n3 - 1) (M := 70368744177664) (x := n0) (y := n1) (by omega) (by omega) (by omega) (by omega)
    have d2 := cr_bd (k := n3) (M := 70368744177664) (x := n0) (y := n1) (by omega) (by omega) (by omega) (by omega)
    refine imp_i fun h39 => ?_
    refine imp_i fun h40 => ?_
    refine all_i fun n14 => ?_
    refine imp_i fun h41 => ?_
    simp only [wrap_i64] at h41
    have h41 : n14 = 64 * n8 := by omega
    refine imp_i fun h42 => ?_
    refine imp_i fun h43 => ?_
    refine all_i fun n15 => ?_
    refine imp_i fun h44 => ?_
    simp only [wrap_i64] at h44
    have h44 : n15 = n8 + n13 := by omega
    obtain ⟨q1, q2, q3⟩ := fine_q (a := n8) (b := n13) (by omega) (by omega)
    refine imp_i fun h45 => ?_
    refine imp_i fun h46 => ?_
    refine req_i ?_ ?_
    · -- r22
     omega
    refine all_i fun n16 => ?_
    refine imp_i fun h47 => ?_
    simp only [wrap_i64] at h47
    rw [h41, h44, q3] at h47
    have h47 : n16 = 64 * n8 / (n8 + n13) := by omega
    refine imp_i fun h48 => ?_
    refine imp_i fun h49 => ?_
    refine all_i fun n17 => ?_
    refine imp_i fun h50 => ?_
    simp only [wrap_i64] at h50
    have h50 : n17 = 64 * n3 - 32 + n16 := by omega
    refine imp_i fun h51 => ?_
    refine imp_i fun h52 => ?_
    refine all_i fun n18 => ?_
    refine imp_i fun h53 => ?_
    simp only [wrap_i64] at h53
    have h53 : n18 = n17 + 4096 := by omega
    have tm : n18.tmod 4096 = n18 % 4096 := tmod_nn (by omega)
    refine imp_i fun h54 => ?_
    refine imp_i fun h55 => ?_
    refine req_i ?_ ?_
    · -- r23
     first | omega | assumption | grind
    refine req_i ?_ ?_
    · -- r24
     first | omega | assumption | grind
    refine req_i ?_ ?_
    · -- r25
     have fe := fineOf_eq (x := n0) (y := n1) (k := n3) ⟨s1, s2, s3, s4⟩
     rw [← c1, ← c2, show n13 - cr n0 n1 (n3 - 1) = n8 + n13 by omega, ← h47, ← h50] at fe
     refine .inl ⟨hsm, rfl, ?_⟩
     rw [tm, fe]; omega
    rfl
theorem ext_Fine : ∀ p ∈ ([(75, Ext.ctr (ctOfG gl11 sigSmall)), (76, Ext.ctr (ctOfG gl11 sigSec)), (77, Ext.ctr (ctOfG gl11 sigBnd))] : List (Nat × Ext)), ExtRow Tryd.prog p.1 p.2 := by
  intro p hp
  simp only [List.mem_cons, List.not_mem_nil, or_false] at hp
  rcases hp with rfl | rfl | rfl
  · trivial
  · trivial
  · trivial
theorem cts_Fine : CtsOk Tryd.prog [(75, Ext.ctr (ctOfG gl11 sigSmall)), (76, Ext.ctr (ctOfG gl11 sigSec)), (77, Ext.ctr (ctOfG gl11 sigBnd))] := ctsOk_ofG (cs := [(75, sigSmall), (76, sigSec), (77, sigBnd)])
  (fun p hp => by
    simp only [List.mem_cons, List.not_mem_nil, or_false] at hp
    rcases hp with rfl | rfl | rfl
    · exact fn_small
    · exact fn_sector
    · exact fn_bnd
)
  (fun f c h => by
    simp only [List.lookup_cons] at h
    repeat' split at h
    all_goals first | (cases h; done) | (rename_i e; have e := beq_iff_eq.1 e; subst e; cases h; refine ⟨_, ?_, rfl⟩; simp))
theorem fn_Fine : FnOk Tryd.prog 62 sigFine gl11 := fn_sound (by kernel_rfl) ext_Fine cts_Fine names vt_Fine
end Go.Proofs.YtofeleohcpaclaaDoor

namespace Go.Proofs.YtofeleohcpaclaaDoor
open Go.Ev Go.Sp
set_option maxRecDepth 100000
theorem vc_Rate : vcFn Tryd.prog [(62, Ext.ctr (ctOfG gl11 sigFine))] noA gl11 100 13 sigRate = (allB fun n0 : Int => 
impB ((-9223372036854775808 : Int) ≤ n0) (
impB (n0 ≤ (9223372036854775807 : Int)) (
allB fun n1 : Int => 
impB ((-9223372036854775808 : Int) ≤ n1) (
impB (n1 ≤ (9223372036854775807 : Int)) (
allB fun n2 : Int => 
impB ((-9223372036854775808 : Int) ≤ n2) (
impB (n2 ≤ (9223372036854775807 : Int)) (
allB fun n3 : Int => 
impB ((-9223372036854775808 : Int) ≤ n3) (
impB (n3 ≤ (9223372036854775807 : Int)) (
impB (sigRate.pre [DV.n n0, DV.n n1, DV.n n2, DV.n n3]) (
bR (dec (Min.min n0 n1 < (-1048576 : Int))) (
 reqB (sigRate.post [DV.n n0, DV.n n1, DV.n n2, DV.n n3]
 [DV.n (0 : Int), DV.n (2 : Int)]) (
 true)) (
 bR (dec ((1048576 : Int) < Max.max n0 n1)) (
 reqB (sigRate.post [DV.n n0, DV.n n1, DV.n n2, DV.n n3]
 [DV.n (0 : Int), DV.n (2 : Int)]) (
 true)) (
 bR (dec (Min.min n2 n3 < (-1048576 : Int))) (
 reqB (sigRate.post [DV.n n0, DV.n n1, DV.n n2, DV.n n3]
 [DV.n (0 : Int), DV.n (2 : Int)]) (
 true)) (
 bR (dec ((1048576 : Int) < Max.max n2 n3)) (
 reqB (sigRate.post [DV.n n0, DV.n n1, DV.n n2, DV.n n3]
 [DV.n (0 : Int), DV.n (2 : Int)]) (
 true)) (
 bR (bR (bR (false) (
 bR (false) (
 bR (false) (
 bR (false) (
 bR (false) (
 bR (dec (n2 = n2)) (
 bR (dec (n3 = n3)) (
 true) (
 false)) (
 false)) (
 bR (true) (
 bR (dec (n2 = n2)) (
 bR (dec (n3 = n3)) (
 true) (
 false)) (
 false)) (
 bR (bR (dec (n2 = n2)) (
 bR (dec (n3 = n3)) (
 true) (
 false)) (
 false)) (
 bR (dec (n2 = n2)) (
 bR (dec (n3 = n3)) (
 true) (
 false)) (
 false)) (
 false)))) (
 bR (false) (
 bR (false) (
 bR (dec (n2 = n2)) (
 bR (dec (n3 = n3)) (
 true) (
 false)) (
 false)) (
 bR (true) (
 bR (bR (bR (bR (dec (n2 = n2)) (
 bR (dec (n3 = n3)) (
 true) (
 false)) (
 false)) (
 true) (
 false)) (
 true) (
 false)) (
 true) (
 false)) (
 bR (bR (bR (bR (bR (dec (n2 = n2)) (
 bR (dec (n3 = n3)) (
 true) (
 false)) (
 false)) (
 true) (
 false)) (
 true) (
 false)) (
 true) (
 false)) (
 bR (dec (n2 = n2)) (
 bR (dec (n3 = n3)) (
 true) (
 false)) (
 false)) (
 false)))) (
 bR (false) (
 bR (dec (n2 = n2)) (
 bR (dec (n3 = n3)) (
 true) (
 false)) (
 false)) (
 bR (true) (
 bR (bR (bR (bR (bR (dec (n2 = n2)) (
 bR (dec (n3 = n3)) (
 true) (
 false)) (
 false)) (
 true) (
 false)) (
 true) (
 false)) (
 true) (
 false)) (
 bR (dec (n2 = n2)) (
 bR (dec (n3 = n3)) (
 true) (
 false)) (
 false)) (
 false)) (
 bR (bR (bR (bR (bR (bR (dec (n2 = n2)) (
 bR (dec (n3 = n3)) (
 true) (
 false)) (
 false)) (
 true) (
 false)) (
 true) (
 false)) (
 true) (
 false)) (
 bR (dec (n2 = n2)) (
 bR (dec (n3 = n3)) (
 true) (
 false)) (
 false)) (
 false)) (
 bR (dec (n2 = n2)) (
 bR (dec (n3 = n3)) (
 true) (
 false)) (
 false)) (
 false)))))) (
 bR (false) (
 bR (false) (
 bR (dec (n2 = n2)) (
 bR (dec (n3 = n3)) (
 true) (
 false)) (
 false)) (
 bR (true) (
 bR (dec (n2 = n2)) (
 bR (dec (n3 = n3)) (
 true) (
 false)) (
 false)) (
 bR (bR (dec (n2 = n2)) (
 bR (dec (n3 = n3)) (
 true) (
 false)) (
 false)) (
 bR (dec (n2 = n2)) (
 bR (dec (n3 = n3)) (
 true) (
 false)) (
 false)) (
 false)))) (
 bR (false) (
 bR (false) (
 bR (dec (n2 = n2)) (
 bR (dec (n3 = n3)) (
 true) (
 false)) (
 false)) (
 bR (true) (
 bR (bR (bR (dec (n2 = n2)) (
 bR (dec (n3 = n3)) (
 true) (
 false)) (
 false)) (
 true) (
 false)) (
 true) (
 false)) (
 bR (bR (bR (bR (dec (n2 = n2)) (
 bR (dec (n3 = n3)) (
 true) (
 false)) (
 false)) (
 true) (
 false)) (
 true) (
 false)) (
 bR (dec (n2 = n2)) (
 bR (dec (n3 = n3)) (
 true) (
 false)) (
 false)) (
 false)))) (
 bR (false) (
 bR (dec (n2 = n2)) (
 bR (dec (n3 = n3)) (
 true) (
 false)) (
 false)) (
 bR (true) (
 bR (bR (bR (bR (dec (n2 = n2)) (
 bR (dec (n3 = n3)) (
 true) (
 false)) (
 false)) (
 true) (
 false)) (
 true) (
 false)) (
 bR (dec (n2 = n2)) (
 bR (dec (n3 = n3)) (
 true) (
 false)) (
 false)) (
 false)) (
 bR (bR (bR (bR (bR (dec (n2 = n2)) (
 bR (dec (n3 = n3)) (
 true) (
 false)) (
 false)) (
 true) (
 false)) (
 true) (
 false)) (
 bR (dec (n2 = n2)) (
 bR (dec (n3 = n3)) (
 true) (
 false)) (
 false)) (
 false)) (
 bR (dec (n2 = n2)) (
 bR (dec (n3 = n3)) (
 true) (
 false)) (
 false)) (
 false))))))) (
 bR (false) (
 bR (false) (
 bR (false) (
 bR (dec (n2 = n2)) (
 bR (dec (n3 = n3)) (
 true) (
 false)) (
 false)) (
 bR (true) (
 bR (dec (n2 = n2)) (
 bR (dec (n3 = n3)) (
 true) (
 false)) (
 false)) (
 bR (bR (dec (n2 = n2)) (
 bR (dec (n3 = n3)) (
 true) (
 false)) (
 false)) (
 bR (dec (n2 = n2)) (
 bR (dec (n3 = n3)) (
 true) (
 false)) (
 false)) (
 false)))) (
 bR (false) (
 bR (false) (
 bR (dec (n2 = n2)) (
 bR (dec (n3 = n3)) (
 true) (
 false)) (
 false)) (
 bR (true) (
 bR (bR (bR (dec (n2 = n2)) (
 bR (dec (n3 = n3)) (
 true) (
 false)) (
 false)) (
 true) (
 false)) (
 true) (
 false)) (
 bR (bR (bR (bR (dec (n2 = n2)) (
 bR (dec (n3 = n3)) (
 true) (
 false)) (
 false)) (
 true) (
 false)) (
 true) (
 false)) (
 bR (dec (n2 = n2)) (
 bR (dec (n3 = n3)) (
 true) (
 false)) (
 false)) (
 false)))) (
 bR (false) (
 bR (dec (n2 = n2)) (
 bR (dec (n3 = n3)) (
 true) (
 false)) (
 false)) (
 bR (true) (
 bR (bR (bR (bR (dec (n2 = n2)) (
 bR (dec (n3 = n3)) (
 true) (
 false)) (
 false)) (
 true) (
 false)) (
 true) (
 false)) (
 bR (dec (n2 = n2)) (
 bR (dec (n3 = n3)) (
 true) (
 false)) (
 false)) (
 false)) (
 bR (bR (bR (bR (bR (dec (n2 = n2)) (
 bR (dec (n3 = n3)) (
 true) (
 false)) (
 false)) (
 true) (
 false)) (
 true) (
 false)) (
 bR (dec (n2 = n2)) (
 bR (dec (n3 = n3)) (
 true) (
 false)) (
 false)) (
 false)) (
 bR (dec (n2 = n2)) (
 bR (dec (n3 = n3)) (
 true) (
 false)) (
 false)) (
 false)))))) (
 bR (false) (
 bR (false) (
 bR (dec (n2 = n2)) (
 bR (dec (n3 = n3)) (
 true) (
 false)) (
 false)) (
 bR (true) (
 bR (dec (n2 = n2)) (
 bR (dec (n3 = n3)) (
 true) (
 false)) (
 false)) (
 bR (bR (dec (n2 = n2)) (
 bR (dec (n3 = n3)) (
 true) (
 false)) (
 false)) (
 bR (dec (n2 = n2)) (
 bR (dec (n3 = n3)) (
 true) (
 false)) (
 false)) (
 false)))) (
 bR (false) (
 bR (false) (
 bR (dec (n2 = n2)) (
 bR (dec (n3 = n3)) (
 true) (
 false)) (
 false)) (
 bR (true) (
 bR (bR (dec (n2 = n2)) (
 bR (dec (n3 = n3)) (
 true) (
 false)) (
 false)) (
 true) (
 false)) (
 bR (bR (bR (dec (n2 = n2)) (
 bR (dec (n3 = n3)) (
 true) (
 false)) (
 false)) (
 true) (
 false)) (
 bR (dec (n2 = n2)) (
 bR (dec (n3 = n3)) (
 true) (
 false)) (
 false)) (
 false)))) (
 bR (false) (
 bR (dec (n2 = n2)) (
 bR (dec (n3 = n3)) (
 true) (
 false)) (
 false)) (
 bR (true) (
 bR (bR (bR (dec (n2 = n2)) (
 bR (dec (n3 = n3)) (
 true) (
 false)) (
 false)) (
 true) (
 false)) (
 bR (dec (n2 = n2)) (
 bR (dec (n3 = n3)) (
 true) (
 false)) (
 false)) (
 false)) (
 bR (bR (bR (bR (dec (n2 = n2)) (
 bR (dec (n3 = n3)) (
 true) (
 false)) (
 false)) (
 true) (
 false)) (
 bR (dec (n2 = n2)) (
 bR (dec (n3 = n3)) (
 true) (
 false)) (
 false)) (
 false)) (
 bR (dec (n2 = n2)) (
 bR (dec (n3 = n3)) (
 true) (
 false)) (
 false)) (
 false)))))))) (
 bR (false) (
 bR (false) (
 bR (false) (
 bR (false) (
 bR (dec (n2 = n2)) (
 bR (dec (n3 = n3)) (
 true) (
 false)) (
 false)) (
 bR (true) (
 bR (dec (n2 = n2)) (
 bR (dec (n3 = n3)) (
 true) (
 false)) (
 false)) (
 bR (bR (dec (n2 = n2)) (
 bR (dec (n3 = n3)) (
 true) (
 false)) (
 false)) (
 bR (dec (n2 = n2)) (
 bR (dec (n3 = n3)) (
 true) (
 false)) (
 false)) (
 false)))) (
 bR (false) (
 bR (false) (
 bR (dec (n2 = n2)) (
 bR (dec (n3 = n3)) (
 true) (
 false)) (
 false)) (
 bR (true) (
 bR (bR (bR (dec (n2 = n2)) (
 bR (dec (n3 = n3)) (
 true) (
 false)) (
 false)) (
 true) (
 false)) (
 true) (
 false)) (
 bR (bR (bR (bR (dec (n2 = n2)) (
 bR (dec (n3 = n3)) (
 true) (
 false)) (
 false)) (
 true) (
 false)) (
 true) (
 false)) (
 bR (dec (n2 = n2)) (
 bR (dec (n3 = n3)) (
 true) (
 false)) (
 false)) (
 false)))) (
 bR (false) (
 bR (dec (n2 = n2)) (
 bR (dec (n3 = n3)) (
 true) (
 false)) (
 false)) (
 bR (true) (
 bR (bR (bR (bR (dec (n2 = n2)) (
 bR (dec (n3 = n3)) (
 true) (
 false)) (
 false)) (
 true) (
 false)) (
 true) (
 false)) (
 bR (dec (n2 = n2)) (
 bR (dec (n3 = n3)) (
 true) (
 false)) (
 false)) (
 false)) (
 bR (bR (bR (bR (bR (dec (n2 = n2)) (
 bR (dec (n3 = n3)) (
 true) (
 false)) (
 false)) (
 true) (
 false)) (
 true) (
 false)) (
 bR (dec (n2 = n2)) (
 bR (dec (n3 = n3)) (
 true) (
 false)) (
 false)) (
 false)) (
 bR (dec (n2 = n2)) (
 bR (dec (n3 = n3)) (
 true) (
 false)) (
 false)) (
 false)))))) (
 bR (false) (
 bR (false) (
 bR (dec (n2 = n2)) (
 bR (dec (n3 = n3)) (
 true) (
 false)) (
 false)) (
 bR (true) (
 bR (dec (n2 = n2)) (
 bR (dec (n3 = n3)) (
 true) (
 false)) (
 false)) (
 bR (bR (dec (n2 = n2)) (
 bR (dec (n3 = n3)) (
 true) (
 false)) (
 false)) (
 bR (dec (n2 = n2)) (
 bR (dec (n3 = n3)) (
 true) (
 false)) (
 false)) (
 false)))) (
 bR (false) (
 bR (false) (
 bR (dec (n2 = n2)) (
 bR (dec (n3 = n3)) (
 true) (
 false)) (
 false)) (
 bR (true) (
 bR (bR (dec (n2 = n2)) (
 bR (dec (n3 = n3)) (
 true) (
 false)) (
 false)) (
 true) (
 false)) (
 bR (bR (bR (dec (n2 = n2)) (
 bR (dec (n3 = n3)) (
 true) (
 false)) (
 false)) (
 true) (
 false)) (
 bR (dec (n2 = n2)) (
 bR (dec (n3 = n3)) (
 true) (
 false)) (
 false)) (
 false)))) (
 bR (false) (
 bR (dec (n2 = n2)) (
 bR (dec (n3 = n3)) (
 true) (
 false)) (
 false)) (
 bR (true) (
 bR (bR (bR (dec (n2 = n2)) (
 bR (dec (n3 = n3)) (
 true) (
 false)) (
 false)) (
 true) (
 false)) (
 bR (dec (n2 = n2)) (
 bR (dec (n3 = n3)) (
 true) (
 false)) (
 false)) (
 false)) (
 bR (bR (bR (bR (dec (n2 = n2)) (
 bR (dec (n3 = n3)) (
 true) (
 false)) (
 false)) (
 true) (
 false)) (
 bR (dec (n2 = n2)) (
 bR (dec (n3 = n3)) (
 true) (
 false)) (
 false)) (
 false)) (
 bR (dec (n2 = n2)) (
 bR (dec (n3 = n3)) (
 true) (
 false)) (
 false)) (
 false))))))) (
 bR (false) (
 bR (false) (
 bR (false) (
 bR (dec (n2 = n2)) (
 bR (dec (n3 = n3)) (
 true) (
 false)) (
 false)) (
 bR (true) (
 bR (dec (n2 = n2)) (
 bR (dec (n3 = n3)) (
 true) (
 false)) (
 false)) (
 bR (bR (dec (n2 = n2)) (
 bR (dec (n3 = n3)) (
 true) (
 false)) (
 false)) (
 bR (dec (n2 = n2)) (
 bR (dec (n3 = n3)) (
 true) (
 false)) (
 false)) (
 false)))) (
 bR (false) (
 bR (false) (
 bR (dec (n2 = n2)) (
 bR (dec (n3 = n3)) (
 true) (
 false)) (
 false)) (
 bR (true) (
 bR (bR (dec (n2 = n2)) (
 bR (dec (n3 = n3)) (
 true) (
 false)) (
 false)) (
 true) (
 false)) (
 bR (bR (bR (dec (n2 = n2)) (
 bR (dec (n3 = n3)) (
 true) (
 false)) (
 false)) (
 true) (
 false)) (
 bR (dec (n2 = n2)) (
 bR (dec (n3 = n3)) (
 true) (
 false)) (
 false)) (
 false)))) (
 bR (false) (
 bR (dec (n2 = n2)) (
 bR (dec (n3 = n3)) (
 true) (
 false)) (
 false)) (
 bR (true) (
 bR (bR (bR (dec (n2 = n2)) (
 bR (dec (n3 = n3)) (
 true) (
 false)) (
 false)) (
 true) (
 false)) (
 bR (dec (n2 = n2)) (
 bR (dec (n3 = n3)) (
 true) (
 false)) (
 false)) (
 false)) (
 bR (bR (bR (bR (dec (n2 = n2)) (
 bR (dec (n3 = n3)) (
 true) (
 false)) (
 false)) (
 true) (
 false)) (
 bR (dec (n2 = n2)) (
 bR (dec (n3 = n3)) (
 true) (
 false)) (
 false)) (
 false)) (
 bR (dec (n2 = n2)) (
 bR (dec (n3 = n3)) (
 true) (
 false)) (
 false)) (
 false)))))) (
 bR (false) (
 bR (false) (
 bR (dec (n2 = n2)) (
 bR (dec (n3 = n3)) (
 true) (
 false)) (
 false)) (
 bR (true) (
 bR (dec (n2 = n2)) (
 bR (dec (n3 = n3)) (
 true) (
 false)) (
 false)) (
 bR (bR (dec (n2 = n2)) (
 bR (dec (n3 = n3)) (
 true) (
 false)) (
 false)) (
 bR (dec (n2 = n2)) (
 bR (dec (n3 = n3)) (
 true) (
 false)) (
 false)) (
 false)))) (
 bR (false) (
 bR (false) (
 bR (dec (n2 = n2)) (
 bR (dec (n3 = n3)) (
 true) (
 false)) (
 false)) (
 bR (true) (
 bR (dec (n2 = n2)) (
 bR (dec (n3 = n3)) (
 true) (
 false)) (
 false)) (
 bR (bR (dec (n2 = n2)) (
 bR (dec (n3 = n3)) (
 true) (
 false)) (
 false)) (
 bR (dec (n2 = n2)) (
 bR (dec (n3 = n3)) (
 true) (
 false)) (
 false)) (
 false)))) (
 bR (false) (
 bR (dec (n2 = n2)) (
 bR (dec (n3 = n3)) (
 true) (
 false)) (
 false)) (
 bR (true) (
 bR (bR (dec (n2 = n2)) (
 bR (dec (n3 = n3)) (
 true) (
 false)) (
 false)) (
 bR (dec (n2 = n2)) (
 bR (dec (n3 = n3)) (
 true) (
 false)) (
 false)) (
 false)) (
 bR (bR (bR (dec (n2 = n2)) (
 bR (dec (n3 = n3)) (
 true) (
 false)) (
 false)) (
 bR (dec (n2 = n2)) (
 bR (dec (n3 = n3)) (
 true) (
 false)) (
 false)) (
 false)) (
 bR (dec (n2 = n2)) (
 bR (dec (n3 = n3)) (
 true) (
 false)) (
 false)) (
 false))))))))) (
 true) (
 false)) (
 allB fun n4 : Int => 
 impB (n4 = Go.IntKind.i64.wrap (n2 * n0)) (
 impB (Int.negSucc (9223372036854775807 : Nat) ≤ n4) (
 impB (n4 ≤ Int.ofNat (9223372036854775807 : Nat)) (
 allB fun n5 : Int => 
 impB (n5 = Go.IntKind.i64.wrap (n3 * n1)) (
 impB (Int.negSucc (9223372036854775807 : Nat) ≤ n5) (
 impB (n5 ≤ Int.ofNat (9223372036854775807 : Nat)) (
 allB fun n6 : Int => 
 impB (n6 = Go.IntKind.i64.wrap (n4 + n5)) (
 impB (Int.negSucc (9223372036854775807 : Nat) ≤ n6) (
 impB (n6 ≤ Int.ofNat (9223372036854775807 : Nat)) (
 allB fun n7 : Int => 
 impB (n7 = Go.IntKind.i64.wrap (n3 * n0)) (
 impB (Int.negSucc (9223372036854775807 : Nat) ≤ n7) (
 impB (n7 ≤ Int.ofNat (9223372036854775807 : Nat)) (
 allB fun n8 : Int => 
 impB (n8 = Go.IntKind.i64.wrap (n2 * n1)) (
 impB (Int.negSucc (9223372036854775807 : Nat) ≤ n8) (
 impB (n8 ≤ Int.ofNat (9223372036854775807 : Nat)) (
 allB fun n9 : Int => 
 impB (n9 = Go.IntKind.i64.wrap (n7 - n8)) (
 impB (Int.negSucc (9223372036854775807 : Nat) ≤ n9) (
 impB (n9 ≤ Int.ofNat (9223372036854775807 : Nat)) (
 reqB ((-9223372036854775808 : Int) ≤ n6) (
 reqB (n6 ≤ (9223372036854775807 : Int)) (
 reqB ((-9223372036854775808 : Int) ≤ n9) (
 reqB (n9 ≤ (9223372036854775807 : Int)) (
 reqB (sigFine.pre [DV.n n6, DV.n n9]) (
 allB fun n10 : Int => 
 impB ((0 : Int) ≤ n10) (
 impB (n10 ≤ (4095 : Int)) (
 allB fun n11 : Int => 
 impB ((0 : Int) ≤ n11) (
 impB (n11 ≤ (18 : Int)) (
 impB (sigFine.post [DV.n n6, DV.n n9] [DV.n n10, DV.n n11]) (
 reqB ((-2048 : Int) ≤ (n10 + Int.ofNat (2048 : Nat)).tmod (4096 : Int) - Int.ofNat (2048 : Nat)) (
 reqB ((n10 + Int.ofNat (2048 : Nat)).tmod (4096 : Int) - Int.ofNat (2048 : Nat) ≤ (2047 : Int)) (
 reqB (sigRate.post [DV.n n0, DV.n n1, DV.n n2, DV.n n3]
 [DV.n ((n10 + Int.ofNat (2048 : Nat)).tmod (4096 : Int) - Int.ofNat (2048 : Nat)), DV.n (0 : Int)]) (
 true)))))))))))))))))))))))))))))))) (
 false))))))))))))))) := by kernel_rfl
set_option maxHeartbeats 8000000 in
theorem vt_Rate : vcFn Tryd.prog [(62, Ext.ctr (ctOfG gl11 sigFine))] noA gl11 100 13 sigRate = true := by
  rw [vc_Rate]
  try simp only [Int.toNat_natCast, List.length_set, List.length_replicate, List.length_take, List.length_drop, List.length_append, List.length_cons, List.length_nil, Nat.min_self, List.take_take, lenCols_i, lenCols_b, List.drop_zero, List.take_length, Nat.add_eq, Nat.mul_eq, Nat.sub_eq, Nat.zero_add, Nat.sub_zero, Nat.mul_one]
  refine all_i fun n0 => ?_
  refine imp_i fun h0 => ?_
  refine imp_i fun h1 => ?_
  refine all_i fun n1 => ?_
  refine imp_i fun h2 => ?_
  refine imp_i fun h3 => ?_
  refine all_i fun n2 => ?_
  refine imp_i fun h4 => ?_
  refine imp_i fun h5 => ?_
  refine all_i fun n3 => ?_
  refine imp_i fun h6 => ?_
  refine imp_i fun h7 => ?_
  refine imp_i fun h8 => ?_
  try simp only [sigRate, smpV, ratePost, insd, cen, tI, tQ, List.cons.injEq, DV.b.injEq, and_true, List.length_cons, List.length_nil] at h8
  refine bR_dec (fun h9 => ?_) (fun h9 => ?_)
  ·
   refine req_i ?_ ?_
   · -- r0
    first | omega | ((try simp only [sigRate, smpV, ratePost, insd, cen, tI, tQ, List.cons.injEq, DV.b.injEq, and_true, List.length_cons, List.length_nil]); first | done | omega | assumption | grind [getD_set, getD_rep, toNat_succ, cntN_yes, cntN_no])
   rfl
  ·
   refine bR_dec (fun h10 => ?_) (fun h10 => ?_)
   ·
    refine req_i ?_ ?_
    · -- r1
     first | omega | ((try simp only [sigRate, smpV, ratePost, insd, cen, tI, tQ, List.cons.injEq, DV.b.injEq, and_true, List.length_cons, List.length_nil]); first | done | omega | assumption | grind [getD_set, getD_rep, toNat_succ, cntN_yes, cntN_no])
    rfl
   ·
    refine bR_dec (fun h11 => ?_) (fun h11 => ?_)
    ·
     refine req_i ?_ ?_
     · -- r2
      first | omega | ((try simp only [sigRate, smpV, ratePost, insd, cen, tI, tQ, List.cons.injEq, DV.b.injEq, and_true, List.length_cons, List.length_nil]); first | done | omega | assumption | grind [getD_set, getD_rep, toNat_succ, cntN_yes, cntN_no])
     rfl
    ·
     refine bR_dec (fun h12 => ?_) (fun h12 => ?_)
     ·
      refine req_i ?_ ?_
      · -- r3
       first | omega | ((try simp only [sigRate, smpV, ratePost, insd, cen, tI, tQ, List.cons.injEq, DV.b.injEq, and_true, List.length_cons, List.length_nil]); first | done | omega | assumption | grind [getD_set, getD_rep, toNat_succ, cntN_yes, cntN_no])
      rfl
     ·
      have i1 : insd n0 n1 := by unfold insd; omega
      have i2 : insd n2 n3 := by unfold insd; omega
      refine bR_t ?_ ?_
      · -- g0
       first | rfl | (simp only [bR_iff, bR_iff_f, dec_iff, dec_f, beqB_iff', andB_iff', reduceCtorEq, imp_self, false_implies, and_true, true_and, implies_true, and_self]; done) | (simp [bR_iff, dec_iff, beqB_iff', andB_iff']; done) | (simp [bR_iff, dec_iff, beqB_iff', andB_iff']; omega)
      refine all_i fun n4 => ?_
      refine imp_i fun h13 => ?_
      simp only [wrap_i64] at h13
      have ph13 := mul_abs (a := n2) (b := n0) (A := 1048576) (B := 1048576) (by omega) (by omega) (by omega) (by omega)
      have h13 : n4 = n2 * n0 := by omega
      refine imp_i fun h14 => ?_
      refine imp_i fun h15 => ?_
      refine all_i fun n5 => ?_
      refine imp_i fun h16 => ?_
      simp only [wrap_i64] at h16
      have ph16 := mul_abs (a := n3) (b := n1) (A := 1048576) (B := 1048576) (by omega) (by omega) (by omega) (by omega)
      have h16 : n5 = n3 * n1 := by omega
      refine imp_i fun h17 => ?_
      refine imp_i fun h18 => ?_
      refine all_i fun n6 => ?_
      refine imp_i fun h19 => ?_
      simp only [wrap_i64] at h19
      have h19 : n6 = n4 + n5 := by omega
      refine imp_i fun h20 => ?_
      refine imp_i fun h21 => ?_
      refine all_i fun n7 => ?_
      refine imp_i fun h22 => ?_
      simp only [wrap_i64] at h22
      have ph22 := mul_abs (a := n3) (b := n0) (A := 1048576) (B := 1048576) (by omega) (by omega) (by omega) (by omega)
      have h22 : n7 = n3 * n0 := by omega
      refine imp_i fun h23 => ?_
      refine imp_i fun h24 => ?_
      refine all_i fun n8 => ?_
      refine imp_i fun h25 => ?_
      simp only [wrap_i64] at h25
      have ph25 := mul_abs (a := n2) (b := n1) (A := 1048576) (B := 1048576) (by omega) (by omega) (by omega) (by omega)
      have h25 : n8 = n2 * n1 := by omega
      refine imp_i fun h26 => ?_
      refine imp_i fun h27 => ?_
      refine all_i fun n9 => ?_
      refine imp_i fun h28 => ?_
      simp only [wrap_i64] at h28
      have h28 : n9 = n7 - n8 := by omega
      have t1 : n6 = n2 * n0 + n3 * n1 := by omega
      have t2 : n9 = n3 * n0 - n2 * n1 := by omega
      refine imp_i fun h29 => ?_
      refine imp_i fun h30 => ?_
      refine req_i ?_ ?_
      · -- r4
       first | omega | assumption | grind
      refine req_i ?_ ?_
      · -- r5
       first | omega | assumption | grind
      refine req_i ?_ ?_
      · -- r6
       first | omega | assumption | grind
      refine req_i ?_ ?_
      · -- r7
       first | omega | assumption | grind
      refine req_i ?_ ?_
      · -- r8
       first | trivial | assumption | (simp only [sigFine, smpV, finePost, sml, List.cons.injEq, DV.b.injEq, and_true, List.length_cons, List.length_nil]; done) | ((try simp only [sigFine, smpV, finePost, sml, List.cons.injEq, DV.b.injEq, and_true, List.length_cons, List.length_nil]); first | omega | assumption | grind)
      refine all_i fun n10 => ?_
      refine imp_i fun h31 => ?_
      refine imp_i fun h32 => ?_
      refine all_i fun n11 => ?_
      refine imp_i fun h33 => ?_
      refine imp_i fun h34 => ?_
      refine imp_i fun h35 => ?_
      try simp only [sigFine, smpV, finePost, sml, List.cons.injEq, DV.b.injEq, and_true, List.length_cons, List.length_nil] at h35
      rw [t1, t2] at h35
      have tm := tmod_nn (a := n10 + 2048) (b := 4096) (by omega)
      try simp only [show Int.ofNat 2048 = 2048 from rfl, show Int.ofNat 4096 = 4096 from rfl]
      rw [tm]
      have f1 : n10 = fineOf (n2 * n0 + n3 * n1) (n3 * n0 - n2 * n1) := by omega
      refine req_i ?_ ?_
      · -- r9
       first | omega | assumption | grind
      refine req_i ?_ ?_
      · -- r10
       first | omega | assumption | grind
      refine req_i ?_ ?_
      · -- r11
       exact .inr ⟨⟨i1, i2⟩, rfl, by simp only [cen, tI, tQ]; omega⟩
      rfl
theorem ext_Rate : ∀ p ∈ ([(62, Ext.ctr (ctOfG gl11 sigFine))] : List (Nat × Ext)), ExtRow Tryd.prog p.1 p.2 := by
  intro p hp
  simp only [List.mem_cons, List.not_mem_nil, or_false] at hp
  rcases hp with rfl
  · trivial
theorem cts_Rate : CtsOk Tryd.prog [(62, Ext.ctr (ctOfG gl11 sigFine))] := ctsOk_ofG (cs := [(62, sigFine)])
  (fun p hp => by
    simp only [List.mem_cons, List.not_mem_nil, or_false] at hp
    rcases hp with rfl
    · exact fn_Fine
)
  (fun f c h => by
    simp only [List.lookup_cons] at h
    repeat' split at h
    all_goals first | (cases h; done) | (rename_i e; have e := beq_iff_eq.1 e; subst e; cases h; refine ⟨_, ?_, rfl⟩; simp))
theorem fn_Rate : FnOk Tryd.prog 13 sigRate gl11 := fn_sound (by kernel_rfl) ext_Rate cts_Rate names vt_Rate
end Go.Proofs.YtofeleohcpaclaaDoor

namespace Go.Proofs.YtofeleohcpaclaaDoor
open Go.Ev Go.Sp
set_option maxRecDepth 100000
theorem vc_smallR : vcFn Tryd.prog [] noA gl11 100 64 sigSmallB = (allB fun n0 : Int => 
impB ((-9223372036854775808 : Int) ≤ n0) (
impB (n0 ≤ (9223372036854775807 : Int)) (
allB fun n1 : Int => 
impB ((-9223372036854775808 : Int) ≤ n1) (
impB (n1 ≤ (9223372036854775807 : Int)) (
impB (sigSmallB.pre [DV.n n0, DV.n n1]) (
bR (dec ((-70368744177664 : Int) ≤ n0)) (
 bR (dec (n0 ≤ (70368744177664 : Int))) (
 bR (dec ((-70368744177664 : Int) ≤ n1)) (
 reqB (sigSmallB.post [DV.n n0, DV.n n1] [DV.b (dec (n1 ≤ (70368744177664 : Int)))]) (
 true)) (
 reqB (sigSmallB.post [DV.n n0, DV.n n1] [DV.b Bool.false]) (
 true))) (
 reqB (sigSmallB.post [DV.n n0, DV.n n1] [DV.b Bool.false]) (
 true))) (
 reqB (sigSmallB.post [DV.n n0, DV.n n1] [DV.b Bool.false]) (
 true)))))))) := by kernel_rfl
set_option maxHeartbeats 8000000 in
theorem vt_smallR : vcFn Tryd.prog [] noA gl11 100 64 sigSmallB = true := by
  rw [vc_smallR]
  try simp only [Int.toNat_natCast, List.length_set, List.length_replicate, List.length_take, List.length_drop, List.length_append, List.length_cons, List.length_nil, Nat.min_self, List.take_take, lenCols_i, lenCols_b, List.drop_zero, List.take_length, Nat.add_eq, Nat.mul_eq, Nat.sub_eq, Nat.zero_add, Nat.sub_zero, Nat.mul_one]
  refine all_i fun n0 => ?_
  refine imp_i fun h0 => ?_
  refine imp_i fun h1 => ?_
  refine all_i fun n1 => ?_
  refine imp_i fun h2 => ?_
  refine imp_i fun h3 => ?_
  refine imp_i fun h4 => ?_
  try simp only [sigSmallB, smpV, smallBPost, sml, List.cons.injEq, DV.b.injEq, and_true, List.length_cons, List.length_nil] at h4
  refine bR_dec (fun h5 => ?_) (fun h5 => ?_)
  ·
   refine bR_dec (fun h6 => ?_) (fun h6 => ?_)
   ·
    refine bR_dec (fun h7 => ?_) (fun h7 => ?_)
    ·
     refine req_i ?_ ?_
     · -- r0
      first | omega | ((try simp only [sigSmallB, smpV, smallBPost, sml, List.cons.injEq, DV.b.injEq, and_true, List.length_cons, List.length_nil, dec_iff]); first | done | omega | assumption | grind [getD_set, getD_rep, toNat_succ, cntN_yes, cntN_no])
     rfl
    ·
     refine req_i ?_ ?_
     · -- r1
      first | omega | ((try simp only [sigSmallB, smpV, smallBPost, sml, List.cons.injEq, DV.b.injEq, and_true, List.length_cons, List.length_nil]); first | done | omega | assumption | grind [getD_set, getD_rep, toNat_succ, cntN_yes, cntN_no])
     rfl
   ·
    refine req_i ?_ ?_
    · -- r2
     first | omega | ((try simp only [sigSmallB, smpV, smallBPost, sml, List.cons.injEq, DV.b.injEq, and_true, List.length_cons, List.length_nil]); first | done | omega | assumption | grind [getD_set, getD_rep, toNat_succ, cntN_yes, cntN_no])
    rfl
  ·
   refine req_i ?_ ?_
   · -- r3
    first | omega | ((try simp only [sigSmallB, smpV, smallBPost, sml, List.cons.injEq, DV.b.injEq, and_true, List.length_cons, List.length_nil]); first | done | omega | assumption | grind [getD_set, getD_rep, toNat_succ, cntN_yes, cntN_no])
   rfl
theorem ext_smallR : ∀ p ∈ ([] : List (Nat × Ext)), ExtRow Tryd.prog p.1 p.2 := by
  intro p hp
  cases hp
theorem cts_smallR : CtsOk Tryd.prog [] := fun f c h => by cases h
theorem fn_smallR : FnOk Tryd.prog 64 sigSmallB gl11 := fn_sound (by kernel_rfl) ext_smallR cts_smallR names vt_smallR
end Go.Proofs.YtofeleohcpaclaaDoor

namespace Go.Proofs.YtofeleohcpaclaaDoor
open Go.Ev Go.Sp
set_option maxRecDepth 100000
theorem vc_entryR : vcFn Tryd.prog [] noA gl11 100 84 sigEnt = (allB fun n0 : Int => 
impB ((-2 : Int) ≤ n0) (
impB (n0 ≤ (70 : Int)) (
impB (sigEnt.pre [DV.n n0]) (
reqB (((n0 % Int.ofNat (64 : Nat)).tmod (16 : Int)).toNat < (17 : Nat)) (
reqB (Nat.add (0 : Nat) ((n0 % Int.ofNat (64 : Nat)).tmod (16 : Int)).toNat <
 [(127 : Int), (126 : Int), (125 : Int), (122 : Int), (117 : Int), (112 : Int), (106 : Int), (98 : Int), (90 : Int),
 (81 : Int), (71 : Int), (60 : Int), (49 : Int), (37 : Int), (25 : Int), (12 : Int), (0 : Int)].length) (
reqB (((16 : Int) - (n0 % Int.ofNat (64 : Nat)).tmod (16 : Int)).toNat < (17 : Nat)) (
reqB (Nat.add (0 : Nat) ((16 : Int) - (n0 % Int.ofNat (64 : Nat)).tmod (16 : Int)).toNat <
 [(127 : Int), (126 : Int), (125 : Int), (122 : Int), (117 : Int), (112 : Int), (106 : Int), (98 : Int), (90 : Int),
 (81 : Int), (71 : Int), (60 : Int), (49 : Int), (37 : Int), (25 : Int), (12 : Int), (0 : Int)].length) (
bR (dec ((16 : Int) ≤ n0 % Int.ofNat (64 : Nat))) (
 bR (dec ((16 : Int) ≤ n0 % Int.ofNat (64 : Nat) - (16 : Int))) (
 bR (dec ((16 : Int) ≤ n0 % Int.ofNat (64 : Nat) - (16 : Int) - (16 : Int))) (
 reqB ((-127 : Int) ≤
 (0 : Int) -
 ((0 : Int) -
 [(127 : Int), (126 : Int), (125 : Int), (122 : Int), (117 : Int), (112 : Int), (106 : Int), (98 : Int),
 (90 : Int), (81 : Int), (71 : Int), (60 : Int), (49 : Int), (37 : Int), (25 : Int), (12 : Int),
 (0 : Int)].getD
 (Nat.add (0 : Nat) ((16 : Int) - (n0 % Int.ofNat (64 : Nat)).tmod (16 : Int)).toNat) (0 : Int))) (
 reqB ((0 : Int) -
 ((0 : Int) -
 [(127 : Int), (126 : Int), (125 : Int), (122 : Int), (117 : Int), (112 : Int), (106 : Int), (98 : Int),
 (90 : Int), (81 : Int), (71 : Int), (60 : Int), (49 : Int), (37 : Int), (25 : Int), (12 : Int),
 (0 : Int)].getD
 (Nat.add (0 : Nat) ((16 : Int) - (n0 % Int.ofNat (64 : Nat)).tmod (16 : Int)).toNat) (0 : Int)) ≤
 (127 : Int)) (
 reqB ((-127 : Int) ≤
 (0 : Int) -
 [(127 : Int), (126 : Int), (125 : Int), (122 : Int), (117 : Int), (112 : Int), (106 : Int), (98 : Int), (90 : Int),
 (81 : Int), (71 : Int), (60 : Int), (49 : Int), (37 : Int), (25 : Int), (12 : Int), (0 : Int)].getD
 (Nat.add (0 : Nat) ((n0 % Int.ofNat (64 : Nat)).tmod (16 : Int)).toNat) (0 : Int)) (
 reqB ((0 : Int) -
 [(127 : Int), (126 : Int), (125 : Int), (122 : Int), (117 : Int), (112 : Int), (106 : Int), (98 : Int), (90 : Int),
 (81 : Int), (71 : Int), (60 : Int), (49 : Int), (37 : Int), (25 : Int), (12 : Int), (0 : Int)].getD
 (Nat.add (0 : Nat) ((n0 % Int.ofNat (64 : Nat)).tmod (16 : Int)).toNat) (0 : Int) ≤
 (127 : Int)) (
 reqB (sigEnt.post [DV.n n0]
 [DV.n
 ((0 : Int) -
 ((0 : Int) -
 [(127 : Int), (126 : Int), (125 : Int), (122 : Int), (117 : Int), (112 : Int), (106 : Int), (98 : Int),
 (90 : Int), (81 : Int), (71 : Int), (60 : Int), (49 : Int), (37 : Int), (25 : Int), (12 : Int),
 (0 : Int)].getD
 (Nat.add (0 : Nat) ((16 : Int) - (n0 % Int.ofNat (64 : Nat)).tmod (16 : Int)).toNat) (0 : Int))),
 DV.n
 ((0 : Int) -
 [(127 : Int), (126 : Int), (125 : Int), (122 : Int), (117 : Int), (112 : Int), (106 : Int), (98 : Int),
 (90 : Int), (81 : Int), (71 : Int), (60 : Int), (49 : Int), (37 : Int), (25 : Int), (12 : Int),
 (0 : Int)].getD
 (Nat.add (0 : Nat) ((n0 % Int.ofNat (64 : Nat)).tmod (16 : Int)).toNat) (0 : Int))]) (
 true)))))) (
 reqB ((-127 : Int) ≤
 (0 : Int) -
 [(127 : Int), (126 : Int), (125 : Int), (122 : Int), (117 : Int), (112 : Int), (106 : Int), (98 : Int), (90 : Int),
 (81 : Int), (71 : Int), (60 : Int), (49 : Int), (37 : Int), (25 : Int), (12 : Int), (0 : Int)].getD
 (Nat.add (0 : Nat) ((n0 % Int.ofNat (64 : Nat)).tmod (16 : Int)).toNat) (0 : Int)) (
 reqB ((0 : Int) -
 [(127 : Int), (126 : Int), (125 : Int), (122 : Int), (117 : Int), (112 : Int), (106 : Int), (98 : Int), (90 : Int),
 (81 : Int), (71 : Int), (60 : Int), (49 : Int), (37 : Int), (25 : Int), (12 : Int), (0 : Int)].getD
 (Nat.add (0 : Nat) ((n0 % Int.ofNat (64 : Nat)).tmod (16 : Int)).toNat) (0 : Int) ≤
 (127 : Int)) (
 reqB ((-127 : Int) ≤
 (0 : Int) -
 [(127 : Int), (126 : Int), (125 : Int), (122 : Int), (117 : Int), (112 : Int), (106 : Int), (98 : Int), (90 : Int),
 (81 : Int), (71 : Int), (60 : Int), (49 : Int), (37 : Int), (25 : Int), (12 : Int), (0 : Int)].getD
 (Nat.add (0 : Nat) ((16 : Int) - (n0 % Int.ofNat (64 : Nat)).tmod (16 : Int)).toNat) (0 : Int)) (
 reqB ((0 : Int) -
 [(127 : Int), (126 : Int), (125 : Int), (122 : Int), (117 : Int), (112 : Int), (106 : Int), (98 : Int), (90 : Int),
 (81 : Int), (71 : Int), (60 : Int), (49 : Int), (37 : Int), (25 : Int), (12 : Int), (0 : Int)].getD
 (Nat.add (0 : Nat) ((16 : Int) - (n0 % Int.ofNat (64 : Nat)).tmod (16 : Int)).toNat) (0 : Int) ≤
 (127 : Int)) (
 reqB (sigEnt.post [DV.n n0]
 [DV.n
 ((0 : Int) -
 [(127 : Int), (126 : Int), (125 : Int), (122 : Int), (117 : Int), (112 : Int), (106 : Int), (98 : Int),
 (90 : Int), (81 : Int), (71 : Int), (60 : Int), (49 : Int), (37 : Int), (25 : Int), (12 : Int),
 (0 : Int)].getD
 (Nat.add (0 : Nat) ((n0 % Int.ofNat (64 : Nat)).tmod (16 : Int)).toNat) (0 : Int)),
 DV.n
 ((0 : Int) -
 [(127 : Int), (126 : Int), (125 : Int), (122 : Int), (117 : Int), (112 : Int), (106 : Int), (98 : Int),
 (90 : Int), (81 : Int), (71 : Int), (60 : Int), (49 : Int), (37 : Int), (25 : Int), (12 : Int),
 (0 : Int)].getD
 (Nat.add (0 : Nat) ((16 : Int) - (n0 % Int.ofNat (64 : Nat)).tmod (16 : Int)).toNat) (0 : Int))]) (
 true))))))) (
 reqB ((-127 : Int) ≤
 (0 : Int) -
 [(127 : Int), (126 : Int), (125 : Int), (122 : Int), (117 : Int), (112 : Int), (106 : Int), (98 : Int), (90 : Int),
 (81 : Int), (71 : Int), (60 : Int), (49 : Int), (37 : Int), (25 : Int), (12 : Int), (0 : Int)].getD
 (Nat.add (0 : Nat) ((16 : Int) - (n0 % Int.ofNat (64 : Nat)).tmod (16 : Int)).toNat) (0 : Int)) (
 reqB ((0 : Int) -
 [(127 : Int), (126 : Int), (125 : Int), (122 : Int), (117 : Int), (112 : Int), (106 : Int), (98 : Int), (90 : Int),
 (81 : Int), (71 : Int), (60 : Int), (49 : Int), (37 : Int), (25 : Int), (12 : Int), (0 : Int)].getD
 (Nat.add (0 : Nat) ((16 : Int) - (n0 % Int.ofNat (64 : Nat)).tmod (16 : Int)).toNat) (0 : Int) ≤
 (127 : Int)) (
 reqB ((-127 : Int) ≤
 [(127 : Int), (126 : Int), (125 : Int), (122 : Int), (117 : Int), (112 : Int), (106 : Int), (98 : Int), (90 : Int),
 (81 : Int), (71 : Int), (60 : Int), (49 : Int), (37 : Int), (25 : Int), (12 : Int), (0 : Int)].getD
 (Nat.add (0 : Nat) ((n0 % Int.ofNat (64 : Nat)).tmod (16 : Int)).toNat) (0 : Int)) (
 reqB ([(127 : Int), (126 : Int), (125 : Int), (122 : Int), (117 : Int), (112 : Int), (106 : Int), (98 : Int), (90 : Int),
 (81 : Int), (71 : Int), (60 : Int), (49 : Int), (37 : Int), (25 : Int), (12 : Int), (0 : Int)].getD
 (Nat.add (0 : Nat) ((n0 % Int.ofNat (64 : Nat)).tmod (16 : Int)).toNat) (0 : Int) ≤
 (127 : Int)) (
 reqB (sigEnt.post [DV.n n0]
 [DV.n
 ((0 : Int) -
 [(127 : Int), (126 : Int), (125 : Int), (122 : Int), (117 : Int), (112 : Int), (106 : Int), (98 : Int),
 (90 : Int), (81 : Int), (71 : Int), (60 : Int), (49 : Int), (37 : Int), (25 : Int), (12 : Int),
 (0 : Int)].getD
 (Nat.add (0 : Nat) ((16 : Int) - (n0 % Int.ofNat (64 : Nat)).tmod (16 : Int)).toNat) (0 : Int)),
 DV.n
 ([(127 : Int), (126 : Int), (125 : Int), (122 : Int), (117 : Int), (112 : Int), (106 : Int), (98 : Int),
 (90 : Int), (81 : Int), (71 : Int), (60 : Int), (49 : Int), (37 : Int), (25 : Int), (12 : Int),
 (0 : Int)].getD
 (Nat.add (0 : Nat) ((n0 % Int.ofNat (64 : Nat)).tmod (16 : Int)).toNat) (0 : Int))]) (
 true))))))) (
 reqB ((-127 : Int) ≤
 [(127 : Int), (126 : Int), (125 : Int), (122 : Int), (117 : Int), (112 : Int), (106 : Int), (98 : Int), (90 : Int),
 (81 : Int), (71 : Int), (60 : Int), (49 : Int), (37 : Int), (25 : Int), (12 : Int), (0 : Int)].getD
 (Nat.add (0 : Nat) ((n0 % Int.ofNat (64 : Nat)).tmod (16 : Int)).toNat) (0 : Int)) (
 reqB ([(127 : Int), (126 : Int), (125 : Int), (122 : Int), (117 : Int), (112 : Int), (106 : Int), (98 : Int), (90 : Int),
 (81 : Int), (71 : Int), (60 : Int), (49 : Int), (37 : Int), (25 : Int), (12 : Int), (0 : Int)].getD
 (Nat.add (0 : Nat) ((n0 % Int.ofNat (64 : Nat)).tmod (16 : Int)).toNat) (0 : Int) ≤
 (127 : Int)) (
 reqB ((-127 : Int) ≤
 [(127 : Int), (126 : Int), (125 : Int), (122 : Int), (117 : Int), (112 : Int), (106 : Int), (98 : Int), (90 : Int),
 (81 : Int), (71 : Int), (60 : Int), (49 : Int), (37 : Int), (25 : Int), (12 : Int), (0 : Int)].getD
 (Nat.add (0 : Nat) ((16 : Int) - (n0 % Int.ofNat (64 : Nat)).tmod (16 : Int)).toNat) (0 : Int)) (
 reqB ([(127 : Int), (126 : Int), (125 : Int), (122 : Int), (117 : Int), (112 : Int), (106 : Int), (98 : Int), (90 : Int),
 (81 : Int), (71 : Int), (60 : Int), (49 : Int), (37 : Int), (25 : Int), (12 : Int), (0 : Int)].getD
 (Nat.add (0 : Nat) ((16 : Int) - (n0 % Int.ofNat (64 : Nat)).tmod (16 : Int)).toNat) (0 : Int) ≤
 (127 : Int)) (
 reqB (sigEnt.post [DV.n n0]
 [DV.n
 ([(127 : Int), (126 : Int), (125 : Int), (122 : Int), (117 : Int), (112 : Int), (106 : Int), (98 : Int),
 (90 : Int), (81 : Int), (71 : Int), (60 : Int), (49 : Int), (37 : Int), (25 : Int), (12 : Int),
 (0 : Int)].getD
 (Nat.add (0 : Nat) ((n0 % Int.ofNat (64 : Nat)).tmod (16 : Int)).toNat) (0 : Int)),
 DV.n
 ([(127 : Int), (126 : Int), (125 : Int), (122 : Int), (117 : Int), (112 : Int), (106 : Int), (98 : Int),
 (90 : Int), (81 : Int), (71 : Int), (60 : Int), (49 : Int), (37 : Int), (25 : Int), (12 : Int),
 (0 : Int)].getD
 (Nat.add (0 : Nat) ((16 : Int) - (n0 % Int.ofNat (64 : Nat)).tmod (16 : Int)).toNat) (0 : Int))]) (
 true)))))))))))))) := by kernel_rfl
set_option maxHeartbeats 8000000 in
theorem vt_entryR : vcFn Tryd.prog [] noA gl11 100 84 sigEnt = true := by
  rw [vc_entryR]
  try simp only [Int.toNat_natCast, List.length_set, List.length_replicate, List.length_take, List.length_drop, List.length_append, List.length_cons, List.length_nil, Nat.min_self, List.take_take, lenCols_i, lenCols_b, List.drop_zero, List.take_length, Nat.add_eq, Nat.mul_eq, Nat.sub_eq, Nat.zero_add, Nat.sub_zero, Nat.mul_one]
  refine all_i fun n0 => ?_
  refine imp_i fun h0 => ?_
  refine imp_i fun h1 => ?_
  refine imp_i fun h2 => ?_
  try simp only [sigEnt, entPost, List.cons.injEq, DV.b.injEq, and_true, List.length_cons, List.length_nil] at h2
  refine req_i ?_ ?_
  · -- r0
   (try revert h3); (try revert h4); (try revert h5); (try revert h6); (try simp only [sigEnt, entPost]); (apply upto _ n0 h0 h1); decide +kernel
  refine req_i ?_ ?_
  · -- r1
   (try revert h3); (try revert h4); (try revert h5); (try revert h6); (try simp only [sigEnt, entPost]); (apply upto _ n0 h0 h1); decide +kernel
  refine req_i ?_ ?_
  · -- r2
   (try revert h3); (try revert h4); (try revert h5); (try revert h6); (try simp only [sigEnt, entPost]); (apply upto _ n0 h0 h1); decide +kernel
  refine req_i ?_ ?_
  · -- r3
   (try revert h3); (try revert h4); (try revert h5); (try revert h6); (try simp only [sigEnt, entPost]); (apply upto _ n0 h0 h1); decide +kernel
  refine bR_dec (fun h3 => ?_) (fun h3 => ?_)
  ·
   refine bR_dec (fun h4 => ?_) (fun h4 => ?_)
   ·
    refine bR_dec (fun h5 => ?_) (fun h5 => ?_)
    ·
     refine req_i ?_ ?_
     · -- r4
      (try revert h3); (try revert h4); (try revert h5); (try revert h6); (try simp only [sigEnt, entPost]); (apply upto _ n0 h0 h1); decide +kernel
     refine req_i ?_ ?_
     · -- r5
      (try revert h3); (try revert h4); (try revert h5); (try revert h6); (try simp only [sigEnt, entPost]); (apply upto _ n0 h0 h1); decide +kernel
     refine req_i ?_ ?_
     · -- r6
      (try revert h3); (try revert h4); (try revert h5); (try revert h6); (try simp only [sigEnt, entPost]); (apply upto _ n0 h0 h1); decide +kernel
     refine req_i ?_ ?_
     · -- r7
      (try revert h3); (try revert h4); (try revert h5); (try revert h6); (try simp only [sigEnt, entPost]); (apply upto _ n0 h0 h1); decide +kernel
     refine req_i ?_ ?_
     · -- r8
      (try revert h3); (try revert h4); (try revert h5); (try revert h6); (try simp only [sigEnt, entPost]); (apply upto _ n0 h0 h1); decide +kernel
     rfl
    ·
     refine req_i ?_ ?_
     · -- r9
      (try revert h3); (try revert h4); (try revert h5); (try revert h6); (try simp only [sigEnt, entPost]); (apply upto _ n0 h0 h1); decide +kernel
     refine req_i ?_ ?_
     · -- r10
      (try revert h3); (try revert h4); (try revert h5); (try revert h6); (try simp only [sigEnt, entPost]); (apply upto _ n0 h0 h1); decide +kernel
     refine req_i ?_ ?_
     · -- r11
      (try revert h3); (try revert h4); (try revert h5); (try revert h6); (try simp only [sigEnt, entPost]); (apply upto _ n0 h0 h1); decide +kernel
     refine req_i ?_ ?_
     · -- r12
      (try revert h3); (try revert h4); (try revert h5); (try revert h6); (try simp only [sigEnt, entPost]); (apply upto _ n0 h0 h1); decide +kernel
     refine req_i ?_ ?_
     · -- r13
      (try revert h3); (try revert h4); (try revert h5); (try revert h6); (try simp only [sigEnt, entPost]); (apply upto _ n0 h0 h1); decide +kernel
     rfl
   ·
    refine req_i ?_ ?_
    · -- r14
     (try revert h3); (try revert h4); (try revert h5); (try revert h6); (try simp only [sigEnt, entPost]); (apply upto _ n0 h0 h1); decide +kernel
    refine req_i ?_ ?_
    · -- r15
     (try revert h3); (try revert h4); (try revert h5); (try revert h6); (try simp only [sigEnt, entPost]); (apply upto _ n0 h0 h1); decide +kernel
    refine req_i ?_ ?_
    · -- r16
     (try revert h3); (try revert h4); (try revert h5); (try revert h6); (try simp only [sigEnt, entPost]); (apply upto _ n0 h0 h1); decide +kernel
    refine req_i ?_ ?_
    · -- r17
     (try revert h3); (try revert h4); (try revert h5); (try revert h6); (try simp only [sigEnt, entPost]); (apply upto _ n0 h0 h1); decide +kernel
    refine req_i ?_ ?_
    · -- r18
     (try revert h3); (try revert h4); (try revert h5); (try revert h6); (try simp only [sigEnt, entPost]); (apply upto _ n0 h0 h1); decide +kernel
    rfl
  ·
   refine req_i ?_ ?_
   · -- r19
    (try revert h3); (try revert h4); (try revert h5); (try revert h6); (try simp only [sigEnt, entPost]); (apply upto _ n0 h0 h1); decide +kernel
   refine req_i ?_ ?_
   · -- r20
    (try revert h3); (try revert h4); (try revert h5); (try revert h6); (try simp only [sigEnt, entPost]); (apply upto _ n0 h0 h1); decide +kernel
   refine req_i ?_ ?_
   · -- r21
    (try revert h3); (try revert h4); (try revert h5); (try revert h6); (try simp only [sigEnt, entPost]); (apply upto _ n0 h0 h1); decide +kernel
   refine req_i ?_ ?_
   · -- r22
    (try revert h3); (try revert h4); (try revert h5); (try revert h6); (try simp only [sigEnt, entPost]); (apply upto _ n0 h0 h1); decide +kernel
   refine req_i ?_ ?_
   · -- r23
    (try revert h3); (try revert h4); (try revert h5); (try revert h6); (try simp only [sigEnt, entPost]); (apply upto _ n0 h0 h1); decide +kernel
   rfl
theorem ext_entryR : ∀ p ∈ ([] : List (Nat × Ext)), ExtRow Tryd.prog p.1 p.2 := by
  intro p hp
  cases hp
theorem cts_entryR : CtsOk Tryd.prog [] := fun f c h => by cases h
theorem fn_entryR : FnOk Tryd.prog 84 sigEnt gl11 := fn_sound (by kernel_rfl) ext_entryR cts_entryR names vt_entryR
end Go.Proofs.YtofeleohcpaclaaDoor

namespace Go.Proofs.YtofeleohcpaclaaDoor
open Go.Ev Go.Sp
set_option maxRecDepth 100000
theorem vc_bndR : vcFn Tryd.prog [(84, Ext.ctr (ctOfG gl11 sigEnt))] noA gl11 100 80 sigBnd = (allB fun n0 : Int => 
impB ((-1 : Int) ≤ n0) (
impB (n0 ≤ (64 : Int)) (
impB (sigBnd.pre [DV.n n0]) (
reqB ((-2 : Int) ≤ n0) (
reqB (n0 ≤ (70 : Int)) (
reqB (sigEnt.pre [DV.n n0]) (
allB fun n1 : Int => 
impB ((-127 : Int) ≤ n1) (
impB (n1 ≤ (127 : Int)) (
allB fun n2 : Int => 
impB ((-127 : Int) ≤ n2) (
impB (n2 ≤ (127 : Int)) (
impB (sigEnt.post [DV.n n0] [DV.n n1, DV.n n2]) (
reqB ((-2 : Int) ≤ n0 + (1 : Int)) (
reqB (n0 + (1 : Int) ≤ (70 : Int)) (
reqB (sigEnt.pre [DV.n (n0 + (1 : Int))]) (
allB fun n3 : Int => 
impB ((-127 : Int) ≤ n3) (
impB (n3 ≤ (127 : Int)) (
allB fun n4 : Int => 
impB ((-127 : Int) ≤ n4) (
impB (n4 ≤ (127 : Int)) (
impB (sigEnt.post [DV.n (n0 + (1 : Int))] [DV.n n3, DV.n n4]) (
reqB ((-254 : Int) ≤ n1 + n3) (
reqB (n1 + n3 ≤ (254 : Int)) (
reqB ((-254 : Int) ≤ n2 + n4) (
reqB (n2 + n4 ≤ (254 : Int)) (
reqB (sigBnd.post [DV.n n0] [DV.n (n1 + n3), DV.n (n2 + n4)]) (
true))))))))))))))))))))))))) := by kernel_rfl
set_option maxHeartbeats 8000000 in
theorem vt_bndR : vcFn Tryd.prog [(84, Ext.ctr (ctOfG gl11 sigEnt))] noA gl11 100 80 sigBnd = true := by
  rw [vc_bndR]
  try simp only [Int.toNat_natCast, List.length_set, List.length_replicate, List.length_take, List.length_drop, List.length_append, List.length_cons, List.length_nil, Nat.min_self, List.take_take, lenCols_i, lenCols_b, List.drop_zero, List.take_length, Nat.add_eq, Nat.mul_eq, Nat.sub_eq, Nat.zero_add, Nat.sub_zero, Nat.mul_one]
  refine all_i fun n0 => ?_
  refine imp_i fun h0 => ?_
  refine imp_i fun h1 => ?_
  refine imp_i fun h2 => ?_
  try simp only [sigBnd, bndPost, List.cons.injEq, DV.b.injEq, and_true, List.length_cons, List.length_nil] at h2
  refine req_i ?_ ?_
  · -- r0
   first | omega | assumption | grind
  refine req_i ?_ ?_
  · -- r1
   first | omega | assumption | grind
  refine req_i ?_ ?_
  · -- r2
   first | trivial | assumption | (simp only [sigEnt, entPost, List.cons.injEq, DV.b.injEq, and_true, List.length_cons, List.length_nil]; done) | ((try simp only [sigEnt, entPost, List.cons.injEq, DV.b.injEq, and_true, List.length_cons, List.length_nil]); first | omega | assumption | grind)
  refine all_i fun n1 => ?_
  refine imp_i fun h3 => ?_
  refine imp_i fun h4 => ?_
  refine all_i fun n2 => ?_
  refine imp_i fun h5 => ?_
  refine imp_i fun h6 => ?_
  refine imp_i fun h7 => ?_
  try simp only [sigEnt, entPost, List.cons.injEq, DV.b.injEq, and_true, List.length_cons, List.length_nil] at h7
  refine req_i ?_ ?_
  · -- r3
   first | omega | assumption | grind
  refine req_i ?_ ?_
  · -- r4
   first | omega | assumption | grind
  refine req_i ?_ ?_
  · -- r5
   first | trivial | assumption | (simp only [sigEnt, entPost, List.cons.injEq, DV.b.injEq, and_true, List.length_cons, List.length_nil]; done) | ((try simp only [sigEnt, entPost, List.cons.injEq, DV.b.injEq, and_true, List.length_cons, List.length_nil]); first | omega | assumption | grind)
  refine all_i fun n3 => ?_
  refine imp_i fun h8 => ?_
  refine imp_i fun h9 => ?_
  refine all_i fun n4 => ?_
  refine imp_i fun h10 => ?_
  refine imp_i fun h11 => ?_
  refine imp_i fun h12 => ?_
  try simp only [sigEnt, entPost, List.cons.injEq, DV.b.injEq, and_true, List.length_cons, List.length_nil] at h12
  refine req_i ?_ ?_
  · -- r6
   first | omega | assumption | grind
  refine req_i ?_ ?_
  · -- r7
   first | omega | assumption | grind
  refine req_i ?_ ?_
  · -- r8
   first | omega | assumption | grind
  refine req_i ?_ ?_
  · -- r9
   first | omega | assumption | grind
  refine req_i ?_ ?_
  · -- r10
   simp only [sigBnd, bndPost, bI, bQ]; omega
  rfl
theorem ext_bndR : ∀ p ∈ ([(84, Ext.ctr (ctOfG gl11 sigEnt))] : List (Nat × Ext)), ExtRow Tryd.prog p.1 p.2 := by
  intro p hp
  simp only [List.mem_cons, List.not_mem_nil, or_false] at hp
  rcases hp with rfl
  · trivial
theorem cts_bndR : CtsOk Tryd.prog [(84, Ext.ctr (ctOfG gl11 sigEnt))] := ctsOk_ofG (cs := [(84, sigEnt)])
  (fun p hp => by
    simp only [List.mem_cons, List.not_mem_nil, or_false] at hp
    rcases hp with rfl
    · exact fn_entryR
)
  (fun f c h => by
    simp only [List.lookup_cons] at h
    repeat' split at h
    all_goals first | (cases h; done) | (rename_i e; have e := beq_iff_eq.1 e; subst e; cases h; refine ⟨_, ?_, rfl⟩; simp))
theorem fn_bndR : FnOk Tryd.prog 80 sigBnd gl11 := fn_sound (by kernel_rfl) ext_bndR cts_bndR names vt_bndR
end Go.Proofs.YtofeleohcpaclaaDoor

namespace Go.Proofs.YtofeleohcpaclaaDoor
open Go.Ev Go.Sp
set_option maxRecDepth 100000
theorem vc_sectorR : vcFn Tryd.prog [(80, Ext.ctr (ctOfG gl11 sigBnd))] (fun f p _ => at2 f p 65 26 secRL (none)) gl11 100 65 sigSecR = (allB fun n0 : Int => 
impB ((-70368744177664 : Int) ≤ n0) (
impB (n0 ≤ (70368744177664 : Int)) (
allB fun n1 : Int => 
impB ((-70368744177664 : Int) ≤ n1) (
impB (n1 ≤ (70368744177664 : Int)) (
impB (sigSecR.pre [DV.n n0, DV.n n1]) (
reqB ((-70368744177664 : Int) ≤ n0) (
reqB (n0 ≤ (70368744177664 : Int)) (
reqB ((-70368744177664 : Int) ≤ n1) (
reqB (n1 ≤ (70368744177664 : Int)) (
reqB (secRL.inv [DV.n n0, DV.n n1] [DV.n (0 : Int)]) (
allB fun n2 : Int => 
impB ((0 : Int) ≤ n2) (
impB (n2 ≤ (64 : Int)) (
impB (secRL.inv [DV.n n0, DV.n n1] [DV.n n2]) (
bR (dec (n2 < (64 : Int))) (
 reqB ((-1 : Int) ≤ n2 - (1 : Int)) (
 reqB (n2 - (1 : Int) ≤ (64 : Int)) (
 reqB (sigBnd.pre [DV.n (n2 - (1 : Int))]) (
 allB fun n3 : Int => 
 impB ((-254 : Int) ≤ n3) (
 impB (n3 ≤ (254 : Int)) (
 allB fun n4 : Int => 
 impB ((-254 : Int) ≤ n4) (
 impB (n4 ≤ (254 : Int)) (
 impB (sigBnd.post [DV.n (n2 - (1 : Int))] [DV.n n3, DV.n n4]) (
 reqB ((-1 : Int) ≤ n2) (
 reqB (n2 ≤ (64 : Int)) (
 reqB (sigBnd.pre [DV.n n2]) (
 allB fun n5 : Int => 
 impB ((-254 : Int) ≤ n5) (
 impB (n5 ≤ (254 : Int)) (
 allB fun n6 : Int => 
 impB ((-254 : Int) ≤ n6) (
 impB (n6 ≤ (254 : Int)) (
 impB (sigBnd.post [DV.n n2] [DV.n n5, DV.n n6]) (
 bR (dec ((0 : Int) ≤ n3 * n1 - n4 * n0)) (
 bR (dec ((0 : Int) < n0 * n6 - n1 * n5)) (
 reqB ((0 : Int) ≤ n2) (
 reqB (n2 ≤ (63 : Int)) (
 reqB ((-35747322042253312 : Int) ≤ n3 * n1 - n4 * n0) (
 reqB (n3 * n1 - n4 * n0 ≤ (35747322042253312 : Int)) (
 reqB ((-35747322042253312 : Int) ≤ n0 * n6 - n1 * n5) (
 reqB (n0 * n6 - n1 * n5 ≤ (35747322042253312 : Int)) (
 reqB (sigSecR.post [DV.n n0, DV.n n1]
 [DV.n n2, DV.n (n3 * n1 - n4 * n0), DV.n (n0 * n6 - n1 * n5)]) (
 true)))))))) (
 bR (bR (bR (dec (n0 = n0)) (
 bR (dec (n1 = n1)) (
 true) (
 false)) (
 false)) (
 true) (
 false)) (
 reqB ((0 : Int) ≤ n2 + (1 : Int)) (
 reqB (n2 + (1 : Int) ≤ (64 : Int)) (
 reqB (secRL.inv [DV.n n0, DV.n n1] [DV.n (n2 + (1 : Int))]) (
 reqB (secRL.mea [DV.n n0, DV.n n1] [DV.n (n2 + (1 : Int))] <
 secRL.mea [DV.n n0, DV.n n1] [DV.n n2]) (
 true))))) (
 false))) (
 bR (bR (bR (dec (n0 = n0)) (
 bR (dec (n1 = n1)) (
 true) (
 false)) (
 false)) (
 true) (
 false)) (
 reqB ((0 : Int) ≤ n2 + (1 : Int)) (
 reqB (n2 + (1 : Int) ≤ (64 : Int)) (
 reqB (secRL.inv [DV.n n0, DV.n n1] [DV.n (n2 + (1 : Int))]) (
 reqB (secRL.mea [DV.n n0, DV.n n1] [DV.n (n2 + (1 : Int))] <
 secRL.mea [DV.n n0, DV.n n1] [DV.n n2]) (
 true))))) (
 false))))))))))))))))))) (
 reqB (sigSecR.post [DV.n n0, DV.n n1] [DV.n (0 : Int), DV.n (0 : Int), DV.n (0 : Int)]) (
 true)))))))))))))))) := by kernel_rfl
set_option maxHeartbeats 8000000 in
theorem vt_sectorR : vcFn Tryd.prog [(80, Ext.ctr (ctOfG gl11 sigBnd))] (fun f p _ => at2 f p 65 26 secRL (none)) gl11 100 65 sigSecR = true := by
  rw [vc_sectorR]
  try simp only [Int.toNat_natCast, List.length_set, List.length_replicate, List.length_take, List.length_drop, List.length_append, List.length_cons, List.length_nil, Nat.min_self, List.take_take, lenCols_i, lenCols_b, List.drop_zero, List.take_length, Nat.add_eq, Nat.mul_eq, Nat.sub_eq, Nat.zero_add, Nat.sub_zero, Nat.mul_one]
  refine all_i fun n0 => ?_
  refine imp_i fun h0 => ?_
  refine imp_i fun h1 => ?_
  refine all_i fun n1 => ?_
  refine imp_i fun h2 => ?_
  refine imp_i fun h3 => ?_
  refine imp_i fun h4 => ?_
  try simp only [sigSecR, smV, secRPost, List.cons.injEq, DV.b.injEq, and_true, List.length_cons, List.length_nil] at h4
  refine req_i ?_ ?_
  · -- r0
   first | omega | assumption | grind
  refine req_i ?_ ?_
  · -- r1
   first | omega | assumption | grind
  refine req_i ?_ ?_
  · -- r2
   first | omega | assumption | grind
  refine req_i ?_ ?_
  · -- r3
   first | omega | assumption | grind
  refine req_i ?_ ?_
  · -- r4
   exact ⟨by omega, by omega, fun j a b => by omega⟩
  refine all_i fun n2 => ?_
  refine imp_i fun h5 => ?_
  refine imp_i fun h6 => ?_
  refine imp_i fun h7 => ?_
  try simp only [secRL, secRInv, secRMea, List.cons.injEq, DV.b.injEq, and_true, List.length_cons, List.length_nil] at h7
  refine bR_dec (fun h8 => ?_) (fun h8 => ?_)
  ·
   refine req_i ?_ ?_
   · -- r5
    first | omega | assumption | grind
   refine req_i ?_ ?_
   · -- r6
    first | omega | assumption | grind
   refine req_i ?_ ?_
   · -- r7
    first | trivial | assumption | (simp only [sigBnd, bndPost, List.cons.injEq, DV.b.injEq, and_true, List.length_cons, List.length_nil]; done) | ((try simp only [sigBnd, bndPost, List.cons.injEq, DV.b.injEq, and_true, List.length_cons, List.length_nil]); first | omega | assumption | grind)
   refine all_i fun n3 => ?_
   refine imp_i fun h9 => ?_
   refine imp_i fun h10 => ?_
   refine all_i fun n4 => ?_
   refine imp_i fun h11 => ?_
   refine imp_i fun h12 => ?_
   refine imp_i fun h13 => ?_
   try simp only [sigBnd, bndPost, List.cons.injEq, DV.b.injEq, and_true, List.length_cons, List.length_nil] at h13
   refine req_i ?_ ?_
   · -- r8
    first | omega | assumption | grind
   refine req_i ?_ ?_
   · -- r9
    first | omega | assumption | grind
   refine req_i ?_ ?_
   · -- r10
    first | trivial | assumption | (simp only [sigBnd, bndPost, List.cons.injEq, DV.b.injEq, and_true, List.length_cons, List.length_nil]; done) | ((try simp only [sigBnd, bndPost, List.cons.injEq, DV.b.injEq, and_true, List.length_cons, List.length_nil]); first | omega | assumption | grind)
   refine all_i fun n5 => ?_
   refine imp_i fun h14 => ?_
   refine imp_i fun h15 => ?_
   refine all_i fun n6 => ?_
   refine imp_i fun h16 => ?_
   refine imp_i fun h17 => ?_
   refine imp_i fun h18 => ?_
   try simp only [sigBnd, bndPost, List.cons.injEq, DV.b.injEq, and_true, List.length_cons, List.length_nil] at h18
   have c1 : n3 * n1 - n4 * n0 = -cr n0 n1 (n2 - 1) := by
     have cc : cr n0 n1 (n2 - 1) = n0 * n4 - n1 * n3 := by unfold cr; rw [← h13.1, ← h13.2]
     rw [cc, Int.mul_comm n3 n1, Int.mul_comm n4 n0]; omega
   have c2 : n0 * n6 - n1 * n5 = cr n0 n1 n2 := by unfold cr; rw [← h18.1, ← h18.2]
   have d1 := cr_bd (k := n2 - 1) h0 h1 h2 h3
   have d2 := cr_bd (k := n2) h0 h1 h2 h3
   refine bR_dec (fun h19 => ?_) (fun h19 => ?_)
   ·
    refine bR_dec (fun h20 => ?_) (fun h20 => ?_)
    ·
     refine req_i ?_ ?_
     · -- r11
      first | omega | assumption | grind
     refine req_i ?_ ?_
     · -- r12
      first | omega | assumption | grind
     refine req_i ?_ ?_
     · -- r13
      first | omega | assumption | grind
     refine req_i ?_ ?_
     · -- r14
      first | omega | assumption | grind
     refine req_i ?_ ?_
     · -- r15
      first | omega | assumption | grind
     refine req_i ?_ ?_
     · -- r16
      first | omega | assumption | grind
     refine req_i ?_ ?_
     · -- r17
      exact .inr ⟨⟨by omega, by omega, by omega, by omega⟩, c1, c2⟩
     rfl
    ·
     refine bR_t ?_ ?_
     · -- g0
      first | rfl | (simp only [bR_iff, bR_iff_f, dec_iff, dec_f, beqB_iff', andB_iff', reduceCtorEq, imp_self, false_implies, and_true, true_and, implies_true, and_self]; done) | (simp [bR_iff, dec_iff, beqB_iff', andB_iff']; done) | (simp [bR_iff, dec_iff, beqB_iff', andB_iff']; omega)
     refine req_i ?_ ?_
     · -- r18
      first | omega | assumption | grind
     refine req_i ?_ ?_
     · -- r19
      first | omega | assumption | grind
     refine req_i ?_ ?_
     · -- r20
      exact ⟨by omega, by omega, secR_step h7.2.2 (by omega)⟩
     refine req_i ?_ ?_
     · -- r21
      show (64 - (n2 + 1)).toNat < (64 - n2).toNat; omega
     rfl
   ·
    refine bR_t ?_ ?_
    · -- g1
     first | rfl | (simp only [bR_iff, bR_iff_f, dec_iff, dec_f, beqB_iff', andB_iff', reduceCtorEq, imp_self, false_implies, and_true, true_and, implies_true, and_self]; done) | (simp [bR_iff, dec_iff, beqB_iff', andB_iff']; done) | (simp [bR_iff, dec_iff, beqB_iff', andB_iff']; omega)
    refine req_i ?_ ?_
    · -- r22
     first | omega | assumption | grind
    refine req_i ?_ ?_
    · -- r23
     first | omega | assumption | grind
    refine req_i ?_ ?_
    · -- r24
     exact ⟨by omega, by omega, secR_step h7.2.2 (by omega)⟩
    refine req_i ?_ ?_
    · -- r25
     show (64 - (n2 + 1)).toNat < (64 - n2).toNat; omega
    rfl
  ·
   refine req_i ?_ ?_
   · -- r26
    have z := sect_none (x := n0) (y := n1) (fun j a b => h7.2.2 j a (by omega))
    exact .inl ⟨z.1, z.2, rfl, rfl, rfl⟩
   rfl
theorem ext_sectorR : ∀ p ∈ ([(80, Ext.ctr (ctOfG gl11 sigBnd))] : List (Nat × Ext)), ExtRow Tryd.prog p.1 p.2 := by
  intro p hp
  simp only [List.mem_cons, List.not_mem_nil, or_false] at hp
  rcases hp with rfl
  · trivial
theorem cts_sectorR : CtsOk Tryd.prog [(80, Ext.ctr (ctOfG gl11 sigBnd))] := ctsOk_ofG (cs := [(80, sigBnd)])
  (fun p hp => by
    simp only [List.mem_cons, List.not_mem_nil, or_false] at hp
    rcases hp with rfl
    · exact fn_bndR
)
  (fun f c h => by
    simp only [List.lookup_cons] at h
    repeat' split at h
    all_goals first | (cases h; done) | (rename_i e; have e := beq_iff_eq.1 e; subst e; cases h; refine ⟨_, ?_, rfl⟩; simp))
theorem fn_sectorR : FnOk Tryd.prog 65 sigSecR gl11 := fn_sound (by kernel_rfl) ext_sectorR cts_sectorR names vt_sectorR
end Go.Proofs.YtofeleohcpaclaaDoor

namespace Go.Proofs.YtofeleohcpaclaaDoor
open Go.Ev Go.Sp
set_option maxRecDepth 100000
theorem vc_FineR : vcFn Tryd.prog [(64, Ext.ctr (ctOfG gl11 sigSmallB)), (65, Ext.ctr (ctOfG gl11 sigSecR))] noA gl11 100 47 sigFine = (allB fun n0 : Int => 
impB ((-9223372036854775808 : Int) ≤ n0) (
impB (n0 ≤ (9223372036854775807 : Int)) (
allB fun n1 : Int => 
impB ((-9223372036854775808 : Int) ≤ n1) (
impB (n1 ≤ (9223372036854775807 : Int)) (
impB (sigFine.pre [DV.n n0, DV.n n1]) (
reqB ((-9223372036854775808 : Int) ≤ n0) (
reqB (n0 ≤ (9223372036854775807 : Int)) (
reqB ((-9223372036854775808 : Int) ≤ n1) (
reqB (n1 ≤ (9223372036854775807 : Int)) (
reqB (sigSmallB.pre [DV.n n0, DV.n n1]) (
allB fun b2 : Bool => 
impB (sigSmallB.post [DV.n n0, DV.n n1] [DV.b b2]) (
bR (bR (b2) (
 false) (
 true)) (
 reqB (sigFine.post [DV.n n0, DV.n n1] [DV.n (0 : Int), DV.n (2 : Int)]) (
 true)) (
 reqB ((-70368744177664 : Int) ≤ n0) (
 reqB (n0 ≤ (70368744177664 : Int)) (
 reqB ((-70368744177664 : Int) ≤ n1) (
 reqB (n1 ≤ (70368744177664 : Int)) (
 reqB (sigSecR.pre [DV.n n0, DV.n n1]) (
 allB fun n3 : Int => 
 impB ((0 : Int) ≤ n3) (
 impB (n3 ≤ (63 : Int)) (
 allB fun n4 : Int => 
 impB ((-35747322042253312 : Int) ≤ n4) (
 impB (n4 ≤ (35747322042253312 : Int)) (
 allB fun n5 : Int => 
 impB ((-35747322042253312 : Int) ≤ n5) (
 impB (n5 ≤ (35747322042253312 : Int)) (
 impB (sigSecR.post [DV.n n0, DV.n n1] [DV.n n3, DV.n n4, DV.n n5]) (
 bR (dec (n4 + n5 = (0 : Int))) (
 reqB (sigFine.post [DV.n n0, DV.n n1] [DV.n (0 : Int), DV.n (0 : Int)]) (
 true)) (
 reqB (n4 + n5 ≠ (0 : Int)) (
 allB fun n6 : Int => 
 impB (n6 = Go.IntKind.i64.wrap (((64 : Int) * n4).tdiv (n4 + n5))) (
 impB (Int.negSucc (9223372036854775807 : Nat) ≤ n6) (
 impB (n6 ≤ Int.ofNat (9223372036854775807 : Nat)) (
 allB fun n7 : Int => 
 impB (n7 = Go.IntKind.i64.wrap ((64 : Int) * n3 - (32 : Int) + n6)) (
 impB (Int.negSucc (9223372036854775807 : Nat) ≤ n7) (
 impB (n7 ≤ Int.ofNat (9223372036854775807 : Nat)) (
 reqB ((0 : Int) ≤ n7 % Int.ofNat (4096 : Nat)) (
 reqB (n7 % Int.ofNat (4096 : Nat) ≤ (4095 : Int)) (
 reqB (sigFine.post [DV.n n0, DV.n n1] [DV.n (n7 % Int.ofNat (4096 : Nat)), DV.n (0 : Int)]) (
 true)))))))))))))))))))))))))))))))))))) := by kernel_rfl
set_option maxHeartbeats 8000000 in
theorem vt_FineR : vcFn Tryd.prog [(64, Ext.ctr (ctOfG gl11 sigSmallB)), (65, Ext.ctr (ctOfG gl11 sigSecR))] noA gl11 100 47 sigFine = true := by
  rw [vc_FineR]
  try simp only [Int.toNat_natCast, List.length_set, List.length_replicate, List.length_take, List.length_drop, List.length_append, List.length_cons, List.length_nil, Nat.min_self, List.take_take, lenCols_i, lenCols_b, List.drop_zero, List.take_length, Nat.add_eq, Nat.mul_eq, Nat.sub_eq, Nat.zero_add, Nat.sub_zero, Nat.mul_one]
  refine all_i fun n0 => ?_
  refine imp_i fun h0 => ?_
  refine imp_i fun h1 => ?_
  refine all_i fun n1 => ?_
  refine imp_i fun h2 => ?_
  refine imp_i fun h3 => ?_
  refine imp_i fun h4 => ?_
  try simp only [sigFine, smpV, finePost, sml, List.cons.injEq, DV.b.injEq, and_true, List.length_cons, List.length_nil] at h4
  refine req_i ?_ ?_
  · -- r0
   first | omega | assumption | grind
  refine req_i ?_ ?_
  · -- r1
   first | omega | assumption | grind
  refine req_i ?_ ?_
  · -- r2
   first | omega | assumption | grind
  refine req_i ?_ ?_
  · -- r3
   first | omega | assumption | grind
  refine req_i ?_ ?_
  · -- r4
   first | trivial | assumption | (simp only [sigSmallB, smpV, smallBPost, sml, List.cons.injEq, DV.b.injEq, and_true, List.length_cons, List.length_nil]; done) | ((try simp only [sigSmallB, smpV, smallBPost, sml, List.cons.injEq, DV.b.injEq, and_true, List.length_cons, List.length_nil]); first | omega | assumption | grind)
  refine all_i fun b2 => ?_
  refine imp_i fun h5 => ?_
  try simp only [sigSmallB, smpV, smallBPost, sml, List.cons.injEq, DV.b.injEq, and_true, List.length_cons, List.length_nil] at h5
  refine bR_i (fun h6 => ?_) (fun h6 => ?_)
  ·
   simp only [bR_iff, bR_iff_f, dec_iff, dec_f, Bool.false_eq_true, Bool.true_eq_false, false_implies, imp_false, and_true, true_and, implies_true, Classical.not_not] at h6
   refine req_i ?_ ?_
   · -- r5
    exact .inr ⟨fun g => by simp [h5.2 g] at h6, rfl, rfl⟩
   rfl
  ·
   simp only [bR_iff, bR_iff_f, dec_iff, dec_f, Bool.false_eq_true, Bool.true_eq_false, false_implies, imp_false, and_true, true_and, implies_true, Classical.not_not] at h6
   have hsm : sml n0 n1 := h5.1 (by first | exact h6 | simpa using h6)
   refine req_i ?_ ?_
   · -- r6
    first | omega | assumption | grind
   refine req_i ?_ ?_
   · -- r7
    first | omega | assumption | grind
   refine req_i ?_ ?_
   · -- r8
    first | omega | assumption | grind
   refine req_i ?_ ?_
   · -- r9
    first | omega | assumption | grind
   refine req_i ?_ ?_
   · -- r10
    first | trivial | assumption | (simp only [sigSecR, smV, secRPost, List.cons.injEq, DV.b.injEq, and_true, List.length_cons, List.length_nil]; done) | ((try simp only [sigSecR, smV, secRPost, List.cons.injEq, DV.b.injEq, and_true, List.length_cons, List.length_nil]); first | omega | assumption | grind)
   refine all_i fun n3 => ?_
   refine imp_i fun h7 => ?_
   refine imp_i fun h8 => ?_
   refine all_i fun n4 => ?_
   refine imp_i fun h9 => ?_
   refine imp_i fun h10 => ?_
   refine all_i fun n5 => ?_
   refine imp_i fun h11 => ?_
   refine imp_i fun h12 => ?_
   refine imp_i fun h13 => ?_
   try simp only [sigSecR, smV, secRPost, List.cons.injEq, DV.b.injEq, and_true, List.length_cons, List.length_nil] at h13
   refine bR_dec (fun h14 => ?_) (fun h14 => ?_)
   ·
    refine req_i ?_ ?_
    · -- r11
     rcases h13 with ⟨rfl, rfl, _⟩ | h13
     · exact .inl ⟨hsm, rfl, fineOf_0.symm⟩
     · obtain ⟨⟨s1, s2, s3, s4⟩, c1, c2⟩ := h13
       omega
    rfl
   ·
    have hs : sect n0 n1 n3 ∧ n4 = -cr n0 n1 (n3 - 1) ∧ n5 = cr n0 n1 n3 := by
      rcases h13 with h | h
      · omega
      · exact h
    obtain ⟨⟨s1, s2, s3, s4⟩, c1, c2⟩ := hs
    obtain ⟨q1, q2, q3⟩ := fine_q (a := n4) (b := n5) (by omega) (by omega)
    rw [q3]
    refine req_i ?_ ?_
    · -- r12
     first | omega | assumption | grind
    refine all_i fun n6 => ?_
    refine imp_i fun h15 => ?_
    simp only [wrap_i64] at h15
    refine imp_i fun h16 => ?_
    refine imp_i fun h17 => ?_
    refine all_i fun n7 => ?_
    refine imp_i fun h18 => ?_
    simp only [wrap_i64] at h18
    refine imp_i fun h19 => ?_
    refine imp_i fun h20 => ?_
    refine req_i ?_ ?_
    · -- r13
     first | omega | assumption | grind
    refine req_i ?_ ?_
    · -- r14
     first | omega | assumption | grind
    refine req_i ?_ ?_
    · -- r15
     have fe := fineOf_eq (x := n0) (y := n1) (k := n3) ⟨s1, s2, s3, s4⟩
     rw [← c1, ← c2, show n5 - cr n0 n1 (n3 - 1) = n4 + n5 by omega] at fe
     refine .inl ⟨hsm, rfl, ?_⟩
     rw [fe]
     have w1 : n6 = 64 * n4 / (n4 + n5) := by omega
     rw [← w1]
     show n7 % 4096 = _
     omega
    rfl
theorem ext_FineR : ∀ p ∈ ([(64, Ext.ctr (ctOfG gl11 sigSmallB)), (65, Ext.ctr (ctOfG gl11 sigSecR))] : List (Nat × Ext)), ExtRow Tryd.prog p.1 p.2 := by
  intro p hp
  simp only [List.mem_cons, List.not_mem_nil, or_false] at hp
  rcases hp with rfl | rfl
  · trivial
  · trivial
theorem cts_FineR : CtsOk Tryd.prog [(64, Ext.ctr (ctOfG gl11 sigSmallB)), (65, Ext.ctr (ctOfG gl11 sigSecR))] := ctsOk_ofG (cs := [(64, sigSmallB), (65, sigSecR)])
  (fun p hp => by
    simp only [List.mem_cons, List.not_mem_nil, or_false] at hp
    rcases hp with rfl | rfl
    · exact fn_smallR
    · exact fn_sectorR
)
  (fun f c h => by
    simp only [List.lookup_cons] at h
    repeat' split at h
    all_goals first | (cases h; done) | (rename_i e; have e := beq_iff_eq.1 e; subst e; cases h; refine ⟨_, ?_, rfl⟩; simp))
theorem fn_FineR : FnOk Tryd.prog 47 sigFine gl11 := fn_sound (by kernel_rfl) ext_FineR cts_FineR names vt_FineR
end Go.Proofs.YtofeleohcpaclaaDoor

namespace Go.Proofs.YtofeleohcpaclaaDoor
open Go.Ev Go.Sp
set_option maxRecDepth 100000
theorem vc_RateR : vcFn Tryd.prog [(24, Ext.ctr (ctOfG gl11 sigTurnD)), (47, Ext.ctr (ctOfG gl11 sigFine))] noA gl11 100 25 sigRate = (allB fun n0 : Int => 
impB ((-9223372036854775808 : Int) ≤ n0) (
impB (n0 ≤ (9223372036854775807 : Int)) (
allB fun n1 : Int => 
impB ((-9223372036854775808 : Int) ≤ n1) (
impB (n1 ≤ (9223372036854775807 : Int)) (
allB fun n2 : Int => 
impB ((-9223372036854775808 : Int) ≤ n2) (
impB (n2 ≤ (9223372036854775807 : Int)) (
allB fun n3 : Int => 
impB ((-9223372036854775808 : Int) ≤ n3) (
impB (n3 ≤ (9223372036854775807 : Int)) (
impB (sigRate.pre [DV.n n0, DV.n n1, DV.n n2, DV.n n3]) (
reqB ((-9223372036854775808 : Int) ≤ n0) (
reqB (n0 ≤ (9223372036854775807 : Int)) (
reqB ((-9223372036854775808 : Int) ≤ n1) (
reqB (n1 ≤ (9223372036854775807 : Int)) (
reqB ((-9223372036854775808 : Int) ≤ n2) (
reqB (n2 ≤ (9223372036854775807 : Int)) (
reqB ((-9223372036854775808 : Int) ≤ n3) (
reqB (n3 ≤ (9223372036854775807 : Int)) (
reqB (sigTurnD.pre [DV.n n0, DV.n n1, DV.n n2, DV.n n3]) (
allB fun n4 : Int => 
impB ((-2199023255552 : Int) ≤ n4) (
impB (n4 ≤ (2199023255552 : Int)) (
allB fun n5 : Int => 
impB ((-2199023255552 : Int) ≤ n5) (
impB (n5 ≤ (2199023255552 : Int)) (
allB fun n6 : Int => 
impB ((0 : Int) ≤ n6) (
impB (n6 ≤ (18 : Int)) (
impB (sigTurnD.post [DV.n n0, DV.n n1, DV.n n2, DV.n n3]
 [DV.n n4, DV.n n5, DV.n n6]) (
bR (dec (n6 ≠ (0 : Int))) (
 reqB ((0 : Int) ≤ n6) (
 reqB (n6 ≤ (18 : Int)) (
 reqB (sigRate.post [DV.n n0, DV.n n1, DV.n n2, DV.n n3] [DV.n (0 : Int), DV.n n6]) (
 true)))) (
 reqB ((-9223372036854775808 : Int) ≤ n4) (
 reqB (n4 ≤ (9223372036854775807 : Int)) (
 reqB ((-9223372036854775808 : Int) ≤ n5) (
 reqB (n5 ≤ (9223372036854775807 : Int)) (
 reqB (sigFine.pre [DV.n n4, DV.n n5]) (
 allB fun n7 : Int => 
 impB ((0 : Int) ≤ n7) (
 impB (n7 ≤ (4095 : Int)) (
 allB fun n8 : Int => 
 impB ((0 : Int) ≤ n8) (
 impB (n8 ≤ (18 : Int)) (
 impB (sigFine.post [DV.n n4, DV.n n5] [DV.n n7, DV.n n8]) (
 reqB ((-2048 : Int) ≤ (n7 + (2048 : Int)).tmod (Int.ofNat (4096 : Nat)) - (2048 : Int)) (
 reqB ((n7 + (2048 : Int)).tmod (Int.ofNat (4096 : Nat)) - (2048 : Int) ≤ (2047 : Int)) (
 reqB (sigRate.post [DV.n n0, DV.n n1, DV.n n2, DV.n n3]
 [DV.n ((n7 + (2048 : Int)).tmod (Int.ofNat (4096 : Nat)) - (2048 : Int)), DV.n (0 : Int)]) (
 true)))))))))))))))))))))))))))))))))))))))) := by kernel_rfl
set_option maxHeartbeats 8000000 in
theorem vt_RateR : vcFn Tryd.prog [(24, Ext.ctr (ctOfG gl11 sigTurnD)), (47, Ext.ctr (ctOfG gl11 sigFine))] noA gl11 100 25 sigRate = true := by
  rw [vc_RateR]
  try simp only [Int.toNat_natCast, List.length_set, List.length_replicate, List.length_take, List.length_drop, List.length_append, List.length_cons, List.length_nil, Nat.min_self, List.take_take, lenCols_i, lenCols_b, List.drop_zero, List.take_length, Nat.add_eq, Nat.mul_eq, Nat.sub_eq, Nat.zero_add, Nat.sub_zero, Nat.mul_one]
  refine all_i fun n0 => ?_
  refine imp_i fun h0 => ?_
  refine imp_i fun h1 => ?_
  refine all_i fun n1 => ?_
  refine imp_i fun h2 => ?_
  refine imp_i fun h3 => ?_
  refine all_i fun n2 => ?_
  refine imp_i fun h4 => ?_
  refine imp_i fun h5 => ?_
  refine all_i fun n3 => ?_
  refine imp_i fun h6 => ?_
  refine imp_i fun h7 => ?_
  refine imp_i fun h8 => ?_
  try simp only [sigRate, smpV, ratePost, insd, cen, tI, tQ, List.cons.injEq, DV.b.injEq, and_true, List.length_cons, List.length_nil] at h8
  refine req_i ?_ ?_
  · -- r0
   first | omega | assumption | grind
  refine req_i ?_ ?_
  · -- r1
   first | omega | assumption | grind
  refine req_i ?_ ?_
  · -- r2
   first | omega | assumption | grind
  refine req_i ?_ ?_
  · -- r3
   first | omega | assumption | grind
  refine req_i ?_ ?_
  · -- r4
   first | omega | assumption | grind
  refine req_i ?_ ?_
  · -- r5
   first | omega | assumption | grind
  refine req_i ?_ ?_
  · -- r6
   first | omega | assumption | grind
  refine req_i ?_ ?_
  · -- r7
   first | omega | assumption | grind
  refine req_i ?_ ?_
  · -- r8
   first | trivial | assumption | (simp only [sigTurnD, smpV, t41, turnPost, insd, tI, tQ, List.cons.injEq, DV.b.injEq, and_true, List.length_cons, List.length_nil]; done) | ((try simp only [sigTurnD, smpV, t41, turnPost, insd, tI, tQ, List.cons.injEq, DV.b.injEq, and_true, List.length_cons, List.length_nil]); first | omega | assumption | grind)
  refine all_i fun n4 => ?_
  refine imp_i fun h9 => ?_
  refine imp_i fun h10 => ?_
  refine all_i fun n5 => ?_
  refine imp_i fun h11 => ?_
  refine imp_i fun h12 => ?_
  refine all_i fun n6 => ?_
  refine imp_i fun h13 => ?_
  refine imp_i fun h14 => ?_
  refine imp_i fun h15 => ?_
  try simp only [sigTurnD, smpV, t41, turnPost, insd, tI, tQ, List.cons.injEq, DV.b.injEq, and_true, List.length_cons, List.length_nil] at h15
  refine bR_dec (fun h16 => ?_) (fun h16 => ?_)
  ·
   refine req_i ?_ ?_
   · -- r9
    first | omega | assumption | grind
   refine req_i ?_ ?_
   · -- r10
    first | omega | assumption | grind
   refine req_i ?_ ?_
   · -- r11
    first | omega | ((try simp only [sigRate, smpV, ratePost, insd, cen, tI, tQ, List.cons.injEq, DV.b.injEq, and_true, List.length_cons, List.length_nil]); first | done | omega | assumption | grind [getD_set, getD_rep, toNat_succ, cntN_yes, cntN_no])
   rfl
  ·
   have t0 : insd n0 n1 ∧ insd n2 n3 := by
     rcases h15 with h | h
     · omega
     · exact h.1
   have u0 := t0
   unfold insd at u0
   have p1 := mul_abs (a := n2) (b := n0) (A := 1048576) (B := 1048576) (by omega) (by omega) (by omega) (by omega)
   have p2 := mul_abs (a := n3) (b := n1) (A := 1048576) (B := 1048576) (by omega) (by omega) (by omega) (by omega)
   have p3 := mul_abs (a := n3) (b := n0) (A := 1048576) (B := 1048576) (by omega) (by omega) (by omega) (by omega)
   have p4 := mul_abs (a := n2) (b := n1) (A := 1048576) (B := 1048576) (by omega) (by omega) (by omega) (by omega)
   have t1 : n4 = n2 * n0 + n3 * n1 ∧ n5 = n3 * n0 - n2 * n1 := by omega
   refine req_i ?_ ?_
   · -- r12
    first | omega | assumption | grind
   refine req_i ?_ ?_
   · -- r13
    first | omega | assumption | grind
   refine req_i ?_ ?_
   · -- r14
    first | omega | assumption | grind
   refine req_i ?_ ?_
   · -- r15
    first | omega | assumption | grind
   refine req_i ?_ ?_
   · -- r16
    first | trivial | assumption | (simp only [sigFine, smpV, finePost, sml, List.cons.injEq, DV.b.injEq, and_true, List.length_cons, List.length_nil]; done) | ((try simp only [sigFine, smpV, finePost, sml, List.cons.injEq, DV.b.injEq, and_true, List.length_cons, List.length_nil]); first | omega | assumption | grind)
   refine all_i fun n7 => ?_
   refine imp_i fun h17 => ?_
   refine imp_i fun h18 => ?_
   refine all_i fun n8 => ?_
   refine imp_i fun h19 => ?_
   refine imp_i fun h20 => ?_
   refine imp_i fun h21 => ?_
   try simp only [sigFine, smpV, finePost, sml, List.cons.injEq, DV.b.injEq, and_true, List.length_cons, List.length_nil] at h21
   have tm := tmod_nn (a := n7 + 2048) (b := 4096) (by omega)
   try simp only [show Int.ofNat 2048 = 2048 from rfl, show Int.ofNat 4096 = 4096 from rfl]
   rw [tm]
   rw [t1.1, t1.2] at h21
   have f1 : n7 = fineOf (n2 * n0 + n3 * n1) (n3 * n0 - n2 * n1) := by omega
   refine req_i ?_ ?_
   · -- r17
    first | omega | assumption | grind
   refine req_i ?_ ?_
   · -- r18
    first | omega | assumption | grind
   refine req_i ?_ ?_
   · -- r19
    exact .inr ⟨t0, rfl, by simp only [cen, tI, tQ]; omega⟩
   rfl
theorem ext_RateR : ∀ p ∈ ([(24, Ext.ctr (ctOfG gl11 sigTurnD)), (47, Ext.ctr (ctOfG gl11 sigFine))] : List (Nat × Ext)), ExtRow Tryd.prog p.1 p.2 := by
  intro p hp
  simp only [List.mem_cons, List.not_mem_nil, or_false] at hp
  rcases hp with rfl | rfl
  · trivial
  · trivial
theorem cts_RateR : CtsOk Tryd.prog [(24, Ext.ctr (ctOfG gl11 sigTurnD)), (47, Ext.ctr (ctOfG gl11 sigFine))] := ctsOk_ofG (cs := [(24, sigTurnD), (47, sigFine)])
  (fun p hp => by
    simp only [List.mem_cons, List.not_mem_nil, or_false] at hp
    rcases hp with rfl | rfl
    · exact fn_TurnR
    · exact fn_FineR
)
  (fun f c h => by
    simp only [List.lookup_cons] at h
    repeat' split at h
    all_goals first | (cases h; done) | (rename_i e; have e := beq_iff_eq.1 e; subst e; cases h; refine ⟨_, ?_, rfl⟩; simp))
theorem fn_RateR : FnOk Tryd.prog 25 sigRate gl11 := fn_sound (by kernel_rfl) ext_RateR cts_RateR names vt_RateR
end Go.Proofs.YtofeleohcpaclaaDoor

namespace Go.Proofs.YtofeleohcpaclaaDoor
open Go.Ev Go.Sp
set_option maxRecDepth 100000
theorem vc_HRate : vcFn Tryd.prog [(62, Ext.ctr (ctOfG gl11 sigFine))] noA gl11 100 14 sigHRate = (allB fun n0 : Int => 
impB ((-9223372036854775808 : Int) ≤ n0) (
impB (n0 ≤ (9223372036854775807 : Int)) (
allB fun n1 : Int => 
impB ((-9223372036854775808 : Int) ≤ n1) (
impB (n1 ≤ (9223372036854775807 : Int)) (
allB fun n2 : Int => 
impB ((-9223372036854775808 : Int) ≤ n2) (
impB (n2 ≤ (9223372036854775807 : Int)) (
allB fun n3 : Int => 
impB ((-9223372036854775808 : Int) ≤ n3) (
impB (n3 ≤ (9223372036854775807 : Int)) (
impB (sigHRate.pre [DV.n n0, DV.n n1, DV.n n2, DV.n n3]) (
bR (dec (Min.min n0 n1 < (-1048576 : Int))) (
 reqB (sigHRate.post [DV.n n0, DV.n n1, DV.n n2, DV.n n3]
 [DV.n (0 : Int), DV.n (2 : Int)]) (
 true)) (
 bR (dec ((1048576 : Int) < Max.max n0 n1)) (
 reqB (sigHRate.post [DV.n n0, DV.n n1, DV.n n2, DV.n n3]
 [DV.n (0 : Int), DV.n (2 : Int)]) (
 true)) (
 bR (dec (Min.min n2 n3 < (-1048576 : Int))) (
 reqB (sigHRate.post [DV.n n0, DV.n n1, DV.n n2, DV.n n3]
 [DV.n (0 : Int), DV.n (2 : Int)]) (
 true)) (
 bR (dec ((1048576 : Int) < Max.max n2 n3)) (
 reqB (sigHRate.post [DV.n n0, DV.n n1, DV.n n2, DV.n n3]
 [DV.n (0 : Int), DV.n (2 : Int)]) (
 true)) (
 bR (bR (bR (false) (
 bR (false) (
 bR (false) (
 bR (false) (
 bR (false) (
 bR (dec (n2 = n2)) (
 bR (dec (n3 = n3)) (
 true) (
 false)) (
 false)) (
 bR (true) (
 bR (dec (n2 = n2)) (
 bR (dec (n3 = n3)) (
 true) (
 false)) (
 false)) (
 bR (bR (dec (n2 = n2)) (
 bR (dec (n3 = n3)) (
 true) (
 false)) (
 false)) (
 bR (dec (n2 = n2)) (
 bR (dec (n3 = n3)) (
 true) (
 false)) (
 false)) (
 false)))) (
 bR (false) (
 bR (false) (
 bR (dec (n2 = n2)) (
 bR (dec (n3 = n3)) (
 true) (
 false)) (
 false)) (
 bR (true) (
 bR (bR (bR (bR (dec (n2 = n2)) (
 bR (dec (n3 = n3)) (
 true) (
 false)) (
 false)) (
 true) (
 false)) (
 true) (
 false)) (
 true) (
 false)) (
 bR (bR (bR (bR (bR (dec (n2 = n2)) (
 bR (dec (n3 = n3)) (
 true) (
 false)) (
 false)) (
 true) (
 false)) (
 true) (
 false)) (
 true) (
 false)) (
 bR (dec (n2 = n2)) (
 bR (dec (n3 = n3)) (
 true) (
 false)) (
 false)) (
 false)))) (
 bR (false) (
 bR (dec (n2 = n2)) (
 bR (dec (n3 = n3)) (
 true) (
 false)) (
 false)) (
 bR (true) (
 bR (bR (bR (bR (bR (dec (n2 = n2)) (
 bR (dec (n3 = n3)) (
 true) (
 false)) (
 false)) (
 true) (
 false)) (
 true) (
 false)) (
 true) (
 false)) (
 bR (dec (n2 = n2)) (
 bR (dec (n3 = n3)) (
 true) (
 false)) (
 false)) (
 false)) (
 bR (bR (bR (bR (bR (bR (dec (n2 = n2)) (
 bR (dec (n3 = n3)) (
 true) (
 false)) (
 false)) (
 true) (
 false)) (
 true) (
 false)) (
 true) (
 false)) (
 bR (dec (n2 = n2)) (
 bR (dec (n3 = n3)) (
 true) (
 false)) (
 false)) (
 false)) (
 bR (dec (n2 = n2)) (
 bR (dec (n3 = n3)) (
 true) (
 false)) (
 false)) (
 false)))))) (
 bR (false) (
 bR (false) (
 bR (dec (n2 = n2)) (
 bR (dec (n3 = n3)) (
 true) (
 false)) (
 false)) (
 bR (true) (
 bR (dec (n2 = n2)) (
 bR (dec (n3 = n3)) (
 true) (
 false)) (
 false)) (
 bR (bR (dec (n2 = n2)) (
 bR (dec (n3 = n3)) (
 true) (
 false)) (
 false)) (
 bR (dec (n2 = n2)) (
 bR (dec (n3 = n3)) (
 true) (
 false)) (
 false)) (
 false)))) (
 bR (false) (
 bR (false) (
 bR (dec (n2 = n2)) (
 bR (dec (n3 = n3)) (
 true) (
 false)) (
 false)) (
 bR (true) (
 bR (bR (bR (dec (n2 = n2)) (
 bR (dec (n3 = n3)) (
 true) (
 false)) (
 false)) (
 true) (
 false)) (
 true) (
 false)) (
 bR (bR (bR (bR (dec (n2 = n2)) (
 bR (dec (n3 = n3)) (
 true) (
 false)) (
 false)) (
 true) (
 false)) (
 true) (
 false)) (
 bR (dec (n2 = n2)) (
 bR (dec (n3 = n3)) (
 true) (
 false)) (
 false)) (
 false)))) (
 bR (false) (
 bR (dec (n2 = n2)) (
 bR (dec (n3 = n3)) (
 true) (
 false)) (
 false)) (
 bR (true) (
 bR (bR (bR (bR (dec (n2 = n2)) (
 bR (dec (n3 = n3)) (
 true) (
 false)) (
 false)) (
 true) (
 false)) (
 true) (
 false)) (
 bR (dec (n2 = n2)) (
 bR (dec (n3 = n3)) (
 true) (
 false)) (
 false)) (
 false)) (
 bR (bR (bR (bR (bR (dec (n2 = n2)) (
 bR (dec (n3 = n3)) (
 true) (
 false)) (
 false)) (
 true) (
 false)) (
 true) (
 false)) (
 bR (dec (n2 = n2)) (
 bR (dec (n3 = n3)) (
 true) (
 false)) (
 false)) (
 false)) (
 bR (dec (n2 = n2)) (
 bR (dec (n3 = n3)) (
 true) (
 false)) (
 false)) (
 false))))))) (
 bR (false) (
 bR (false) (
 bR (false) (
 bR (dec (n2 = n2)) (
 bR (dec (n3 = n3)) (
 true) (
 false)) (
 false)) (
 bR (true) (
 bR (dec (n2 = n2)) (
 bR (dec (n3 = n3)) (
 true) (
 false)) (
 false)) (
 bR (bR (dec (n2 = n2)) (
 bR (dec (n3 = n3)) (
 true) (
 false)) (
 false)) (
 bR (dec (n2 = n2)) (
 bR (dec (n3 = n3)) (
 true) (
 false)) (
 false)) (
 false)))) (
 bR (false) (
 bR (false) (
 bR (dec (n2 = n2)) (
 bR (dec (n3 = n3)) (
 true) (
 false)) (
 false)) (
 bR (true) (
 bR (bR (bR (dec (n2 = n2)) (
 bR (dec (n3 = n3)) (
 true) (
 false)) (
 false)) (
 true) (
 false)) (
 true) (
 false)) (
 bR (bR (bR (bR (dec (n2 = n2)) (
 bR (dec (n3 = n3)) (
 true) (
 false)) (
 false)) (
 true) (
 false)) (
 true) (
 false)) (
 bR (dec (n2 = n2)) (
 bR (dec (n3 = n3)) (
 true) (
 false)) (
 false)) (
 false)))) (
 bR (false) (
 bR (dec (n2 = n2)) (
 bR (dec (n3 = n3)) (
 true) (
 false)) (
 false)) (
 bR (true) (
 bR (bR (bR (bR (dec (n2 = n2)) (
 bR (dec (n3 = n3)) (
 true) (
 false)) (
 false)) (
 true) (
 false)) (
 true) (
 false)) (
 bR (dec (n2 = n2)) (
 bR (dec (n3 = n3)) (
 true) (
 false)) (
 false)) (
 false)) (
 bR (bR (bR (bR (bR (dec (n2 = n2)) (
 bR (dec (n3 = n3)) (
 true) (
 false)) (
 false)) (
 true) (
 false)) (
 true) (
 false)) (
 bR (dec (n2 = n2)) (
 bR (dec (n3 = n3)) (
 true) (
 false)) (
 false)) (
 false)) (
 bR (dec (n2 = n2)) (
 bR (dec (n3 = n3)) (
 true) (
 false)) (
 false)) (
 false)))))) (
 bR (false) (
 bR (false) (
 bR (dec (n2 = n2)) (
 bR (dec (n3 = n3)) (
 true) (
 false)) (
 false)) (
 bR (true) (
 bR (dec (n2 = n2)) (
 bR (dec (n3 = n3)) (
 true) (
 false)) (
 false)) (
 bR (bR (dec (n2 = n2)) (
 bR (dec (n3 = n3)) (
 true) (
 false)) (
 false)) (
 bR (dec (n2 = n2)) (
 bR (dec (n3 = n3)) (
 true) (
 false)) (
 false)) (
 false)))) (
 bR (false) (
 bR (false) (
 bR (dec (n2 = n2)) (
 bR (dec (n3 = n3)) (
 true) (
 false)) (
 false)) (
 bR (true) (
 bR (bR (dec (n2 = n2)) (
 bR (dec (n3 = n3)) (
 true) (
 false)) (
 false)) (
 true) (
 false)) (
 bR (bR (bR (dec (n2 = n2)) (
 bR (dec (n3 = n3)) (
 true) (
 false)) (
 false)) (
 true) (
 false)) (
 bR (dec (n2 = n2)) (
 bR (dec (n3 = n3)) (
 true) (
 false)) (
 false)) (
 false)))) (
 bR (false) (
 bR (dec (n2 = n2)) (
 bR (dec (n3 = n3)) (
 true) (
 false)) (
 false)) (
 bR (true) (
 bR (bR (bR (dec (n2 = n2)) (
 bR (dec (n3 = n3)) (
 true) (
 false)) (
 false)) (
 true) (
 false)) (
 bR (dec (n2 = n2)) (
 bR (dec (n3 = n3)) (
 true) (
 false)) (
 false)) (
 false)) (
 bR (bR (bR (bR (dec (n2 = n2)) (
 bR (dec (n3 = n3)) (
 true) (
 false)) (
 false)) (
 true) (
 false)) (
 bR (dec (n2 = n2)) (
 bR (dec (n3 = n3)) (
 true) (
 false)) (
 false)) (
 false)) (
 bR (dec (n2 = n2)) (
 bR (dec (n3 = n3)) (
 true) (
 false)) (
 false)) (
 false)))))))) (
 bR (false) (
 bR (false) (
 bR (false) (
 bR (false) (
 bR (dec (n2 = n2)) (
 bR (dec (n3 = n3)) (
 true) (
 false)) (
 false)) (
 bR (true) (
 bR (dec (n2 = n2)) (
 bR (dec (n3 = n3)) (
 true) (
 false)) (
 false)) (
 bR (bR (dec (n2 = n2)) (
 bR (dec (n3 = n3)) (
 true) (
 false)) (
 false)) (
 bR (dec (n2 = n2)) (
 bR (dec (n3 = n3)) (
 true) (
 false)) (
 false)) (
 false)))) (
 bR (false) (
 bR (false) (
 bR (dec (n2 = n2)) (
 bR (dec (n3 = n3)) (
 true) (
 false)) (
 false)) (
 bR (true) (
 bR (bR (bR (dec (n2 = n2)) (
 bR (dec (n3 = n3)) (
 true) (
 false)) (
 false)) (
 true) (
 false)) (
 true) (
 false)) (
 bR (bR (bR (bR (dec (n2 = n2)) (
 bR (dec (n3 = n3)) (
 true) (
 false)) (
 false)) (
 true) (
 false)) (
 true) (
 false)) (
 bR (dec (n2 = n2)) (
 bR (dec (n3 = n3)) (
 true) (
 false)) (
 false)) (
 false)))) (
 bR (false) (
 bR (dec (n2 = n2)) (
 bR (dec (n3 = n3)) (
 true) (
 false)) (
 false)) (
 bR (true) (
 bR (bR (bR (bR (dec (n2 = n2)) (
 bR (dec (n3 = n3)) (
 true) (
 false)) (
 false)) (
 true) (
 false)) (
 true) (
 false)) (
 bR (dec (n2 = n2)) (
 bR (dec (n3 = n3)) (
 true) (
 false)) (
 false)) (
 false)) (
 bR (bR (bR (bR (bR (dec (n2 = n2)) (
 bR (dec (n3 = n3)) (
 true) (
 false)) (
 false)) (
 true) (
 false)) (
 true) (
 false)) (
 bR (dec (n2 = n2)) (
 bR (dec (n3 = n3)) (
 true) (
 false)) (
 false)) (
 false)) (
 bR (dec (n2 = n2)) (
 bR (dec (n3 = n3)) (
 true) (
 false)) (
 false)) (
 false)))))) (
 bR (false) (
 bR (false) (
 bR (dec (n2 = n2)) (
 bR (dec (n3 = n3)) (
 true) (
 false)) (
 false)) (
 bR (true) (
 bR (dec (n2 = n2)) (
 bR (dec (n3 = n3)) (
 true) (
 false)) (
 false)) (
 bR (bR (dec (n2 = n2)) (
 bR (dec (n3 = n3)) (
 true) (
 false)) (
 false)) (
 bR (dec (n2 = n2)) (
 bR (dec (n3 = n3)) (
 true) (
 false)) (
 false)) (
 false)))) (
 bR (false) (
 bR (false) (
 bR (dec (n2 = n2)) (
 bR (dec (n3 = n3)) (
 true) (
 false)) (
 false)) (
 bR (true) (
 bR (bR (dec (n2 = n2)) (
 bR (dec (n3 = n3)) (
 true) (
 false)) (
 false)) (
 true) (
 false)) (
 bR (bR (bR (dec (n2 = n2)) (
 bR (dec (n3 = n3)) (
 true) (
 false)) (
 false)) (
 true) (
 false)) (
 bR (dec (n2 = n2)) (
 bR (dec (n3 = n3)) (
 true) (
 false)) (
 false)) (
 false)))) (
 bR (false) (
 bR (dec (n2 = n2)) (
 bR (dec (n3 = n3)) (
 true) (
 false)) (
 false)) (
 bR (true) (
 bR (bR (bR (dec (n2 = n2)) (
 bR (dec (n3 = n3)) (
 true) (
 false)) (
 false)) (
 true) (
 false)) (
 bR (dec (n2 = n2)) (
 bR (dec (n3 = n3)) (
 true) (
 false)) (
 false)) (
 false)) (
 bR (bR (bR (bR (dec (n2 = n2)) (
 bR (dec (n3 = n3)) (
 true) (
 false)) (
 false)) (
 true) (
 false)) (
 bR (dec (n2 = n2)) (
 bR (dec (n3 = n3)) (
 true) (
 false)) (
 false)) (
 false)) (
 bR (dec (n2 = n2)) (
 bR (dec (n3 = n3)) (
 true) (
 false)) (
 false)) (
 false))))))) (
 bR (false) (
 bR (false) (
 bR (false) (
 bR (dec (n2 = n2)) (
 bR (dec (n3 = n3)) (
 true) (
 false)) (
 false)) (
 bR (true) (
 bR (dec (n2 = n2)) (
 bR (dec (n3 = n3)) (
 true) (
 false)) (
 false)) (
 bR (bR (dec (n2 = n2)) (
 bR (dec (n3 = n3)) (
 true) (
 false)) (
 false)) (
 bR (dec (n2 = n2)) (
 bR (dec (n3 = n3)) (
 true) (
 false)) (
 false)) (
 false)))) (
 bR (false) (
 bR (false) (
 bR (dec (n2 = n2)) (
 bR (dec (n3 = n3)) (
 true) (
 false)) (
 false)) (
 bR (true) (
 bR (bR (dec (n2 = n2)) (
 bR (dec (n3 = n3)) (
 true) (
 false)) (
 false)) (
 true) (
 false)) (
 bR (bR (bR (dec (n2 = n2)) (
 bR (dec (n3 = n3)) (
 true) (
 false)) (
 false)) (
 true) (
 false)) (
 bR (dec (n2 = n2)) (
 bR (dec (n3 = n3)) (
 true) (
 false)) (
 false)) (
 false)))) (
 bR (false) (
 bR (dec (n2 = n2)) (
 bR (dec (n3 = n3)) (
 true) (
 false)) (
 false)) (
 bR (true) (
 bR (bR (bR (dec (n2 = n2)) (
 bR (dec (n3 = n3)) (
 true) (
 false)) (
 false)) (
 true) (
 false)) (
 bR (dec (n2 = n2)) (
 bR (dec (n3 = n3)) (
 true) (
 false)) (
 false)) (
 false)) (
 bR (bR (bR (bR (dec (n2 = n2)) (
 bR (dec (n3 = n3)) (
 true) (
 false)) (
 false)) (
 true) (
 false)) (
 bR (dec (n2 = n2)) (
 bR (dec (n3 = n3)) (
 true) (
 false)) (
 false)) (
 false)) (
 bR (dec (n2 = n2)) (
 bR (dec (n3 = n3)) (
 true) (
 false)) (
 false)) (
 false)))))) (
 bR (false) (
 bR (false) (
 bR (dec (n2 = n2)) (
 bR (dec (n3 = n3)) (
 true) (
 false)) (
 false)) (
 bR (true) (
 bR (dec (n2 = n2)) (
 bR (dec (n3 = n3)) (
 true) (
 false)) (
 false)) (
 bR (bR (dec (n2 = n2)) (
 bR (dec (n3 = n3)) (
 true) (
 false)) (
 false)) (
 bR (dec (n2 = n2)) (
 bR (dec (n3 = n3)) (
 true) (
 false)) (
 false)) (
 false)))) (
 bR (false) (
 bR (false) (
 bR (dec (n2 = n2)) (
 bR (dec (n3 = n3)) (
 true) (
 false)) (
 false)) (
 bR (true) (
 bR (dec (n2 = n2)) (
 bR (dec (n3 = n3)) (
 true) (
 false)) (
 false)) (
 bR (bR (dec (n2 = n2)) (
 bR (dec (n3 = n3)) (
 true) (
 false)) (
 false)) (
 bR (dec (n2 = n2)) (
 bR (dec (n3 = n3)) (
 true) (
 false)) (
 false)) (
 false)))) (
 bR (false) (
 bR (dec (n2 = n2)) (
 bR (dec (n3 = n3)) (
 true) (
 false)) (
 false)) (
 bR (true) (
 bR (bR (dec (n2 = n2)) (
 bR (dec (n3 = n3)) (
 true) (
 false)) (
 false)) (
 bR (dec (n2 = n2)) (
 bR (dec (n3 = n3)) (
 true) (
 false)) (
 false)) (
 false)) (
 bR (bR (bR (dec (n2 = n2)) (
 bR (dec (n3 = n3)) (
 true) (
 false)) (
 false)) (
 bR (dec (n2 = n2)) (
 bR (dec (n3 = n3)) (
 true) (
 false)) (
 false)) (
 false)) (
 bR (dec (n2 = n2)) (
 bR (dec (n3 = n3)) (
 true) (
 false)) (
 false)) (
 false))))))))) (
 true) (
 false)) (
 allB fun n4 : Int => 
 impB (n4 = Go.IntKind.i64.wrap (n2 * n0)) (
 impB (Int.negSucc (9223372036854775807 : Nat) ≤ n4) (
 impB (n4 ≤ Int.ofNat (9223372036854775807 : Nat)) (
 allB fun n5 : Int => 
 impB (n5 = Go.IntKind.i64.wrap (n3 * n1)) (
 impB (Int.negSucc (9223372036854775807 : Nat) ≤ n5) (
 impB (n5 ≤ Int.ofNat (9223372036854775807 : Nat)) (
 allB fun n6 : Int => 
 impB (n6 = Go.IntKind.i64.wrap (n4 + n5)) (
 impB (Int.negSucc (9223372036854775807 : Nat) ≤ n6) (
 impB (n6 ≤ Int.ofNat (9223372036854775807 : Nat)) (
 allB fun n7 : Int => 
 impB (n7 = Go.IntKind.i64.wrap (n3 * n0)) (
 impB (Int.negSucc (9223372036854775807 : Nat) ≤ n7) (
 impB (n7 ≤ Int.ofNat (9223372036854775807 : Nat)) (
 allB fun n8 : Int => 
 impB (n8 = Go.IntKind.i64.wrap (n2 * n1)) (
 impB (Int.negSucc (9223372036854775807 : Nat) ≤ n8) (
 impB (n8 ≤ Int.ofNat (9223372036854775807 : Nat)) (
 allB fun n9 : Int => 
 impB (n9 = Go.IntKind.i64.wrap (n7 - n8)) (
 impB (Int.negSucc (9223372036854775807 : Nat) ≤ n9) (
 impB (n9 ≤ Int.ofNat (9223372036854775807 : Nat)) (
 reqB ((-9223372036854775808 : Int) ≤ n6) (
 reqB (n6 ≤ (9223372036854775807 : Int)) (
 reqB ((-9223372036854775808 : Int) ≤ n9) (
 reqB (n9 ≤ (9223372036854775807 : Int)) (
 reqB (sigFine.pre [DV.n n6, DV.n n9]) (
 allB fun n10 : Int => 
 impB ((0 : Int) ≤ n10) (
 impB (n10 ≤ (4095 : Int)) (
 allB fun n11 : Int => 
 impB ((0 : Int) ≤ n11) (
 impB (n11 ≤ (18 : Int)) (
 impB (sigFine.post [DV.n n6, DV.n n9] [DV.n n10, DV.n n11]) (
 reqB ((-1024 : Int) ≤ (n10 + Int.ofNat (1024 : Nat)).tmod (2048 : Int) - Int.ofNat (1024 : Nat)) (
 reqB ((n10 + Int.ofNat (1024 : Nat)).tmod (2048 : Int) - Int.ofNat (1024 : Nat) ≤ (1023 : Int)) (
 reqB (sigHRate.post [DV.n n0, DV.n n1, DV.n n2, DV.n n3]
 [DV.n ((n10 + Int.ofNat (1024 : Nat)).tmod (2048 : Int) - Int.ofNat (1024 : Nat)), DV.n (0 : Int)]) (
 true)))))))))))))))))))))))))))))))) (
 false))))))))))))))) := by kernel_rfl
set_option maxHeartbeats 8000000 in
theorem vt_HRate : vcFn Tryd.prog [(62, Ext.ctr (ctOfG gl11 sigFine))] noA gl11 100 14 sigHRate = true := by
  rw [vc_HRate]
  try simp only [Int.toNat_natCast, List.length_set, List.length_replicate, List.length_take, List.length_drop, List.length_append, List.length_cons, List.length_nil, Nat.min_self, List.take_take, lenCols_i, lenCols_b, List.drop_zero, List.take_length, Nat.add_eq, Nat.mul_eq, Nat.sub_eq, Nat.zero_add, Nat.sub_zero, Nat.mul_one]
  refine all_i fun n0 => ?_
  refine imp_i fun h0 => ?_
  refine imp_i fun h1 => ?_
  refine all_i fun n1 => ?_
  refine imp_i fun h2 => ?_
  refine imp_i fun h3 => ?_
  refine all_i fun n2 => ?_
  refine imp_i fun h4 => ?_
  refine imp_i fun h5 => ?_
  refine all_i fun n3 => ?_
  refine imp_i fun h6 => ?_
  refine imp_i fun h7 => ?_
  refine imp_i fun h8 => ?_
  try simp only [sigHRate, smpV, hratePost, insd, cen, tI, tQ, List.cons.injEq, DV.b.injEq, and_true, List.length_cons, List.length_nil] at h8
  refine bR_dec (fun h9 => ?_) (fun h9 => ?_)
  ·
   refine req_i ?_ ?_
   · -- r0
    first | omega | ((try simp only [sigHRate, smpV, hratePost, insd, cen, tI, tQ, List.cons.injEq, DV.b.injEq, and_true, List.length_cons, List.length_nil]); first | done | omega | assumption | grind [getD_set, getD_rep, toNat_succ, cntN_yes, cntN_no])
   rfl
  ·
   refine bR_dec (fun h10 => ?_) (fun h10 => ?_)
   ·
    refine req_i ?_ ?_
    · -- r1
     first | omega | ((try simp only [sigHRate, smpV, hratePost, insd, cen, tI, tQ, List.cons.injEq, DV.b.injEq, and_true, List.length_cons, List.length_nil]); first | done | omega | assumption | grind [getD_set, getD_rep, toNat_succ, cntN_yes, cntN_no])
    rfl
   ·
    refine bR_dec (fun h11 => ?_) (fun h11 => ?_)
    ·
     refine req_i ?_ ?_
     · -- r2
      first | omega | ((try simp only [sigHRate, smpV, hratePost, insd, cen, tI, tQ, List.cons.injEq, DV.b.injEq, and_true, List.length_cons, List.length_nil]); first | done | omega | assumption | grind [getD_set, getD_rep, toNat_succ, cntN_yes, cntN_no])
     rfl
    ·
     refine bR_dec (fun h12 => ?_) (fun h12 => ?_)
     ·
      refine req_i ?_ ?_
      · -- r3
       first | omega | ((try simp only [sigHRate, smpV, hratePost, insd, cen, tI, tQ, List.cons.injEq, DV.b.injEq, and_true, List.length_cons, List.length_nil]); first | done | omega | assumption | grind [getD_set, getD_rep, toNat_succ, cntN_yes, cntN_no])
      rfl
     ·
      have i1 : insd n0 n1 := by unfold insd; omega
      have i2 : insd n2 n3 := by unfold insd; omega
      refine bR_t ?_ ?_
      · -- g0
       first | rfl | (simp only [bR_iff, bR_iff_f, dec_iff, dec_f, beqB_iff', andB_iff', reduceCtorEq, imp_self, false_implies, and_true, true_and, implies_true, and_self]; done) | (simp [bR_iff, dec_iff, beqB_iff', andB_iff']; done) | (simp [bR_iff, dec_iff, beqB_iff', andB_iff']; omega)
      refine all_i fun n4 => ?_
      refine imp_i fun h13 => ?_
      simp only [wrap_i64] at h13
      have ph13 := mul_abs (a := n2) (b := n0) (A := 1048576) (B := 1048576) (by omega) (by omega) (by omega) (by omega)
      have h13 : n4 = n2 * n0 := by omega
      refine imp_i fun h14 => ?_
      refine imp_i fun h15 => ?_
      refine all_i fun n5 => ?_
      refine imp_i fun h16 => ?_
      simp only [wrap_i64] at h16
      have ph16 := mul_abs (a := n3) (b := n1) (A := 1048576) (B := 1048576) (by omega) (by omega) (by omega) (by omega)
      have h16 : n5 = n3 * n1 := by omega
      refine imp_i fun h17 => ?_
      refine imp_i fun h18 => ?_
      refine all_i fun n6 => ?_
      refine imp_i fun h19 => ?_
      simp only [wrap_i64] at h19
      have h19 : n6 = n4 + n5 := by omega
      refine imp_i fun h20 => ?_
      refine imp_i fun h21 => ?_
      refine all_i fun n7 => ?_
      refine imp_i fun h22 => ?_
      simp only [wrap_i64] at h22
      have ph22 := mul_abs (a := n3) (b := n0) (A := 1048576) (B := 1048576) (by omega) (by omega) (by omega) (by omega)
      have h22 : n7 = n3 * n0 := by omega
      refine imp_i fun h23 => ?_
      refine imp_i fun h24 => ?_
      refine all_i fun n8 => ?_
      refine imp_i fun h25 => ?_
      simp only [wrap_i64] at h25
      have ph25 := mul_abs (a := n2) (b := n1) (A := 1048576) (B := 1048576) (by omega) (by omega) (by omega) (by omega)
      have h25 : n8 = n2 * n1 := by omega
      refine imp_i fun h26 => ?_
      refine imp_i fun h27 => ?_
      refine all_i fun n9 => ?_
      refine imp_i fun h28 => ?_
      simp only [wrap_i64] at h28
      have h28 : n9 = n7 - n8 := by omega
      have t1 : n6 = n2 * n0 + n3 * n1 := by omega
      have t2 : n9 = n3 * n0 - n2 * n1 := by omega
      refine imp_i fun h29 => ?_
      refine imp_i fun h30 => ?_
      refine req_i ?_ ?_
      · -- r4
       first | omega | assumption | grind
      refine req_i ?_ ?_
      · -- r5
       first | omega | assumption | grind
      refine req_i ?_ ?_
      · -- r6
       first | omega | assumption | grind
      refine req_i ?_ ?_
      · -- r7
       first | omega | assumption | grind
      refine req_i ?_ ?_
      · -- r8
       first | trivial | assumption | (simp only [sigFine, smpV, finePost, sml, List.cons.injEq, DV.b.injEq, and_true, List.length_cons, List.length_nil]; done) | ((try simp only [sigFine, smpV, finePost, sml, List.cons.injEq, DV.b.injEq, and_true, List.length_cons, List.length_nil]); first | omega | assumption | grind)
      refine all_i fun n10 => ?_
      refine imp_i fun h31 => ?_
      refine imp_i fun h32 => ?_
      refine all_i fun n11 => ?_
      refine imp_i fun h33 => ?_
      refine imp_i fun h34 => ?_
      refine imp_i fun h35 => ?_
      try simp only [sigFine, smpV, finePost, sml, List.cons.injEq, DV.b.injEq, and_true, List.length_cons, List.length_nil] at h35
      rw [t1, t2] at h35
      have tm := tmod_nn (a := n10 + 1024) (b := 2048) (by omega)
      try simp only [show Int.ofNat 1024 = 1024 from rfl, show Int.ofNat 2048 = 2048 from rfl]
      rw [tm]
      have f1 : n10 = fineOf (n2 * n0 + n3 * n1) (n3 * n0 - n2 * n1) := by omega
      refine req_i ?_ ?_
      · -- r9
       first | omega | assumption | grind
      refine req_i ?_ ?_
      · -- r10
       first | omega | assumption | grind
      refine req_i ?_ ?_
      · -- r11
       exact .inr ⟨⟨i1, i2⟩, rfl, by simp only [cen, tI, tQ]; omega⟩
      rfl
theorem ext_HRate : ∀ p ∈ ([(62, Ext.ctr (ctOfG gl11 sigFine))] : List (Nat × Ext)), ExtRow Tryd.prog p.1 p.2 := by
  intro p hp
  simp only [List.mem_cons, List.not_mem_nil, or_false] at hp
  rcases hp with rfl
  · trivial
theorem cts_HRate : CtsOk Tryd.prog [(62, Ext.ctr (ctOfG gl11 sigFine))] := ctsOk_ofG (cs := [(62, sigFine)])
  (fun p hp => by
    simp only [List.mem_cons, List.not_mem_nil, or_false] at hp
    rcases hp with rfl
    · exact fn_Fine
)
  (fun f c h => by
    simp only [List.lookup_cons] at h
    repeat' split at h
    all_goals first | (cases h; done) | (rename_i e; have e := beq_iff_eq.1 e; subst e; cases h; refine ⟨_, ?_, rfl⟩; simp))
theorem fn_HRate : FnOk Tryd.prog 14 sigHRate gl11 := fn_sound (by kernel_rfl) ext_HRate cts_HRate names vt_HRate
end Go.Proofs.YtofeleohcpaclaaDoor

namespace Go.Proofs.YtofeleohcpaclaaDoor
open Go.Ev Go.Sp
set_option maxRecDepth 100000
theorem vc_HRateR : vcFn Tryd.prog [(24, Ext.ctr (ctOfG gl11 sigTurnD)), (47, Ext.ctr (ctOfG gl11 sigFine))] noA gl11 100 26 sigHRate = (allB fun n0 : Int => 
impB ((-9223372036854775808 : Int) ≤ n0) (
impB (n0 ≤ (9223372036854775807 : Int)) (
allB fun n1 : Int => 
impB ((-9223372036854775808 : Int) ≤ n1) (
impB (n1 ≤ (9223372036854775807 : Int)) (
allB fun n2 : Int => 
impB ((-9223372036854775808 : Int) ≤ n2) (
impB (n2 ≤ (9223372036854775807 : Int)) (
allB fun n3 : Int => 
impB ((-9223372036854775808 : Int) ≤ n3) (
impB (n3 ≤ (9223372036854775807 : Int)) (
impB (sigHRate.pre [DV.n n0, DV.n n1, DV.n n2, DV.n n3]) (
reqB ((-9223372036854775808 : Int) ≤ n0) (
reqB (n0 ≤ (9223372036854775807 : Int)) (
reqB ((-9223372036854775808 : Int) ≤ n1) (
reqB (n1 ≤ (9223372036854775807 : Int)) (
reqB ((-9223372036854775808 : Int) ≤ n2) (
reqB (n2 ≤ (9223372036854775807 : Int)) (
reqB ((-9223372036854775808 : Int) ≤ n3) (
reqB (n3 ≤ (9223372036854775807 : Int)) (
reqB (sigTurnD.pre [DV.n n0, DV.n n1, DV.n n2, DV.n n3]) (
allB fun n4 : Int => 
impB ((-2199023255552 : Int) ≤ n4) (
impB (n4 ≤ (2199023255552 : Int)) (
allB fun n5 : Int => 
impB ((-2199023255552 : Int) ≤ n5) (
impB (n5 ≤ (2199023255552 : Int)) (
allB fun n6 : Int => 
impB ((0 : Int) ≤ n6) (
impB (n6 ≤ (18 : Int)) (
impB (sigTurnD.post [DV.n n0, DV.n n1, DV.n n2, DV.n n3]
 [DV.n n4, DV.n n5, DV.n n6]) (
bR (dec (n6 ≠ (0 : Int))) (
 reqB ((0 : Int) ≤ n6) (
 reqB (n6 ≤ (18 : Int)) (
 reqB (sigHRate.post [DV.n n0, DV.n n1, DV.n n2, DV.n n3] [DV.n (0 : Int), DV.n n6]) (
 true)))) (
 reqB ((-9223372036854775808 : Int) ≤ n4) (
 reqB (n4 ≤ (9223372036854775807 : Int)) (
 reqB ((-9223372036854775808 : Int) ≤ n5) (
 reqB (n5 ≤ (9223372036854775807 : Int)) (
 reqB (sigFine.pre [DV.n n4, DV.n n5]) (
 allB fun n7 : Int => 
 impB ((0 : Int) ≤ n7) (
 impB (n7 ≤ (4095 : Int)) (
 allB fun n8 : Int => 
 impB ((0 : Int) ≤ n8) (
 impB (n8 ≤ (18 : Int)) (
 impB (sigFine.post [DV.n n4, DV.n n5] [DV.n n7, DV.n n8]) (
 reqB ((-1024 : Int) ≤ (n7 + (1024 : Int)).tmod (Int.ofNat (2048 : Nat)) - (1024 : Int)) (
 reqB ((n7 + (1024 : Int)).tmod (Int.ofNat (2048 : Nat)) - (1024 : Int) ≤ (1023 : Int)) (
 reqB (sigHRate.post [DV.n n0, DV.n n1, DV.n n2, DV.n n3]
 [DV.n ((n7 + (1024 : Int)).tmod (Int.ofNat (2048 : Nat)) - (1024 : Int)), DV.n (0 : Int)]) (
 true)))))))))))))))))))))))))))))))))))))))) := by kernel_rfl
set_option maxHeartbeats 8000000 in
theorem vt_HRateR : vcFn Tryd.prog [(24, Ext.ctr (ctOfG gl11 sigTurnD)), (47, Ext.ctr (ctOfG gl11 sigFine))] noA gl11 100 26 sigHRate = true := by
  rw [vc_HRateR]
  try simp only [Int.toNat_natCast, List.length_set, List.length_replicate, List.length_take, List.length_drop, List.length_append, List.length_cons, List.length_nil, Nat.min_self, List.take_take, lenCols_i, lenCols_b, List.drop_zero, List.take_length, Nat.add_eq, Nat.mul_eq, Nat.sub_eq, Nat.zero_add, Nat.sub_zero, Nat.mul_one]
  refine all_i fun n0 => ?_
  refine imp_i fun h0 => ?_
  refine imp_i fun h1 => ?_
  refine all_i fun n1 => ?_
  refine imp_i fun h2 => ?_
  refine imp_i fun h3 => ?_
  refine all_i fun n2 => ?_
  refine imp_i fun h4 => ?_
  refine imp_i fun h5 => ?_
  refine all_i fun n3 => ?_
  refine imp_i fun h6 => ?_
  refine imp_i fun h7 => ?_
  refine imp_i fun h8 => ?_
  try simp only [sigHRate, smpV, hratePost, insd, cen, tI, tQ, List.cons.injEq, DV.b.injEq, and_true, List.length_cons, List.length_nil] at h8
  refine req_i ?_ ?_
  · -- r0
   first | omega | assumption | grind
  refine req_i ?_ ?_
  · -- r1
   first | omega | assumption | grind
  refine req_i ?_ ?_
  · -- r2
   first | omega | assumption | grind
  refine req_i ?_ ?_
  · -- r3
   first | omega | assumption | grind
  refine req_i ?_ ?_
  · -- r4
   first | omega | assumption | grind
  refine req_i ?_ ?_
  · -- r5
   first | omega | assumption | grind
  refine req_i ?_ ?_
  · -- r6
   first | omega | assumption | grind
  refine req_i ?_ ?_
  · -- r7
   first | omega | assumption | grind
  refine req_i ?_ ?_
  · -- r8
   first | trivial | assumption | (simp only [sigTurnD, smpV, t41, turnPost, insd, tI, tQ, List.cons.injEq, DV.b.injEq, and_true, List.length_cons, List.length_nil]; done) | ((try simp only [sigTurnD, smpV, t41, turnPost, insd, tI, tQ, List.cons.injEq, DV.b.injEq, and_true, List.length_cons, List.length_nil]); first | omega | assumption | grind)
  refine all_i fun n4 => ?_
  refine imp_i fun h9 => ?_
  refine imp_i fun h10 => ?_
  refine all_i fun n5 => ?_
  refine imp_i fun h11 => ?_
  refine imp_i fun h12 => ?_
  refine all_i fun n6 => ?_
  refine imp_i fun h13 => ?_
  refine imp_i fun h14 => ?_
  refine imp_i fun h15 => ?_
  try simp only [sigTurnD, smpV, t41, turnPost, insd, tI, tQ, List.cons.injEq, DV.b.injEq, and_true, List.length_cons, List.length_nil] at h15
  refine bR_dec (fun h16 => ?_) (fun h16 => ?_)
  ·
   refine req_i ?_ ?_
   · -- r9
    first | omega | assumption | grind
   refine req_i ?_ ?_
   · -- r10
    first | omega | assumption | grind
   refine req_i ?_ ?_
   · -- r11
    first | omega | ((try simp only [sigHRate, smpV, hratePost, insd, cen, tI, tQ, List.cons.injEq, DV.b.injEq, and_true, List.length_cons, List.length_nil]); first | done | omega | assumption | grind [getD_set, getD_rep, toNat_succ, cntN_yes, cntN_no])
   rfl
  ·
   have t0 : insd n0 n1 ∧ insd n2 n3 := by
     rcases h15 with h | h
     · omega
     · exact h.1
   have u0 := t0
   unfold insd at u0
   have p1 := mul_abs (a := n2) (b := n0) (A := 1048576) (B := 1048576) (by omega) (by omega) (by omega) (by omega)
   have p2 := mul_abs (a := n3) (b := n1) (A := 1048576) (B := 1048576) (by omega) (by omega) (by omega) (by omega)
   have p3 := mul_abs (a := n3) (b := n0) (A := 1048576) (B := 1048576) (by omega) (by omega) (by omega) (by omega)
   have p4 := mul_abs (a := n2) (b := n1) (A := 1048576) (B := 1048576) (by omega) (by omega) (by omega) (by omega)
   have t1 : n4 = n2 * n0 + n3 * n1 ∧ n5 = n3 * n0 - n2 * n1 := by omega
   refine req_i ?_ ?_
   · -- r12
    first | omega | assumption | grind
   refine req_i ?_ ?_
   · -- r13
    first | omega | assumption | grind
   refine req_i ?_ ?_
   · -- r14
    first | omega | assumption | grind
   refine req_i ?_ ?_
   · -- r15
    first | omega | assumption | grind
   refine req_i ?_ ?_
   · -- r16
    first | trivial | assumption | (simp only [sigFine, smpV, finePost, sml, List.cons.injEq, DV.b.injEq, and_true, List.length_cons, List.length_nil]; done) | ((try simp only [sigFine, smpV, finePost, sml, List.cons.injEq, DV.b.injEq, and_true, List.length_cons, List.length_nil]); first | omega | assumption | grind)
   refine all_i fun n7 => ?_
   refine imp_i fun h17 => ?_
   refine imp_i fun h18 => ?_
   refine all_i fun n8 => ?_
   refine imp_i fun h19 => ?_
   refine imp_i fun h20 => ?_
   refine imp_i fun h21 => ?_
   try simp only [sigFine, smpV, finePost, sml, List.cons.injEq, DV.b.injEq, and_true, List.length_cons, List.length_nil] at h21
   have tm := tmod_nn (a := n7 + 1024) (b := 2048) (by omega)
   try simp only [show Int.ofNat 1024 = 1024 from rfl, show Int.ofNat 2048 = 2048 from rfl]
   rw [tm]
   rw [t1.1, t1.2] at h21
   have f1 : n7 = fineOf (n2 * n0 + n3 * n1) (n3 * n0 - n2 * n1) := by omega
   refine req_i ?_ ?_
   · -- r17
    first | omega | assumption | grind
   refine req_i ?_ ?_
   · -- r18
    first | omega | assumption | grind
   refine req_i ?_ ?_
   · -- r19
    exact .inr ⟨t0, rfl, by simp only [cen, tI, tQ]; omega⟩
   rfl
theorem ext_HRateR : ∀ p ∈ ([(24, Ext.ctr (ctOfG gl11 sigTurnD)), (47, Ext.ctr (ctOfG gl11 sigFine))] : List (Nat × Ext)), ExtRow Tryd.prog p.1 p.2 := by
  intro p hp
  simp only [List.mem_cons, List.not_mem_nil, or_false] at hp
  rcases hp with rfl | rfl
  · trivial
  · trivial
theorem cts_HRateR : CtsOk Tryd.prog [(24, Ext.ctr (ctOfG gl11 sigTurnD)), (47, Ext.ctr (ctOfG gl11 sigFine))] := ctsOk_ofG (cs := [(24, sigTurnD), (47, sigFine)])
  (fun p hp => by
    simp only [List.mem_cons, List.not_mem_nil, or_false] at hp
    rcases hp with rfl | rfl
    · exact fn_TurnR
    · exact fn_FineR
)
  (fun f c h => by
    simp only [List.lookup_cons] at h
    repeat' split at h
    all_goals first | (cases h; done) | (rename_i e; have e := beq_iff_eq.1 e; subst e; cases h; refine ⟨_, ?_, rfl⟩; simp))
theorem fn_HRateR : FnOk Tryd.prog 26 sigHRate gl11 := fn_sound (by kernel_rfl) ext_HRateR cts_HRateR names vt_HRateR
end Go.Proofs.YtofeleohcpaclaaDoor

namespace Go.Proofs.YtofeleohcpaclaaDoor
open Go.Ev Go.Sp
set_option maxRecDepth 100000
theorem vc_awake : vcFn Tryd.prog [] noA gl11 3000 16 sigTrue0 = (impB (sigTrue0.pre []) (
reqB (sigTrue0.post [] [DV.b (eqI (0 : Int) (0 : Int))]) (
true))) := by kernel_rfl
set_option maxHeartbeats 8000000 in
theorem vt_awake : vcFn Tryd.prog [] noA gl11 3000 16 sigTrue0 = true := by
  rw [vc_awake]
  try simp only [bR_same, dec_same, bR_true, bR_false]
  simp only [allB_iff, impB_iff, reqB_iff, bR_iff, bR_iff_f, dec_iff, dec_f, reduceCtorEq, imp_false, Classical.not_not, implies_true, true_and, and_true]
  intro _
  first | rfl | trivial | simp [sigTrue0]
theorem ext_awake : ∀ p ∈ ([] : List (Nat × Ext)), ExtRow Tryd.prog p.1 p.2 := by
  intro p hp
  cases hp
theorem cts_awake : CtsOk Tryd.prog [] := fun f c h => by cases h
theorem fn_awake : FnOk Tryd.prog 16 sigTrue0 gl11 := fn_sound (by kernel_rfl) ext_awake cts_awake names vt_awake
end Go.Proofs.YtofeleohcpaclaaDoor

