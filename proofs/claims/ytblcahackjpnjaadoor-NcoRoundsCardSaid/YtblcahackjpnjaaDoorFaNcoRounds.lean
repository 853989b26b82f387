import Derived.Test.YtblcahackjpnjaaDoorSpec11e
import Derived.Test.YtblcahackjpnjaaDoorRows
import Derived.Test.YtblcahackjpnjaaDoorFnames
namespace Go.Proofs.YtblcahackjpnjaaDoor
open Go.Ev Go.Sp
set_option maxRecDepth 100000
theorem vc_known : vcFn Tryd.prog [] noA gl11 5000 3 sigTrue0 = (impB (sigTrue0.pre []) (
reqB (sigTrue0.post [] [DV.b (eqI (2 : Int) (2 : Int))]) (
true))) := by kernel_rfl
set_option maxHeartbeats 8000000 in
theorem vt_known : vcFn Tryd.prog [] noA gl11 5000 3 sigTrue0 = true := by
  rw [vc_known]
  try simp only [bR_same, dec_same, bR_true, bR_false]
  simp only [allB_iff, impB_iff, reqB_iff, bR_iff, bR_iff_f, dec_iff, dec_f, reduceCtorEq, imp_false, Classical.not_not, implies_true, true_and, and_true]
  intro _
  first | rfl | trivial | simp [sigTrue0]
theorem ext_known : ∀ p ∈ ([] : List (Nat × Ext)), ExtRow Tryd.prog p.1 p.2 := by
  intro p hp
  cases hp
theorem cts_known : CtsOk Tryd.prog [] := fun f c h => by cases h
theorem fn_known : FnOk Tryd.prog 3 sigTrue0 gl11 := fn_sound (by kernel_rfl) ext_known cts_known names vt_known
end Go.Proofs.YtblcahackjpnjaaDoor

namespace Go.Proofs.YtblcahackjpnjaaDoor
open Go.Ev Go.Sp
set_option maxRecDepth 100000
theorem vc_turn : vcFn Tryd.prog [] noA gl11 100 28 sigTurn = (allB fun n0 : Int => 
impB ((-9223372036854775808 : Int) ≤ n0) (
impB (n0 ≤ (9223372036854775807 : Int)) (
allB fun n1 : Int => 
impB ((1 : Int) ≤ n1) (
impB (n1 ≤ (4503599627370496 : Int)) (
impB (sigTurn.pre [DV.n n0, DV.n n1]) (
bR (dec (n0.tmod n1 < (0 : Int))) (
 reqB ((0 : Int) ≤ n0.tmod n1 + n1) (
 reqB (n0.tmod n1 + n1 ≤ (4503599627370496 : Int)) (
 reqB (sigTurn.post [DV.n n0, DV.n n1] [DV.n (n0.tmod n1 + n1)]) (
 true)))) (
 reqB ((0 : Int) ≤ n0.tmod n1) (
 reqB (n0.tmod n1 ≤ (4503599627370496 : Int)) (
 reqB (sigTurn.post [DV.n n0, DV.n n1] [DV.n (n0.tmod n1)]) (
 true)))))))))) := by kernel_rfl
set_option maxHeartbeats 8000000 in
theorem vt_turn : vcFn Tryd.prog [] noA gl11 100 28 sigTurn = true := by
  rw [vc_turn]
  try simp only [Int.toNat_natCast, List.length_set, List.length_replicate, List.length_take, List.length_drop, List.length_append, List.length_cons, List.length_nil, Nat.min_self, List.take_take, lenCols_i, lenCols_b, List.drop_zero, List.take_length, Nat.add_eq, Nat.mul_eq, Nat.sub_eq, Nat.zero_add, Nat.sub_zero, Nat.mul_one]
  refine all_i fun n0 => ?_
  refine imp_i fun h0 => ?_
  refine imp_i fun h1 => ?_
  refine all_i fun n1 => ?_
  refine imp_i fun h2 => ?_
  refine imp_i fun h3 => ?_
  refine imp_i fun h4 => ?_
  try simp only [sigTurn, pickPost, List.cons.injEq, DV.b.injEq, and_true, List.length_cons, List.length_nil] at h4
  have t := tmod_of (x := n0) (n := n1) (by omega)
  refine bR_dec (fun h5 => ?_) (fun h5 => ?_)
  ·
   refine req_i ?_ ?_
   · -- r0
    first | omega | assumption | grind
   refine req_i ?_ ?_
   · -- r1
    first | omega | assumption | grind
   refine req_i ?_ ?_
   · -- r2
    first | omega | ((try simp only [sigTurn, pickPost, List.cons.injEq, DV.b.injEq, and_true, List.length_cons, List.length_nil]); first | done | omega | assumption | grind [getD_set, getD_rep, toNat_succ, cntN_yes, cntN_no])
   rfl
  ·
   refine req_i ?_ ?_
   · -- r3
    first | omega | assumption | grind
   refine req_i ?_ ?_
   · -- r4
    first | omega | assumption | grind
   refine req_i ?_ ?_
   · -- r5
    first | omega | ((try simp only [sigTurn, pickPost, List.cons.injEq, DV.b.injEq, and_true, List.length_cons, List.length_nil]); first | done | omega | assumption | grind [getD_set, getD_rep, toNat_succ, cntN_yes, cntN_no])
   rfl
theorem ext_turn : ∀ p ∈ ([] : List (Nat × Ext)), ExtRow Tryd.prog p.1 p.2 := by
  intro p hp
  cases hp
theorem cts_turn : CtsOk Tryd.prog [] := fun f c h => by cases h
theorem fn_turn : FnOk Tryd.prog 28 sigTurn gl11 := fn_sound (by kernel_rfl) ext_turn cts_turn names vt_turn
end Go.Proofs.YtblcahackjpnjaaDoor

namespace Go.Proofs.YtblcahackjpnjaaDoor
open Go.Ev Go.Sp
set_option maxRecDepth 100000
theorem vc_step : vcFn Tryd.prog [] noA gl11 100 16 sigStep = (allB fun n0 : Int => 
impB ((-1000 : Int) ≤ n0) (
impB (n0 ≤ (1000 : Int)) (
allB fun n1 : Int => 
impB ((1 : Int) ≤ n1) (
impB (n1 ≤ (1000000 : Int)) (
impB (sigStep.pre [DV.n n0, DV.n n1]) (
bR (dec (n1 ≤ (2 : Int) * (Max.max n0 ((0 : Int) - n0) * Int.ofNat (4294967296 : Nat)).tmod n1)) (
 bR (dec (n0 < (0 : Int))) (
 allB fun n2 : Int => 
 impB (n2 =
 Go.IntKind.u32.wrap ((0 : Int) - ((Max.max n0 ((0 : Int) - n0) * Int.ofNat (4294967296 : Nat)).tdiv n1 + (1 : Int)))) (
 impB (Int.ofNat (0 : Nat) ≤ n2) (
 impB (n2 ≤ Int.ofNat (4294967295 : Nat)) (
 reqB ((0 : Int) ≤ n2) (
 reqB (n2 ≤ (4294967295 : Int)) (
 reqB (sigStep.post [DV.n n0, DV.n n1] [DV.n n2, DV.n (0 : Int)]) (
 true))))))) (
 allB fun n3 : Int => 
 impB (n3 = Go.IntKind.u32.wrap ((Max.max n0 ((0 : Int) - n0) * Int.ofNat (4294967296 : Nat)).tdiv n1 + (1 : Int))) (
 impB (Int.ofNat (0 : Nat) ≤ n3) (
 impB (n3 ≤ Int.ofNat (4294967295 : Nat)) (
 reqB ((0 : Int) ≤ n3) (
 reqB (n3 ≤ (4294967295 : Int)) (
 reqB (sigStep.post [DV.n n0, DV.n n1] [DV.n n3, DV.n (0 : Int)]) (
 true)))))))) (
 bR (dec (n0 < (0 : Int))) (
 allB fun n4 : Int => 
 impB (n4 = Go.IntKind.u32.wrap ((0 : Int) - (Max.max n0 ((0 : Int) - n0) * Int.ofNat (4294967296 : Nat)).tdiv n1)) (
 impB (Int.ofNat (0 : Nat) ≤ n4) (
 impB (n4 ≤ Int.ofNat (4294967295 : Nat)) (
 reqB ((0 : Int) ≤ n4) (
 reqB (n4 ≤ (4294967295 : Int)) (
 reqB (sigStep.post [DV.n n0, DV.n n1] [DV.n n4, DV.n (0 : Int)]) (
 true))))))) (
 allB fun n5 : Int => 
 impB (n5 = Go.IntKind.u32.wrap ((Max.max n0 ((0 : Int) - n0) * Int.ofNat (4294967296 : Nat)).tdiv n1)) (
 impB (Int.ofNat (0 : Nat) ≤ n5) (
 impB (n5 ≤ Int.ofNat (4294967295 : Nat)) (
 reqB ((0 : Int) ≤ n5) (
 reqB (n5 ≤ (4294967295 : Int)) (
 reqB (sigStep.post [DV.n n0, DV.n n1] [DV.n n5, DV.n (0 : Int)]) (
 true)))))))))))))) := by kernel_rfl
set_option maxHeartbeats 8000000 in
theorem vt_step : vcFn Tryd.prog [] noA gl11 100 16 sigStep = true := by
  rw [vc_step]
  try simp only [Int.toNat_natCast, List.length_set, List.length_replicate, List.length_take, List.length_drop, List.length_append, List.length_cons, List.length_nil, Nat.min_self, List.take_take, lenCols_i, lenCols_b, List.drop_zero, List.take_length, Nat.add_eq, Nat.mul_eq, Nat.sub_eq, Nat.zero_add, Nat.sub_zero, Nat.mul_one]
  refine all_i fun n0 => ?_
  refine imp_i fun h0 => ?_
  refine imp_i fun h1 => ?_
  refine all_i fun n1 => ?_
  refine imp_i fun h2 => ?_
  refine imp_i fun h3 => ?_
  refine imp_i fun h4 => ?_
  try simp only [sigStep, stepPost, List.cons.injEq, DV.b.injEq, and_true, List.length_cons, List.length_nil] at h4
  rw [show Int.ofNat 4294967296 = 4294967296 from rfl]
  have hX : 0 ≤ Max.max n0 (0 - n0) * 4294967296 := by omega
  simp only [tdiv_nn hX, tmod_nn hX]
  have nr := near (x := Max.max n0 (0 - n0) * 4294967296) (p := n1) (by omega)
  refine bR_dec (fun h5 => ?_) (fun h5 => ?_)
  ·
   rw [if_pos h5] at nr
   refine bR_dec (fun h6 => ?_) (fun h6 => ?_)
   ·
    refine all_i fun n2 => ?_
    refine imp_i fun h7 => ?_
    simp only [wrap_u32] at h7
    refine imp_i fun h8 => ?_
    refine imp_i fun h9 => ?_
    refine req_i ?_ ?_
    · -- r0
     first | omega | assumption | grind
    refine req_i ?_ ?_
    · -- r1
     first | omega | assumption | grind
    refine req_i ?_ ?_
    · -- r2
     exact step_ok (M := 0 - ((Max.max n0 (0 - n0) * 4294967296 / n1) + 1)) (h7.trans (wrap_u32 _)) (by rw [Int.sub_mul, Int.add_mul, Int.zero_mul, Int.one_mul]; omega) (by rw [Int.sub_mul, Int.add_mul, Int.zero_mul, Int.one_mul]; omega)
    rfl
   ·
    refine all_i fun n3 => ?_
    refine imp_i fun h10 => ?_
    simp only [wrap_u32] at h10
    refine imp_i fun h11 => ?_
    refine imp_i fun h12 => ?_
    refine req_i ?_ ?_
    · -- r3
     first | omega | assumption | grind
    refine req_i ?_ ?_
    · -- r4
     first | omega | assumption | grind
    refine req_i ?_ ?_
    · -- r5
     exact step_ok (M := (Max.max n0 (0 - n0) * 4294967296 / n1) + 1) (h10.trans (wrap_u32 _)) (by rw [Int.add_mul, Int.one_mul]; omega) (by rw [Int.add_mul, Int.one_mul]; omega)
    rfl
  ·
   rw [if_neg h5] at nr
   refine bR_dec (fun h13 => ?_) (fun h13 => ?_)
   ·
    refine all_i fun n4 => ?_
    refine imp_i fun h14 => ?_
    simp only [wrap_u32] at h14
    refine imp_i fun h15 => ?_
    refine imp_i fun h16 => ?_
    refine req_i ?_ ?_
    · -- r6
     first | omega | assumption | grind
    refine req_i ?_ ?_
    · -- r7
     first | omega | assumption | grind
    refine req_i ?_ ?_
    · -- r8
     exact step_ok (M := 0 - (Max.max n0 (0 - n0) * 4294967296 / n1)) (h14.trans (wrap_u32 _)) (by rw [Int.sub_mul, Int.zero_mul]; omega) (by rw [Int.sub_mul, Int.zero_mul]; omega)
    rfl
   ·
    refine all_i fun n5 => ?_
    refine imp_i fun h17 => ?_
    simp only [wrap_u32] at h17
    refine imp_i fun h18 => ?_
    refine imp_i fun h19 => ?_
    refine req_i ?_ ?_
    · -- r9
     first | omega | assumption | grind
    refine req_i ?_ ?_
    · -- r10
     first | omega | assumption | grind
    refine req_i ?_ ?_
    · -- r11
     exact step_ok (M := (Max.max n0 (0 - n0) * 4294967296 / n1)) (h17.trans (wrap_u32 _)) (by skip; omega) (by skip; omega)
    rfl
theorem ext_step : ∀ p ∈ ([] : List (Nat × Ext)), ExtRow Tryd.prog p.1 p.2 := by
  intro p hp
  cases hp
theorem cts_step : CtsOk Tryd.prog [] := fun f c h => by cases h
theorem fn_step : FnOk Tryd.prog 16 sigStep gl11 := fn_sound (by kernel_rfl) ext_step cts_step names vt_step
end Go.Proofs.YtblcahackjpnjaaDoor

namespace Go.Proofs.YtblcahackjpnjaaDoor
open Go.Ev Go.Sp
set_option maxRecDepth 100000
theorem vc_NcoRounds : vcFn Tryd.prog [(3, Ext.ctr (ctOfG gl11 sigTrue0)), (28, Ext.ctr (ctOfG gl11 sigTurn)), (16, Ext.ctr (ctOfG gl11 sigStep))] noA gl11 100 9 sigRounds = (allB fun n0 : Int => 
impB ((-9223372036854775808 : Int) ≤ n0) (
impB (n0 ≤ (9223372036854775807 : Int)) (
allB fun n1 : Int => 
impB ((-9223372036854775808 : Int) ≤ n1) (
impB (n1 ≤ (9223372036854775807 : Int)) (
allB fun n2 : Int => 
impB ((0 : Int) ≤ n2) (
impB (n2 ≤ (4294967295 : Int)) (
impB (sigRounds.pre [DV.n n0, DV.n n1, DV.n n2]) (
reqB (sigTrue0.pre []) (
allB fun b3 : Bool => 
impB (sigTrue0.post [] [DV.b b3]) (
reqB ((-9223372036854775808 : Int) ≤ n0) (
reqB (n0 ≤ (9223372036854775807 : Int)) (
reqB (sigTurn.pre [DV.n n0, DV.n (2001 : Int)]) (
allB fun n4 : Int => 
impB ((0 : Int) ≤ n4) (
impB (n4 ≤ (4503599627370496 : Int)) (
impB (sigTurn.post [DV.n n0, DV.n (2001 : Int)] [DV.n n4]) (
reqB ((-9223372036854775808 : Int) ≤ n1) (
reqB (n1 ≤ (9223372036854775807 : Int)) (
reqB (sigTurn.pre [DV.n n1, DV.n (1000000 : Int)]) (
allB fun n5 : Int => 
impB ((0 : Int) ≤ n5) (
impB (n5 ≤ (4503599627370496 : Int)) (
impB (sigTurn.post [DV.n n1, DV.n (1000000 : Int)] [DV.n n5]) (
reqB ((-1000 : Int) ≤ n4 - (1000 : Int)) (
reqB (n4 - (1000 : Int) ≤ (1000 : Int)) (
reqB ((1 : Int) ≤ (1 : Int) + n5) (
reqB ((1 : Int) + n5 ≤ (1000000 : Int)) (
reqB (sigStep.pre [DV.n (n4 - (1000 : Int)), DV.n ((1 : Int) + n5)]) (
allB fun n6 : Int => 
impB ((0 : Int) ≤ n6) (
impB (n6 ≤ (4294967295 : Int)) (
allB fun n7 : Int => 
impB ((0 : Int) ≤ n7) (
impB (n7 ≤ (18 : Int)) (
impB (sigStep.post [DV.n (n4 - (1000 : Int)), DV.n ((1 : Int) + n5)] [DV.n n6, DV.n n7]) (
bR (dec (n7 ≠ (0 : Int))) (
 reqB (sigRounds.post [DV.n n0, DV.n n1, DV.n n2] [DV.b Bool.false]) (
 true)) (
 allB fun n8 : Int => 
 impB (n8 = Go.IntKind.i64.wrap (n6 * ((1 : Int) + n5))) (
 impB (Int.negSucc (9223372036854775807 : Nat) ≤ n8) (
 impB (n8 ≤ Int.ofNat (9223372036854775807 : Nat)) (
 allB fun n9 : Int => 
 impB (n9 = Go.IntKind.i64.wrap ((n4 - (1000 : Int)) * Int.ofNat (4294967296 : Nat))) (
 impB (Int.negSucc (9223372036854775807 : Nat) ≤ n9) (
 impB (n9 ≤ Int.ofNat (9223372036854775807 : Nat)) (
 allB fun n10 : Int => 
 impB (n10 = Go.IntKind.i64.wrap (n8 - n9)) (
 impB (Int.negSucc (9223372036854775807 : Nat) ≤ n10) (
 impB (n10 ≤ Int.ofNat (9223372036854775807 : Nat)) (
 allB fun n11 : Int => 
 impB (n11 = Go.IntKind.i64.wrap (((1 : Int) + n5) * Int.ofNat (4294967296 : Nat))) (
 impB (Int.negSucc (9223372036854775807 : Nat) ≤ n11) (
 impB (n11 ≤ Int.ofNat (9223372036854775807 : Nat)) (
 reqB ((-9223372036854775808 : Int) ≤ n10) (
 reqB (n10 ≤ (9223372036854775807 : Int)) (
 reqB ((1 : Int) ≤ n11) (
 reqB (n11 ≤ (4503599627370496 : Int)) (
 reqB (sigTurn.pre [DV.n n10, DV.n n11]) (
 allB fun n12 : Int => 
 impB ((0 : Int) ≤ n12) (
 impB (n12 ≤ (4503599627370496 : Int)) (
 impB (sigTurn.post [DV.n n10, DV.n n11] [DV.n n12]) (
 allB fun n13 : Int => 
 impB (n13 = Go.IntKind.i64.wrap (((1 : Int) + n5) * Int.ofNat (4294967296 : Nat))) (
 impB (Int.negSucc (9223372036854775807 : Nat) ≤ n13) (
 impB (n13 ≤ Int.ofNat (9223372036854775807 : Nat)) (
 allB fun n14 : Int => 
 impB (n14 = Go.IntKind.i64.wrap (n13 - n12)) (
 impB (Int.negSucc (9223372036854775807 : Nat) ≤ n14) (
 impB (n14 ≤ Int.ofNat (9223372036854775807 : Nat)) (
 allB fun n15 : Int => 
 impB (n15 = Go.IntKind.u32.wrap ((1 : Int) + n5)) (
 impB (Int.ofNat (0 : Nat) ≤ n15) (
 impB (n15 ≤ Int.ofNat (4294967295 : Nat)) (
 allB fun n16 : Int => 
 impB (n16 = Go.IntKind.u32.wrap (n6 * n15)) (
 impB (Int.ofNat (0 : Nat) ≤ n16) (
 impB (n16 ≤ Int.ofNat (4294967295 : Nat)) (
 allB fun n17 : Int => 
 impB (n17 = Go.IntKind.u32.wrap (n2 + n16)) (
 impB (Int.ofNat (0 : Nat) ≤ n17) (
 impB (n17 ≤ Int.ofNat (4294967295 : Nat)) (
 allB fun n18 : Int => 
 impB (n18 = Go.IntKind.u32.wrap (n17 + Int.ofNat (0 : Nat) - (n2 + Int.ofNat (0 : Nat)))) (
 impB (Int.ofNat (0 : Nat) ≤ n18) (
 impB (n18 ≤ Int.ofNat (4294967295 : Nat)) (
 allB fun n19 : Int => 
 impB (n19 = Go.IntKind.i32.wrap n18) (
 impB (Int.negSucc (2147483647 : Nat) ≤ n19) (
 impB (n19 ≤ Int.ofNat (2147483647 : Nat)) (
 bR (b3) (
 allB fun n20 : Int => 
 impB (n20 = Go.IntKind.i64.wrap ((2 : Int) * Min.min n12 n14)) (
 impB (Int.negSucc (9223372036854775807 : Nat) ≤ n20) (
 impB (n20 ≤ Int.ofNat (9223372036854775807 : Nat)) (
 bR (dec (n20 ≤ (1 : Int) + n5)) (
 reqB (sigRounds.post [DV.n n0, DV.n n1, DV.n n2]
 [DV.b (dec (Max.max n19 ((0 : Int) - n19) ≤ ((1 : Int) + n5 + (1 : Int)).tdiv (2 : Int)))]) (
 true)) (
 reqB (sigRounds.post [DV.n n0, DV.n n1, DV.n n2] [DV.b Bool.false]) (
 true)))))) (
 reqB (sigRounds.post [DV.n n0, DV.n n1, DV.n n2] [DV.b Bool.false]) (
 true)))))))))))))))))))))))))))))))))))))))))))))))))))))))))))))))))))))))))))) := by kernel_rfl
set_option maxHeartbeats 8000000 in
theorem vt_NcoRounds : vcFn Tryd.prog [(3, Ext.ctr (ctOfG gl11 sigTrue0)), (28, Ext.ctr (ctOfG gl11 sigTurn)), (16, Ext.ctr (ctOfG gl11 sigStep))] noA gl11 100 9 sigRounds = true := by
  rw [vc_NcoRounds]
  try simp only [Int.toNat_natCast, List.length_set, List.length_replicate, List.length_take, List.length_drop, List.length_append, List.length_cons, List.length_nil, Nat.min_self, List.take_take, lenCols_i, lenCols_b, List.drop_zero, List.take_length, Nat.add_eq, Nat.mul_eq, Nat.sub_eq, Nat.zero_add, Nat.sub_zero, Nat.mul_one]
  refine all_i fun n0 => ?_
  refine imp_i fun h0 => ?_
  refine imp_i fun h1 => ?_
  refine all_i fun n1 => ?_
  refine imp_i fun h2 => ?_
  refine imp_i fun h3 => ?_
  refine all_i fun n2 => ?_
  refine imp_i fun h4 => ?_
  refine imp_i fun h5 => ?_
  refine imp_i fun h6 => ?_
  try simp only [sigRounds, List.cons.injEq, DV.b.injEq, and_true, List.length_cons, List.length_nil] at h6
  refine req_i ?_ ?_
  · -- r0
   first | omega | assumption | grind
  refine all_i fun b3 => ?_
  refine imp_i fun h7 => ?_
  try simp only [sigTrue0, List.cons.injEq, DV.b.injEq, and_true, List.length_cons, List.length_nil] at h7
  refine req_i ?_ ?_
  · -- r1
   first | omega | assumption | grind
  refine req_i ?_ ?_
  · -- r2
   first | omega | assumption | grind
  refine req_i ?_ ?_
  · -- r3
   first | trivial | assumption | (simp only [sigTurn, pickPost, List.cons.injEq, DV.b.injEq, and_true, List.length_cons, List.length_nil]; done) | ((try simp only [sigTurn, pickPost, List.cons.injEq, DV.b.injEq, and_true, List.length_cons, List.length_nil]); first | omega | assumption | grind)
  refine all_i fun n4 => ?_
  refine imp_i fun h8 => ?_
  refine imp_i fun h9 => ?_
  refine imp_i fun h10 => ?_
  try simp only [sigTurn, pickPost, List.cons.injEq, DV.b.injEq, and_true, List.length_cons, List.length_nil] at h10
  refine req_i ?_ ?_
  · -- r4
   first | omega | assumption | grind
  refine req_i ?_ ?_
  · -- r5
   first | omega | assumption | grind
  refine req_i ?_ ?_
  · -- r6
   first | trivial | assumption | (simp only [sigTurn, pickPost, List.cons.injEq, DV.b.injEq, and_true, List.length_cons, List.length_nil]; done) | ((try simp only [sigTurn, pickPost, List.cons.injEq, DV.b.injEq, and_true, List.length_cons, List.length_nil]); first | omega | assumption | grind)
  refine all_i fun n5 => ?_
  refine imp_i fun h11 => ?_
  refine imp_i fun h12 => ?_
  refine imp_i fun h13 => ?_
  try simp only [sigTurn, pickPost, List.cons.injEq, DV.b.injEq, and_true, List.length_cons, List.length_nil] at h13
  refine req_i ?_ ?_
  · -- r7
   first | omega | assumption | grind
  refine req_i ?_ ?_
  · -- r8
   first | omega | assumption | grind
  refine req_i ?_ ?_
  · -- r9
   first | omega | assumption | grind
  refine req_i ?_ ?_
  · -- r10
   first | omega | assumption | grind
  refine req_i ?_ ?_
  · -- r11
   first | trivial | assumption | (simp only [sigStep, stepPost, List.cons.injEq, DV.b.injEq, and_true, List.length_cons, List.length_nil]; done) | ((try simp only [sigStep, stepPost, List.cons.injEq, DV.b.injEq, and_true, List.length_cons, List.length_nil]); first | omega | assumption | grind)
  refine all_i fun n6 => ?_
  refine imp_i fun h14 => ?_
  refine imp_i fun h15 => ?_
  refine all_i fun n7 => ?_
  refine imp_i fun h16 => ?_
  refine imp_i fun h17 => ?_
  refine imp_i fun h18 => ?_
  try simp only [sigStep, stepPost, List.cons.injEq, DV.b.injEq, and_true, List.length_cons, List.length_nil] at h18
  obtain ⟨e0, m, k, hm, b1, b2⟩ := h18
  refine bR_dec (fun h19 => ?_) (fun h19 => ?_)
  ·
   refine req_i ?_ ?_
   · -- r12
    first | omega | ((try simp only [sigRounds, List.cons.injEq, DV.b.injEq, and_true, List.length_cons, List.length_nil]); first | done | omega | assumption | grind [getD_set, getD_rep, toNat_succ, cntN_yes, cntN_no])
   rfl
  ·
   refine all_i fun n8 => ?_
   refine imp_i fun h20 => ?_
   simp only [wrap_i64] at h20
   have e1 : n6 * (1 + n5) = (m * (1 + n5) - (n4 - 1000) * 4294967296) + (1 + n5) * 4294967296 * k + (n4 - 1000) * 4294967296 := by rw [hm]; grind
   have e2 := mul_bd (a := n6) (b := 1 + n5) (A := 4294967295) (B := 1000000) (by omega) (by omega) (by omega) (by omega)
   have e3 : (1 + n5) * 4294967296 * k = 4294967296 * ((1 + n5) * k) := by grind
   generalize hD : m * (1 + n5) - (n4 - 1000) * 4294967296 = D at b1 b2 e1
   generalize hP : n6 * (1 + n5) = P at h20 e1 e2
   try simp only [wrap_i64, wrap_i32, wrap_u32, show Int.ofNat 4294967296 = 4294967296 from rfl, show Int.ofNat 0 = 0 from rfl] at h20
   have h20 : n8 = P := by omega
   refine imp_i fun h21 => ?_
   refine imp_i fun h22 => ?_
   refine all_i fun n9 => ?_
   refine imp_i fun h23 => ?_
   simp only [wrap_i64] at h23
   try simp only [wrap_i64, wrap_i32, wrap_u32, show Int.ofNat 4294967296 = 4294967296 from rfl, show Int.ofNat 0 = 0 from rfl] at h23
   have h23 : n9 = (n4 - 1000) * 4294967296 := by omega
   refine imp_i fun h24 => ?_
   refine imp_i fun h25 => ?_
   refine all_i fun n10 => ?_
   refine imp_i fun h26 => ?_
   simp only [wrap_i64] at h26
   try simp only [wrap_i64, wrap_i32, wrap_u32, show Int.ofNat 4294967296 = 4294967296 from rfl, show Int.ofNat 0 = 0 from rfl] at h26
   have h26 : n10 = D + (1 + n5) * 4294967296 * k := by omega
   refine imp_i fun h27 => ?_
   refine imp_i fun h28 => ?_
   refine all_i fun n11 => ?_
   refine imp_i fun h29 => ?_
   simp only [wrap_i64] at h29
   try simp only [wrap_i64, wrap_i32, wrap_u32, show Int.ofNat 4294967296 = 4294967296 from rfl, show Int.ofNat 0 = 0 from rfl] at h29
   have h29 : n11 = (1 + n5) * 4294967296 := by omega
   refine imp_i fun h30 => ?_
   refine imp_i fun h31 => ?_
   refine req_i ?_ ?_
   · -- r13
    first | omega | assumption | grind
   refine req_i ?_ ?_
   · -- r14
    first | omega | assumption | grind
   refine req_i ?_ ?_
   · -- r15
    first | omega | assumption | grind
   refine req_i ?_ ?_
   · -- r16
    first | omega | assumption | grind
   refine req_i ?_ ?_
   · -- r17
    first | trivial | assumption | (simp only [sigTurn, pickPost, List.cons.injEq, DV.b.injEq, and_true, List.length_cons, List.length_nil]; done) | ((try simp only [sigTurn, pickPost, List.cons.injEq, DV.b.injEq, and_true, List.length_cons, List.length_nil]); first | omega | assumption | grind)
   refine all_i fun n12 => ?_
   refine imp_i fun h32 => ?_
   refine imp_i fun h33 => ?_
   refine imp_i fun h34 => ?_
   try simp only [sigTurn, pickPost, List.cons.injEq, DV.b.injEq, and_true, List.length_cons, List.length_nil] at h34
   have e4 := rounds_d (D := D) (k := k) (n := (1 + n5) * 4294967296) (h34.1.trans (by rw [h29])) h26 (by omega) (by omega) (by omega)
   refine all_i fun n13 => ?_
   refine imp_i fun h35 => ?_
   simp only [wrap_i64] at h35
   try simp only [wrap_i64, wrap_i32, wrap_u32, show Int.ofNat 4294967296 = 4294967296 from rfl, show Int.ofNat 0 = 0 from rfl] at h35
   have h35 : n13 = (1 + n5) * 4294967296 := by omega
   refine imp_i fun h36 => ?_
   refine imp_i fun h37 => ?_
   refine all_i fun n14 => ?_
   refine imp_i fun h38 => ?_
   simp only [wrap_i64] at h38
   try simp only [wrap_i64, wrap_i32, wrap_u32, show Int.ofNat 4294967296 = 4294967296 from rfl, show Int.ofNat 0 = 0 from rfl] at h38
   have h38 : n14 = n13 - n12 := by omega
   refine imp_i fun h39 => ?_
   refine imp_i fun h40 => ?_
   refine all_i fun n15 => ?_
   refine imp_i fun h41 => ?_
   simp only [wrap_u32] at h41
   try simp only [wrap_i64, wrap_i32, wrap_u32, show Int.ofNat 4294967296 = 4294967296 from rfl, show Int.ofNat 0 = 0 from rfl] at h41
   have h41 : n15 = 1 + n5 := by omega
   refine imp_i fun h42 => ?_
   refine imp_i fun h43 => ?_
   refine all_i fun n16 => ?_
   refine imp_i fun h44 => ?_
   simp only [wrap_u32] at h44
   try simp only [wrap_i64, wrap_i32, wrap_u32, show Int.ofNat 4294967296 = 4294967296 from rfl, show Int.ofNat 0 = 0 from rfl] at h44
   rw [h41, hP] at h44
   have h44 : n16 = D % 4294967296 := by rw [h44, e1, e3]; omega
   refine imp_i fun h45 => ?_
   refine imp_i fun h46 => ?_
   refine all_i fun n17 => ?_
   refine imp_i fun h47 => ?_
   simp only [wrap_u32] at h47
   refine imp_i fun h48 => ?_
   refine imp_i fun h49 => ?_
   refine all_i fun n18 => ?_
   refine imp_i fun h50 => ?_
   simp only [wrap_u32] at h50
   refine imp_i fun h51 => ?_
   refine imp_i fun h52 => ?_
   refine all_i fun n19 => ?_
   refine imp_i fun h53 => ?_
   simp only [wrap_i32] at h53
   try simp only [wrap_i64, wrap_i32, wrap_u32, show Int.ofNat 4294967296 = 4294967296 from rfl, show Int.ofNat 0 = 0 from rfl] at h47 h50 h53
   have h53 : n19 = D := by
     omega
   refine imp_i fun h54 => ?_
   refine imp_i fun h55 => ?_
   refine bR_i (fun h56 => ?_) (fun h56 => ?_)
   ·
    refine all_i fun n20 => ?_
    refine imp_i fun h57 => ?_
    simp only [wrap_i64] at h57
    try simp only [wrap_i64, wrap_i32, wrap_u32, show Int.ofNat 4294967296 = 4294967296 from rfl, show Int.ofNat 0 = 0 from rfl] at h57
    have h57 : n20 = 2 * Min.min n12 n14 := by omega
    refine imp_i fun h58 => ?_
    refine imp_i fun h59 => ?_
    refine bR_dec (fun h60 => ?_) (fun h60 => ?_)
    ·
     refine req_i ?_ ?_
     · -- r18
      have g1 : Max.max n19 (0 - n19) ≤ (1 + n5 + 1).tdiv 2 := by rw [tdiv_nn (by omega)]; omega
      simp only [sigRounds]; rw [dec_iff.2 g1]
     rfl
    ·
     refine req_i ?_ ?_
     · -- r19
      first | omega | ((try simp only [sigRounds, List.cons.injEq, DV.b.injEq, and_true, List.length_cons, List.length_nil]); first | done | omega | assumption | grind [getD_set, getD_rep, toNat_succ, cntN_yes, cntN_no])
     rfl
   ·
    refine req_i ?_ ?_
    · -- r20
     first | omega | ((try simp only [sigRounds, List.cons.injEq, DV.b.injEq, and_true, List.length_cons, List.length_nil]); first | done | omega | assumption | grind [getD_set, getD_rep, toNat_succ, cntN_yes, cntN_no])
    rfl
theorem ext_NcoRounds : ∀ p ∈ ([(3, Ext.ctr (ctOfG gl11 sigTrue0)), (28, Ext.ctr (ctOfG gl11 sigTurn)), (16, Ext.ctr (ctOfG gl11 sigStep))] : List (Nat × Ext)), ExtRow Tryd.prog p.1 p.2 := by
  intro p hp
  simp only [List.mem_cons, List.not_mem_nil, or_false] at hp
  rcases hp with rfl | rfl | rfl
  · trivial
  · trivial
  · trivial
theorem cts_NcoRounds : CtsOk Tryd.prog [(3, Ext.ctr (ctOfG gl11 sigTrue0)), (28, Ext.ctr (ctOfG gl11 sigTurn)), (16, Ext.ctr (ctOfG gl11 sigStep))] := ctsOk_ofG (cs := [(3, sigTrue0), (28, sigTurn), (16, sigStep)])
  (fun p hp => by
    simp only [List.mem_cons, List.not_mem_nil, or_false] at hp
    rcases hp with rfl | rfl | rfl
    · exact fn_known
    · exact fn_turn
    · exact fn_step
)
  (fun f c h => by
    simp only [List.lookup_cons] at h
    repeat' split at h
    all_goals first | (cases h; done) | (rename_i e; have e := beq_iff_eq.1 e; subst e; cases h; refine ⟨_, ?_, rfl⟩; simp))
theorem fn_NcoRounds : FnOk Tryd.prog 9 sigRounds gl11 := fn_sound (by kernel_rfl) ext_NcoRounds cts_NcoRounds names vt_NcoRounds
end Go.Proofs.YtblcahackjpnjaaDoor

