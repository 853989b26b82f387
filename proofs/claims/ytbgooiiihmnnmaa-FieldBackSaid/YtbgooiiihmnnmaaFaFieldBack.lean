import Derived.Test.YtbgooiiihmnnmaaSpec25e
import Derived.Test.YtbgooiiihmnnmaaRows
import Derived.Test.YtbgooiiihmnnmaaFnames
namespace Go.Proofs.Ytbgooiiihmnnmaa
open Go.Ev Go.Sp
set_option maxRecDepth 100000
theorem vc_nth : vcFn Try.prog [] noA [] 100 29 sigNth = (allB fun l0 : List Int => 
impB (l0.length ≤ (9223372036854775807 : Nat)) (
impB (∀ (y : Int), y ∈ l0 → (-9223372036854775808 : Int) ≤ y ∧ y ≤ (9223372036854775807 : Int)) (
allB fun n1 : Int => 
impB ((0 : Int) ≤ n1) (
impB (n1 ≤ (100 : Int)) (
impB (sigNth.pre [DV.l l0, DV.n n1]) (
bR (dec ((↑l0.length : Int) ≤ n1)) (
 reqB (sigNth.post [DV.l l0, DV.n n1] [DV.n (0 : Int)]) (
 true)) (
 reqB (n1.toNat < l0.length) (
 reqB (Nat.add (0 : Nat) n1.toNat < l0.length) (
 reqB ((-9223372036854775808 : Int) ≤ l0.getD (Nat.add (0 : Nat) n1.toNat) (0 : Int)) (
 reqB (l0.getD (Nat.add (0 : Nat) n1.toNat) (0 : Int) ≤ (9223372036854775807 : Int)) (
 reqB (sigNth.post [DV.l l0, DV.n n1] [DV.n (l0.getD (Nat.add (0 : Nat) n1.toNat) (0 : Int))]) (
 true)))))))))))) := by kernel_rfl
set_option maxHeartbeats 8000000 in
theorem vt_nth : vcFn Try.prog [] noA [] 100 29 sigNth = true := by
  rw [vc_nth]
  try simp only [Int.toNat_natCast, List.length_set, List.length_replicate, List.length_take, List.length_drop, List.length_append, List.length_cons, List.length_nil, Nat.min_self, List.take_take, lenCols_i, lenCols_b, List.drop_zero, List.take_length, List.take_nil, List.drop_nil, List.take_zero, List.nil_append, Nat.add_eq, Nat.mul_eq, Nat.sub_eq, Nat.zero_add, Nat.add_zero, Nat.sub_zero, Nat.mul_one]
  refine all_i fun l0 => ?_
  refine imp_i fun h0 => ?_
  refine imp_i fun h1 => ?_
  refine all_i fun n1 => ?_
  refine imp_i fun h2 => ?_
  refine imp_i fun h3 => ?_
  refine imp_i fun h4 => ?_
  try simp only [sigNth, cAny, List.cons.injEq, DV.b.injEq, and_true, List.length_cons, List.length_nil] at h4
  have gb := getD_bd (i := n1.toNat) h1 (by omega) (by omega)
  refine bR_dec (fun h5 => ?_) (fun h5 => ?_)
  ·
   refine req_i ?_ ?_
   · -- r0
    first | omega | ((try simp only [sigNth, cAny, List.cons.injEq, DV.b.injEq, and_true, List.length_cons, List.length_nil]); first | done | omega | assumption | grind [getD_set, getD_rep, toNat_succ, cntN_yes, cntN_no])
   rfl
  ·
   refine req_i ?_ ?_
   · -- r1
    first | omega | ((try simp only [Int.toNat_natCast, List.length_cons, List.length_nil]); first | done | omega | assumption | grind [getD_set, getD_rep, toNat_succ, cntN_yes, cntN_no])
   refine req_i ?_ ?_
   · -- r2
    first | omega | ((try simp only [Int.toNat_natCast, List.length_cons, List.length_nil, Nat.add_eq, Nat.zero_add, Nat.add_zero]); first | done | omega | assumption | grind [getD_set, getD_rep, toNat_succ, cntN_yes, cntN_no])
   refine req_i ?_ ?_
   · -- r3
    first | omega | assumption | grind
   refine req_i ?_ ?_
   · -- r4
    first | omega | assumption | grind
   refine req_i ?_ ?_
   · -- r5
    first | omega | ((try simp only [sigNth, cAny, List.cons.injEq, DV.b.injEq, and_true, Int.toNat_natCast, List.length_cons, List.length_nil, Nat.add_eq, Nat.zero_add, Nat.add_zero]); first | done | omega | assumption | grind [getD_set, getD_rep, toNat_succ, cntN_yes, cntN_no])
   rfl
theorem ext_nth : ∀ p ∈ ([] : List (Nat × Ext)), ExtRow Try.prog p.1 p.2 := by
  intro p hp
  cases hp
theorem cts_nth : CtsOk Try.prog [] := fun f c h => by cases h
theorem fn_nth : FnOk Try.prog 29 sigNth [] := fn_sound (by kernel_rfl) ext_nth cts_nth names vt_nth
end Go.Proofs.Ytbgooiiihmnnmaa

namespace Go.Proofs.Ytbgooiiihmnnmaa
open Go.Ev Go.Sp
set_option maxRecDepth 100000
theorem vc_below : vcFn Try.prog [] noA [] 100 28 sigBl = (allB fun n0 : Int => 
impB ((-9223372036854775808 : Int) ≤ n0) (
impB (n0 ≤ (9223372036854775807 : Int)) (
allB fun n1 : Int => 
impB ((1 : Int) ≤ n1) (
impB (n1 ≤ (4000000000000000001 : Int)) (
impB (sigBl.pre [DV.n n0, DV.n n1]) (
bR (dec (n0.tmod n1 < (0 : Int))) (
 reqB ((0 : Int) ≤ n0.tmod n1 + n1) (
 reqB (n0.tmod n1 + n1 ≤ (4000000000000000000 : Int)) (
 reqB (sigBl.post [DV.n n0, DV.n n1] [DV.n (n0.tmod n1 + n1)]) (
 true)))) (
 reqB ((0 : Int) ≤ n0.tmod n1) (
 reqB (n0.tmod n1 ≤ (4000000000000000000 : Int)) (
 reqB (sigBl.post [DV.n n0, DV.n n1] [DV.n (n0.tmod n1)]) (
 true)))))))))) := by kernel_rfl
set_option maxHeartbeats 8000000 in
theorem vt_below : vcFn Try.prog [] noA [] 100 28 sigBl = true := by
  rw [vc_below]
  try simp only [Int.toNat_natCast, List.length_set, List.length_replicate, List.length_take, List.length_drop, List.length_append, List.length_cons, List.length_nil, Nat.min_self, List.take_take, lenCols_i, lenCols_b, List.drop_zero, List.take_length, List.take_nil, List.drop_nil, List.take_zero, List.nil_append, Nat.add_eq, Nat.mul_eq, Nat.sub_eq, Nat.zero_add, Nat.add_zero, Nat.sub_zero, Nat.mul_one]
  refine all_i fun n0 => ?_
  refine imp_i fun h0 => ?_
  refine imp_i fun h1 => ?_
  refine all_i fun n1 => ?_
  refine imp_i fun h2 => ?_
  refine imp_i fun h3 => ?_
  refine imp_i fun h4 => ?_
  try simp only [sigBl, blPost, List.cons.injEq, DV.b.injEq, and_true, List.length_cons, List.length_nil] at h4
  have tm := tmod_of (x := n0) (n := n1) (by omega)
  refine bR_dec (fun h5 => ?_) (fun h5 => ?_)
  ·
   refine req_i ?_ ?_
   · -- r0
    first | omega | assumption | grind
   refine req_i ?_ ?_
   · -- r1
    first | omega | assumption | grind
   refine req_i ?_ ?_
   · -- r2
    first | omega | ((try simp only [sigBl, blPost, List.cons.injEq, DV.b.injEq, and_true, List.length_cons, List.length_nil]); first | done | omega | assumption | grind [getD_set, getD_rep, toNat_succ, cntN_yes, cntN_no])
   rfl
  ·
   refine req_i ?_ ?_
   · -- r3
    first | omega | assumption | grind
   refine req_i ?_ ?_
   · -- r4
    first | omega | assumption | grind
   refine req_i ?_ ?_
   · -- r5
    first | omega | ((try simp only [sigBl, blPost, List.cons.injEq, DV.b.injEq, and_true, List.length_cons, List.length_nil]); first | done | omega | assumption | grind [getD_set, getD_rep, toNat_succ, cntN_yes, cntN_no])
   rfl
theorem ext_below : ∀ p ∈ ([] : List (Nat × Ext)), ExtRow Try.prog p.1 p.2 := by
  intro p hp
  cases hp
theorem cts_below : CtsOk Try.prog [] := fun f c h => by cases h
theorem fn_below : FnOk Try.prog 28 sigBl [] := fn_sound (by kernel_rfl) ext_below cts_below names vt_below
end Go.Proofs.Ytbgooiiihmnnmaa

namespace Go.Proofs.Ytbgooiiihmnnmaa
open Go.Ev Go.Sp
set_option maxRecDepth 100000
theorem vc_of : vcFn Try.prog [(29, Ext.ctr (ctOf sigNth)), (28, Ext.ctr (ctOf sigBl))] noA [] 100 27 sigOf = (allB fun l0 : List Int => 
impB (l0.length ≤ (9223372036854775807 : Nat)) (
impB (∀ (y : Int), y ∈ l0 → (-9223372036854775808 : Int) ≤ y ∧ y ≤ (9223372036854775807 : Int)) (
allB fun n1 : Int => 
impB ((0 : Int) ≤ n1) (
impB (n1 ≤ (100 : Int)) (
impB (sigOf.pre [DV.l l0, DV.n n1]) (
reqB (((0 : Nat) + l0.length) * (1 : Nat) ≤ l0.length.mul (1 : Nat)) (
reqB (l0.length ≤ (9223372036854775807 : Nat)) (
reqB ((List.take l0.length (List.drop (0 : Nat) l0)).length = l0.length) (
reqB (∀ (y : Int),
 y ∈ List.take l0.length (List.drop (0 : Nat) l0) → (-9223372036854775808 : Int) ≤ y ∧ y ≤ (9223372036854775807 : Int)) (
reqB (sigNth.pre [DV.l (List.take l0.length (List.drop (0 : Nat) l0)), DV.n (0 : Int)]) (
allB fun n2 : Int => 
impB ((-9223372036854775808 : Int) ≤ n2) (
impB (n2 ≤ (9223372036854775807 : Int)) (
impB (sigNth.post [DV.l (List.take l0.length (List.drop (0 : Nat) l0)), DV.n (0 : Int)] [DV.n n2]) (
reqB ((-9223372036854775808 : Int) ≤ n2) (
reqB (n2 ≤ (9223372036854775807 : Int)) (
reqB (sigBl.pre [DV.n n2, DV.n (40 : Int)]) (
allB fun n3 : Int => 
impB ((0 : Int) ≤ n3) (
impB (n3 ≤ (4000000000000000000 : Int)) (
impB (sigBl.post [DV.n n2, DV.n (40 : Int)] [DV.n n3]) (
reqB (((0 : Nat) + l0.length) * (1 : Nat) ≤ l0.length.mul (1 : Nat)) (
reqB (l0.length ≤ (9223372036854775807 : Nat)) (
reqB ((List.take l0.length (List.drop (0 : Nat) l0)).length = l0.length) (
reqB (∀ (y : Int),
 y ∈ List.take l0.length (List.drop (0 : Nat) l0) → (-9223372036854775808 : Int) ≤ y ∧ y ≤ (9223372036854775807 : Int)) (
reqB (sigNth.pre [DV.l (List.take l0.length (List.drop (0 : Nat) l0)), DV.n (1 : Int)]) (
allB fun n4 : Int => 
impB ((-9223372036854775808 : Int) ≤ n4) (
impB (n4 ≤ (9223372036854775807 : Int)) (
impB (sigNth.post [DV.l (List.take l0.length (List.drop (0 : Nat) l0)), DV.n (1 : Int)] [DV.n n4]) (
reqB ((-9223372036854775808 : Int) ≤ n4) (
reqB (n4 ≤ (9223372036854775807 : Int)) (
reqB (sigBl.pre [DV.n n4, DV.n (2 : Int)]) (
allB fun n5 : Int => 
impB ((0 : Int) ≤ n5) (
impB (n5 ≤ (4000000000000000000 : Int)) (
impB (sigBl.post [DV.n n4, DV.n (2 : Int)] [DV.n n5]) (
reqB (((0 : Nat) + l0.length) * (1 : Nat) ≤ l0.length.mul (1 : Nat)) (
reqB (l0.length ≤ (9223372036854775807 : Nat)) (
reqB ((List.take l0.length (List.drop (0 : Nat) l0)).length = l0.length) (
reqB (∀ (y : Int),
 y ∈ List.take l0.length (List.drop (0 : Nat) l0) → (-9223372036854775808 : Int) ≤ y ∧ y ≤ (9223372036854775807 : Int)) (
reqB (sigNth.pre [DV.l (List.take l0.length (List.drop (0 : Nat) l0)), DV.n (2 : Int)]) (
allB fun n6 : Int => 
impB ((-9223372036854775808 : Int) ≤ n6) (
impB (n6 ≤ (9223372036854775807 : Int)) (
impB (sigNth.post [DV.l (List.take l0.length (List.drop (0 : Nat) l0)), DV.n (2 : Int)] [DV.n n6]) (
reqB ((-9223372036854775808 : Int) ≤ n6) (
reqB (n6 ≤ (9223372036854775807 : Int)) (
reqB (sigBl.pre [DV.n n6, DV.n (1000000 : Int)]) (
allB fun n7 : Int => 
impB ((0 : Int) ≤ n7) (
impB (n7 ≤ (4000000000000000000 : Int)) (
impB (sigBl.post [DV.n n6, DV.n (1000000 : Int)] [DV.n n7]) (
reqB (((0 : Nat) + l0.length) * (1 : Nat) ≤ l0.length.mul (1 : Nat)) (
reqB (l0.length ≤ (9223372036854775807 : Nat)) (
reqB ((List.take l0.length (List.drop (0 : Nat) l0)).length = l0.length) (
reqB (∀ (y : Int),
 y ∈ List.take l0.length (List.drop (0 : Nat) l0) → (-9223372036854775808 : Int) ≤ y ∧ y ≤ (9223372036854775807 : Int)) (
reqB (sigNth.pre [DV.l (List.take l0.length (List.drop (0 : Nat) l0)), DV.n (3 : Int)]) (
allB fun n8 : Int => 
impB ((-9223372036854775808 : Int) ≤ n8) (
impB (n8 ≤ (9223372036854775807 : Int)) (
impB (sigNth.post [DV.l (List.take l0.length (List.drop (0 : Nat) l0)), DV.n (3 : Int)] [DV.n n8]) (
reqB ((-9223372036854775808 : Int) ≤ n8) (
reqB (n8 ≤ (9223372036854775807 : Int)) (
reqB (sigBl.pre [DV.n n8, DV.n (2000001 : Int)]) (
allB fun n9 : Int => 
impB ((0 : Int) ≤ n9) (
impB (n9 ≤ (4000000000000000000 : Int)) (
impB (sigBl.post [DV.n n8, DV.n (2000001 : Int)] [DV.n n9]) (
reqB ((0 : Int) ≤ n1) (
reqB (n1 ≤ (100 : Int)) (
reqB ((1 : Int) ≤ (1 : Int) + n3) (
reqB ((1 : Int) + n3 ≤ (40 : Int)) (
reqB ((1 : Int) ≤ (1 : Int) + n7) (
reqB ((1 : Int) + n7 ≤ (1000000 : Int)) (
reqB ((-1000000 : Int) ≤ n9 - (1000000 : Int)) (
reqB (n9 - (1000000 : Int) ≤ (1000000 : Int)) (
reqB (sigOf.post [DV.l l0, DV.n n1]
 [DV.n n1, DV.n ((1 : Int) + n3), DV.b (dec (n5 = (1 : Int))), DV.n ((1 : Int) + n7),
 DV.n (n9 - (1000000 : Int))]) (
true))))))))))))))))))))))))))))))))))))))))))))))))))))))))))))))))))))))) := by kernel_rfl
set_option maxHeartbeats 8000000 in
theorem vt_of : vcFn Try.prog [(29, Ext.ctr (ctOf sigNth)), (28, Ext.ctr (ctOf sigBl))] noA [] 100 27 sigOf = true := by
  rw [vc_of]
  try simp only [Int.toNat_natCast, List.length_set, List.length_replicate, List.length_take, List.length_drop, List.length_append, List.length_cons, List.length_nil, Nat.min_self, List.take_take, lenCols_i, lenCols_b, List.drop_zero, List.take_length, List.take_nil, List.drop_nil, List.take_zero, List.nil_append, Nat.add_eq, Nat.mul_eq, Nat.sub_eq, Nat.zero_add, Nat.add_zero, Nat.sub_zero, Nat.mul_one]
  refine all_i fun l0 => ?_
  refine imp_i fun h0 => ?_
  refine imp_i fun h1 => ?_
  refine all_i fun n1 => ?_
  refine imp_i fun h2 => ?_
  refine imp_i fun h3 => ?_
  refine imp_i fun h4 => ?_
  try simp only [sigOf, cAny, ofPost, List.cons.injEq, DV.b.injEq, and_true, List.length_cons, List.length_nil] at h4
  refine req_i ?_ ?_
  · -- r0
   first | omega | ((try simp only [Nat.mul_eq]); first | done | omega | assumption | grind [getD_set, getD_rep, toNat_succ, cntN_yes, cntN_no])
  refine req_i ?_ ?_
  · -- r1
   first | omega | ((try simp only [Nat.zero_add]); first | done | omega | assumption | grind [getD_set, getD_rep, toNat_succ, cntN_yes, cntN_no])
  refine req_i ?_ ?_
  · -- r2
   first | omega | ((try simp only [List.take_nil, List.take_zero, List.length_take, List.take_length, List.take_take, Nat.min_self, List.drop_nil, List.length_drop, List.drop_zero, List.length_cons, List.length_nil]); first | done | omega | assumption | grind [getD_set, getD_rep, toNat_succ, cntN_yes, cntN_no])
  refine req_i ?_ ?_
  · -- r3
   first | assumption | exact rep_bd (by omega) (by omega) | exact set_bd (by assumption) (by omega) (by omega) | exact take_bd (by assumption) | ((try simp only [List.take_nil, List.take_zero, List.length_take, List.take_length, List.take_take, Nat.min_self, List.drop_nil, List.length_drop, List.drop_zero, List.length_cons, List.length_nil]); first | assumption | exact rep_bd (by omega) (by omega) | exact set_bd (by assumption) (by omega) (by omega) | exact take_bd (by assumption) | grind [getD_set, getD_rep, toNat_succ, cntN_yes, cntN_no])
  refine req_i ?_ ?_
  · -- r4
   first | trivial | assumption | (simp only [sigNth, cAny, List.cons.injEq, DV.b.injEq, and_true, List.take_nil, List.take_zero, List.length_take, List.take_length, List.take_take, Nat.min_self, List.drop_nil, List.length_drop, List.drop_zero, List.length_cons, List.length_nil]; done) | ((try simp only [sigNth, cAny, List.cons.injEq, DV.b.injEq, and_true, List.take_nil, List.take_zero, List.length_take, List.take_length, List.take_take, Nat.min_self, List.drop_nil, List.length_drop, List.drop_zero, List.length_cons, List.length_nil]); first | omega | assumption | grind)
  refine all_i fun n2 => ?_
  refine imp_i fun h5 => ?_
  refine imp_i fun h6 => ?_
  refine imp_i fun h7 => ?_
  try simp only [sigNth, cAny, List.cons.injEq, DV.b.injEq, and_true, List.take_nil, List.take_zero, List.length_take, List.take_length, List.take_take, Nat.min_self, List.drop_nil, List.length_drop, List.drop_zero, List.length_cons, List.length_nil] at h7
  refine req_i ?_ ?_
  · -- r5
   first | omega | assumption | grind
  refine req_i ?_ ?_
  · -- r6
   first | omega | assumption | grind
  refine req_i ?_ ?_
  · -- r7
   first | trivial | assumption | (simp only [sigBl, blPost, List.cons.injEq, DV.b.injEq, and_true, List.length_cons, List.length_nil]; done) | ((try simp only [sigBl, blPost, List.cons.injEq, DV.b.injEq, and_true, List.length_cons, List.length_nil]); first | omega | assumption | grind)
  refine all_i fun n3 => ?_
  refine imp_i fun h8 => ?_
  refine imp_i fun h9 => ?_
  refine imp_i fun h10 => ?_
  try simp only [sigBl, blPost, List.cons.injEq, DV.b.injEq, and_true, List.length_cons, List.length_nil] at h10
  refine req_i ?_ ?_
  · -- r8
   first | omega | ((try simp only [Nat.mul_eq]); first | done | omega | assumption | grind [getD_set, getD_rep, toNat_succ, cntN_yes, cntN_no])
  refine req_i ?_ ?_
  · -- r9
   first | omega | ((try simp only [Nat.zero_add]); first | done | omega | assumption | grind [getD_set, getD_rep, toNat_succ, cntN_yes, cntN_no])
  refine req_i ?_ ?_
  · -- r10
   first | omega | ((try simp only [List.take_nil, List.take_zero, List.length_take, List.take_length, List.take_take, Nat.min_self, List.drop_nil, List.length_drop, List.drop_zero, List.length_cons, List.length_nil]); first | done | omega | assumption | grind [getD_set, getD_rep, toNat_succ, cntN_yes, cntN_no])
  refine req_i ?_ ?_
  · -- r11
   first | assumption | exact rep_bd (by omega) (by omega) | exact set_bd (by assumption) (by omega) (by omega) | exact take_bd (by assumption) | ((try simp only [List.take_nil, List.take_zero, List.length_take, List.take_length, List.take_take, Nat.min_self, List.drop_nil, List.length_drop, List.drop_zero, List.length_cons, List.length_nil]); first | assumption | exact rep_bd (by omega) (by omega) | exact set_bd (by assumption) (by omega) (by omega) | exact take_bd (by assumption) | grind [getD_set, getD_rep, toNat_succ, cntN_yes, cntN_no])
  refine req_i ?_ ?_
  · -- r12
   first | trivial | assumption | (simp only [sigNth, cAny, List.cons.injEq, DV.b.injEq, and_true, List.take_nil, List.take_zero, List.length_take, List.take_length, List.take_take, Nat.min_self, List.drop_nil, List.length_drop, List.drop_zero, List.length_cons, List.length_nil]; done) | ((try simp only [sigNth, cAny, List.cons.injEq, DV.b.injEq, and_true, List.take_nil, List.take_zero, List.length_take, List.take_length, List.take_take, Nat.min_self, List.drop_nil, List.length_drop, List.drop_zero, List.length_cons, List.length_nil]); first | omega | assumption | grind)
  refine all_i fun n4 => ?_
  refine imp_i fun h11 => ?_
  refine imp_i fun h12 => ?_
  refine imp_i fun h13 => ?_
  try simp only [sigNth, cAny, List.cons.injEq, DV.b.injEq, and_true, List.take_nil, List.take_zero, List.length_take, List.take_length, List.take_take, Nat.min_self, List.drop_nil, List.length_drop, List.drop_zero, List.length_cons, List.length_nil] at h13
  refine req_i ?_ ?_
  · -- r13
   first | omega | assumption | grind
  refine req_i ?_ ?_
  · -- r14
   first | omega | assumption | grind
  refine req_i ?_ ?_
  · -- r15
   first | trivial | assumption | (simp only [sigBl, blPost, List.cons.injEq, DV.b.injEq, and_true, List.length_cons, List.length_nil]; done) | ((try simp only [sigBl, blPost, List.cons.injEq, DV.b.injEq, and_true, List.length_cons, List.length_nil]); first | omega | assumption | grind)
  refine all_i fun n5 => ?_
  refine imp_i fun h14 => ?_
  refine imp_i fun h15 => ?_
  refine imp_i fun h16 => ?_
  try simp only [sigBl, blPost, List.cons.injEq, DV.b.injEq, and_true, List.length_cons, List.length_nil] at h16
  refine req_i ?_ ?_
  · -- r16
   first | omega | ((try simp only [Nat.mul_eq]); first | done | omega | assumption | grind [getD_set, getD_rep, toNat_succ, cntN_yes, cntN_no])
  refine req_i ?_ ?_
  · -- r17
   first | omega | ((try simp only [Nat.zero_add]); first | done | omega | assumption | grind [getD_set, getD_rep, toNat_succ, cntN_yes, cntN_no])
  refine req_i ?_ ?_
  · -- r18
   first | omega | ((try simp only [List.take_nil, List.take_zero, List.length_take, List.take_length, List.take_take, Nat.min_self, List.drop_nil, List.length_drop, List.drop_zero, List.length_cons, List.length_nil]); first | done | omega | assumption | grind [getD_set, getD_rep, toNat_succ, cntN_yes, cntN_no])
  refine req_i ?_ ?_
  · -- r19
   first | assumption | exact rep_bd (by omega) (by omega) | exact set_bd (by assumption) (by omega) (by omega) | exact take_bd (by assumption) | ((try simp only [List.take_nil, List.take_zero, List.length_take, List.take_length, List.take_take, Nat.min_self, List.drop_nil, List.length_drop, List.drop_zero, List.length_cons, List.length_nil]); first | assumption | exact rep_bd (by omega) (by omega) | exact set_bd (by assumption) (by omega) (by omega) | exact take_bd (by assumption) | grind [getD_set, getD_rep, toNat_succ, cntN_yes, cntN_no])
  refine req_i ?_ ?_
  · -- r20
   first | trivial | assumption | (simp only [sigNth, cAny, List.cons.injEq, DV.b.injEq, and_true, List.take_nil, List.take_zero, List.length_take, List.take_length, List.take_take, Nat.min_self, List.drop_nil, List.length_drop, List.drop_zero, List.length_cons, List.length_nil]; done) | ((try simp only [sigNth, cAny, List.cons.injEq, DV.b.injEq, and_true, List.take_nil, List.take_zero, List.length_take, List.take_length, List.take_take, Nat.min_self, List.drop_nil, List.length_drop, List.drop_zero, List.length_cons, List.length_nil]); first | omega | assumption | grind)
  refine all_i fun n6 => ?_
  refine imp_i fun h17 => ?_
  refine imp_i fun h18 => ?_
  refine imp_i fun h19 => ?_
  try simp only [sigNth, cAny, List.cons.injEq, DV.b.injEq, and_true, List.take_nil, List.take_zero, List.length_take, List.take_length, List.take_take, Nat.min_self, List.drop_nil, List.length_drop, List.drop_zero, List.length_cons, List.length_nil] at h19
  refine req_i ?_ ?_
  · -- r21
   first | omega | assumption | grind
  refine req_i ?_ ?_
  · -- r22
   first | omega | assumption | grind
  refine req_i ?_ ?_
  · -- r23
   first | trivial | assumption | (simp only [sigBl, blPost, List.cons.injEq, DV.b.injEq, and_true, List.length_cons, List.length_nil]; done) | ((try simp only [sigBl, blPost, List.cons.injEq, DV.b.injEq, and_true, List.length_cons, List.length_nil]); first | omega | assumption | grind)
  refine all_i fun n7 => ?_
  refine imp_i fun h20 => ?_
  refine imp_i fun h21 => ?_
  refine imp_i fun h22 => ?_
  try simp only [sigBl, blPost, List.cons.injEq, DV.b.injEq, and_true, List.length_cons, List.length_nil] at h22
  refine req_i ?_ ?_
  · -- r24
   first | omega | ((try simp only [Nat.mul_eq]); first | done | omega | assumption | grind [getD_set, getD_rep, toNat_succ, cntN_yes, cntN_no])
  refine req_i ?_ ?_
  · -- r25
   first | omega | ((try simp only [Nat.zero_add]); first | done | omega | assumption | grind [getD_set, getD_rep, toNat_succ, cntN_yes, cntN_no])
  refine req_i ?_ ?_
  · -- r26
   first | omega | ((try simp only [List.take_nil, List.take_zero, List.length_take, List.take_length, List.take_take, Nat.min_self, List.drop_nil, List.length_drop, List.drop_zero, List.length_cons, List.length_nil]); first | done | omega | assumption | grind [getD_set, getD_rep, toNat_succ, cntN_yes, cntN_no])
  refine req_i ?_ ?_
  · -- r27
   first | assumption | exact rep_bd (by omega) (by omega) | exact set_bd (by assumption) (by omega) (by omega) | exact take_bd (by assumption) | ((try simp only [List.take_nil, List.take_zero, List.length_take, List.take_length, List.take_take, Nat.min_self, List.drop_nil, List.length_drop, List.drop_zero, List.length_cons, List.length_nil]); first | assumption | exact rep_bd (by omega) (by omega) | exact set_bd (by assumption) (by omega) (by omega) | exact take_bd (by assumption) | grind [getD_set, getD_rep, toNat_succ, cntN_yes, cntN_no])
  refine req_i ?_ ?_
  · -- r28
   first | trivial | assumption | (simp only [sigNth, cAny, List.cons.injEq, DV.b.injEq, and_true, List.take_nil, List.take_zero, List.length_take, List.take_length, List.take_take, Nat.min_self, List.drop_nil, List.length_drop, List.drop_zero, List.length_cons, List.length_nil]; done) | ((try simp only [sigNth, cAny, List.cons.injEq, DV.b.injEq, and_true, List.take_nil, List.take_zero, List.length_take, List.take_length, List.take_take, Nat.min_self, List.drop_nil, List.length_drop, List.drop_zero, List.length_cons, List.length_nil]); first | omega | assumption | grind)
  refine all_i fun n8 => ?_
  refine imp_i fun h23 => ?_
  refine imp_i fun h24 => ?_
  refine imp_i fun h25 => ?_
  try simp only [sigNth, cAny, List.cons.injEq, DV.b.injEq, and_true, List.take_nil, List.take_zero, List.length_take, List.take_length, List.take_take, Nat.min_self, List.drop_nil, List.length_drop, List.drop_zero, List.length_cons, List.length_nil] at h25
  refine req_i ?_ ?_
  · -- r29
   first | omega | assumption | grind
  refine req_i ?_ ?_
  · -- r30
   first | omega | assumption | grind
  refine req_i ?_ ?_
  · -- r31
   first | trivial | assumption | (simp only [sigBl, blPost, List.cons.injEq, DV.b.injEq, and_true, List.length_cons, List.length_nil]; done) | ((try simp only [sigBl, blPost, List.cons.injEq, DV.b.injEq, and_true, List.length_cons, List.length_nil]); first | omega | assumption | grind)
  refine all_i fun n9 => ?_
  refine imp_i fun h26 => ?_
  refine imp_i fun h27 => ?_
  refine imp_i fun h28 => ?_
  try simp only [sigBl, blPost, List.cons.injEq, DV.b.injEq, and_true, List.length_cons, List.length_nil] at h28
  refine req_i ?_ ?_
  · -- r32
   first | omega | assumption | grind
  refine req_i ?_ ?_
  · -- r33
   first | omega | assumption | grind
  refine req_i ?_ ?_
  · -- r34
   first | omega | assumption | grind
  refine req_i ?_ ?_
  · -- r35
   first | omega | assumption | grind
  refine req_i ?_ ?_
  · -- r36
   first | omega | assumption | grind
  refine req_i ?_ ?_
  · -- r37
   first | omega | assumption | grind
  refine req_i ?_ ?_
  · -- r38
   first | omega | assumption | grind
  refine req_i ?_ ?_
  · -- r39
   first | omega | assumption | grind
  refine req_i ?_ ?_
  · -- r40
   first | omega | ((try simp only [sigOf, cAny, ofPost, List.cons.injEq, DV.b.injEq, and_true, List.length_cons, List.length_nil, dec_iff]); first | done | omega | assumption | grind [getD_set, getD_rep, toNat_succ, cntN_yes, cntN_no])
  rfl
theorem ext_of : ∀ p ∈ ([(29, Ext.ctr (ctOf sigNth)), (28, Ext.ctr (ctOf sigBl))] : List (Nat × Ext)), ExtRow Try.prog p.1 p.2 := by
  intro p hp
  simp only [List.mem_cons, List.not_mem_nil, or_false] at hp
  rcases hp with rfl | rfl
  · trivial
  · trivial
theorem cts_of : CtsOk Try.prog [(29, Ext.ctr (ctOf sigNth)), (28, Ext.ctr (ctOf sigBl))] := ctsOk_of (cs := [(29, sigNth), (28, sigBl)])
  (fun p hp => by
    simp only [List.mem_cons, List.not_mem_nil, or_false] at hp
    rcases hp with rfl | rfl
    · exact fn_nth
    · exact fn_below
)
  (fun f c h => by
    simp only [List.lookup_cons] at h
    repeat' split at h
    all_goals first | (cases h; done) | (rename_i e; have e := beq_iff_eq.1 e; subst e; cases h; refine ⟨_, ?_, rfl⟩; simp))
theorem fn_of : FnOk Try.prog 27 sigOf [] := fn_sound (by kernel_rfl) ext_of cts_of names vt_of
end Go.Proofs.Ytbgooiiihmnnmaa

namespace Go.Proofs.Ytbgooiiihmnnmaa
open Go.Ev Go.Sp
set_option maxRecDepth 100000
theorem vc_check : vcFn Try.prog [] noA [] 100 16 sigChk = (allB fun n0 : Int => 
impB ((-9223372036854775808 : Int) ≤ n0) (
impB (n0 ≤ (9223372036854775807 : Int)) (
allB fun n1 : Int => 
impB ((-9223372036854775808 : Int) ≤ n1) (
impB (n1 ≤ (9223372036854775807 : Int)) (
allB fun b2 : Bool => 
allB fun n3 : Int => 
impB ((-9223372036854775808 : Int) ≤ n3) (
impB (n3 ≤ (9223372036854775807 : Int)) (
allB fun n4 : Int => 
impB ((-9223372036854775808 : Int) ≤ n4) (
impB (n4 ≤ (9223372036854775807 : Int)) (
impB (sigChk.pre [DV.n n0, DV.n n1, DV.b b2, DV.n n3, DV.n n4]) (
bR (dec (n0 < (0 : Int))) (
 reqB (sigChk.post [DV.n n0, DV.n n1, DV.b b2, DV.n n3, DV.n n4] [DV.n (2 : Int)]) (
 true)) (
 bR (dec ((4000 : Int) < n0)) (
 reqB (sigChk.post [DV.n n0, DV.n n1, DV.b b2, DV.n n3, DV.n n4] [DV.n (2 : Int)]) (
 true)) (
 bR (dec (n1 < (1 : Int))) (
 reqB (sigChk.post [DV.n n0, DV.n n1, DV.b b2, DV.n n3, DV.n n4] [DV.n (2 : Int)]) (
 true)) (
 bR (dec ((40 : Int) < n1)) (
 reqB (sigChk.post [DV.n n0, DV.n n1, DV.b b2, DV.n n3, DV.n n4] [DV.n (2 : Int)]) (
 true)) (
 allB fun n5 : Int => 
 impB (n5 = Go.IntKind.i64.wrap (n0 + n1)) (
 impB (Int.negSucc (9223372036854775807 : Nat) ≤ n5) (
 impB (n5 ≤ Int.ofNat (9223372036854775807 : Nat)) (
 bR (dec ((4000 : Int) < n5)) (
 reqB (sigChk.post [DV.n n0, DV.n n1, DV.b b2, DV.n n3, DV.n n4] [DV.n (2 : Int)]) (
 true)) (
 bR (dec (n3 < (1 : Int))) (
 reqB (sigChk.post [DV.n n0, DV.n n1, DV.b b2, DV.n n3, DV.n n4] [DV.n (2 : Int)]) (
 true)) (
 bR (dec ((1000000 : Int) < n3)) (
 reqB (sigChk.post [DV.n n0, DV.n n1, DV.b b2, DV.n n3, DV.n n4] [DV.n (2 : Int)]) (
 true)) (
 bR (dec (n4 < (-1000000000000000 : Int))) (
 reqB (sigChk.post [DV.n n0, DV.n n1, DV.b b2, DV.n n3, DV.n n4] [DV.n (2 : Int)]) (
 true)) (
 bR (dec ((1000000000000000 : Int) < n4)) (
 reqB (sigChk.post [DV.n n0, DV.n n1, DV.b b2, DV.n n3, DV.n n4] [DV.n (2 : Int)]) (
 true)) (
 reqB (sigChk.post [DV.n n0, DV.n n1, DV.b b2, DV.n n3, DV.n n4] [DV.n (0 : Int)]) (
 true))))))))))))))))))))))) := by kernel_rfl
set_option maxHeartbeats 8000000 in
theorem vt_check : vcFn Try.prog [] noA [] 100 16 sigChk = true := by
  rw [vc_check]
  try simp only [Int.toNat_natCast, List.length_set, List.length_replicate, List.length_take, List.length_drop, List.length_append, List.length_cons, List.length_nil, Nat.min_self, List.take_take, lenCols_i, lenCols_b, List.drop_zero, List.take_length, List.take_nil, List.drop_nil, List.take_zero, List.nil_append, Nat.add_eq, Nat.mul_eq, Nat.sub_eq, Nat.zero_add, Nat.add_zero, Nat.sub_zero, Nat.mul_one]
  refine all_i fun n0 => ?_
  refine imp_i fun h0 => ?_
  refine imp_i fun h1 => ?_
  refine all_i fun n1 => ?_
  refine imp_i fun h2 => ?_
  refine imp_i fun h3 => ?_
  refine all_i fun b2 => ?_
  refine all_i fun n3 => ?_
  refine imp_i fun h4 => ?_
  refine imp_i fun h5 => ?_
  refine all_i fun n4 => ?_
  refine imp_i fun h6 => ?_
  refine imp_i fun h7 => ?_
  refine imp_i fun h8 => ?_
  try simp only [sigChk, fV, chkPost, okF, List.cons.injEq, DV.b.injEq, and_true, List.length_cons, List.length_nil] at h8
  refine bR_dec (fun h9 => ?_) (fun h9 => ?_)
  ·
   refine req_i ?_ ?_
   · -- r0
    first | omega | ((try simp only [sigChk, fV, chkPost, okF, List.cons.injEq, DV.b.injEq, and_true, List.length_cons, List.length_nil]); first | done | omega | assumption | grind [getD_set, getD_rep, toNat_succ, cntN_yes, cntN_no])
   rfl
  ·
   refine bR_dec (fun h10 => ?_) (fun h10 => ?_)
   ·
    refine req_i ?_ ?_
    · -- r1
     first | omega | ((try simp only [sigChk, fV, chkPost, okF, List.cons.injEq, DV.b.injEq, and_true, List.length_cons, List.length_nil]); first | done | omega | assumption | grind [getD_set, getD_rep, toNat_succ, cntN_yes, cntN_no])
    rfl
   ·
    refine bR_dec (fun h11 => ?_) (fun h11 => ?_)
    ·
     refine req_i ?_ ?_
     · -- r2
      first | omega | ((try simp only [sigChk, fV, chkPost, okF, List.cons.injEq, DV.b.injEq, and_true, List.length_cons, List.length_nil]); first | done | omega | assumption | grind [getD_set, getD_rep, toNat_succ, cntN_yes, cntN_no])
     rfl
    ·
     refine bR_dec (fun h12 => ?_) (fun h12 => ?_)
     ·
      refine req_i ?_ ?_
      · -- r3
       first | omega | ((try simp only [sigChk, fV, chkPost, okF, List.cons.injEq, DV.b.injEq, and_true, List.length_cons, List.length_nil]); first | done | omega | assumption | grind [getD_set, getD_rep, toNat_succ, cntN_yes, cntN_no])
      rfl
     ·
      refine all_i fun n5 => ?_
      refine imp_i fun h13 => ?_
      simp only [wrap_i64] at h13
      refine imp_i fun h14 => ?_
      refine imp_i fun h15 => ?_
      refine bR_dec (fun h16 => ?_) (fun h16 => ?_)
      ·
       refine req_i ?_ ?_
       · -- r4
        first | omega | ((try simp only [sigChk, fV, chkPost, okF, List.cons.injEq, DV.b.injEq, and_true, List.length_cons, List.length_nil]); first | done | omega | assumption | grind [getD_set, getD_rep, toNat_succ, cntN_yes, cntN_no])
       rfl
      ·
       refine bR_dec (fun h17 => ?_) (fun h17 => ?_)
       ·
        refine req_i ?_ ?_
        · -- r5
         first | omega | ((try simp only [sigChk, fV, chkPost, okF, List.cons.injEq, DV.b.injEq, and_true, List.length_cons, List.length_nil]); first | done | omega | assumption | grind [getD_set, getD_rep, toNat_succ, cntN_yes, cntN_no])
        rfl
       ·
        refine bR_dec (fun h18 => ?_) (fun h18 => ?_)
        ·
         refine req_i ?_ ?_
         · -- r6
          first | omega | ((try simp only [sigChk, fV, chkPost, okF, List.cons.injEq, DV.b.injEq, and_true, List.length_cons, List.length_nil]); first | done | omega | assumption | grind [getD_set, getD_rep, toNat_succ, cntN_yes, cntN_no])
         rfl
        ·
         refine bR_dec (fun h19 => ?_) (fun h19 => ?_)
         ·
          refine req_i ?_ ?_
          · -- r7
           first | omega | ((try simp only [sigChk, fV, chkPost, okF, List.cons.injEq, DV.b.injEq, and_true, List.length_cons, List.length_nil]); first | done | omega | assumption | grind [getD_set, getD_rep, toNat_succ, cntN_yes, cntN_no])
          rfl
         ·
          refine bR_dec (fun h20 => ?_) (fun h20 => ?_)
          ·
           refine req_i ?_ ?_
           · -- r8
            first | omega | ((try simp only [sigChk, fV, chkPost, okF, List.cons.injEq, DV.b.injEq, and_true, List.length_cons, List.length_nil]); first | done | omega | assumption | grind [getD_set, getD_rep, toNat_succ, cntN_yes, cntN_no])
           rfl
          ·
           refine req_i ?_ ?_
           · -- r9
            first | omega | ((try simp only [sigChk, fV, chkPost, okF, List.cons.injEq, DV.b.injEq, and_true, List.length_cons, List.length_nil]); first | done | omega | assumption | grind [getD_set, getD_rep, toNat_succ, cntN_yes, cntN_no])
           rfl
theorem ext_check : ∀ p ∈ ([] : List (Nat × Ext)), ExtRow Try.prog p.1 p.2 := by
  intro p hp
  cases hp
theorem cts_check : CtsOk Try.prog [] := fun f c h => by cases h
theorem fn_check : FnOk Try.prog 16 sigChk [] := fn_sound (by kernel_rfl) ext_check cts_check names vt_check
end Go.Proofs.Ytbgooiiihmnnmaa

namespace Go.Proofs.Ytbgooiiihmnnmaa
open Go.Ev Go.Sp
set_option maxRecDepth 100000
theorem vc_rl : vcFn Try.prog [] noA [] 100 31 sigRl = (allB fun n0 : Int => 
impB ((0 : Int) ≤ n0) (
impB (n0 ≤ (4000 : Int)) (
allB fun n1 : Int => 
impB ((1 : Int) ≤ n1) (
impB (n1 ≤ (40 : Int)) (
allB fun b2 : Bool => 
allB fun n3 : Int => 
impB ((1 : Int) ≤ n3) (
impB (n3 ≤ (1000000 : Int)) (
allB fun n4 : Int => 
impB ((-1000000000000000 : Int) ≤ n4) (
impB (n4 ≤ (1000000000000000 : Int)) (
impB (sigRl.pre [DV.n n0, DV.n n1, DV.b b2, DV.n n3, DV.n n4]) (
bR (b2) (
 reqB ((-549755813888 : Int) ≤ opI (SO.shl Go.IntKind.i64) (-1 : Int) (n1 - (1 : Int))) (
 reqB (opI (SO.shl Go.IntKind.i64) (-1 : Int) (n1 - (1 : Int)) ≤ (0 : Int)) (
 reqB ((0 : Int) ≤ opI (SO.shl Go.IntKind.i64) (1 : Int) (n1 - (1 : Int)) - (1 : Int)) (
 reqB (opI (SO.shl Go.IntKind.i64) (1 : Int) (n1 - (1 : Int)) - (1 : Int) ≤ (1099511627775 : Int)) (
 reqB (sigRl.post [DV.n n0, DV.n n1, DV.b b2, DV.n n3, DV.n n4]
 [DV.n (opI (SO.shl Go.IntKind.i64) (-1 : Int) (n1 - (1 : Int))),
 DV.n (opI (SO.shl Go.IntKind.i64) (1 : Int) (n1 - (1 : Int)) - (1 : Int))]) (
 true)))))) (
 reqB ((0 : Int) ≤ opI (SO.shl Go.IntKind.i64) (1 : Int) n1 - (1 : Int)) (
 reqB (opI (SO.shl Go.IntKind.i64) (1 : Int) n1 - (1 : Int) ≤ (1099511627775 : Int)) (
 reqB (sigRl.post [DV.n n0, DV.n n1, DV.b b2, DV.n n3, DV.n n4]
 [DV.n (0 : Int), DV.n (opI (SO.shl Go.IntKind.i64) (1 : Int) n1 - (1 : Int))]) (
 true)))))))))))))) := by kernel_rfl
set_option maxHeartbeats 8000000 in
theorem vt_rl : vcFn Try.prog [] noA [] 100 31 sigRl = true := by
  rw [vc_rl]
  try simp only [Int.toNat_natCast, List.length_set, List.length_replicate, List.length_take, List.length_drop, List.length_append, List.length_cons, List.length_nil, Nat.min_self, List.take_take, lenCols_i, lenCols_b, List.drop_zero, List.take_length, List.take_nil, List.drop_nil, List.take_zero, List.nil_append, Nat.add_eq, Nat.mul_eq, Nat.sub_eq, Nat.zero_add, Nat.add_zero, Nat.sub_zero, Nat.mul_one]
  refine all_i fun n0 => ?_
  refine imp_i fun h0 => ?_
  refine imp_i fun h1 => ?_
  refine all_i fun n1 => ?_
  refine imp_i fun h2 => ?_
  refine imp_i fun h3 => ?_
  refine all_i fun b2 => ?_
  refine all_i fun n3 => ?_
  refine imp_i fun h4 => ?_
  refine imp_i fun h5 => ?_
  refine all_i fun n4 => ?_
  refine imp_i fun h6 => ?_
  refine imp_i fun h7 => ?_
  refine imp_i fun h8 => ?_
  try simp only [sigRl, gV, rlPost, List.cons.injEq, DV.b.injEq, and_true, List.length_cons, List.length_nil] at h8
  have pb := p2_b h2 h3
  have s1 := shl_one (n := n1 - 1) (by omega) (by omega)
  have s2 := shl_one (n := n1) (by omega) (by omega)
  have s3 := shl_eq (a := -1) (n := n1 - 1) (by omega) (by omega) (by omega) (by omega)
  refine bR_i (fun h9 => ?_) (fun h9 => ?_)
  ·
   have lt : loR b2 n1 = -p2 (n1 - 1) := by rw [h9]; rfl
   have ht : hiR b2 n1 = p2 (n1 - 1) - 1 := by rw [h9]; rfl
   refine req_i ?_ ?_
   · -- r0
    first | omega | assumption | grind
   refine req_i ?_ ?_
   · -- r1
    first | omega | assumption | grind
   refine req_i ?_ ?_
   · -- r2
    first | omega | assumption | grind
   refine req_i ?_ ?_
   · -- r3
    first | omega | assumption | grind
   refine req_i ?_ ?_
   · -- r4
    exact ⟨by omega, by omega⟩
   rfl
  ·
   have h9 : b2 = false := by simpa using h9
   have lt : loR b2 n1 = 0 := by rw [h9]; rfl
   have ht : hiR b2 n1 = p2 n1 - 1 := by rw [h9]; rfl
   refine req_i ?_ ?_
   · -- r5
    first | omega | assumption | grind
   refine req_i ?_ ?_
   · -- r6
    first | omega | assumption | grind
   refine req_i ?_ ?_
   · -- r7
    exact ⟨by omega, by omega⟩
   rfl
theorem ext_rl : ∀ p ∈ ([] : List (Nat × Ext)), ExtRow Try.prog p.1 p.2 := by
  intro p hp
  cases hp
theorem cts_rl : CtsOk Try.prog [] := fun f c h => by cases h
theorem fn_rl : FnOk Try.prog 31 sigRl [] := fn_sound (by kernel_rfl) ext_rl cts_rl names vt_rl
end Go.Proofs.Ytbgooiiihmnnmaa

namespace Go.Proofs.Ytbgooiiihmnnmaa
open Go.Ev Go.Sp
set_option maxRecDepth 100000
theorem vc_vl : vcFn Try.prog [] noA [] 100 32 sigVl = (allB fun n0 : Int => 
impB ((0 : Int) ≤ n0) (
impB (n0 ≤ (4000 : Int)) (
allB fun n1 : Int => 
impB ((1 : Int) ≤ n1) (
impB (n1 ≤ (40 : Int)) (
allB fun b2 : Bool => 
allB fun n3 : Int => 
impB ((1 : Int) ≤ n3) (
impB (n3 ≤ (1000000 : Int)) (
allB fun n4 : Int => 
impB ((-1000000000000000 : Int) ≤ n4) (
impB (n4 ≤ (1000000000000000 : Int)) (
allB fun n5 : Int => 
impB ((-549755813888 : Int) ≤ n5) (
impB (n5 ≤ (1099511627775 : Int)) (
impB (sigVl.pre [DV.n n0, DV.n n1, DV.b b2, DV.n n3, DV.n n4, DV.n n5]) (
reqB ((-1200000000000000000 : Int) ≤ n4 + n5 * n3) (
reqB (n4 + n5 * n3 ≤ (1200000000000000000 : Int)) (
reqB (sigVl.post [DV.n n0, DV.n n1, DV.b b2, DV.n n3, DV.n n4, DV.n n5]
 [DV.n (n4 + n5 * n3)]) (
true))))))))))))))) := by kernel_rfl
set_option maxHeartbeats 8000000 in
theorem vt_vl : vcFn Try.prog [] noA [] 100 32 sigVl = true := by
  rw [vc_vl]
  try simp only [Int.toNat_natCast, List.length_set, List.length_replicate, List.length_take, List.length_drop, List.length_append, List.length_cons, List.length_nil, Nat.min_self, List.take_take, lenCols_i, lenCols_b, List.drop_zero, List.take_length, List.take_nil, List.drop_nil, List.take_zero, List.nil_append, Nat.add_eq, Nat.mul_eq, Nat.sub_eq, Nat.zero_add, Nat.add_zero, Nat.sub_zero, Nat.mul_one]
  refine all_i fun n0 => ?_
  refine imp_i fun h0 => ?_
  refine imp_i fun h1 => ?_
  refine all_i fun n1 => ?_
  refine imp_i fun h2 => ?_
  refine imp_i fun h3 => ?_
  refine all_i fun b2 => ?_
  refine all_i fun n3 => ?_
  refine imp_i fun h4 => ?_
  refine imp_i fun h5 => ?_
  refine all_i fun n4 => ?_
  refine imp_i fun h6 => ?_
  refine imp_i fun h7 => ?_
  refine all_i fun n5 => ?_
  refine imp_i fun h8 => ?_
  refine imp_i fun h9 => ?_
  refine imp_i fun h10 => ?_
  try simp only [sigVl, gV, vlPost, List.cons.injEq, DV.b.injEq, and_true, List.length_cons, List.length_nil] at h10
  have vb := vl_bd h8 h9 h4 h5
  refine req_i ?_ ?_
  · -- r0
   first | omega | assumption | grind
  refine req_i ?_ ?_
  · -- r1
   first | omega | assumption | grind
  refine req_i ?_ ?_
  · -- r2
   first | omega | ((try simp only [sigVl, gV, vlPost, List.cons.injEq, DV.b.injEq, and_true, List.length_cons, List.length_nil]); first | done | omega | assumption | grind [getD_set, getD_rep, toNat_succ, cntN_yes, cntN_no])
  rfl
theorem ext_vl : ∀ p ∈ ([] : List (Nat × Ext)), ExtRow Try.prog p.1 p.2 := by
  intro p hp
  cases hp
theorem cts_vl : CtsOk Try.prog [] := fun f c h => by cases h
theorem fn_vl : FnOk Try.prog 32 sigVl [] := fn_sound (by kernel_rfl) ext_vl cts_vl names vt_vl
end Go.Proofs.Ytbgooiiihmnnmaa

namespace Go.Proofs.Ytbgooiiihmnnmaa
open Go.Ev Go.Sp
set_option maxRecDepth 100000
theorem vc_lim : vcFn Try.prog [(16, Ext.ctr (ctOf sigChk)), (31, Ext.ctr (ctOf sigRl)), (32, Ext.ctr (ctOf sigVl))] noA [] 100 10 sigLim = (allB fun n0 : Int => 
impB ((-9223372036854775808 : Int) ≤ n0) (
impB (n0 ≤ (9223372036854775807 : Int)) (
allB fun n1 : Int => 
impB ((-9223372036854775808 : Int) ≤ n1) (
impB (n1 ≤ (9223372036854775807 : Int)) (
allB fun b2 : Bool => 
allB fun n3 : Int => 
impB ((-9223372036854775808 : Int) ≤ n3) (
impB (n3 ≤ (9223372036854775807 : Int)) (
allB fun n4 : Int => 
impB ((-9223372036854775808 : Int) ≤ n4) (
impB (n4 ≤ (9223372036854775807 : Int)) (
impB (sigLim.pre [DV.n n0, DV.n n1, DV.b b2, DV.n n3, DV.n n4]) (
reqB ((-9223372036854775808 : Int) ≤ n0) (
reqB (n0 ≤ (9223372036854775807 : Int)) (
reqB ((-9223372036854775808 : Int) ≤ n1) (
reqB (n1 ≤ (9223372036854775807 : Int)) (
reqB ((-9223372036854775808 : Int) ≤ n3) (
reqB (n3 ≤ (9223372036854775807 : Int)) (
reqB ((-9223372036854775808 : Int) ≤ n4) (
reqB (n4 ≤ (9223372036854775807 : Int)) (
reqB (sigChk.pre [DV.n n0, DV.n n1, DV.b b2, DV.n n3, DV.n n4]) (
allB fun n5 : Int => 
impB ((0 : Int) ≤ n5) (
impB (n5 ≤ (18 : Int)) (
impB (sigChk.post [DV.n n0, DV.n n1, DV.b b2, DV.n n3, DV.n n4] [DV.n n5]) (
bR (dec (n5 ≠ (0 : Int))) (
 reqB ((0 : Int) ≤ n5) (
 reqB (n5 ≤ (18 : Int)) (
 reqB (sigLim.post [DV.n n0, DV.n n1, DV.b b2, DV.n n3, DV.n n4]
 [DV.n (0 : Int), DV.n (0 : Int), DV.n n5]) (
 true)))) (
 reqB ((0 : Int) ≤ n0) (
 reqB (n0 ≤ (4000 : Int)) (
 reqB ((1 : Int) ≤ n1) (
 reqB (n1 ≤ (40 : Int)) (
 reqB ((1 : Int) ≤ n3) (
 reqB (n3 ≤ (1000000 : Int)) (
 reqB ((-1000000000000000 : Int) ≤ n4) (
 reqB (n4 ≤ (1000000000000000 : Int)) (
 reqB (sigRl.pre [DV.n n0, DV.n n1, DV.b b2, DV.n n3, DV.n n4]) (
 allB fun n6 : Int => 
 impB ((-549755813888 : Int) ≤ n6) (
 impB (n6 ≤ (0 : Int)) (
 allB fun n7 : Int => 
 impB ((0 : Int) ≤ n7) (
 impB (n7 ≤ (1099511627775 : Int)) (
 impB (sigRl.post [DV.n n0, DV.n n1, DV.b b2, DV.n n3, DV.n n4]
 [DV.n n6, DV.n n7]) (
 reqB ((0 : Int) ≤ n0) (
 reqB (n0 ≤ (4000 : Int)) (
 reqB ((1 : Int) ≤ n1) (
 reqB (n1 ≤ (40 : Int)) (
 reqB ((1 : Int) ≤ n3) (
 reqB (n3 ≤ (1000000 : Int)) (
 reqB ((-1000000000000000 : Int) ≤ n4) (
 reqB (n4 ≤ (1000000000000000 : Int)) (
 reqB ((-549755813888 : Int) ≤ n6) (
 reqB (n6 ≤ (1099511627775 : Int)) (
 reqB (sigVl.pre [DV.n n0, DV.n n1, DV.b b2, DV.n n3, DV.n n4, DV.n n6]) (
 allB fun n8 : Int => 
 impB ((-1200000000000000000 : Int) ≤ n8) (
 impB (n8 ≤ (1200000000000000000 : Int)) (
 impB (sigVl.post [DV.n n0, DV.n n1, DV.b b2, DV.n n3, DV.n n4, DV.n n6]
 [DV.n n8]) (
 reqB ((0 : Int) ≤ n0) (
 reqB (n0 ≤ (4000 : Int)) (
 reqB ((1 : Int) ≤ n1) (
 reqB (n1 ≤ (40 : Int)) (
 reqB ((1 : Int) ≤ n3) (
 reqB (n3 ≤ (1000000 : Int)) (
 reqB ((-1000000000000000 : Int) ≤ n4) (
 reqB (n4 ≤ (1000000000000000 : Int)) (
 reqB ((-549755813888 : Int) ≤ n7) (
 reqB (n7 ≤ (1099511627775 : Int)) (
 reqB (sigVl.pre [DV.n n0, DV.n n1, DV.b b2, DV.n n3, DV.n n4, DV.n n7]) (
 allB fun n9 : Int => 
 impB ((-1200000000000000000 : Int) ≤ n9) (
 impB (n9 ≤ (1200000000000000000 : Int)) (
 impB (sigVl.post [DV.n n0, DV.n n1, DV.b b2, DV.n n3, DV.n n4, DV.n n7]
 [DV.n n9]) (
 reqB ((-1200000000000000000 : Int) ≤ n8) (
 reqB (n8 ≤ (1200000000000000000 : Int)) (
 reqB ((-1200000000000000000 : Int) ≤ n9) (
 reqB (n9 ≤ (1200000000000000000 : Int)) (
 reqB (sigLim.post [DV.n n0, DV.n n1, DV.b b2, DV.n n3, DV.n n4]
 [DV.n n8, DV.n n9, DV.n (0 : Int)]) (
 true)))))))))))))))))))))))))))))))))))))))))))))))))))))))))))))))))))))) := by kernel_rfl
set_option maxHeartbeats 8000000 in
theorem vt_lim : vcFn Try.prog [(16, Ext.ctr (ctOf sigChk)), (31, Ext.ctr (ctOf sigRl)), (32, Ext.ctr (ctOf sigVl))] noA [] 100 10 sigLim = true := by
  rw [vc_lim]
  try simp only [Int.toNat_natCast, List.length_set, List.length_replicate, List.length_take, List.length_drop, List.length_append, List.length_cons, List.length_nil, Nat.min_self, List.take_take, lenCols_i, lenCols_b, List.drop_zero, List.take_length, List.take_nil, List.drop_nil, List.take_zero, List.nil_append, Nat.add_eq, Nat.mul_eq, Nat.sub_eq, Nat.zero_add, Nat.add_zero, Nat.sub_zero, Nat.mul_one]
  refine all_i fun n0 => ?_
  refine imp_i fun h0 => ?_
  refine imp_i fun h1 => ?_
  refine all_i fun n1 => ?_
  refine imp_i fun h2 => ?_
  refine imp_i fun h3 => ?_
  refine all_i fun b2 => ?_
  refine all_i fun n3 => ?_
  refine imp_i fun h4 => ?_
  refine imp_i fun h5 => ?_
  refine all_i fun n4 => ?_
  refine imp_i fun h6 => ?_
  refine imp_i fun h7 => ?_
  refine imp_i fun h8 => ?_
  try simp only [sigLim, fV, lB, limPost, okF, List.cons.injEq, DV.b.injEq, and_true, List.length_cons, List.length_nil] at h8
  refine req_i ?_ ?_
  · -- r0
   first | omega | assumption | grind
  refine req_i ?_ ?_
  · -- r1
   first | omega | assumption | grind
  refine req_i ?_ ?_
  · -- r2
   first | omega | assumption | grind
  refine req_i ?_ ?_
  · -- r3
   first | omega | assumption | grind
  refine req_i ?_ ?_
  · -- r4
   first | omega | assumption | grind
  refine req_i ?_ ?_
  · -- r5
   first | omega | assumption | grind
  refine req_i ?_ ?_
  · -- r6
   first | omega | assumption | grind
  refine req_i ?_ ?_
  · -- r7
   first | omega | assumption | grind
  refine req_i ?_ ?_
  · -- r8
   first | trivial | assumption | (simp only [sigChk, fV, chkPost, okF, List.cons.injEq, DV.b.injEq, and_true, List.length_cons, List.length_nil]; done) | ((try simp only [sigChk, fV, chkPost, okF, List.cons.injEq, DV.b.injEq, and_true, List.length_cons, List.length_nil]); first | omega | assumption | grind)
  refine all_i fun n5 => ?_
  refine imp_i fun h9 => ?_
  refine imp_i fun h10 => ?_
  refine imp_i fun h11 => ?_
  try simp only [sigChk, fV, chkPost, okF, List.cons.injEq, DV.b.injEq, and_true, List.length_cons, List.length_nil] at h11
  refine bR_dec (fun h12 => ?_) (fun h12 => ?_)
  ·
   refine req_i ?_ ?_
   · -- r9
    first | omega | assumption | grind
   refine req_i ?_ ?_
   · -- r10
    first | omega | assumption | grind
   refine req_i ?_ ?_
   · -- r11
    first | omega | ((try simp only [sigLim, fV, lB, limPost, okF, List.cons.injEq, DV.b.injEq, and_true, List.length_cons, List.length_nil]); first | done | omega | assumption | grind [getD_set, getD_rep, toNat_succ, cntN_yes, cntN_no])
   rfl
  ·
   refine req_i ?_ ?_
   · -- r12
    first | omega | assumption | grind
   refine req_i ?_ ?_
   · -- r13
    first | omega | assumption | grind
   refine req_i ?_ ?_
   · -- r14
    first | omega | assumption | grind
   refine req_i ?_ ?_
   · -- r15
    first | omega | assumption | grind
   refine req_i ?_ ?_
   · -- r16
    first | omega | assumption | grind
   refine req_i ?_ ?_
   · -- r17
    first | omega | assumption | grind
   refine req_i ?_ ?_
   · -- r18
    first | omega | assumption | grind
   refine req_i ?_ ?_
   · -- r19
    first | omega | assumption | grind
   refine req_i ?_ ?_
   · -- r20
    first | trivial | assumption | (simp only [sigRl, gV, rlPost, List.cons.injEq, DV.b.injEq, and_true, List.length_cons, List.length_nil]; done) | ((try simp only [sigRl, gV, rlPost, List.cons.injEq, DV.b.injEq, and_true, List.length_cons, List.length_nil]); first | omega | assumption | grind)
   refine all_i fun n6 => ?_
   refine imp_i fun h13 => ?_
   refine imp_i fun h14 => ?_
   refine all_i fun n7 => ?_
   refine imp_i fun h15 => ?_
   refine imp_i fun h16 => ?_
   refine imp_i fun h17 => ?_
   try simp only [sigRl, gV, rlPost, List.cons.injEq, DV.b.injEq, and_true, List.length_cons, List.length_nil] at h17
   refine req_i ?_ ?_
   · -- r21
    first | omega | assumption | grind
   refine req_i ?_ ?_
   · -- r22
    first | omega | assumption | grind
   refine req_i ?_ ?_
   · -- r23
    first | omega | assumption | grind
   refine req_i ?_ ?_
   · -- r24
    first | omega | assumption | grind
   refine req_i ?_ ?_
   · -- r25
    first | omega | assumption | grind
   refine req_i ?_ ?_
   · -- r26
    first | omega | assumption | grind
   refine req_i ?_ ?_
   · -- r27
    first | omega | assumption | grind
   refine req_i ?_ ?_
   · -- r28
    first | omega | assumption | grind
   refine req_i ?_ ?_
   · -- r29
    first | omega | assumption | grind
   refine req_i ?_ ?_
   · -- r30
    first | omega | assumption | grind
   refine req_i ?_ ?_
   · -- r31
    first | trivial | assumption | (simp only [sigVl, gV, vlPost, List.cons.injEq, DV.b.injEq, and_true, List.length_cons, List.length_nil]; done) | ((try simp only [sigVl, gV, vlPost, List.cons.injEq, DV.b.injEq, and_true, List.length_cons, List.length_nil]); first | omega | assumption | grind)
   refine all_i fun n8 => ?_
   refine imp_i fun h18 => ?_
   refine imp_i fun h19 => ?_
   refine imp_i fun h20 => ?_
   try simp only [sigVl, gV, vlPost, List.cons.injEq, DV.b.injEq, and_true, List.length_cons, List.length_nil] at h20
   refine req_i ?_ ?_
   · -- r32
    first | omega | assumption | grind
   refine req_i ?_ ?_
   · -- r33
    first | omega | assumption | grind
   refine req_i ?_ ?_
   · -- r34
    first | omega | assumption | grind
   refine req_i ?_ ?_
   · -- r35
    first | omega | assumption | grind
   refine req_i ?_ ?_
   · -- r36
    first | omega | assumption | grind
   refine req_i ?_ ?_
   · -- r37
    first | omega | assumption | grind
   refine req_i ?_ ?_
   · -- r38
    first | omega | assumption | grind
   refine req_i ?_ ?_
   · -- r39
    first | omega | assumption | grind
   refine req_i ?_ ?_
   · -- r40
    first | omega | assumption | grind
   refine req_i ?_ ?_
   · -- r41
    first | omega | assumption | grind
   refine req_i ?_ ?_
   · -- r42
    first | trivial | assumption | (simp only [sigVl, gV, vlPost, List.cons.injEq, DV.b.injEq, and_true, List.length_cons, List.length_nil]; done) | ((try simp only [sigVl, gV, vlPost, List.cons.injEq, DV.b.injEq, and_true, List.length_cons, List.length_nil]); first | omega | assumption | grind)
   refine all_i fun n9 => ?_
   refine imp_i fun h21 => ?_
   refine imp_i fun h22 => ?_
   refine imp_i fun h23 => ?_
   try simp only [sigVl, gV, vlPost, List.cons.injEq, DV.b.injEq, and_true, List.length_cons, List.length_nil] at h23
   refine req_i ?_ ?_
   · -- r43
    first | omega | assumption | grind
   refine req_i ?_ ?_
   · -- r44
    first | omega | assumption | grind
   refine req_i ?_ ?_
   · -- r45
    first | omega | assumption | grind
   refine req_i ?_ ?_
   · -- r46
    first | omega | assumption | grind
   refine req_i ?_ ?_
   · -- r47
    first | omega | ((try simp only [sigLim, fV, lB, limPost, okF, List.cons.injEq, DV.b.injEq, and_true, List.length_cons, List.length_nil]); first | done | omega | assumption | grind [getD_set, getD_rep, toNat_succ, cntN_yes, cntN_no])
   rfl
theorem ext_lim : ∀ p ∈ ([(16, Ext.ctr (ctOf sigChk)), (31, Ext.ctr (ctOf sigRl)), (32, Ext.ctr (ctOf sigVl))] : List (Nat × Ext)), ExtRow Try.prog p.1 p.2 := by
  intro p hp
  simp only [List.mem_cons, List.not_mem_nil, or_false] at hp
  rcases hp with rfl | rfl | rfl
  · trivial
  · trivial
  · trivial
theorem cts_lim : CtsOk Try.prog [(16, Ext.ctr (ctOf sigChk)), (31, Ext.ctr (ctOf sigRl)), (32, Ext.ctr (ctOf sigVl))] := ctsOk_of (cs := [(16, sigChk), (31, sigRl), (32, sigVl)])
  (fun p hp => by
    simp only [List.mem_cons, List.not_mem_nil, or_false] at hp
    rcases hp with rfl | rfl | rfl
    · exact fn_check
    · exact fn_rl
    · exact fn_vl
)
  (fun f c h => by
    simp only [List.lookup_cons] at h
    repeat' split at h
    all_goals first | (cases h; done) | (rename_i e; have e := beq_iff_eq.1 e; subst e; cases h; refine ⟨_, ?_, rfl⟩; simp))
theorem fn_lim : FnOk Try.prog 10 sigLim [] := fn_sound (by kernel_rfl) ext_lim cts_lim names vt_lim
end Go.Proofs.Ytbgooiiihmnnmaa

namespace Go.Proofs.Ytbgooiiihmnnmaa
open Go.Ev Go.Sp
set_option maxRecDepth 100000
theorem vc_coins : vcFn Try.prog [(28, Ext.ctr (ctOf sigBl))] (fun f p _ => at2 f p 30 58 coL (none)) [] 100 30 sigCo = (allB fun l0 : List Int => 
impB (l0.length ≤ (9223372036854775807 : Nat)) (
impB (∀ (y : Int), y ∈ l0 → (-9223372036854775808 : Int) ≤ y ∧ y ≤ (9223372036854775807 : Int)) (
allB fun n1 : Int => 
impB ((1 : Int) ≤ n1) (
impB (n1 ≤ (200 : Int)) (
impB (sigCo.pre [DV.l l0, DV.n n1]) (
reqB (n1.toNat ≤ n1.toNat) (
reqB (n1.toNat ≤ (1000000 : Nat)) (
reqB ((1 : Int) ≤ n1) (
reqB (n1 ≤ (200 : Int)) (
reqB (lenCols
 [Col.i Go.IntKind.i64 (Int.negSucc (9223372036854775807 : Nat)) (Int.ofNat (9223372036854775807 : Nat))
 (List.replicate n1.toNat (0 : Int))] ≤
 (200 : Nat)) (
reqB ((List.replicate n1.toNat (0 : Int)).length =
 lenCols
 [Col.i Go.IntKind.i64 (Int.negSucc (9223372036854775807 : Nat)) (Int.ofNat (9223372036854775807 : Nat))
 (List.replicate n1.toNat (0 : Int))]) (
reqB (∀ (y : Int), y ∈ List.replicate n1.toNat (0 : Int) → (0 : Int) ≤ y ∧ y ≤ (1 : Int)) (
reqB (coL.inv [DV.n n1] [DV.n (0 : Int), DV.l (List.replicate n1.toNat (0 : Int))]) (
allB fun n2 : Int => 
impB ((0 : Int) ≤ n2) (
impB (n2 ≤ (200 : Int)) (
allB fun l3 : List Int => 
impB (l3.length ≤ (200 : Nat)) (
impB (∀ (y : Int), y ∈ l3 → (0 : Int) ≤ y ∧ y ≤ (1 : Int)) (
impB (coL.inv [DV.n n1] [DV.n n2, DV.l l3]) (
bR (dec (n2 < n1)) (
 bR (dec ((0 : Int) < (↑l0.length : Int))) (
 reqB ((↑l0.length : Int) ≠ (0 : Int)) (
 reqB ((n2.tmod (↑l0.length : Int)).toNat < l0.length) (
 reqB (Nat.add (0 : Nat) (n2.tmod (↑l0.length : Int)).toNat < l0.length) (
 reqB ((↑l0.length : Int) ≠ (0 : Int)) (
 allB fun n4 : Int => 
 impB (n4 = Go.IntKind.i64.wrap (n2.tdiv (↑l0.length : Int))) (
 impB (Int.negSucc (9223372036854775807 : Nat) ≤ n4) (
 impB (n4 ≤ Int.ofNat (9223372036854775807 : Nat)) (
 allB fun n5 : Int => 
 impB (n5 = Go.IntKind.u64.wrap (n4.tmod (20 : Int))) (
 impB (Int.ofNat (0 : Nat) ≤ n5) (
 impB (n5 ≤ Int.ofNat (18446744073709551615 : Nat)) (
 reqB ((-9223372036854775808 : Int) ≤
 opI (SO.shr Go.IntKind.i64) (l0.getD (Nat.add (0 : Nat) (n2.tmod (↑l0.length : Int)).toNat) (0 : Int)) n5) (
 reqB (opI (SO.shr Go.IntKind.i64) (l0.getD (Nat.add (0 : Nat) (n2.tmod (↑l0.length : Int)).toNat) (0 : Int)) n5 ≤
 (9223372036854775807 : Int)) (
 reqB (sigBl.pre
 [DV.n
 (opI (SO.shr Go.IntKind.i64)
 (l0.getD (Nat.add (0 : Nat) (n2.tmod (↑l0.length : Int)).toNat) (0 : Int)) n5),
 DV.n (2 : Int)]) (
 allB fun n6 : Int => 
 impB ((0 : Int) ≤ n6) (
 impB (n6 ≤ (4000000000000000000 : Int)) (
 impB (sigBl.post
 [DV.n
 (opI (SO.shr Go.IntKind.i64)
 (l0.getD (Nat.add (0 : Nat) (n2.tmod (↑l0.length : Int)).toNat) (0 : Int)) n5),
 DV.n (2 : Int)]
 [DV.n n6]) (
 reqB (n2.toNat < n1.toNat) (
 reqB ((0 : Int) ≤ n6 ∧ n6 ≤ (1 : Int)) (
 reqB (Nat.add (0 : Nat) n2.toNat < l3.length) (
 bR (bR (bR (dec ((0 : Nat) = (0 : Nat))) (
 dec (l0.length = l0.length)) (
 false)) (
 bR (dec (n1 = n1)) (
 bR (bR (dec ((0 : Nat) = (0 : Nat))) (
 dec (n1.toNat = n1.toNat)) (
 false)) (
 true) (
 false)) (
 false)) (
 false)) (
 reqB ((0 : Int) ≤ n2 + (1 : Int)) (
 reqB (n2 + (1 : Int) ≤ (200 : Int)) (
 reqB (lenCols [Col.i Go.IntKind.i64 (0 : Int) (1 : Int) (l3.set (Nat.add (0 : Nat) n2.toNat) n6)] ≤ (200 : Nat)) (
 reqB ((l3.set (Nat.add (0 : Nat) n2.toNat) n6).length =
 lenCols [Col.i Go.IntKind.i64 (0 : Int) (1 : Int) (l3.set (Nat.add (0 : Nat) n2.toNat) n6)]) (
 reqB (∀ (y : Int), y ∈ l3.set (Nat.add (0 : Nat) n2.toNat) n6 → (0 : Int) ≤ y ∧ y ≤ (1 : Int)) (
 reqB (coL.inv [DV.n n1] [DV.n (n2 + (1 : Int)), DV.l (l3.set (Nat.add (0 : Nat) n2.toNat) n6)]) (
 reqB (coL.mea [DV.n n1] [DV.n (n2 + (1 : Int)), DV.l (l3.set (Nat.add (0 : Nat) n2.toNat) n6)] <
 coL.mea [DV.n n1] [DV.n n2, DV.l l3]) (
 true)))))))) (
 false))))))))))))))))))))) (
 bR (bR (bR (dec ((0 : Nat) = (0 : Nat))) (
 dec (l0.length = l0.length)) (
 false)) (
 bR (dec (n1 = n1)) (
 bR (bR (dec ((0 : Nat) = (0 : Nat))) (
 dec (n1.toNat = n1.toNat)) (
 false)) (
 true) (
 false)) (
 false)) (
 false)) (
 reqB ((0 : Int) ≤ n2 + (1 : Int)) (
 reqB (n2 + (1 : Int) ≤ (200 : Int)) (
 reqB (lenCols [Col.i Go.IntKind.i64 (0 : Int) (1 : Int) l3] ≤ (200 : Nat)) (
 reqB (l3.length = lenCols [Col.i Go.IntKind.i64 (0 : Int) (1 : Int) l3]) (
 reqB (∀ (y : Int), y ∈ l3 → (0 : Int) ≤ y ∧ y ≤ (1 : Int)) (
 reqB (coL.inv [DV.n n1] [DV.n (n2 + (1 : Int)), DV.l l3]) (
 reqB (coL.mea [DV.n n1] [DV.n (n2 + (1 : Int)), DV.l l3] <
 coL.mea [DV.n n1] [DV.n n2, DV.l l3]) (
 true)))))))) (
 false))) (
 reqB (((0 : Nat) + n1.toNat) * (1 : Nat) ≤ l3.length.mul (1 : Nat)) (
 reqB (n1.toNat ≤ (200 : Nat)) (
 reqB ((List.take n1.toNat (List.drop (0 : Nat) l3)).length = n1.toNat) (
 reqB (∀ (y : Int), y ∈ List.take n1.toNat (List.drop (0 : Nat) l3) → (0 : Int) ≤ y ∧ y ≤ (1 : Int)) (
 reqB (sigCo.post [DV.l l0, DV.n n1] [DV.l (List.take n1.toNat (List.drop (0 : Nat) l3))]) (
 true))))))))))))))))))))))))) := by kernel_rfl
set_option maxHeartbeats 8000000 in
theorem vt_coins : vcFn Try.prog [(28, Ext.ctr (ctOf sigBl))] (fun f p _ => at2 f p 30 58 coL (none)) [] 100 30 sigCo = true := by
  rw [vc_coins]
  try simp only [Int.toNat_natCast, List.length_set, List.length_replicate, List.length_take, List.length_drop, List.length_append, List.length_cons, List.length_nil, Nat.min_self, List.take_take, lenCols_i, lenCols_b, List.drop_zero, List.take_length, List.take_nil, List.drop_nil, List.take_zero, List.nil_append, Nat.add_eq, Nat.mul_eq, Nat.sub_eq, Nat.zero_add, Nat.add_zero, Nat.sub_zero, Nat.mul_one]
  refine all_i fun l0 => ?_
  refine imp_i fun h0 => ?_
  refine imp_i fun h1 => ?_
  refine all_i fun n1 => ?_
  refine imp_i fun h2 => ?_
  refine imp_i fun h3 => ?_
  refine imp_i fun h4 => ?_
  try simp only [sigCo, cAny, cB, coPost, List.cons.injEq, DV.b.injEq, and_true, List.length_cons, List.length_nil] at h4
  refine req_i ?_ ?_
  · -- r0
   first | omega | assumption | grind
  refine req_i ?_ ?_
  · -- r1
   first | omega | assumption | grind
  refine req_i ?_ ?_
  · -- r2
   first | omega | assumption | grind
  refine req_i ?_ ?_
  · -- r3
   first | omega | assumption | grind
  refine req_i ?_ ?_
  · -- r4
   first | omega | ((try simp only [Int.toNat_natCast, List.length_replicate, List.length_cons, List.length_nil, lenCols_i, lenCols_b]); first | done | omega | assumption | grind [getD_set, getD_rep, toNat_succ, cntN_yes, cntN_no])
  refine req_i ?_ ?_
  · -- r5
   first | omega | ((try simp only [Int.toNat_natCast, List.length_replicate, List.length_cons, List.length_nil, lenCols_i, lenCols_b]); first | done | omega | assumption | grind [getD_set, getD_rep, toNat_succ, cntN_yes, cntN_no])
  refine req_i ?_ ?_
  · -- r6
   first | assumption | exact rep_bd (by omega) (by omega) | exact set_bd (by assumption) (by omega) (by omega) | exact take_bd (by assumption) | ((try simp only [Int.toNat_natCast, List.length_replicate, List.length_cons, List.length_nil]); first | assumption | exact rep_bd (by omega) (by omega) | exact set_bd (by assumption) (by omega) (by omega) | exact take_bd (by assumption) | grind [getD_set, getD_rep, toNat_succ, cntN_yes, cntN_no])
  refine req_i ?_ ?_
  · -- r7
   first | omega | ((try simp only [coL, cB, coInv, coMea, List.cons.injEq, DV.b.injEq, and_true, Int.toNat_natCast, List.length_replicate, List.length_cons, List.length_nil]); first | done | omega | assumption | grind [getD_set, getD_rep, toNat_succ, cntN_yes, cntN_no])
  refine all_i fun n2 => ?_
  refine imp_i fun h5 => ?_
  refine imp_i fun h6 => ?_
  refine all_i fun l3 => ?_
  refine imp_i fun h7 => ?_
  refine imp_i fun h8 => ?_
  refine imp_i fun h9 => ?_
  try simp only [coL, cB, coInv, coMea, List.cons.injEq, DV.b.injEq, and_true, List.length_cons, List.length_nil] at h9
  refine bR_dec (fun h10 => ?_) (fun h10 => ?_)
  ·
   refine bR_dec (fun h11 => ?_) (fun h11 => ?_)
   ·
    have md := md_bd (a := n2) (n := (l0.length : Int)) (by omega) (by omega)
    have td := tdiv_nn (a := n2) (b := (l0.length : Int)) (by omega)
    have dl := div_le (d := n2) (u := (l0.length : Int)) (by omega) (by omega)
    refine req_i ?_ ?_
    · -- r8
     first | omega | ((try simp only [Nat.zero_add]); first | done | omega | assumption | grind [getD_set, getD_rep, toNat_succ, cntN_yes, cntN_no])
    refine req_i ?_ ?_
    · -- r9
     first | omega | ((try simp only [Int.toNat_natCast, List.length_cons, List.length_nil]); first | done | omega | assumption | grind [getD_set, getD_rep, toNat_succ, cntN_yes, cntN_no])
    refine req_i ?_ ?_
    · -- r10
     first | omega | ((try simp only [Int.toNat_natCast, List.length_cons, List.length_nil, Nat.add_eq, Nat.zero_add, Nat.add_zero]); first | done | omega | assumption | grind [getD_set, getD_rep, toNat_succ, cntN_yes, cntN_no])
    refine req_i ?_ ?_
    · -- r11
     first | omega | ((try simp only [Nat.zero_add]); first | done | omega | assumption | grind [getD_set, getD_rep, toNat_succ, cntN_yes, cntN_no])
    refine all_i fun n4 => ?_
    refine imp_i fun h12 => ?_
    simp only [wrap_i64] at h12
    rw [td] at h12
    replace h12 : n4 = n2 / (l0.length : Int) := by (try simp only [wrap_i64] at h12); omega
    refine imp_i fun h13 => ?_
    refine imp_i fun h14 => ?_
    refine all_i fun n5 => ?_
    refine imp_i fun h15 => ?_
    simp only [wrap_u64] at h15
    have t20 := tmod_nn (a := n4) (b := 20) (by omega)
    rw [t20] at h15
    replace h15 : n5 = n4 % 20 := by (try simp only [wrap_u64] at h15); omega
    have gb := getD_bd (i := (n2.tmod (l0.length : Int)).toNat) h1 (by omega) (by omega)
    have sb := shr_bd (a := l0.getD (n2.tmod (l0.length : Int)).toNat 0) (n := n5) (by omega) (by omega) gb.1 gb.2
    refine imp_i fun h16 => ?_
    refine imp_i fun h17 => ?_
    refine req_i ?_ ?_
    · -- r12
     first | omega | ((try simp only [Int.toNat_natCast, List.length_cons, List.length_nil, Nat.add_eq, Nat.zero_add, Nat.add_zero]); first | done | omega | assumption | grind [getD_set, getD_rep, toNat_succ, cntN_yes, cntN_no])
    refine req_i ?_ ?_
    · -- r13
     first | omega | ((try simp only [Int.toNat_natCast, List.length_cons, List.length_nil, Nat.add_eq, Nat.zero_add, Nat.add_zero]); first | done | omega | assumption | grind [getD_set, getD_rep, toNat_succ, cntN_yes, cntN_no])
    refine req_i ?_ ?_
    · -- r14
     first | omega | ((try simp only [sigBl, blPost, List.cons.injEq, DV.b.injEq, and_true, Int.toNat_natCast, List.length_cons, List.length_nil, Nat.add_eq, Nat.zero_add, Nat.add_zero]); first | done | omega | assumption | grind [getD_set, getD_rep, toNat_succ, cntN_yes, cntN_no])
    refine all_i fun n6 => ?_
    refine imp_i fun h18 => ?_
    refine imp_i fun h19 => ?_
    refine imp_i fun h20 => ?_
    try simp only [sigBl, blPost, List.cons.injEq, DV.b.injEq, and_true, Int.toNat_natCast, List.length_cons, List.length_nil, Nat.add_eq, Nat.zero_add, Nat.add_zero] at h20
    refine req_i ?_ ?_
    · -- r15
     first | omega | assumption | grind
    refine req_i ?_ ?_
    · -- r16
     first | omega | assumption | grind
    refine req_i ?_ ?_
    · -- r17
     first | omega | ((try simp only [Int.toNat_natCast, List.length_cons, List.length_nil, Nat.add_eq, Nat.zero_add, Nat.add_zero]); first | done | omega | assumption | grind [getD_set, getD_rep, toNat_succ, cntN_yes, cntN_no])
    refine bR_t ?_ ?_
    · -- g0
     first | rfl | (simp only [bR_iff, bR_iff_f, dec_iff, dec_f, beqB_iff', andB_iff', reduceCtorEq, imp_self, false_implies, and_true, true_and, implies_true, and_self]; done) | (simp [bR_iff, dec_iff, beqB_iff', andB_iff']; done) | (simp [bR_iff, dec_iff, beqB_iff', andB_iff']; omega)
    refine req_i ?_ ?_
    · -- r18
     first | omega | assumption | grind
    refine req_i ?_ ?_
    · -- r19
     first | omega | assumption | grind
    refine req_i ?_ ?_
    · -- r20
     first | omega | ((try simp only [Int.toNat_natCast, List.length_set, List.length_cons, List.length_nil, lenCols_i, lenCols_b, Nat.add_eq, Nat.zero_add, Nat.add_zero]); first | done | omega | assumption | grind [getD_set, getD_rep, toNat_succ, cntN_yes, cntN_no])
    refine req_i ?_ ?_
    · -- r21
     first | omega | ((try simp only [Int.toNat_natCast, List.length_set, List.length_cons, List.length_nil, lenCols_i, lenCols_b, Nat.add_eq, Nat.zero_add, Nat.add_zero]); first | done | omega | assumption | grind [getD_set, getD_rep, toNat_succ, cntN_yes, cntN_no])
    refine req_i ?_ ?_
    · -- r22
     (try simp only [Nat.add_eq, Nat.zero_add]); exact set_bd h8 (by omega) (by omega)
    refine req_i ?_ ?_
    · -- r23
     first | omega | ((try simp only [coL, cB, coInv, coMea, List.cons.injEq, DV.b.injEq, and_true, Int.toNat_natCast, List.length_set, List.length_cons, List.length_nil, Nat.add_eq, Nat.zero_add, Nat.add_zero]); first | done | omega | assumption | grind [getD_set, getD_rep, toNat_succ, cntN_yes, cntN_no])
    refine req_i ?_ ?_
    · -- r24
     first | omega | ((try simp only [coL, cB, coInv, coMea, List.cons.injEq, DV.b.injEq, and_true, Int.toNat_natCast, List.length_set, List.length_cons, List.length_nil, Nat.add_eq, Nat.zero_add, Nat.add_zero]); first | done | omega | assumption | grind [getD_set, getD_rep, toNat_succ, cntN_yes, cntN_no])
    rfl
   ·
    refine bR_t ?_ ?_
    · -- g1
     first | rfl | (simp only [bR_iff, bR_iff_f, dec_iff, dec_f, beqB_iff', andB_iff', reduceCtorEq, imp_self, false_implies, and_true, true_and, implies_true, and_self]; done) | (simp [bR_iff, dec_iff, beqB_iff', andB_iff']; done) | (simp [bR_iff, dec_iff, beqB_iff', andB_iff']; omega)
    refine req_i ?_ ?_
    · -- r25
     first | omega | assumption | grind
    refine req_i ?_ ?_
    · -- r26
     first | omega | assumption | grind
    refine req_i ?_ ?_
    · -- r27
     first | omega | ((try simp only [List.length_cons, List.length_nil, lenCols_i, lenCols_b]); first | done | omega | assumption | grind [getD_set, getD_rep, toNat_succ, cntN_yes, cntN_no])
    refine req_i ?_ ?_
    · -- r28
     first | omega | ((try simp only [List.length_cons, List.length_nil, lenCols_i, lenCols_b]); first | done | omega | assumption | grind [getD_set, getD_rep, toNat_succ, cntN_yes, cntN_no])
    refine req_i ?_ ?_
    · -- r29
     first | assumption | exact rep_bd (by omega) (by omega) | exact set_bd (by assumption) (by omega) (by omega) | exact take_bd (by assumption) | ((try simp only [Nat.zero_add]); first | assumption | exact rep_bd (by omega) (by omega) | exact set_bd (by assumption) (by omega) (by omega) | exact take_bd (by assumption) | grind [getD_set, getD_rep, toNat_succ, cntN_yes, cntN_no])
    refine req_i ?_ ?_
    · -- r30
     first | omega | ((try simp only [coL, cB, coInv, coMea, List.cons.injEq, DV.b.injEq, and_true, List.length_cons, List.length_nil]); first | done | omega | assumption | grind [getD_set, getD_rep, toNat_succ, cntN_yes, cntN_no])
    refine req_i ?_ ?_
    · -- r31
     first | omega | ((try simp only [coL, cB, coInv, coMea, List.cons.injEq, DV.b.injEq, and_true, List.length_cons, List.length_nil]); first | done | omega | assumption | grind [getD_set, getD_rep, toNat_succ, cntN_yes, cntN_no])
    rfl
  ·
   refine req_i ?_ ?_
   · -- r32
    first | omega | ((try simp only [Int.toNat_natCast, List.length_cons, List.length_nil, Nat.mul_eq]); first | done | omega | assumption | grind [getD_set, getD_rep, toNat_succ, cntN_yes, cntN_no])
   refine req_i ?_ ?_
   · -- r33
    first | omega | assumption | grind
   refine req_i ?_ ?_
   · -- r34
    first | omega | ((try simp only [Int.toNat_natCast, List.take_nil, List.take_zero, List.length_take, List.take_length, List.take_take, Nat.min_self, List.drop_nil, List.length_drop, List.drop_zero, List.length_cons, List.length_nil]); first | done | omega | assumption | grind [getD_set, getD_rep, toNat_succ, cntN_yes, cntN_no])
   refine req_i ?_ ?_
   · -- r35
    first | assumption | exact rep_bd (by omega) (by omega) | exact set_bd (by assumption) (by omega) (by omega) | exact take_bd (by assumption) | ((try simp only [Int.toNat_natCast, List.take_nil, List.take_zero, List.length_take, List.take_length, List.take_take, Nat.min_self, List.drop_nil, List.length_drop, List.drop_zero, List.length_cons, List.length_nil]); first | assumption | exact rep_bd (by omega) (by omega) | exact set_bd (by assumption) (by omega) (by omega) | exact take_bd (by assumption) | grind [getD_set, getD_rep, toNat_succ, cntN_yes, cntN_no])
   refine req_i ?_ ?_
   · -- r36
    first | omega | ((try simp only [sigCo, cAny, cB, coPost, List.cons.injEq, DV.b.injEq, and_true, Int.toNat_natCast, List.take_nil, List.take_zero, List.length_take, List.take_length, List.take_take, Nat.min_self, List.drop_nil, List.length_drop, List.drop_zero, List.length_cons, List.length_nil]); first | done | omega | assumption | grind [getD_set, getD_rep, toNat_succ, cntN_yes, cntN_no])
   rfl
theorem ext_coins : ∀ p ∈ ([(28, Ext.ctr (ctOf sigBl))] : List (Nat × Ext)), ExtRow Try.prog p.1 p.2 := by
  intro p hp
  simp only [List.mem_cons, List.not_mem_nil, or_false] at hp
  rcases hp with rfl
  · trivial
theorem cts_coins : CtsOk Try.prog [(28, Ext.ctr (ctOf sigBl))] := ctsOk_of (cs := [(28, sigBl)])
  (fun p hp => by
    simp only [List.mem_cons, List.not_mem_nil, or_false] at hp
    rcases hp with rfl
    · exact fn_below
)
  (fun f c h => by
    simp only [List.lookup_cons] at h
    repeat' split at h
    all_goals first | (cases h; done) | (rename_i e; have e := beq_iff_eq.1 e; subst e; cases h; refine ⟨_, ?_, rfl⟩; simp))
theorem fn_coins : FnOk Try.prog 30 sigCo [] := fn_sound (by kernel_rfl) ext_coins cts_coins names vt_coins
end Go.Proofs.Ytbgooiiihmnnmaa

namespace Go.Proofs.Ytbgooiiihmnnmaa
open Go.Ev Go.Sp
set_option maxRecDepth 100000
theorem vc_isf : vcFn Try.prog [] (fun f p _ => at2 f p 49 26 isfL (none)) [] 100 42 sigIsf = (allB fun l0 : List Int => 
impB (l0.length ≤ (40 : Nat)) (
impB (∀ (y : Int), y ∈ l0 → (-9223372036854775808 : Int) ≤ y ∧ y ≤ (9223372036854775807 : Int)) (
impB (sigIsf.pre [DV.l l0]) (
reqB (((0 : Nat) + l0.length) * (1 : Nat) ≤ l0.length.mul (1 : Nat)) (
reqB (l0.length ≤ (40 : Nat)) (
reqB ((List.take l0.length (List.drop (0 : Nat) l0)).length = l0.length) (
reqB (∀ (y : Int),
 y ∈ List.take l0.length (List.drop (0 : Nat) l0) → (-9223372036854775808 : Int) ≤ y ∧ y ≤ (9223372036854775807 : Int)) (
reqB (isfL.inv [DV.l (List.take l0.length (List.drop (0 : Nat) l0))] [DV.n (0 : Int)]) (
allB fun n1 : Int => 
impB ((0 : Int) ≤ n1) (
impB (n1 ≤ (40 : Int)) (
impB (isfL.inv [DV.l (List.take l0.length (List.drop (0 : Nat) l0))] [DV.n n1]) (
bR (dec (n1 < (↑l0.length : Int))) (
 reqB (n1.toNat < l0.length) (
 reqB (Nat.add (0 : Nat) n1.toNat < l0.length) (
 bR (dec (l0.getD (Nat.add (0 : Nat) n1.toNat) (0 : Int) ≠ (0 : Int))) (
 bR (dec (l0.getD (Nat.add (0 : Nat) n1.toNat) (0 : Int) ≠ (1 : Int))) (
 reqB (sigIsf.post [DV.l l0] [DV.b !Bool.true]) (
 true)) (
 bR (bR (bR (dec ((0 : Nat) = (0 : Nat))) (
 dec (l0.length = l0.length)) (
 false)) (
 bR (bR (dec ((0 : Nat) = (0 : Nat))) (
 dec (l0.length = l0.length)) (
 false)) (
 bR (dec ((↑l0.length : Int) = (↑l0.length : Int))) (
 true) (
 false)) (
 false)) (
 false)) (
 reqB ((0 : Int) ≤ n1 + (1 : Int)) (
 reqB (n1 + (1 : Int) ≤ (40 : Int)) (
 reqB (isfL.inv [DV.l (List.take l0.length (List.drop (0 : Nat) l0))] [DV.n (n1 + (1 : Int))]) (
 reqB (isfL.mea [DV.l (List.take l0.length (List.drop (0 : Nat) l0))] [DV.n (n1 + (1 : Int))] <
 isfL.mea [DV.l (List.take l0.length (List.drop (0 : Nat) l0))] [DV.n n1]) (
 true))))) (
 false))) (
 bR (bR (bR (dec ((0 : Nat) = (0 : Nat))) (
 dec (l0.length = l0.length)) (
 false)) (
 bR (bR (dec ((0 : Nat) = (0 : Nat))) (
 dec (l0.length = l0.length)) (
 false)) (
 bR (dec ((↑l0.length : Int) = (↑l0.length : Int))) (
 true) (
 false)) (
 false)) (
 false)) (
 reqB ((0 : Int) ≤ n1 + (1 : Int)) (
 reqB (n1 + (1 : Int) ≤ (40 : Int)) (
 reqB (isfL.inv [DV.l (List.take l0.length (List.drop (0 : Nat) l0))] [DV.n (n1 + (1 : Int))]) (
 reqB (isfL.mea [DV.l (List.take l0.length (List.drop (0 : Nat) l0))] [DV.n (n1 + (1 : Int))] <
 isfL.mea [DV.l (List.take l0.length (List.drop (0 : Nat) l0))] [DV.n n1]) (
 true))))) (
 false))))) (
 reqB (sigIsf.post [DV.l l0] [DV.b !leI (0 : Int) (-1 : Int)]) (
 true)))))))))))))) := by kernel_rfl
set_option maxHeartbeats 8000000 in
theorem vt_isf : vcFn Try.prog [] (fun f p _ => at2 f p 49 26 isfL (none)) [] 100 42 sigIsf = true := by
  rw [vc_isf]
  try simp only [Int.toNat_natCast, List.length_set, List.length_replicate, List.length_take, List.length_drop, List.length_append, List.length_cons, List.length_nil, Nat.min_self, List.take_take, lenCols_i, lenCols_b, List.drop_zero, List.take_length, List.take_nil, List.drop_nil, List.take_zero, List.nil_append, Nat.add_eq, Nat.mul_eq, Nat.sub_eq, Nat.zero_add, Nat.add_zero, Nat.sub_zero, Nat.mul_one]
  refine all_i fun l0 => ?_
  refine imp_i fun h0 => ?_
  refine imp_i fun h1 => ?_
  refine imp_i fun h2 => ?_
  try simp only [sigIsf, c40, isfPost, List.cons.injEq, DV.b.injEq, and_true, List.length_cons, List.length_nil] at h2
  refine req_i ?_ ?_
  · -- r0
   first | omega | ((try simp only [Nat.mul_eq]); first | done | omega | assumption | grind [getD_set, getD_rep, toNat_succ, cntN_yes, cntN_no])
  refine req_i ?_ ?_
  · -- r1
   first | omega | ((try simp only [Nat.zero_add]); first | done | omega | assumption | grind [getD_set, getD_rep, toNat_succ, cntN_yes, cntN_no])
  refine req_i ?_ ?_
  · -- r2
   first | omega | ((try simp only [List.take_nil, List.take_zero, List.length_take, List.take_length, List.take_take, Nat.min_self, List.drop_nil, List.length_drop, List.drop_zero, List.length_cons, List.length_nil]); first | done | omega | assumption | grind [getD_set, getD_rep, toNat_succ, cntN_yes, cntN_no])
  refine req_i ?_ ?_
  · -- r3
   first | assumption | exact rep_bd (by omega) (by omega) | exact set_bd (by assumption) (by omega) (by omega) | exact take_bd (by assumption) | ((try simp only [List.take_nil, List.take_zero, List.length_take, List.take_length, List.take_take, Nat.min_self, List.drop_nil, List.length_drop, List.drop_zero, List.length_cons, List.length_nil]); first | assumption | exact rep_bd (by omega) (by omega) | exact set_bd (by assumption) (by omega) (by omega) | exact take_bd (by assumption) | grind [getD_set, getD_rep, toNat_succ, cntN_yes, cntN_no])
  refine req_i ?_ ?_
  · -- r4
   first | omega | ((try simp only [isfL, c40, isfInv, meaF, List.cons.injEq, DV.b.injEq, and_true, List.take_nil, List.take_zero, List.length_take, List.take_length, List.take_take, Nat.min_self, List.drop_nil, List.length_drop, List.drop_zero, List.length_cons, List.length_nil]); first | done | omega | assumption | grind [getD_set, getD_rep, toNat_succ, cntN_yes, cntN_no])
  refine all_i fun n1 => ?_
  refine imp_i fun h3 => ?_
  refine imp_i fun h4 => ?_
  refine imp_i fun h5 => ?_
  try simp only [isfL, c40, isfInv, meaF, List.cons.injEq, DV.b.injEq, and_true, List.take_nil, List.take_zero, List.length_take, List.take_length, List.take_take, Nat.min_self, List.drop_nil, List.length_drop, List.drop_zero, List.length_cons, List.length_nil] at h5
  refine bR_dec (fun h6 => ?_) (fun h6 => ?_)
  ·
   refine req_i ?_ ?_
   · -- r5
    first | omega | ((try simp only [Int.toNat_natCast, List.length_cons, List.length_nil]); first | done | omega | assumption | grind [getD_set, getD_rep, toNat_succ, cntN_yes, cntN_no])
   refine req_i ?_ ?_
   · -- r6
    first | omega | ((try simp only [Int.toNat_natCast, List.length_cons, List.length_nil, Nat.add_eq, Nat.zero_add, Nat.add_zero]); first | done | omega | assumption | grind [getD_set, getD_rep, toNat_succ, cntN_yes, cntN_no])
   refine bR_dec (fun h7 => ?_) (fun h7 => ?_)
   ·
    refine bR_dec (fun h8 => ?_) (fun h8 => ?_)
    ·
     refine req_i ?_ ?_
     · -- r7
      first | omega | ((try simp only [sigIsf, c40, isfPost, List.cons.injEq, DV.b.injEq, and_true, List.length_cons, List.length_nil]); first | done | omega | assumption | grind [getD_set, getD_rep, toNat_succ, cntN_yes, cntN_no])
     rfl
    ·
     refine bR_t ?_ ?_
     · -- g0
      first | rfl | (simp only [bR_iff, bR_iff_f, dec_iff, dec_f, beqB_iff', andB_iff', reduceCtorEq, imp_self, false_implies, and_true, true_and, implies_true, and_self]; done) | (simp [bR_iff, dec_iff, beqB_iff', andB_iff']; done) | (simp [bR_iff, dec_iff, beqB_iff', andB_iff']; omega)
     refine req_i ?_ ?_
     · -- r8
      first | omega | assumption | grind
     refine req_i ?_ ?_
     · -- r9
      first | omega | assumption | grind
     refine req_i ?_ ?_
     · -- r10
      first | omega | ((try simp only [isfL, c40, isfInv, meaF, List.cons.injEq, DV.b.injEq, and_true, List.take_nil, List.take_zero, List.length_take, List.take_length, List.take_take, Nat.min_self, List.drop_nil, List.length_drop, List.drop_zero, List.length_cons, List.length_nil]); first | done | omega | assumption | grind [getD_set, getD_rep, toNat_succ, cntN_yes, cntN_no])
     refine req_i ?_ ?_
     · -- r11
      first | omega | ((try simp only [isfL, c40, isfInv, meaF, List.cons.injEq, DV.b.injEq, and_true, List.take_nil, List.take_zero, List.length_take, List.take_length, List.take_take, Nat.min_self, List.drop_nil, List.length_drop, List.drop_zero, List.length_cons, List.length_nil]); first | done | omega | assumption | grind [getD_set, getD_rep, toNat_succ, cntN_yes, cntN_no])
     rfl
   ·
    refine bR_t ?_ ?_
    · -- g1
     first | rfl | (simp only [bR_iff, bR_iff_f, dec_iff, dec_f, beqB_iff', andB_iff', reduceCtorEq, imp_self, false_implies, and_true, true_and, implies_true, and_self]; done) | (simp [bR_iff, dec_iff, beqB_iff', andB_iff']; done) | (simp [bR_iff, dec_iff, beqB_iff', andB_iff']; omega)
    refine req_i ?_ ?_
    · -- r12
     first | omega | assumption | grind
    refine req_i ?_ ?_
    · -- r13
     first | omega | assumption | grind
    refine req_i ?_ ?_
    · -- r14
     first | omega | ((try simp only [isfL, c40, isfInv, meaF, List.cons.injEq, DV.b.injEq, and_true, List.take_nil, List.take_zero, List.length_take, List.take_length, List.take_take, Nat.min_self, List.drop_nil, List.length_drop, List.drop_zero, List.length_cons, List.length_nil]); first | done | omega | assumption | grind [getD_set, getD_rep, toNat_succ, cntN_yes, cntN_no])
    refine req_i ?_ ?_
    · -- r15
     first | omega | ((try simp only [isfL, c40, isfInv, meaF, List.cons.injEq, DV.b.injEq, and_true, List.take_nil, List.take_zero, List.length_take, List.take_length, List.take_take, Nat.min_self, List.drop_nil, List.length_drop, List.drop_zero, List.length_cons, List.length_nil]); first | done | omega | assumption | grind [getD_set, getD_rep, toNat_succ, cntN_yes, cntN_no])
    rfl
  ·
   refine req_i ?_ ?_
   · -- r16
    exact ⟨fun _ j hj => h5.2.2 j (by omega), fun _ => by rw [leI_eq]; rfl⟩
   rfl
theorem ext_isf : ∀ p ∈ ([] : List (Nat × Ext)), ExtRow Try.prog p.1 p.2 := by
  intro p hp
  cases hp
theorem cts_isf : CtsOk Try.prog [] := fun f c h => by cases h
theorem fn_isf : FnOk Try.prog 42 sigIsf [] := fn_sound (by kernel_rfl) ext_isf cts_isf names vt_isf
end Go.Proofs.Ytbgooiiihmnnmaa

namespace Go.Proofs.Ytbgooiiihmnnmaa
open Go.Ev Go.Sp
set_option maxRecDepth 100000
theorem vc_pl : vcFn Try.prog [(16, Ext.ctr (ctOf sigChk)), (42, Ext.ctr (ctOf sigIsf))] noA [] 100 34 sigPl = (allB fun l0 : List Int => 
impB (l0.length ≤ (200 : Nat)) (
impB (∀ (y : Int), y ∈ l0 → (-9223372036854775808 : Int) ≤ y ∧ y ≤ (9223372036854775807 : Int)) (
allB fun n1 : Int => 
impB ((-9223372036854775808 : Int) ≤ n1) (
impB (n1 ≤ (9223372036854775807 : Int)) (
allB fun n2 : Int => 
impB ((-9223372036854775808 : Int) ≤ n2) (
impB (n2 ≤ (9223372036854775807 : Int)) (
allB fun b3 : Bool => 
allB fun n4 : Int => 
impB ((-9223372036854775808 : Int) ≤ n4) (
impB (n4 ≤ (9223372036854775807 : Int)) (
allB fun n5 : Int => 
impB ((-9223372036854775808 : Int) ≤ n5) (
impB (n5 ≤ (9223372036854775807 : Int)) (
impB (sigPl.pre [DV.l l0, DV.n n1, DV.n n2, DV.b b3, DV.n n4, DV.n n5]) (
reqB ((-9223372036854775808 : Int) ≤ n1) (
reqB (n1 ≤ (9223372036854775807 : Int)) (
reqB ((-9223372036854775808 : Int) ≤ n2) (
reqB (n2 ≤ (9223372036854775807 : Int)) (
reqB ((-9223372036854775808 : Int) ≤ n4) (
reqB (n4 ≤ (9223372036854775807 : Int)) (
reqB ((-9223372036854775808 : Int) ≤ n5) (
reqB (n5 ≤ (9223372036854775807 : Int)) (
reqB (sigChk.pre [DV.n n1, DV.n n2, DV.b b3, DV.n n4, DV.n n5]) (
allB fun n6 : Int => 
impB ((0 : Int) ≤ n6) (
impB (n6 ≤ (18 : Int)) (
impB (sigChk.post [DV.n n1, DV.n n2, DV.b b3, DV.n n4, DV.n n5] [DV.n n6]) (
bR (dec (n6 ≠ (0 : Int))) (
 reqB ((0 : Int) ≤ n6) (
 reqB (n6 ≤ (18 : Int)) (
 reqB (sigPl.post [DV.l l0, DV.n n1, DV.n n2, DV.b b3, DV.n n4, DV.n n5]
 [DV.n n6]) (
 true)))) (
 allB fun n7 : Int => 
 impB (n7 = Go.IntKind.i64.wrap (n1 + n2)) (
 impB (Int.negSucc (9223372036854775807 : Nat) ≤ n7) (
 impB (n7 ≤ Int.ofNat (9223372036854775807 : Nat)) (
 bR (dec ((↑l0.length : Int) < n7)) (
 reqB (sigPl.post [DV.l l0, DV.n n1, DV.n n2, DV.b b3, DV.n n4, DV.n n5]
 [DV.n (16 : Int)]) (
 true)) (
 allB fun n8 : Int => 
 impB (n8 = Go.IntKind.i64.wrap (n1 + n2)) (
 impB (Int.negSucc (9223372036854775807 : Nat) ≤ n8) (
 impB (n8 ≤ Int.ofNat (9223372036854775807 : Nat)) (
 reqB ((0 : Int) ≤ n1) (
 reqB ((0 : Int) ≤ n8) (
 reqB (n1.toNat ≤ n8.toNat) (
 reqB (n8.toNat ≤ l0.length) (
 reqB ((Nat.add (0 : Nat) n1.toNat + n8.toNat.sub n1.toNat) * (1 : Nat) ≤ l0.length.mul (1 : Nat)) (
 reqB (n8.toNat.sub n1.toNat ≤ (40 : Nat)) (
 reqB ((List.take (n8.toNat.sub n1.toNat) (List.drop (Nat.add (0 : Nat) n1.toNat) l0)).length = n8.toNat.sub n1.toNat) (
 reqB (∀ (y : Int),
 y ∈ List.take (n8.toNat.sub n1.toNat) (List.drop (Nat.add (0 : Nat) n1.toNat) l0) →
 (-9223372036854775808 : Int) ≤ y ∧ y ≤ (9223372036854775807 : Int)) (
 reqB (sigIsf.pre [DV.l (List.take (n8.toNat.sub n1.toNat) (List.drop (Nat.add (0 : Nat) n1.toNat) l0))]) (
 allB fun b9 : Bool => 
 impB (sigIsf.post [DV.l (List.take (n8.toNat.sub n1.toNat) (List.drop (Nat.add (0 : Nat) n1.toNat) l0))]
 [DV.b b9]) (
 bR (bR (b9) (
 false) (
 true)) (
 reqB (sigPl.post [DV.l l0, DV.n n1, DV.n n2, DV.b b3, DV.n n4, DV.n n5]
 [DV.n (3 : Int)]) (
 true)) (
 reqB (sigPl.post [DV.l l0, DV.n n1, DV.n n2, DV.b b3, DV.n n4, DV.n n5]
 [DV.n (0 : Int)]) (
 true)))))))))))))))))))))))))))))))))))))))))))) := by kernel_rfl
set_option maxHeartbeats 8000000 in
theorem vt_pl : vcFn Try.prog [(16, Ext.ctr (ctOf sigChk)), (42, Ext.ctr (ctOf sigIsf))] noA [] 100 34 sigPl = true := by
  rw [vc_pl]
  try simp only [Int.toNat_natCast, List.length_set, List.length_replicate, List.length_take, List.length_drop, List.length_append, List.length_cons, List.length_nil, Nat.min_self, List.take_take, lenCols_i, lenCols_b, List.drop_zero, List.take_length, List.take_nil, List.drop_nil, List.take_zero, List.nil_append, Nat.add_eq, Nat.mul_eq, Nat.sub_eq, Nat.zero_add, Nat.add_zero, Nat.sub_zero, Nat.mul_one]
  refine all_i fun l0 => ?_
  refine imp_i fun h0 => ?_
  refine imp_i fun h1 => ?_
  refine all_i fun n1 => ?_
  refine imp_i fun h2 => ?_
  refine imp_i fun h3 => ?_
  refine all_i fun n2 => ?_
  refine imp_i fun h4 => ?_
  refine imp_i fun h5 => ?_
  refine all_i fun b3 => ?_
  refine all_i fun n4 => ?_
  refine imp_i fun h6 => ?_
  refine imp_i fun h7 => ?_
  refine all_i fun n5 => ?_
  refine imp_i fun h8 => ?_
  refine imp_i fun h9 => ?_
  refine imp_i fun h10 => ?_
  try simp only [sigPl, cL, fV, plPost, plErr, okL, okF, List.cons.injEq, DV.b.injEq, and_true, List.length_cons, List.length_nil] at h10
  refine req_i ?_ ?_
  · -- r0
   first | omega | assumption | grind
  refine req_i ?_ ?_
  · -- r1
   first | omega | assumption | grind
  refine req_i ?_ ?_
  · -- r2
   first | omega | assumption | grind
  refine req_i ?_ ?_
  · -- r3
   first | omega | assumption | grind
  refine req_i ?_ ?_
  · -- r4
   first | omega | assumption | grind
  refine req_i ?_ ?_
  · -- r5
   first | omega | assumption | grind
  refine req_i ?_ ?_
  · -- r6
   first | omega | assumption | grind
  refine req_i ?_ ?_
  · -- r7
   first | omega | assumption | grind
  refine req_i ?_ ?_
  · -- r8
   first | trivial | assumption | (simp only [sigChk, fV, chkPost, okF, List.cons.injEq, DV.b.injEq, and_true, List.length_cons, List.length_nil]; done) | ((try simp only [sigChk, fV, chkPost, okF, List.cons.injEq, DV.b.injEq, and_true, List.length_cons, List.length_nil]); first | omega | assumption | grind)
  refine all_i fun n6 => ?_
  refine imp_i fun h11 => ?_
  refine imp_i fun h12 => ?_
  refine imp_i fun h13 => ?_
  try simp only [Int.toNat_natCast, List.length_set, List.length_replicate, List.length_take, List.length_drop, List.length_append, List.length_cons, List.length_nil, Nat.min_self, List.take_take, lenCols_i, lenCols_b, List.drop_zero, List.take_length, List.take_nil, List.drop_nil, List.take_zero, List.nil_append, Nat.add_eq, Nat.mul_eq, Nat.sub_eq, Nat.zero_add, Nat.add_zero, Nat.sub_zero, Nat.mul_one] at h13
  refine bR_dec (fun h14 => ?_) (fun h14 => ?_)
  ·
   obtain ⟨no, e6⟩ : ¬okF n1 n2 n4 n5 ∧ n6 = 2 := by
     rcases h13 with ⟨_, e⟩ | h
     · omega
     · exact h
   refine req_i ?_ ?_
   · -- r9
    first | omega | assumption | grind
   refine req_i ?_ ?_
   · -- r10
    first | omega | assumption | grind
   refine req_i ?_ ?_
   · -- r11
    exact .inl (.inl ⟨no, e6⟩)
   rfl
  ·
   obtain ⟨ok, e6⟩ : okF n1 n2 n4 n5 ∧ n6 = 0 := by
     rcases h13 with h | ⟨_, e⟩
     · exact h
     · omega
   have ok2 := ok
   unfold okF at ok2
   refine all_i fun n7 => ?_
   refine imp_i fun h15 => ?_
   simp only [wrap_i64] at h15
   replace h15 : n7 = n1 + n2 := by (try simp only [wrap_i64] at h15); omega
   refine imp_i fun h16 => ?_
   refine imp_i fun h17 => ?_
   refine bR_dec (fun h18 => ?_) (fun h18 => ?_)
   ·
    refine req_i ?_ ?_
    · -- r12
     exact .inl (.inr (.inl ⟨ok, by omega, rfl⟩))
    rfl
   ·
    refine all_i fun n8 => ?_
    refine imp_i fun h19 => ?_
    simp only [wrap_i64] at h19
    replace h19 : n8 = n1 + n2 := by (try simp only [wrap_i64] at h19); omega
    refine imp_i fun h20 => ?_
    refine imp_i fun h21 => ?_
    refine req_i ?_ ?_
    · -- r13
     first | omega | assumption | grind
    refine req_i ?_ ?_
    · -- r14
     first | omega | assumption | grind
    refine req_i ?_ ?_
    · -- r15
     first | omega | assumption | grind
    refine req_i ?_ ?_
    · -- r16
     first | omega | ((try simp only [Int.toNat_natCast, List.length_cons, List.length_nil]); first | done | omega | assumption | grind [getD_set, getD_rep, toNat_succ, cntN_yes, cntN_no])
    refine req_i ?_ ?_
    · -- r17
     first | omega | ((try simp only [Int.toNat_natCast, List.length_cons, List.length_nil, Nat.add_eq, Nat.zero_add, Nat.add_zero, Nat.mul_eq, Nat.sub_eq, Nat.sub_zero]); first | done | omega | assumption | grind [getD_set, getD_rep, toNat_succ, cntN_yes, cntN_no])
    refine req_i ?_ ?_
    · -- r18
     first | omega | assumption | grind
    refine req_i ?_ ?_
    · -- r19
     first | omega | ((try simp only [Int.toNat_natCast, List.take_nil, List.take_zero, List.length_take, List.take_length, List.take_take, Nat.min_self, List.drop_nil, List.length_drop, List.drop_zero, List.length_cons, List.length_nil, Nat.add_eq, Nat.zero_add, Nat.add_zero, Nat.sub_eq, Nat.sub_zero]); first | done | omega | assumption | grind [getD_set, getD_rep, toNat_succ, cntN_yes, cntN_no])
    refine req_i ?_ ?_
    · -- r20
     first | assumption | exact rep_bd (by omega) (by omega) | exact set_bd (by assumption) (by omega) (by omega) | exact take_bd (by assumption) | ((try simp only [Int.toNat_natCast, List.take_nil, List.take_zero, List.length_take, List.take_length, List.take_take, Nat.min_self, List.drop_nil, List.length_drop, List.drop_zero, List.length_cons, List.length_nil, Nat.add_eq, Nat.zero_add, Nat.add_zero, Nat.sub_eq, Nat.sub_zero]); first | assumption | exact rep_bd (by omega) (by omega) | exact set_bd (by assumption) (by omega) (by omega) | exact take_bd (by assumption) | grind [getD_set, getD_rep, toNat_succ, cntN_yes, cntN_no])
    refine req_i ?_ ?_
    · -- r21
     first | trivial | assumption | (simp only [sigIsf, c40, isfPost, List.cons.injEq, DV.b.injEq, and_true, Int.toNat_natCast, List.take_nil, List.take_zero, List.length_take, List.take_length, List.take_take, Nat.min_self, List.drop_nil, List.length_drop, List.drop_zero, List.length_cons, List.length_nil, Nat.add_eq, Nat.zero_add, Nat.add_zero, Nat.sub_eq, Nat.sub_zero]; done) | ((try simp only [sigIsf, c40, isfPost, List.cons.injEq, DV.b.injEq, and_true, Int.toNat_natCast, List.take_nil, List.take_zero, List.length_take, List.take_length, List.take_take, Nat.min_self, List.drop_nil, List.length_drop, List.drop_zero, List.length_cons, List.length_nil, Nat.add_eq, Nat.zero_add, Nat.add_zero, Nat.sub_eq, Nat.sub_zero]); first | omega | assumption | grind)
    refine all_i fun b9 => ?_
    refine imp_i fun h22 => ?_
    try simp only [Int.toNat_natCast, List.length_set, List.length_replicate, List.length_take, List.length_drop, List.length_append, List.length_cons, List.length_nil, Nat.min_self, List.take_take, lenCols_i, lenCols_b, List.drop_zero, List.take_length, List.take_nil, List.drop_nil, List.take_zero, List.nil_append, Nat.add_eq, Nat.mul_eq, Nat.sub_eq, Nat.zero_add, Nat.add_zero, Nat.sub_zero, Nat.mul_one] at h22
    have fm : b9 = true ↔ formB l0 n1 n2 := form_td (m := n1.toNat) (n := n8.toNat - n1.toNat) (by omega) (by omega) (by omega) (by omega) (by omega) h22
    refine bR_i (fun h23 => ?_) (fun h23 => ?_)
    ·
     simp only [bR_iff, bR_iff_f, dec_iff, dec_f, Bool.false_eq_true, Bool.true_eq_false, false_implies, imp_false, and_true, true_and, implies_true, Classical.not_not] at h23
     have nf : ¬formB l0 n1 n2 := fun g => by have := fm.2 g; simp [this, bR] at h23
     refine req_i ?_ ?_
     · -- r22
      exact .inl (.inr (.inr ⟨ok, by omega, nf, rfl⟩))
     rfl
    ·
     simp only [bR_iff, bR_iff_f, dec_iff, dec_f, Bool.false_eq_true, Bool.true_eq_false, false_implies, imp_false, and_true, true_and, implies_true, Classical.not_not] at h23
     have b9t : b9 = true := by cases b9 <;> simp [bR] at h23 ⊢
     refine req_i ?_ ?_
     · -- r23
      exact .inr ⟨⟨ok, by omega, fm.1 b9t⟩, rfl⟩
     rfl
theorem ext_pl : ∀ p ∈ ([(16, Ext.ctr (ctOf sigChk)), (42, Ext.ctr (ctOf sigIsf))] : List (Nat × Ext)), ExtRow Try.prog p.1 p.2 := by
  intro p hp
  simp only [List.mem_cons, List.not_mem_nil, or_false] at hp
  rcases hp with rfl | rfl
  · trivial
  · trivial
theorem cts_pl : CtsOk Try.prog [(16, Ext.ctr (ctOf sigChk)), (42, Ext.ctr (ctOf sigIsf))] := ctsOk_of (cs := [(16, sigChk), (42, sigIsf)])
  (fun p hp => by
    simp only [List.mem_cons, List.not_mem_nil, or_false] at hp
    rcases hp with rfl | rfl
    · exact fn_check
    · exact fn_isf
)
  (fun f c h => by
    simp only [List.lookup_cons] at h
    repeat' split at h
    all_goals first | (cases h; done) | (rename_i e; have e := beq_iff_eq.1 e; subst e; cases h; refine ⟨_, ?_, rfl⟩; simp))
theorem fn_pl : FnOk Try.prog 34 sigPl [] := fn_sound (by kernel_rfl) ext_pl cts_pl names vt_pl
end Go.Proofs.Ytbgooiiihmnnmaa

namespace Go.Proofs.Ytbgooiiihmnnmaa
open Go.Ev Go.Sp
set_option maxRecDepth 100000
theorem vc_raw : vcFn Try.prog [(31, Ext.ctr (ctOf sigRl))] noA [] 100 35 sigRaw = (allB fun n0 : Int => 
impB ((0 : Int) ≤ n0) (
impB (n0 ≤ (4000 : Int)) (
allB fun n1 : Int => 
impB ((1 : Int) ≤ n1) (
impB (n1 ≤ (40 : Int)) (
allB fun b2 : Bool => 
allB fun n3 : Int => 
impB ((1 : Int) ≤ n3) (
impB (n3 ≤ (1000000 : Int)) (
allB fun n4 : Int => 
impB ((-1000000000000000 : Int) ≤ n4) (
impB (n4 ≤ (1000000000000000 : Int)) (
allB fun n5 : Int => 
impB ((-9223372036854775808 : Int) ≤ n5) (
impB (n5 ≤ (9223372036854775807 : Int)) (
impB (sigRaw.pre [DV.n n0, DV.n n1, DV.b b2, DV.n n3, DV.n n4, DV.n n5]) (
bR (dec (n5 < (-2000000000000000000 : Int))) (
 reqB (sigRaw.post [DV.n n0, DV.n n1, DV.b b2, DV.n n3, DV.n n4, DV.n n5]
 [DV.n (0 : Int), DV.b Bool.false]) (
 true)) (
 bR (dec ((2000000000000000000 : Int) < n5)) (
 reqB (sigRaw.post [DV.n n0, DV.n n1, DV.b b2, DV.n n3, DV.n n4, DV.n n5]
 [DV.n (0 : Int), DV.b Bool.false]) (
 true)) (
 allB fun n6 : Int => 
 impB (n6 = Go.IntKind.i64.wrap (n5 - n4)) (
 impB (Int.negSucc (9223372036854775807 : Nat) ≤ n6) (
 impB (n6 ≤ Int.ofNat (9223372036854775807 : Nat)) (
 allB fun n7 : Int => 
 impB (n7 = Go.IntKind.i64.wrap ((0 : Int) - n6)) (
 impB (Int.negSucc (9223372036854775807 : Nat) ≤ n7) (
 impB (n7 ≤ Int.ofNat (9223372036854775807 : Nat)) (
 allB fun n8 : Int => 
 impB (n8 = Go.IntKind.i64.wrap (Max.max n6 n7 + n3.tdiv (2 : Int))) (
 impB (Int.negSucc (9223372036854775807 : Nat) ≤ n8) (
 impB (n8 ≤ Int.ofNat (9223372036854775807 : Nat)) (
 bR (dec (n6 < (0 : Int))) (
 allB fun n9 : Int => 
 impB (n9 = Go.IntKind.i64.wrap ((0 : Int) - n8.tdiv n3)) (
 impB (Int.negSucc (9223372036854775807 : Nat) ≤ n9) (
 impB (n9 ≤ Int.ofNat (9223372036854775807 : Nat)) (
 reqB ((0 : Int) ≤ n0) (
 reqB (n0 ≤ (4000 : Int)) (
 reqB ((1 : Int) ≤ n1) (
 reqB (n1 ≤ (40 : Int)) (
 reqB ((1 : Int) ≤ n3) (
 reqB (n3 ≤ (1000000 : Int)) (
 reqB ((-1000000000000000 : Int) ≤ n4) (
 reqB (n4 ≤ (1000000000000000 : Int)) (
 reqB (sigRl.pre [DV.n n0, DV.n n1, DV.b b2, DV.n n3, DV.n n4]) (
 allB fun n10 : Int => 
 impB ((-549755813888 : Int) ≤ n10) (
 impB (n10 ≤ (0 : Int)) (
 allB fun n11 : Int => 
 impB ((0 : Int) ≤ n11) (
 impB (n11 ≤ (1099511627775 : Int)) (
 impB (sigRl.post [DV.n n0, DV.n n1, DV.b b2, DV.n n3, DV.n n4]
 [DV.n n10, DV.n n11]) (
 bR (dec (n10 ≤ n9)) (
 reqB ((-3000000000000000000 : Int) ≤ n9) (
 reqB (n9 ≤ (3000000000000000000 : Int)) (
 reqB (sigRaw.post [DV.n n0, DV.n n1, DV.b b2, DV.n n3, DV.n n4, DV.n n5]
 [DV.n n9, DV.b (dec (n9 ≤ n11))]) (
 true)))) (
 reqB ((-3000000000000000000 : Int) ≤ n9) (
 reqB (n9 ≤ (3000000000000000000 : Int)) (
 reqB (sigRaw.post [DV.n n0, DV.n n1, DV.b b2, DV.n n3, DV.n n4, DV.n n5]
 [DV.n n9, DV.b Bool.false]) (
 true)))))))))))))))))))))) (
 reqB ((0 : Int) ≤ n0) (
 reqB (n0 ≤ (4000 : Int)) (
 reqB ((1 : Int) ≤ n1) (
 reqB (n1 ≤ (40 : Int)) (
 reqB ((1 : Int) ≤ n3) (
 reqB (n3 ≤ (1000000 : Int)) (
 reqB ((-1000000000000000 : Int) ≤ n4) (
 reqB (n4 ≤ (1000000000000000 : Int)) (
 reqB (sigRl.pre [DV.n n0, DV.n n1, DV.b b2, DV.n n3, DV.n n4]) (
 allB fun n12 : Int => 
 impB ((-549755813888 : Int) ≤ n12) (
 impB (n12 ≤ (0 : Int)) (
 allB fun n13 : Int => 
 impB ((0 : Int) ≤ n13) (
 impB (n13 ≤ (1099511627775 : Int)) (
 impB (sigRl.post [DV.n n0, DV.n n1, DV.b b2, DV.n n3, DV.n n4]
 [DV.n n12, DV.n n13]) (
 bR (dec (n12 ≤ n8.tdiv n3)) (
 reqB ((-3000000000000000000 : Int) ≤ n8.tdiv n3) (
 reqB (n8.tdiv n3 ≤ (3000000000000000000 : Int)) (
 reqB (sigRaw.post [DV.n n0, DV.n n1, DV.b b2, DV.n n3, DV.n n4, DV.n n5]
 [DV.n (n8.tdiv n3), DV.b (dec (n8.tdiv n3 ≤ n13))]) (
 true)))) (
 reqB ((-3000000000000000000 : Int) ≤ n8.tdiv n3) (
 reqB (n8.tdiv n3 ≤ (3000000000000000000 : Int)) (
 reqB (sigRaw.post [DV.n n0, DV.n n1, DV.b b2, DV.n n3, DV.n n4, DV.n n5]
 [DV.n (n8.tdiv n3), DV.b Bool.false]) (
 true)))))))))))))))))))))))))))))))))))))))))) := by kernel_rfl
set_option maxHeartbeats 8000000 in
theorem vt_raw : vcFn Try.prog [(31, Ext.ctr (ctOf sigRl))] noA [] 100 35 sigRaw = true := by
  rw [vc_raw]
  try simp only [Int.toNat_natCast, List.length_set, List.length_replicate, List.length_take, List.length_drop, List.length_append, List.length_cons, List.length_nil, Nat.min_self, List.take_take, lenCols_i, lenCols_b, List.drop_zero, List.take_length, List.take_nil, List.drop_nil, List.take_zero, List.nil_append, Nat.add_eq, Nat.mul_eq, Nat.sub_eq, Nat.zero_add, Nat.add_zero, Nat.sub_zero, Nat.mul_one]
  refine all_i fun n0 => ?_
  refine imp_i fun h0 => ?_
  refine imp_i fun h1 => ?_
  refine all_i fun n1 => ?_
  refine imp_i fun h2 => ?_
  refine imp_i fun h3 => ?_
  refine all_i fun b2 => ?_
  refine all_i fun n3 => ?_
  refine imp_i fun h4 => ?_
  refine imp_i fun h5 => ?_
  refine all_i fun n4 => ?_
  refine imp_i fun h6 => ?_
  refine imp_i fun h7 => ?_
  refine all_i fun n5 => ?_
  refine imp_i fun h8 => ?_
  refine imp_i fun h9 => ?_
  refine imp_i fun h10 => ?_
  try simp only [sigRaw, gV, nB, rawPost, inV, List.cons.injEq, DV.b.injEq, and_true, List.length_cons, List.length_nil] at h10
  refine bR_dec (fun h11 => ?_) (fun h11 => ?_)
  ·
   refine req_i ?_ ?_
   · -- r0
    first | omega | ((try simp only [sigRaw, gV, nB, rawPost, inV, List.cons.injEq, DV.b.injEq, and_true, List.length_cons, List.length_nil]); first | done | omega | assumption | grind [getD_set, getD_rep, toNat_succ, cntN_yes, cntN_no])
   rfl
  ·
   refine bR_dec (fun h12 => ?_) (fun h12 => ?_)
   ·
    refine req_i ?_ ?_
    · -- r1
     first | omega | ((try simp only [sigRaw, gV, nB, rawPost, inV, List.cons.injEq, DV.b.injEq, and_true, List.length_cons, List.length_nil]); first | done | omega | assumption | grind [getD_set, getD_rep, toNat_succ, cntN_yes, cntN_no])
    rfl
   ·
    refine all_i fun n6 => ?_
    refine imp_i fun h13 => ?_
    simp only [wrap_i64] at h13
    replace h13 : n6 = n5 - n4 := by (try simp only [wrap_i64] at h13); omega
    refine imp_i fun h14 => ?_
    refine imp_i fun h15 => ?_
    refine all_i fun n7 => ?_
    refine imp_i fun h16 => ?_
    simp only [wrap_i64] at h16
    replace h16 : n7 = 0 - n6 := by (try simp only [wrap_i64] at h16); omega
    refine imp_i fun h17 => ?_
    refine imp_i fun h18 => ?_
    refine all_i fun n8 => ?_
    refine imp_i fun h19 => ?_
    simp only [wrap_i64] at h19
    have td := tdiv_nn (a := n3) (b := 2) (by omega)
    rw [td] at h19
    replace h19 : n8 = max n6 n7 + n3 / 2 := by (try simp only [wrap_i64] at h19); omega
    refine imp_i fun h20 => ?_
    refine imp_i fun h21 => ?_
    refine bR_dec (fun h22 => ?_) (fun h22 => ?_)
    ·
     have rn := raw_neg (v := n5) (s := n4) (u := n3) (n := n8) (by omega) (by omega) (by omega)
     have t2 := tdiv_nn (a := n8) (b := n3) (by omega)
     refine all_i fun n9 => ?_
     refine imp_i fun h23 => ?_
     simp only [wrap_i64] at h23
     replace h23 : n9 = 0 - n8.tdiv n3 := by (try simp only [wrap_i64] at h23); omega
     have e9 : n9 = rawN n5 n4 n3 := by omega
     refine imp_i fun h24 => ?_
     refine imp_i fun h25 => ?_
     refine req_i ?_ ?_
     · -- r2
      first | omega | assumption | grind
     refine req_i ?_ ?_
     · -- r3
      first | omega | assumption | grind
     refine req_i ?_ ?_
     · -- r4
      first | omega | assumption | grind
     refine req_i ?_ ?_
     · -- r5
      first | omega | assumption | grind
     refine req_i ?_ ?_
     · -- r6
      first | omega | assumption | grind
     refine req_i ?_ ?_
     · -- r7
      first | omega | assumption | grind
     refine req_i ?_ ?_
     · -- r8
      first | omega | assumption | grind
     refine req_i ?_ ?_
     · -- r9
      first | omega | assumption | grind
     refine req_i ?_ ?_
     · -- r10
      first | trivial | assumption | (simp only [sigRl, gV, rlPost, List.cons.injEq, DV.b.injEq, and_true, List.length_cons, List.length_nil]; done) | ((try simp only [sigRl, gV, rlPost, List.cons.injEq, DV.b.injEq, and_true, List.length_cons, List.length_nil]); first | omega | assumption | grind)
     refine all_i fun n10 => ?_
     refine imp_i fun h26 => ?_
     refine imp_i fun h27 => ?_
     refine all_i fun n11 => ?_
     refine imp_i fun h28 => ?_
     refine imp_i fun h29 => ?_
     refine imp_i fun h30 => ?_
     try simp only [sigRl, gV, rlPost, List.cons.injEq, DV.b.injEq, and_true, List.length_cons, List.length_nil] at h30
     refine bR_dec (fun h31 => ?_) (fun h31 => ?_)
     ·
      refine req_i ?_ ?_
      · -- r11
       first | omega | assumption | grind
      refine req_i ?_ ?_
      · -- r12
       first | omega | assumption | grind
      refine req_i ?_ ?_
      · -- r13
       first | omega | ((try simp only [sigRaw, gV, nB, rawPost, inV, List.cons.injEq, DV.b.injEq, and_true, List.length_cons, List.length_nil, dec_iff]); first | done | omega | assumption | grind [getD_set, getD_rep, toNat_succ, cntN_yes, cntN_no])
      rfl
     ·
      refine req_i ?_ ?_
      · -- r14
       first | omega | assumption | grind
      refine req_i ?_ ?_
      · -- r15
       first | omega | assumption | grind
      refine req_i ?_ ?_
      · -- r16
       first | omega | ((try simp only [sigRaw, gV, nB, rawPost, inV, List.cons.injEq, DV.b.injEq, and_true, List.length_cons, List.length_nil]); first | done | omega | assumption | grind [getD_set, getD_rep, toNat_succ, cntN_yes, cntN_no])
      rfl
    ·
     have rn := raw_pos (v := n5) (s := n4) (u := n3) (n := n8) (by omega) (by omega) (by omega)
     have t2 := tdiv_nn (a := n8) (b := n3) (by omega)
     have e9 : n8.tdiv n3 = rawN n5 n4 n3 := by omega
     refine req_i ?_ ?_
     · -- r17
      first | omega | assumption | grind
     refine req_i ?_ ?_
     · -- r18
      first | omega | assumption | grind
     refine req_i ?_ ?_
     · -- r19
      first | omega | assumption | grind
     refine req_i ?_ ?_
     · -- r20
      first | omega | assumption | grind
     refine req_i ?_ ?_
     · -- r21
      first | omega | assumption | grind
     refine req_i ?_ ?_
     · -- r22
      first | omega | assumption | grind
     refine req_i ?_ ?_
     · -- r23
      first | omega | assumption | grind
     refine req_i ?_ ?_
     · -- r24
      first | omega | assumption | grind
     refine req_i ?_ ?_
     · -- r25
      first | trivial | assumption | (simp only [sigRl, gV, rlPost, List.cons.injEq, DV.b.injEq, and_true, List.length_cons, List.length_nil]; done) | ((try simp only [sigRl, gV, rlPost, List.cons.injEq, DV.b.injEq, and_true, List.length_cons, List.length_nil]); first | omega | assumption | grind)
     refine all_i fun n12 => ?_
     refine imp_i fun h32 => ?_
     refine imp_i fun h33 => ?_
     refine all_i fun n13 => ?_
     refine imp_i fun h34 => ?_
     refine imp_i fun h35 => ?_
     refine imp_i fun h36 => ?_
     try simp only [sigRl, gV, rlPost, List.cons.injEq, DV.b.injEq, and_true, List.length_cons, List.length_nil] at h36
     refine bR_dec (fun h37 => ?_) (fun h37 => ?_)
     ·
      refine req_i ?_ ?_
      · -- r26
       first | omega | assumption | grind
      refine req_i ?_ ?_
      · -- r27
       first | omega | assumption | grind
      refine req_i ?_ ?_
      · -- r28
       first | omega | ((try simp only [sigRaw, gV, nB, rawPost, inV, List.cons.injEq, DV.b.injEq, and_true, List.length_cons, List.length_nil, dec_iff]); first | done | omega | assumption | grind [getD_set, getD_rep, toNat_succ, cntN_yes, cntN_no])
      rfl
     ·
      refine req_i ?_ ?_
      · -- r29
       first | omega | assumption | grind
      refine req_i ?_ ?_
      · -- r30
       first | omega | assumption | grind
      refine req_i ?_ ?_
      · -- r31
       first | omega | ((try simp only [sigRaw, gV, nB, rawPost, inV, List.cons.injEq, DV.b.injEq, and_true, List.length_cons, List.length_nil]); first | done | omega | assumption | grind [getD_set, getD_rep, toNat_succ, cntN_yes, cntN_no])
      rfl
theorem ext_raw : ∀ p ∈ ([(31, Ext.ctr (ctOf sigRl))] : List (Nat × Ext)), ExtRow Try.prog p.1 p.2 := by
  intro p hp
  simp only [List.mem_cons, List.not_mem_nil, or_false] at hp
  rcases hp with rfl
  · trivial
theorem cts_raw : CtsOk Try.prog [(31, Ext.ctr (ctOf sigRl))] := ctsOk_of (cs := [(31, sigRl)])
  (fun p hp => by
    simp only [List.mem_cons, List.not_mem_nil, or_false] at hp
    rcases hp with rfl
    · exact fn_rl
)
  (fun f c h => by
    simp only [List.lookup_cons] at h
    repeat' split at h
    all_goals first | (cases h; done) | (rename_i e; have e := beq_iff_eq.1 e; subst e; cases h; refine ⟨_, ?_, rfl⟩; simp))
theorem fn_raw : FnOk Try.prog 35 sigRaw [] := fn_sound (by kernel_rfl) ext_raw cts_raw names vt_raw
end Go.Proofs.Ytbgooiiihmnnmaa

namespace Go.Proofs.Ytbgooiiihmnnmaa
open Go.Ev Go.Sp
set_option maxRecDepth 100000
theorem vc_clone : vcFn Try.prog [] noA [] 100 36 sigCl = (allB fun l0 : List Int => 
impB (l0.length ≤ (200 : Nat)) (
impB (∀ (y : Int), y ∈ l0 → (-9223372036854775808 : Int) ≤ y ∧ y ≤ (9223372036854775807 : Int)) (
impB (sigCl.pre [DV.l l0]) (
reqB (l0.length ≠ (0 : Nat)) (
reqB (((0 : Nat) + l0.length) * (0 + (1 : Nat)) ≤ l0.length.mul (1 : Nat)) (
reqB ((0 : Nat) + l0.length ≤ (1000000 : Nat)) (
reqB (((0 : Nat) + l0.length) * (1 : Nat) ≤ l0.length.mul (0 + (1 : Nat))) (
reqB (l0.length ≤ (200 : Nat)) (
reqB ((List.take l0.length (List.drop (0 : Nat) (List.take l0.length (List.drop (0 : Nat) l0)))).length = l0.length) (
reqB (∀ (y : Int),
 y ∈ List.take l0.length (List.drop (0 : Nat) (List.take l0.length (List.drop (0 : Nat) l0))) →
 (-9223372036854775808 : Int) ≤ y ∧ y ≤ (9223372036854775807 : Int)) (
reqB (sigCl.post [DV.l l0]
 [DV.l (List.take l0.length (List.drop (0 : Nat) (List.take l0.length (List.drop (0 : Nat) l0))))]) (
true)))))))))))) := by kernel_rfl
set_option maxHeartbeats 8000000 in
theorem vt_clone : vcFn Try.prog [] noA [] 100 36 sigCl = true := by
  rw [vc_clone]
  try simp only [Int.toNat_natCast, List.length_set, List.length_replicate, List.length_take, List.length_drop, List.length_append, List.length_cons, List.length_nil, Nat.min_self, List.take_take, lenCols_i, lenCols_b, List.drop_zero, List.take_length, List.take_nil, List.drop_nil, List.take_zero, List.nil_append, Nat.add_eq, Nat.mul_eq, Nat.sub_eq, Nat.zero_add, Nat.add_zero, Nat.sub_zero, Nat.mul_one]
  refine all_i fun l0 => ?_
  refine imp_i fun h0 => ?_
  refine imp_i fun h1 => ?_
  refine imp_i fun h2 => ?_
  try simp only [sigCl, cL, clPre, clPost, List.cons.injEq, DV.b.injEq, and_true, List.length_cons, List.length_nil] at h2
  refine req_i ?_ ?_
  · -- r0
   first | omega | ((try simp only [Nat.zero_add]); first | done | omega | assumption | grind [getD_set, getD_rep, toNat_succ, cntN_yes, cntN_no])
  refine req_i ?_ ?_
  · -- r1
   first | omega | ((try simp only [Nat.mul_eq]); first | done | omega | assumption | grind [getD_set, getD_rep, toNat_succ, cntN_yes, cntN_no])
  refine req_i ?_ ?_
  · -- r2
   first | omega | ((try simp only [Nat.zero_add]); first | done | omega | assumption | grind [getD_set, getD_rep, toNat_succ, cntN_yes, cntN_no])
  refine req_i ?_ ?_
  · -- r3
   first | omega | ((try simp only [Nat.mul_eq]); first | done | omega | assumption | grind [getD_set, getD_rep, toNat_succ, cntN_yes, cntN_no])
  refine req_i ?_ ?_
  · -- r4
   first | omega | ((try simp only [Nat.zero_add]); first | done | omega | assumption | grind [getD_set, getD_rep, toNat_succ, cntN_yes, cntN_no])
  refine req_i ?_ ?_
  · -- r5
   first | omega | ((try simp only [List.take_nil, List.take_zero, List.length_take, List.take_length, List.take_take, Nat.min_self, List.drop_nil, List.length_drop, List.drop_zero, List.length_cons, List.length_nil]); first | done | omega | assumption | grind [getD_set, getD_rep, toNat_succ, cntN_yes, cntN_no])
  refine req_i ?_ ?_
  · -- r6
   first | assumption | exact rep_bd (by omega) (by omega) | exact set_bd (by assumption) (by omega) (by omega) | exact take_bd (by assumption) | ((try simp only [List.take_nil, List.take_zero, List.length_take, List.take_length, List.take_take, Nat.min_self, List.drop_nil, List.length_drop, List.drop_zero, List.length_cons, List.length_nil]); first | assumption | exact rep_bd (by omega) (by omega) | exact set_bd (by assumption) (by omega) (by omega) | exact take_bd (by assumption) | grind [getD_set, getD_rep, toNat_succ, cntN_yes, cntN_no])
  refine req_i ?_ ?_
  · -- r7
   first | omega | ((try simp only [sigCl, cL, clPre, clPost, List.cons.injEq, DV.b.injEq, and_true, List.take_nil, List.take_zero, List.length_take, List.take_length, List.take_take, Nat.min_self, List.drop_nil, List.length_drop, List.drop_zero, List.length_cons, List.length_nil]); first | done | omega | assumption | grind [getD_set, getD_rep, toNat_succ, cntN_yes, cntN_no])
  rfl
theorem ext_clone : ∀ p ∈ ([] : List (Nat × Ext)), ExtRow Try.prog p.1 p.2 := by
  intro p hp
  cases hp
theorem cts_clone : CtsOk Try.prog [] := fun f c h => by cases h
theorem fn_clone : FnOk Try.prog 36 sigCl [] := fn_sound (by kernel_rfl) ext_clone cts_clone names vt_clone
end Go.Proofs.Ytbgooiiihmnnmaa

namespace Go.Proofs.Ytbgooiiihmnnmaa
open Go.Ev Go.Sp
set_option maxRecDepth 100000
theorem vc_put : vcFn Try.prog [(34, Ext.ctr (ctOf sigPl)), (35, Ext.ctr (ctOf sigRaw)), (36, Ext.ctr (ctOf sigCl))] (fun f p _ => at2 f p 44 6 dgL (none)) [] 100 12 sigPut = (allB fun l0 : List Int => 
impB (l0.length ≤ (200 : Nat)) (
impB (∀ (y : Int), y ∈ l0 → (-9223372036854775808 : Int) ≤ y ∧ y ≤ (9223372036854775807 : Int)) (
allB fun n1 : Int => 
impB ((-9223372036854775808 : Int) ≤ n1) (
impB (n1 ≤ (9223372036854775807 : Int)) (
allB fun n2 : Int => 
impB ((-9223372036854775808 : Int) ≤ n2) (
impB (n2 ≤ (9223372036854775807 : Int)) (
allB fun b3 : Bool => 
allB fun n4 : Int => 
impB ((-9223372036854775808 : Int) ≤ n4) (
impB (n4 ≤ (9223372036854775807 : Int)) (
allB fun n5 : Int => 
impB ((-9223372036854775808 : Int) ≤ n5) (
impB (n5 ≤ (9223372036854775807 : Int)) (
allB fun n6 : Int => 
impB ((-9223372036854775808 : Int) ≤ n6) (
impB (n6 ≤ (9223372036854775807 : Int)) (
impB (sigPut.pre
 [DV.l l0, DV.n n1, DV.n n2, DV.b b3, DV.n n4, DV.n n5, DV.n n6]) (
reqB (((0 : Nat) + l0.length) * (1 : Nat) ≤ l0.length.mul (1 : Nat)) (
reqB (l0.length ≤ (200 : Nat)) (
reqB ((List.take l0.length (List.drop (0 : Nat) l0)).length = l0.length) (
reqB (∀ (y : Int),
 y ∈ List.take l0.length (List.drop (0 : Nat) l0) → (-9223372036854775808 : Int) ≤ y ∧ y ≤ (9223372036854775807 : Int)) (
reqB ((-9223372036854775808 : Int) ≤ n1) (
reqB (n1 ≤ (9223372036854775807 : Int)) (
reqB ((-9223372036854775808 : Int) ≤ n2) (
reqB (n2 ≤ (9223372036854775807 : Int)) (
reqB ((-9223372036854775808 : Int) ≤ n4) (
reqB (n4 ≤ (9223372036854775807 : Int)) (
reqB ((-9223372036854775808 : Int) ≤ n5) (
reqB (n5 ≤ (9223372036854775807 : Int)) (
reqB (sigPl.pre
 [DV.l (List.take l0.length (List.drop (0 : Nat) l0)), DV.n n1, DV.n n2, DV.b b3,
 DV.n n4, DV.n n5]) (
allB fun n7 : Int => 
impB ((0 : Int) ≤ n7) (
impB (n7 ≤ (18 : Int)) (
impB (sigPl.post
 [DV.l (List.take l0.length (List.drop (0 : Nat) l0)), DV.n n1, DV.n n2, DV.b b3,
 DV.n n4, DV.n n5]
 [DV.n n7]) (
bR (dec (n7 ≠ (0 : Int))) (
 reqB ((0 : Int) ≤ n7) (
 reqB (n7 ≤ (18 : Int)) (
 reqB (sigPut.post
 [DV.l l0, DV.n n1, DV.n n2, DV.b b3, DV.n n4, DV.n n5, DV.n n6]
 [DV.l [], DV.n n7]) (
 true)))) (
 reqB ((0 : Int) ≤ n1) (
 reqB (n1 ≤ (4000 : Int)) (
 reqB ((1 : Int) ≤ n2) (
 reqB (n2 ≤ (40 : Int)) (
 reqB ((1 : Int) ≤ n4) (
 reqB (n4 ≤ (1000000 : Int)) (
 reqB ((-1000000000000000 : Int) ≤ n5) (
 reqB (n5 ≤ (1000000000000000 : Int)) (
 reqB ((-9223372036854775808 : Int) ≤ n6) (
 reqB (n6 ≤ (9223372036854775807 : Int)) (
 reqB (sigRaw.pre [DV.n n1, DV.n n2, DV.b b3, DV.n n4, DV.n n5, DV.n n6]) (
 allB fun n8 : Int => 
 impB ((-3000000000000000000 : Int) ≤ n8) (
 impB (n8 ≤ (3000000000000000000 : Int)) (
 allB fun b9 : Bool => 
 impB (sigRaw.post [DV.n n1, DV.n n2, DV.b b3, DV.n n4, DV.n n5, DV.n n6]
 [DV.n n8, DV.b b9]) (
 bR (bR (b9) (
 false) (
 true)) (
 reqB (sigPut.post
 [DV.l l0, DV.n n1, DV.n n2, DV.b b3, DV.n n4, DV.n n5, DV.n n6]
 [DV.l [], DV.n (5 : Int)]) (
 true)) (
 reqB (((0 : Nat) + l0.length) * (1 : Nat) ≤ l0.length.mul (1 : Nat)) (
 reqB (l0.length ≤ (200 : Nat)) (
 reqB ((List.take l0.length (List.drop (0 : Nat) l0)).length = l0.length) (
 reqB (∀ (y : Int),
 y ∈ List.take l0.length (List.drop (0 : Nat) l0) → (-9223372036854775808 : Int) ≤ y ∧ y ≤ (9223372036854775807 : Int)) (
 reqB (sigCl.pre [DV.l (List.take l0.length (List.drop (0 : Nat) l0))]) (
 allB fun l10 : List Int => 
 impB (l10.length ≤ (200 : Nat)) (
 impB (∀ (y : Int), y ∈ l10 → (-9223372036854775808 : Int) ≤ y ∧ y ≤ (9223372036854775807 : Int)) (
 impB (sigCl.post [DV.l (List.take l0.length (List.drop (0 : Nat) l0))] [DV.l l10]) (
 reqB ((-9223372036854775808 : Int) ≤ n1) (
 reqB (n1 ≤ (9223372036854775807 : Int)) (
 reqB ((-9223372036854775808 : Int) ≤ n2) (
 reqB (n2 ≤ (9223372036854775807 : Int)) (
 reqB ((-3000000000000000000 : Int) ≤ n8) (
 reqB (n8 ≤ (3000000000000000000 : Int)) (
 reqB (lenCols [Col.i Go.IntKind.i64 (-9223372036854775808 : Int) (9223372036854775807 : Int) l10] ≤ (200 : Nat)) (
 reqB (l10.length = lenCols [Col.i Go.IntKind.i64 (-9223372036854775808 : Int) (9223372036854775807 : Int) l10]) (
 reqB (∀ (y : Int), y ∈ l10 → (-9223372036854775808 : Int) ≤ y ∧ y ≤ (9223372036854775807 : Int)) (
 reqB (lenCols [Col.i Go.IntKind.i64 (-9223372036854775808 : Int) (9223372036854775807 : Int) l10] ≤ (200 : Nat)) (
 reqB (l10.length = lenCols [Col.i Go.IntKind.i64 (-9223372036854775808 : Int) (9223372036854775807 : Int) l10]) (
 reqB (∀ (y : Int), y ∈ l10 → (-9223372036854775808 : Int) ≤ y ∧ y ≤ (9223372036854775807 : Int)) (
 reqB (dgL.inv [DV.n n1, DV.n n2, DV.n n8, DV.l l10] [DV.n (0 : Int), DV.l l10]) (
 allB fun n11 : Int => 
 impB ((0 : Int) ≤ n11) (
 impB (n11 ≤ (40 : Int)) (
 allB fun l12 : List Int => 
 impB (l12.length ≤ (200 : Nat)) (
 impB (∀ (y : Int), y ∈ l12 → (-9223372036854775808 : Int) ≤ y ∧ y ≤ (9223372036854775807 : Int)) (
 impB (dgL.inv [DV.n n1, DV.n n2, DV.n n8, DV.l l10] [DV.n n11, DV.l l12]) (
 bR (dec (n11 < n2)) (
 allB fun n13 : Int => 
 impB (n13 = Go.IntKind.i64.wrap (n1 + n11)) (
 impB (Int.negSucc (9223372036854775807 : Nat) ≤ n13) (
 impB (n13 ≤ Int.ofNat (9223372036854775807 : Nat)) (
 allB fun n14 : Int => 
 impB (n14 = Go.IntKind.i64.wrap (n2 - (1 : Int))) (
 impB (Int.negSucc (9223372036854775807 : Nat) ≤ n14) (
 impB (n14 ≤ Int.ofNat (9223372036854775807 : Nat)) (
 allB fun n15 : Int => 
 impB (n15 = Go.IntKind.i64.wrap (n14 - n11)) (
 impB (Int.negSucc (9223372036854775807 : Nat) ≤ n15) (
 impB (n15 ≤ Int.ofNat (9223372036854775807 : Nat)) (
 reqB ((0 : Int) ≤ n15) (
 reqB ((0 : Int) ≤ n13) (
 reqB (n13.toNat < l10.length) (
 reqB (Nat.add (0 : Nat) n13.toNat < l12.length) (
 bR (bR (bR (bR (dec (n8 = n8)) (
 bR (bR (dec (n1 = n1)) (
 bR (dec (n2 = n2)) (
 bR (bR (b3) (
 b3) (
 bR (b3) (
 false) (
 true))) (
 bR (dec (n4 = n4)) (
 bR (dec (n5 = n5)) (
 true) (
 false)) (
 false)) (
 false)) (
 false)) (
 false)) (
 bR (bR (dec ((0 : Nat) = (0 : Nat))) (
 dec (l10.length = l10.length)) (
 false)) (
 bR (bR (dec ((0 : Nat) = (0 : Nat))) (
 dec (l0.length = l0.length)) (
 false)) (
 bR (bR (b9) (
 b9) (
 bR (b9) (
 false) (
 true))) (
 bR (bR (b9) (
 b9) (
 bR (b9) (
 false) (
 true))) (
 bR (dec (n8 = n8)) (
 bR (bR (dec (n8 = n8)) (
 bR (bR (b9) (
 b9) (
 bR (b9) (
 false) (
 true))) (
 true) (
 false)) (
 false)) (
 bR (dec (n6 = n6)) (
 bR (bR (dec (n1 = n1)) (
 bR (dec (n2 = n2)) (
 bR (bR (b3) (
 b3) (
 bR (b3) (
 false) (
 true))) (
 bR (dec (n4 = n4)) (
 bR (dec (n5 = n5)) (
 true) (
 false)) (
 false)) (
 false)) (
 false)) (
 false)) (
 bR (bR (dec (n8 = n8)) (
 bR (bR (b9) (
 b9) (
 bR (b9) (
 false) (
 true))) (
 true) (
 false)) (
 false)) (
 bR (dec (n7 = n7)) (
 bR (dec (n7 = n7)) (
 bR (bR (dec (n1 = n1)) (
 bR (dec (n2 = n2)) (
 bR (bR (b3) (
 b3) (
 bR (b3) (
 false) (
 true))) (
 bR (dec (n4 = n4)) (
 bR (dec (n5 = n5)) (
 true) (
 false)) (
 false)) (
 false)) (
 false)) (
 false)) (
 bR (bR (dec ((0 : Nat) = (0 : Nat))) (
 dec (l0.length = l0.length)) (
 false)) (
 bR (bR (b9) (
 b9) (
 bR (b9) (
 false) (
 true))) (
 bR (dec (n8 = n8)) (
 bR (dec (n7 = n7)) (
 bR (dec (n6 = n6)) (
 bR (bR (dec (n1 = n1)) (
 bR (dec (n2 = n2)) (
 bR (bR (b3) (
 b3) (
 bR (b3) (
 false) (
 true))) (
 bR (dec (n4 = n4)) (
 bR (dec (n5 = n5)) (
 true) (
 false)) (
 false)) (
 false)) (
 false)) (
 false)) (
 bR (bR (dec ((0 : Nat) = (0 : Nat))) (
 dec (l0.length = l0.length)) (
 false)) (
 true) (
 false)) (
 false)) (
 false)) (
 false)) (
 false)) (
 false)) (
 false)) (
 false)) (
 false)) (
 false)) (
 false)) (
 false)) (
 false)) (
 false)) (
 false)) (
 false)) (
 false)) (
 false)) (
 false)) (
 false)) (
 false)) (
 dec (sameRT
 (rtAt Go.Proofs.Try.prog (12 : Nat)
 [Bool.true, Bool.true, Bool.true, Bool.true, Bool.true, Bool.false, Bool.true, Bool.false]).fst
 (rtAt Go.Proofs.Try.prog (12 : Nat)
 [Bool.true, Bool.true, Bool.true, Bool.true, Bool.true, Bool.false, Bool.true, Bool.false]).snd.fst
 (rtAt Go.Proofs.Try.prog (12 : Nat)
 [Bool.true, Bool.true, Bool.true, Bool.true, Bool.true, Bool.false, Bool.true, Bool.false]).snd.snd
 (rtAt Go.Proofs.Try.prog (12 : Nat)
 [Bool.true, Bool.true, Bool.true, Bool.true, Bool.true, Bool.false, Bool.true, Bool.false]).fst
 (rtAt Go.Proofs.Try.prog (12 : Nat)
 [Bool.true, Bool.true, Bool.true, Bool.true, Bool.true, Bool.false, Bool.true, Bool.false]).snd.fst
 (rtAt Go.Proofs.Try.prog (12 : Nat)
 [Bool.true, Bool.true, Bool.true, Bool.true, Bool.true, Bool.false, Bool.true, Bool.false]).snd.snd)) (
 false)) (
 true) (
 false)) (
 bR (bR (dec (n2 = n2)) (
 true) (
 false)) (
 bR (bR (bR (dec (n1 = n1)) (
 bR (dec (n2 = n2)) (
 bR (bR (b3) (
 b3) (
 bR (b3) (
 false) (
 true))) (
 bR (dec (n4 = n4)) (
 bR (dec (n5 = n5)) (
 true) (
 false)) (
 false)) (
 false)) (
 false)) (
 false)) (
 bR (bR (bR (dec ((0 : Nat) = (0 : Nat))) (
 dec (l10.length = l10.length)) (
 false)) (
 true) (
 false)) (
 bR (bR (dec (n1 = n1)) (
 bR (dec (n2 = n2)) (
 bR (bR (b3) (
 b3) (
 bR (b3) (
 false) (
 true))) (
 bR (dec (n4 = n4)) (
 bR (dec (n5 = n5)) (
 true) (
 false)) (
 false)) (
 false)) (
 false)) (
 false)) (
 bR (bR (dec (n8 = n8)) (
 true) (
 false)) (
 true) (
 false)) (
 false)) (
 false)) (
 false)) (
 reqB ((0 : Int) ≤ n11 + (1 : Int)) (
 reqB (n11 + (1 : Int) ≤ (40 : Int)) (
 reqB (lenCols
 [Col.i Go.IntKind.i64 (-9223372036854775808 : Int) (9223372036854775807 : Int)
 (l12.set (Nat.add (0 : Nat) n13.toNat)
 (opI (SO.shr Go.IntKind.i64) n8 n15 % Int.ofNat (2 : Nat)))] ≤
 (200 : Nat)) (
 reqB ((l12.set (Nat.add (0 : Nat) n13.toNat) (opI (SO.shr Go.IntKind.i64) n8 n15 % Int.ofNat (2 : Nat))).length =
 lenCols
 [Col.i Go.IntKind.i64 (-9223372036854775808 : Int) (9223372036854775807 : Int)
 (l12.set (Nat.add (0 : Nat) n13.toNat) (opI (SO.shr Go.IntKind.i64) n8 n15 % Int.ofNat (2 : Nat)))]) (
 reqB (∀ (y : Int),
 y ∈ l12.set (Nat.add (0 : Nat) n13.toNat) (opI (SO.shr Go.IntKind.i64) n8 n15 % Int.ofNat (2 : Nat)) →
 (-9223372036854775808 : Int) ≤ y ∧ y ≤ (9223372036854775807 : Int)) (
 reqB (dgL.inv [DV.n n1, DV.n n2, DV.n n8, DV.l l10]
 [DV.n (n11 + (1 : Int)),
 DV.l
 (l12.set (Nat.add (0 : Nat) n13.toNat) (opI (SO.shr Go.IntKind.i64) n8 n15 % Int.ofNat (2 : Nat)))]) (
 reqB (dgL.mea [DV.n n1, DV.n n2, DV.n n8, DV.l l10]
 [DV.n (n11 + (1 : Int)),
 DV.l
 (l12.set (Nat.add (0 : Nat) n13.toNat)
 (opI (SO.shr Go.IntKind.i64) n8 n15 % Int.ofNat (2 : Nat)))] <
 dgL.mea [DV.n n1, DV.n n2, DV.n n8, DV.l l10] [DV.n n11, DV.l l12]) (
 true)))))))) (
 false)) (
 false)) (
 false))))))))))))))) (
 reqB (((0 : Nat) + l10.length) * (1 : Nat) ≤ l12.length.mul (1 : Nat)) (
 reqB (l10.length ≤ (200 : Nat)) (
 reqB ((List.take l10.length (List.drop (0 : Nat) l12)).length = l10.length) (
 reqB (∀ (y : Int),
 y ∈ List.take l10.length (List.drop (0 : Nat) l12) →
 (-9223372036854775808 : Int) ≤ y ∧ y ≤ (9223372036854775807 : Int)) (
 reqB (sigPut.post
 [DV.l l0, DV.n n1, DV.n n2, DV.b b3, DV.n n4, DV.n n5, DV.n n6]
 [DV.l (List.take l10.length (List.drop (0 : Nat) l12)), DV.n (0 : Int)]) (
 true)))))))))))))))))))))))))))))))))))))))))))))))))))))))))))))))))))))))))))))) := by kernel_rfl
set_option maxHeartbeats 8000000 in
theorem vt_put : vcFn Try.prog [(34, Ext.ctr (ctOf sigPl)), (35, Ext.ctr (ctOf sigRaw)), (36, Ext.ctr (ctOf sigCl))] (fun f p _ => at2 f p 44 6 dgL (none)) [] 100 12 sigPut = true := by
  rw [vc_put]
  try simp only [Int.toNat_natCast, List.length_set, List.length_replicate, List.length_take, List.length_drop, List.length_append, List.length_cons, List.length_nil, Nat.min_self, List.take_take, lenCols_i, lenCols_b, List.drop_zero, List.take_length, List.take_nil, List.drop_nil, List.take_zero, List.nil_append, Nat.add_eq, Nat.mul_eq, Nat.sub_eq, Nat.zero_add, Nat.add_zero, Nat.sub_zero, Nat.mul_one]
  refine all_i fun l0 => ?_
  refine imp_i fun h0 => ?_
  refine imp_i fun h1 => ?_
  refine all_i fun n1 => ?_
  refine imp_i fun h2 => ?_
  refine imp_i fun h3 => ?_
  refine all_i fun n2 => ?_
  refine imp_i fun h4 => ?_
  refine imp_i fun h5 => ?_
  refine all_i fun b3 => ?_
  refine all_i fun n4 => ?_
  refine imp_i fun h6 => ?_
  refine imp_i fun h7 => ?_
  refine all_i fun n5 => ?_
  refine imp_i fun h8 => ?_
  refine imp_i fun h9 => ?_
  refine all_i fun n6 => ?_
  refine imp_i fun h10 => ?_
  refine imp_i fun h11 => ?_
  refine imp_i fun h12 => ?_
  try simp only [sigPut, cL, fV, putPost, plErr, okL, inV, okF, List.cons.injEq, DV.b.injEq, and_true, List.length_cons, List.length_nil] at h12
  refine req_i ?_ ?_
  · -- r0
   first | omega | ((try simp only [Nat.mul_eq]); first | done | omega | assumption | grind [getD_set, getD_rep, toNat_succ, cntN_yes, cntN_no])
  refine req_i ?_ ?_
  · -- r1
   first | omega | ((try simp only [Nat.zero_add]); first | done | omega | assumption | grind [getD_set, getD_rep, toNat_succ, cntN_yes, cntN_no])
  refine req_i ?_ ?_
  · -- r2
   first | omega | ((try simp only [List.take_nil, List.take_zero, List.length_take, List.take_length, List.take_take, Nat.min_self, List.drop_nil, List.length_drop, List.drop_zero, List.length_cons, List.length_nil]); first | done | omega | assumption | grind [getD_set, getD_rep, toNat_succ, cntN_yes, cntN_no])
  refine req_i ?_ ?_
  · -- r3
   first | assumption | exact rep_bd (by omega) (by omega) | exact set_bd (by assumption) (by omega) (by omega) | exact take_bd (by assumption) | ((try simp only [List.take_nil, List.take_zero, List.length_take, List.take_length, List.take_take, Nat.min_self, List.drop_nil, List.length_drop, List.drop_zero, List.length_cons, List.length_nil]); first | assumption | exact rep_bd (by omega) (by omega) | exact set_bd (by assumption) (by omega) (by omega) | exact take_bd (by assumption) | grind [getD_set, getD_rep, toNat_succ, cntN_yes, cntN_no])
  refine req_i ?_ ?_
  · -- r4
   first | omega | assumption | grind
  refine req_i ?_ ?_
  · -- r5
   first | omega | assumption | grind
  refine req_i ?_ ?_
  · -- r6
   first | omega | assumption | grind
  refine req_i ?_ ?_
  · -- r7
   first | omega | assumption | grind
  refine req_i ?_ ?_
  · -- r8
   first | omega | assumption | grind
  refine req_i ?_ ?_
  · -- r9
   first | omega | assumption | grind
  refine req_i ?_ ?_
  · -- r10
   first | omega | assumption | grind
  refine req_i ?_ ?_
  · -- r11
   first | omega | assumption | grind
  refine req_i ?_ ?_
  · -- r12
   first | omega | ((try simp only [sigPl, cL, fV, plPost, plErr, okL, okF, List.cons.injEq, DV.b.injEq, and_true, List.take_nil, List.take_zero, List.length_take, List.take_length, List.take_take, Nat.min_self, List.drop_nil, List.length_drop, List.drop_zero, List.length_cons, List.length_nil]); first | done | omega | assumption | grind [getD_set, getD_rep, toNat_succ, cntN_yes, cntN_no])
  refine all_i fun n7 => ?_
  refine imp_i fun h13 => ?_
  refine imp_i fun h14 => ?_
  refine imp_i fun h15 => ?_
  try simp only [Int.toNat_natCast, List.length_set, List.length_replicate, List.length_take, List.length_drop, List.length_append, List.length_cons, List.length_nil, Nat.min_self, List.take_take, lenCols_i, lenCols_b, List.drop_zero, List.take_length, List.take_nil, List.drop_nil, List.take_zero, List.nil_append, Nat.add_eq, Nat.mul_eq, Nat.sub_eq, Nat.zero_add, Nat.add_zero, Nat.sub_zero, Nat.mul_one] at h15
  refine bR_dec (fun h16 => ?_) (fun h16 => ?_)
  ·
   have pe : plErr l0 n1 n2 n4 n5 n7 := by
     rcases h15 with h | ⟨_, e⟩
     · exact h
     · omega
   refine req_i ?_ ?_
   · -- r13
    first | omega | assumption | grind
   refine req_i ?_ ?_
   · -- r14
    first | omega | assumption | grind
   refine req_i ?_ ?_
   · -- r15
    exact .inl ⟨pe, rfl⟩
   rfl
  ·
   obtain ⟨ok, e7⟩ : okL l0 n1 n2 n4 n5 ∧ n7 = 0 := by
     rcases h15 with h | h
     · rcases h with ⟨_, e⟩ | ⟨_, _, e⟩ | ⟨_, _, _, e⟩ <;> omega
     · exact h
   have ok2 := ok
   unfold okL okF at ok2
   obtain ⟨ok2, len, fm⟩ := ok2
   refine req_i ?_ ?_
   · -- r16
    first | omega | assumption | grind
   refine req_i ?_ ?_
   · -- r17
    first | omega | assumption | grind
   refine req_i ?_ ?_
   · -- r18
    first | omega | assumption | grind
   refine req_i ?_ ?_
   · -- r19
    first | omega | assumption | grind
   refine req_i ?_ ?_
   · -- r20
    first | omega | assumption | grind
   refine req_i ?_ ?_
   · -- r21
    first | omega | assumption | grind
   refine req_i ?_ ?_
   · -- r22
    first | omega | assumption | grind
   refine req_i ?_ ?_
   · -- r23
    first | omega | assumption | grind
   refine req_i ?_ ?_
   · -- r24
    first | omega | assumption | grind
   refine req_i ?_ ?_
   · -- r25
    first | omega | assumption | grind
   refine req_i ?_ ?_
   · -- r26
    first | trivial | assumption | (simp only [sigRaw, gV, nB, rawPost, inV, List.cons.injEq, DV.b.injEq, and_true, List.length_cons, List.length_nil]; done) | ((try simp only [sigRaw, gV, nB, rawPost, inV, List.cons.injEq, DV.b.injEq, and_true, List.length_cons, List.length_nil]); first | omega | assumption | grind)
   refine all_i fun n8 => ?_
   refine imp_i fun h17 => ?_
   refine imp_i fun h18 => ?_
   refine all_i fun b9 => ?_
   refine imp_i fun h19 => ?_
   try simp only [Int.toNat_natCast, List.length_set, List.length_replicate, List.length_take, List.length_drop, List.length_append, List.length_cons, List.length_nil, Nat.min_self, List.take_take, lenCols_i, lenCols_b, List.drop_zero, List.take_length, List.take_nil, List.drop_nil, List.take_zero, List.nil_append, Nat.add_eq, Nat.mul_eq, Nat.sub_eq, Nat.zero_add, Nat.add_zero, Nat.sub_zero, Nat.mul_one] at h19
   obtain ⟨ri, rn⟩ := h19
   refine bR_i (fun h20 => ?_) (fun h20 => ?_)
   ·
    simp only [bR_iff, bR_iff_f, dec_iff, dec_f, Bool.false_eq_true, Bool.true_eq_false, false_implies, imp_false, and_true, true_and, implies_true, Classical.not_not] at h20
    have b9f : ¬inV n2 b3 n4 n5 n6 := fun g => by have := ri.2 g; simp [this, bR] at h20
    refine req_i ?_ ?_
    · -- r27
     exact .inr (.inl ⟨ok, b9f, rfl, rfl⟩)
    rfl
   ·
    simp only [bR_iff, bR_iff_f, dec_iff, dec_f, Bool.false_eq_true, Bool.true_eq_false, false_implies, imp_false, and_true, true_and, implies_true, Classical.not_not] at h20
    have b9t : b9 = true := by cases b9 <;> simp [bR] at h20 ⊢
    have iv := ri.1 b9t
    have rw8 := rn b9t
    have iv2 := iv
    unfold inV at iv2
    rw [← rw8] at iv2
    have rb := R_bd (g := b3) (b := n2) (by omega) (by omega)
    have pb := p2_b (b := n2) (by omega) (by omega)
    have lp := lo_p2 (g := b3) (b := n2) (by omega) (by omega)
    refine req_i ?_ ?_
    · -- r28
     first | omega | ((try simp only [Nat.mul_eq]); first | done | omega | assumption | grind [getD_set, getD_rep, toNat_succ, cntN_yes, cntN_no])
    refine req_i ?_ ?_
    · -- r29
     first | omega | ((try simp only [Nat.zero_add]); first | done | omega | assumption | grind [getD_set, getD_rep, toNat_succ, cntN_yes, cntN_no])
    refine req_i ?_ ?_
    · -- r30
     first | omega | ((try simp only [List.take_nil, List.take_zero, List.length_take, List.take_length, List.take_take, Nat.min_self, List.drop_nil, List.length_drop, List.drop_zero, List.length_cons, List.length_nil]); first | done | omega | assumption | grind [getD_set, getD_rep, toNat_succ, cntN_yes, cntN_no])
    refine req_i ?_ ?_
    · -- r31
     first | assumption | exact rep_bd (by omega) (by omega) | exact set_bd (by assumption) (by omega) (by omega) | exact take_bd (by assumption) | ((try simp only [List.take_nil, List.take_zero, List.length_take, List.take_length, List.take_take, Nat.min_self, List.drop_nil, List.length_drop, List.drop_zero, List.length_cons, List.length_nil]); first | assumption | exact rep_bd (by omega) (by omega) | exact set_bd (by assumption) (by omega) (by omega) | exact take_bd (by assumption) | grind [getD_set, getD_rep, toNat_succ, cntN_yes, cntN_no])
    refine req_i ?_ ?_
    · -- r32
     first | trivial | assumption | (simp only [sigCl, cL, clPre, clPost, List.cons.injEq, DV.b.injEq, and_true, List.take_nil, List.take_zero, List.length_take, List.take_length, List.take_take, Nat.min_self, List.drop_nil, List.length_drop, List.drop_zero, List.length_cons, List.length_nil]; done) | ((try simp only [sigCl, cL, clPre, clPost, List.cons.injEq, DV.b.injEq, and_true, List.take_nil, List.take_zero, List.length_take, List.take_length, List.take_take, Nat.min_self, List.drop_nil, List.length_drop, List.drop_zero, List.length_cons, List.length_nil]); first | omega | assumption | grind)
    refine all_i fun l10 => ?_
    refine imp_i fun h21 => ?_
    refine imp_i fun h22 => ?_
    refine imp_i fun h23 => ?_
    try simp only [sigCl, cL, clPre, clPost, List.cons.injEq, DV.b.injEq, and_true, List.take_nil, List.take_zero, List.length_take, List.take_length, List.take_take, Nat.min_self, List.drop_nil, List.length_drop, List.drop_zero, List.length_cons, List.length_nil] at h23
    have k10 : l10.length = l0.length := by rw [h23]
    refine req_i ?_ ?_
    · -- r33
     first | omega | assumption | grind
    refine req_i ?_ ?_
    · -- r34
     first | omega | assumption | grind
    refine req_i ?_ ?_
    · -- r35
     first | omega | assumption | grind
    refine req_i ?_ ?_
    · -- r36
     first | omega | assumption | grind
    refine req_i ?_ ?_
    · -- r37
     first | omega | assumption | grind
    refine req_i ?_ ?_
    · -- r38
     first | omega | assumption | grind
    refine req_i ?_ ?_
    · -- r39
     first | omega | ((try simp only [List.length_cons, List.length_nil, lenCols_i, lenCols_b]); first | done | omega | assumption | grind [getD_set, getD_rep, toNat_succ, cntN_yes, cntN_no])
    refine req_i ?_ ?_
    · -- r40
     first | omega | ((try simp only [List.length_cons, List.length_nil, lenCols_i, lenCols_b]); first | done | omega | assumption | grind [getD_set, getD_rep, toNat_succ, cntN_yes, cntN_no])
    refine req_i ?_ ?_
    · -- r41
     first | assumption | exact rep_bd (by omega) (by omega) | exact set_bd (by assumption) (by omega) (by omega) | exact take_bd (by assumption) | ((try simp only [Nat.zero_add]); first | assumption | exact rep_bd (by omega) (by omega) | exact set_bd (by assumption) (by omega) (by omega) | exact take_bd (by assumption) | grind [getD_set, getD_rep, toNat_succ, cntN_yes, cntN_no])
    refine req_i ?_ ?_
    · -- r42
     first | omega | ((try simp only [List.length_cons, List.length_nil, lenCols_i, lenCols_b]); first | done | omega | assumption | grind [getD_set, getD_rep, toNat_succ, cntN_yes, cntN_no])
    refine req_i ?_ ?_
    · -- r43
     first | omega | ((try simp only [List.length_cons, List.length_nil, lenCols_i, lenCols_b]); first | done | omega | assumption | grind [getD_set, getD_rep, toNat_succ, cntN_yes, cntN_no])
    refine req_i ?_ ?_
    · -- r44
     first | assumption | exact rep_bd (by omega) (by omega) | exact set_bd (by assumption) (by omega) (by omega) | exact take_bd (by assumption) | ((try simp only [Nat.zero_add]); first | assumption | exact rep_bd (by omega) (by omega) | exact set_bd (by assumption) (by omega) (by omega) | exact take_bd (by assumption) | grind [getD_set, getD_rep, toNat_succ, cntN_yes, cntN_no])
    refine req_i ?_ ?_
    · -- r45
     (try simp only [dgL, dgInv]); exact ⟨by omega, by omega, by omega, by omega, by omega, by omega, by first | rfl | trivial, fun j hj => by rw [if_neg (by omega)]⟩
    refine all_i fun n11 => ?_
    refine imp_i fun h24 => ?_
    refine imp_i fun h25 => ?_
    refine all_i fun l12 => ?_
    refine imp_i fun h26 => ?_
    refine imp_i fun h27 => ?_
    refine imp_i fun h28 => ?_
    try simp only [dgL, cL, nB, dgInv, dgMea, List.cons.injEq, DV.b.injEq, and_true, List.length_cons, List.length_nil] at h28
    refine bR_dec (fun h29 => ?_) (fun h29 => ?_)
    ·
     refine all_i fun n13 => ?_
     refine imp_i fun h30 => ?_
     simp only [wrap_i64] at h30
     replace h30 : n13 = n1 + n11 := by (try simp only [wrap_i64] at h30); omega
     refine imp_i fun h31 => ?_
     refine imp_i fun h32 => ?_
     refine all_i fun n14 => ?_
     refine imp_i fun h33 => ?_
     simp only [wrap_i64] at h33
     replace h33 : n14 = n2 - 1 := by (try simp only [wrap_i64] at h33); omega
     refine imp_i fun h34 => ?_
     refine imp_i fun h35 => ?_
     refine all_i fun n15 => ?_
     refine imp_i fun h36 => ?_
     simp only [wrap_i64] at h36
     replace h36 : n15 = n14 - n11 := by (try simp only [wrap_i64] at h36); omega
     have sr := shr_eq (a := n8) (n := n15) (by omega) (by omega)
     have ds := dg_step (a := n1) (b := n2) (n := n8) (i := n11) (v := n8 / p2 n15 % 2) (l0 := l10) (l := l12) (by omega) (by omega) h29 (by omega) h28.2.2.2.2.2.2.1 (by rw [show n15 = n2 - 1 - n11 by omega]) h28.2.2.2.2.2.2.2
     rw [← show n13 = n1 + n11 by omega] at ds
     refine imp_i fun h37 => ?_
     refine imp_i fun h38 => ?_
     refine req_i ?_ ?_
     · -- r46
      first | omega | assumption | grind
     refine req_i ?_ ?_
     · -- r47
      first | omega | assumption | grind
     refine req_i ?_ ?_
     · -- r48
      first | omega | ((try simp only [Int.toNat_natCast, List.length_cons, List.length_nil]); first | done | omega | assumption | grind [getD_set, getD_rep, toNat_succ, cntN_yes, cntN_no])
     refine req_i ?_ ?_
     · -- r49
      first | omega | ((try simp only [Int.toNat_natCast, List.length_cons, List.length_nil, Nat.add_eq, Nat.zero_add, Nat.add_zero]); first | done | omega | assumption | grind [getD_set, getD_rep, toNat_succ, cntN_yes, cntN_no])
     refine bR_t ?_ ?_
     · -- g0
      first | (simp only [sameRT_self, bR_iff, bR_iff_f, dec_iff, dec_f, beqB_iff', andB_iff', reduceCtorEq, imp_self, false_implies, and_true, true_and, implies_true, and_self, not_true_eq_false, forall_const]; done) | (simp [sameRT_self, bR_iff, dec_iff, beqB_iff', andB_iff']; done) | (simp [sameRT_self, bR_iff, dec_iff, beqB_iff', andB_iff']; omega)
     refine bR_t ?_ ?_
     · -- g1
      first | rfl | (simp only [bR_iff, bR_iff_f, dec_iff, dec_f, beqB_iff', andB_iff', reduceCtorEq, imp_self, false_implies, and_true, true_and, implies_true, and_self]; done) | (simp [bR_iff, dec_iff, beqB_iff', andB_iff']; done) | (simp [bR_iff, dec_iff, beqB_iff', andB_iff']; omega)
     refine bR_t ?_ ?_
     · -- g2
      first | rfl | (simp only [bR_iff, bR_iff_f, dec_iff, dec_f, beqB_iff', andB_iff', reduceCtorEq, imp_self, false_implies, and_true, true_and, implies_true, and_self]; done) | (simp [bR_iff, dec_iff, beqB_iff', andB_iff']; done) | (simp [bR_iff, dec_iff, beqB_iff', andB_iff']; omega)
     refine req_i ?_ ?_
     · -- r50
      first | omega | assumption | grind
     refine req_i ?_ ?_
     · -- r51
      first | omega | assumption | grind
     refine req_i ?_ ?_
     · -- r52
      first | omega | ((try simp only [Int.toNat_natCast, List.length_set, List.length_cons, List.length_nil, lenCols_i, lenCols_b, Nat.add_eq, Nat.zero_add, Nat.add_zero]); first | done | omega | assumption | grind [getD_set, getD_rep, toNat_succ, cntN_yes, cntN_no])
     refine req_i ?_ ?_
     · -- r53
      first | omega | ((try simp only [Int.toNat_natCast, List.length_set, List.length_cons, List.length_nil, lenCols_i, lenCols_b, Nat.add_eq, Nat.zero_add, Nat.add_zero]); first | done | omega | assumption | grind [getD_set, getD_rep, toNat_succ, cntN_yes, cntN_no])
     refine req_i ?_ ?_
     · -- r54
      (try simp only [Nat.add_eq, Nat.zero_add]); exact set_bd h27 (by show _ ≤ _ % (2 : Int); omega) (by show _ % (2 : Int) ≤ _; omega)
     refine req_i ?_ ?_
     · -- r55
      (try simp only [dgL, dgInv, Nat.add_eq, Nat.zero_add]); rw [sr]; exact ⟨by omega, by omega, by omega, by omega, by omega, by omega, by rw [List.length_set]; exact h28.2.2.2.2.2.2.1, ds⟩
     refine req_i ?_ ?_
     · -- r56
      first | omega | ((try simp only [dgL, cL, nB, dgInv, dgMea, List.cons.injEq, DV.b.injEq, and_true, Int.toNat_natCast, List.length_set, List.length_cons, List.length_nil, Nat.add_eq, Nat.zero_add, Nat.add_zero]); first | done | omega | assumption | grind [getD_set, getD_rep, toNat_succ, cntN_yes, cntN_no])
     rfl
    ·
     refine req_i ?_ ?_
     · -- r57
      first | omega | ((try simp only [Nat.mul_eq]); first | done | omega | assumption | grind [getD_set, getD_rep, toNat_succ, cntN_yes, cntN_no])
     refine req_i ?_ ?_
     · -- r58
      first | omega | ((try simp only [Nat.zero_add]); first | done | omega | assumption | grind [getD_set, getD_rep, toNat_succ, cntN_yes, cntN_no])
     refine req_i ?_ ?_
     · -- r59
      first | omega | ((try simp only [List.take_nil, List.take_zero, List.length_take, List.take_length, List.take_take, Nat.min_self, List.drop_nil, List.length_drop, List.drop_zero, List.length_cons, List.length_nil]); first | done | omega | assumption | grind [getD_set, getD_rep, toNat_succ, cntN_yes, cntN_no])
     refine req_i ?_ ?_
     · -- r60
      first | assumption | exact rep_bd (by omega) (by omega) | exact set_bd (by assumption) (by omega) (by omega) | exact take_bd (by assumption) | ((try simp only [List.take_nil, List.take_zero, List.length_take, List.take_length, List.take_take, Nat.min_self, List.drop_nil, List.length_drop, List.drop_zero, List.length_cons, List.length_nil]); first | assumption | exact rep_bd (by omega) (by omega) | exact set_bd (by assumption) (by omega) (by omega) | exact take_bd (by assumption) | grind [getD_set, getD_rep, toNat_succ, cntN_yes, cntN_no])
     refine req_i ?_ ?_
     · -- r61
      (try simp only [List.drop_zero]); rw [List.take_of_length_le (by omega)]; exact .inr (.inr ⟨ok, iv, by
        rw [← rw8]; have g := h28.2.2.2.2.2.2; rw [h23] at g; exact putP_dg (i := n11) (by omega) g.1 g.2, rfl⟩)
     rfl
theorem ext_put : ∀ p ∈ ([(34, Ext.ctr (ctOf sigPl)), (35, Ext.ctr (ctOf sigRaw)), (36, Ext.ctr (ctOf sigCl))] : List (Nat × Ext)), ExtRow Try.prog p.1 p.2 := by
  intro p hp
  simp only [List.mem_cons, List.not_mem_nil, or_false] at hp
  rcases hp with rfl | rfl | rfl
  · trivial
  · trivial
  · trivial
theorem cts_put : CtsOk Try.prog [(34, Ext.ctr (ctOf sigPl)), (35, Ext.ctr (ctOf sigRaw)), (36, Ext.ctr (ctOf sigCl))] := ctsOk_of (cs := [(34, sigPl), (35, sigRaw), (36, sigCl)])
  (fun p hp => by
    simp only [List.mem_cons, List.not_mem_nil, or_false] at hp
    rcases hp with rfl | rfl | rfl
    · exact fn_pl
    · exact fn_raw
    · exact fn_clone
)
  (fun f c h => by
    simp only [List.lookup_cons] at h
    repeat' split at h
    all_goals first | (cases h; done) | (rename_i e; have e := beq_iff_eq.1 e; subst e; cases h; refine ⟨_, ?_, rfl⟩; simp))
theorem fn_put : FnOk Try.prog 12 sigPut [] := fn_sound (by kernel_rfl) ext_put cts_put names vt_put
end Go.Proofs.Ytbgooiiihmnnmaa

namespace Go.Proofs.Ytbgooiiihmnnmaa
open Go.Ev Go.Sp
set_option maxRecDepth 100000
theorem vc_nu : vcFn Try.prog [] (fun f p _ => at2 f p 46 58 nuL (none)) [] 100 46 sigNu = (allB fun l0 : List Int => 
impB (l0.length ≤ (40 : Nat)) (
impB (∀ (y : Int), y ∈ l0 → (0 : Int) ≤ y ∧ y ≤ (1 : Int)) (
impB (sigNu.pre [DV.l l0]) (
reqB (((0 : Nat) + l0.length) * (1 : Nat) ≤ l0.length.mul (1 : Nat)) (
reqB (l0.length ≤ (40 : Nat)) (
reqB ((List.take l0.length (List.drop (0 : Nat) l0)).length = l0.length) (
reqB (∀ (y : Int), y ∈ List.take l0.length (List.drop (0 : Nat) l0) → (0 : Int) ≤ y ∧ y ≤ (1 : Int)) (
reqB (nuL.inv [DV.l (List.take l0.length (List.drop (0 : Nat) l0))] [DV.n (0 : Int), DV.n (0 : Int)]) (
allB fun n1 : Int => 
impB ((0 : Int) ≤ n1) (
impB (n1 ≤ (40 : Int)) (
allB fun n2 : Int => 
impB ((0 : Int) ≤ n2) (
impB (n2 ≤ (1099511627775 : Int)) (
impB (nuL.inv [DV.l (List.take l0.length (List.drop (0 : Nat) l0))] [DV.n n1, DV.n n2]) (
bR (dec (n1 < (↑l0.length : Int))) (
 reqB (n1.toNat < l0.length) (
 reqB (Nat.add (0 : Nat) n1.toNat < l0.length) (
 bR (bR (bR (dec ((0 : Nat) = (0 : Nat))) (
 dec (l0.length = l0.length)) (
 false)) (
 bR (bR (dec ((0 : Nat) = (0 : Nat))) (
 dec (l0.length = l0.length)) (
 false)) (
 bR (dec ((↑l0.length : Int) = (↑l0.length : Int))) (
 true) (
 false)) (
 false)) (
 false)) (
 reqB ((0 : Int) ≤ n1 + (1 : Int)) (
 reqB (n1 + (1 : Int) ≤ (40 : Int)) (
 reqB ((0 : Int) ≤
 opI (SO.or Go.IntKind.u64) (n2 * Int.ofNat (2 : Nat)) (l0.getD (Nat.add (0 : Nat) n1.toNat) (0 : Int))) (
 reqB (opI (SO.or Go.IntKind.u64) (n2 * Int.ofNat (2 : Nat)) (l0.getD (Nat.add (0 : Nat) n1.toNat) (0 : Int)) ≤
 (1099511627775 : Int)) (
 reqB (nuL.inv [DV.l (List.take l0.length (List.drop (0 : Nat) l0))]
 [DV.n (n1 + (1 : Int)),
 DV.n
 (opI (SO.or Go.IntKind.u64) (n2 * Int.ofNat (2 : Nat))
 (l0.getD (Nat.add (0 : Nat) n1.toNat) (0 : Int)))]) (
 reqB (nuL.mea [DV.l (List.take l0.length (List.drop (0 : Nat) l0))]
 [DV.n (n1 + (1 : Int)),
 DV.n
 (opI (SO.or Go.IntKind.u64) (n2 * Int.ofNat (2 : Nat))
 (l0.getD (Nat.add (0 : Nat) n1.toNat) (0 : Int)))] <
 nuL.mea [DV.l (List.take l0.length (List.drop (0 : Nat) l0))] [DV.n n1, DV.n n2]) (
 true))))))) (
 false)))) (
 reqB ((0 : Int) ≤
 opI (SO.shr Go.IntKind.u64) (opI (SO.shl Go.IntKind.u64) n2 ((64 : Int) - (↑l0.length : Int)))
 ((64 : Int) - (↑l0.length : Int))) (
 reqB (opI (SO.shr Go.IntKind.u64) (opI (SO.shl Go.IntKind.u64) n2 ((64 : Int) - (↑l0.length : Int)))
 ((64 : Int) - (↑l0.length : Int)) ≤
 (1099511627775 : Int)) (
 reqB (sigNu.post [DV.l l0]
 [DV.n
 (opI (SO.shr Go.IntKind.u64)
 (opI (SO.shl Go.IntKind.u64) n2 ((64 : Int) - (↑l0.length : Int)))
 ((64 : Int) - (↑l0.length : Int)))]) (
 true)))))))))))))))))) := by kernel_rfl
set_option maxHeartbeats 8000000 in
theorem vt_nu : vcFn Try.prog [] (fun f p _ => at2 f p 46 58 nuL (none)) [] 100 46 sigNu = true := by
  rw [vc_nu]
  try simp only [Int.toNat_natCast, List.length_set, List.length_replicate, List.length_take, List.length_drop, List.length_append, List.length_cons, List.length_nil, Nat.min_self, List.take_take, lenCols_i, lenCols_b, List.drop_zero, List.take_length, List.take_nil, List.drop_nil, List.take_zero, List.nil_append, Nat.add_eq, Nat.mul_eq, Nat.sub_eq, Nat.zero_add, Nat.add_zero, Nat.sub_zero, Nat.mul_one]
  refine all_i fun l0 => ?_
  refine imp_i fun h0 => ?_
  refine imp_i fun h1 => ?_
  refine imp_i fun h2 => ?_
  try simp only [sigNu, c01, numPre, nuPost, List.cons.injEq, DV.b.injEq, and_true, List.length_cons, List.length_nil] at h2
  refine req_i ?_ ?_
  · -- r0
   first | omega | ((try simp only [Nat.mul_eq]); first | done | omega | assumption | grind [getD_set, getD_rep, toNat_succ, cntN_yes, cntN_no])
  refine req_i ?_ ?_
  · -- r1
   first | omega | ((try simp only [Nat.zero_add]); first | done | omega | assumption | grind [getD_set, getD_rep, toNat_succ, cntN_yes, cntN_no])
  refine req_i ?_ ?_
  · -- r2
   first | omega | ((try simp only [List.take_nil, List.take_zero, List.length_take, List.take_length, List.take_take, Nat.min_self, List.drop_nil, List.length_drop, List.drop_zero, List.length_cons, List.length_nil]); first | done | omega | assumption | grind [getD_set, getD_rep, toNat_succ, cntN_yes, cntN_no])
  refine req_i ?_ ?_
  · -- r3
   first | assumption | exact rep_bd (by omega) (by omega) | exact set_bd (by assumption) (by omega) (by omega) | exact take_bd (by assumption) | ((try simp only [List.take_nil, List.take_zero, List.length_take, List.take_length, List.take_take, Nat.min_self, List.drop_nil, List.length_drop, List.drop_zero, List.length_cons, List.length_nil]); first | assumption | exact rep_bd (by omega) (by omega) | exact set_bd (by assumption) (by omega) (by omega) | exact take_bd (by assumption) | grind [getD_set, getD_rep, toNat_succ, cntN_yes, cntN_no])
  refine req_i ?_ ?_
  · -- r4
   (try simp only [nuL, nuInv, List.drop_zero, List.take_length]); exact ⟨by omega, by omega, rfl⟩
  refine all_i fun n1 => ?_
  refine imp_i fun h3 => ?_
  refine imp_i fun h4 => ?_
  refine all_i fun n2 => ?_
  refine imp_i fun h5 => ?_
  refine imp_i fun h6 => ?_
  refine imp_i fun h7 => ?_
  try simp only [nuL, c01, nuInv, meaF, List.cons.injEq, DV.b.injEq, and_true, List.take_nil, List.take_zero, List.length_take, List.take_length, List.take_take, Nat.min_self, List.drop_nil, List.length_drop, List.drop_zero, List.length_cons, List.length_nil] at h7
  refine bR_dec (fun h8 => ?_) (fun h8 => ?_)
  ·
   have nb := numA_40 (l := l0) (a := 0) (k := (n1 + 1).toNat) (by omega) (fun j _ _ => bit01 h1)
   have nx := numA_next (l := l0) (a := 0) (i := n1) (by omega)
   rw [Nat.zero_add] at nx
   have gb := getD_bd (i := n1.toNat) h1 (by omega) (by omega)
   have ob : opI (SO.or Go.IntKind.u64) (n2 * Int.ofNat 2) (l0.getD n1.toNat 0) = 2 * n2 + l0.getD n1.toNat 0 := orU_bit (by omega) (by omega) gb.1 gb.2
   have ob2 : opI (SO.or Go.IntKind.u64) (n2 * 2) (l0.getD n1.toNat 0) = 2 * n2 + l0.getD n1.toNat 0 := ob
   refine req_i ?_ ?_
   · -- r5
    first | omega | ((try simp only [Int.toNat_natCast, List.length_cons, List.length_nil]); first | done | omega | assumption | grind [getD_set, getD_rep, toNat_succ, cntN_yes, cntN_no])
   refine req_i ?_ ?_
   · -- r6
    first | omega | ((try simp only [Int.toNat_natCast, List.length_cons, List.length_nil, Nat.add_eq, Nat.zero_add, Nat.add_zero]); first | done | omega | assumption | grind [getD_set, getD_rep, toNat_succ, cntN_yes, cntN_no])
   refine bR_t ?_ ?_
   · -- g0
    first | rfl | (simp only [bR_iff, bR_iff_f, dec_iff, dec_f, beqB_iff', andB_iff', reduceCtorEq, imp_self, false_implies, and_true, true_and, implies_true, and_self]; done) | (simp [bR_iff, dec_iff, beqB_iff', andB_iff']; done) | (simp [bR_iff, dec_iff, beqB_iff', andB_iff']; omega)
   refine req_i ?_ ?_
   · -- r7
    first | omega | assumption | grind
   refine req_i ?_ ?_
   · -- r8
    first | omega | assumption | grind
   refine req_i ?_ ?_
   · -- r9
    (try simp only [Nat.add_eq, Nat.zero_add]); first | rw [ob] | rw [ob2]
    omega
   refine req_i ?_ ?_
   · -- r10
    (try simp only [Nat.add_eq, Nat.zero_add]); first | rw [ob] | rw [ob2]
    omega
   refine req_i ?_ ?_
   · -- r11
    (try simp only [nuL, nuInv, List.drop_zero, List.take_length, Nat.add_eq, Nat.zero_add]); first | rw [ob] | rw [ob2]
    exact ⟨by omega, by omega, by omega⟩
   refine req_i ?_ ?_
   · -- r12
    first | omega | ((try simp only [nuL, c01, nuInv, meaF, List.cons.injEq, DV.b.injEq, and_true, Int.toNat_natCast, List.take_nil, List.take_zero, List.length_take, List.take_length, List.take_take, Nat.min_self, List.drop_nil, List.length_drop, List.drop_zero, List.length_cons, List.length_nil, Nat.add_eq, Nat.zero_add, Nat.add_zero]); first | done | omega | assumption | grind [getD_set, getD_rep, toNat_succ, cntN_yes, cntN_no])
   rfl
  ·
   have nb := numA_40 (l := l0) (a := 0) (k := l0.length) (by omega) (fun j _ _ => bit01 h1)
   have ee : n1.toNat = l0.length := by omega
   have n2e : n2 = numA l0 0 l0.length := by rw [h7.2.2, ee]
   rw [← n2e] at nb
   have uu := upU (n := n2) (L := (l0.length : Int)) (by omega) (by omega) (by omega) nb.2.2
   refine req_i ?_ ?_
   · -- r13
    rw [uu]; omega
   refine req_i ?_ ?_
   · -- r14
    rw [uu]; omega
   refine req_i ?_ ?_
   · -- r15
    rw [uu, n2e]; exact rfl
   rfl
theorem ext_nu : ∀ p ∈ ([] : List (Nat × Ext)), ExtRow Try.prog p.1 p.2 := by
  intro p hp
  cases hp
theorem cts_nu : CtsOk Try.prog [] := fun f c h => by cases h
theorem fn_nu : FnOk Try.prog 46 sigNu [] := fn_sound (by kernel_rfl) ext_nu cts_nu names vt_nu
end Go.Proofs.Ytbgooiiihmnnmaa

namespace Go.Proofs.Ytbgooiiihmnnmaa
open Go.Ev Go.Sp
set_option maxRecDepth 100000
theorem vc_ns : vcFn Try.prog [] (fun f p _ => at2 f p 45 58 nsL (none)) [] 100 45 sigNs = (allB fun l0 : List Int => 
impB (l0.length ≤ (40 : Nat)) (
impB (∀ (y : Int), y ∈ l0 → (0 : Int) ≤ y ∧ y ≤ (1 : Int)) (
impB (sigNs.pre [DV.l l0]) (
reqB (((0 : Nat) + l0.length) * (1 : Nat) ≤ l0.length.mul (1 : Nat)) (
reqB (l0.length ≤ (40 : Nat)) (
reqB ((List.take l0.length (List.drop (0 : Nat) l0)).length = l0.length) (
reqB (∀ (y : Int), y ∈ List.take l0.length (List.drop (0 : Nat) l0) → (0 : Int) ≤ y ∧ y ≤ (1 : Int)) (
reqB (nsL.inv [DV.l (List.take l0.length (List.drop (0 : Nat) l0))] [DV.n (0 : Int), DV.n (0 : Int)]) (
allB fun n1 : Int => 
impB ((0 : Int) ≤ n1) (
impB (n1 ≤ (40 : Int)) (
allB fun n2 : Int => 
impB ((0 : Int) ≤ n2) (
impB (n2 ≤ (1099511627775 : Int)) (
impB (nsL.inv [DV.l (List.take l0.length (List.drop (0 : Nat) l0))] [DV.n n1, DV.n n2]) (
bR (dec (n1 < (↑l0.length : Int))) (
 reqB (n1.toNat < l0.length) (
 reqB (Nat.add (0 : Nat) n1.toNat < l0.length) (
 bR (bR (bR (dec ((0 : Nat) = (0 : Nat))) (
 dec (l0.length = l0.length)) (
 false)) (
 bR (bR (dec ((0 : Nat) = (0 : Nat))) (
 dec (l0.length = l0.length)) (
 false)) (
 bR (dec ((↑l0.length : Int) = (↑l0.length : Int))) (
 true) (
 false)) (
 false)) (
 false)) (
 reqB ((0 : Int) ≤ n1 + (1 : Int)) (
 reqB (n1 + (1 : Int) ≤ (40 : Int)) (
 reqB ((0 : Int) ≤
 opI (SO.or Go.IntKind.i64) (n2 * Int.ofNat (2 : Nat)) (l0.getD (Nat.add (0 : Nat) n1.toNat) (0 : Int))) (
 reqB (opI (SO.or Go.IntKind.i64) (n2 * Int.ofNat (2 : Nat)) (l0.getD (Nat.add (0 : Nat) n1.toNat) (0 : Int)) ≤
 (1099511627775 : Int)) (
 reqB (nsL.inv [DV.l (List.take l0.length (List.drop (0 : Nat) l0))]
 [DV.n (n1 + (1 : Int)),
 DV.n
 (opI (SO.or Go.IntKind.i64) (n2 * Int.ofNat (2 : Nat))
 (l0.getD (Nat.add (0 : Nat) n1.toNat) (0 : Int)))]) (
 reqB (nsL.mea [DV.l (List.take l0.length (List.drop (0 : Nat) l0))]
 [DV.n (n1 + (1 : Int)),
 DV.n
 (opI (SO.or Go.IntKind.i64) (n2 * Int.ofNat (2 : Nat))
 (l0.getD (Nat.add (0 : Nat) n1.toNat) (0 : Int)))] <
 nsL.mea [DV.l (List.take l0.length (List.drop (0 : Nat) l0))] [DV.n n1, DV.n n2]) (
 true))))))) (
 false)))) (
 reqB ((-549755813888 : Int) ≤
 opI (SO.shr Go.IntKind.i64) (opI (SO.shl Go.IntKind.i64) n2 ((64 : Int) - (↑l0.length : Int)))
 ((64 : Int) - (↑l0.length : Int))) (
 reqB (opI (SO.shr Go.IntKind.i64) (opI (SO.shl Go.IntKind.i64) n2 ((64 : Int) - (↑l0.length : Int)))
 ((64 : Int) - (↑l0.length : Int)) ≤
 (549755813887 : Int)) (
 reqB (sigNs.post [DV.l l0]
 [DV.n
 (opI (SO.shr Go.IntKind.i64)
 (opI (SO.shl Go.IntKind.i64) n2 ((64 : Int) - (↑l0.length : Int)))
 ((64 : Int) - (↑l0.length : Int)))]) (
 true)))))))))))))))))) := by kernel_rfl
set_option maxHeartbeats 8000000 in
theorem vt_ns : vcFn Try.prog [] (fun f p _ => at2 f p 45 58 nsL (none)) [] 100 45 sigNs = true := by
  rw [vc_ns]
  try simp only [Int.toNat_natCast, List.length_set, List.length_replicate, List.length_take, List.length_drop, List.length_append, List.length_cons, List.length_nil, Nat.min_self, List.take_take, lenCols_i, lenCols_b, List.drop_zero, List.take_length, List.take_nil, List.drop_nil, List.take_zero, List.nil_append, Nat.add_eq, Nat.mul_eq, Nat.sub_eq, Nat.zero_add, Nat.add_zero, Nat.sub_zero, Nat.mul_one]
  refine all_i fun l0 => ?_
  refine imp_i fun h0 => ?_
  refine imp_i fun h1 => ?_
  refine imp_i fun h2 => ?_
  try simp only [sigNs, c01, numPre, nsPost, List.cons.injEq, DV.b.injEq, and_true, List.length_cons, List.length_nil] at h2
  refine req_i ?_ ?_
  · -- r0
   first | omega | ((try simp only [Nat.mul_eq]); first | done | omega | assumption | grind [getD_set, getD_rep, toNat_succ, cntN_yes, cntN_no])
  refine req_i ?_ ?_
  · -- r1
   first | omega | ((try simp only [Nat.zero_add]); first | done | omega | assumption | grind [getD_set, getD_rep, toNat_succ, cntN_yes, cntN_no])
  refine req_i ?_ ?_
  · -- r2
   first | omega | ((try simp only [List.take_nil, List.take_zero, List.length_take, List.take_length, List.take_take, Nat.min_self, List.drop_nil, List.length_drop, List.drop_zero, List.length_cons, List.length_nil]); first | done | omega | assumption | grind [getD_set, getD_rep, toNat_succ, cntN_yes, cntN_no])
  refine req_i ?_ ?_
  · -- r3
   first | assumption | exact rep_bd (by omega) (by omega) | exact set_bd (by assumption) (by omega) (by omega) | exact take_bd (by assumption) | ((try simp only [List.take_nil, List.take_zero, List.length_take, List.take_length, List.take_take, Nat.min_self, List.drop_nil, List.length_drop, List.drop_zero, List.length_cons, List.length_nil]); first | assumption | exact rep_bd (by omega) (by omega) | exact set_bd (by assumption) (by omega) (by omega) | exact take_bd (by assumption) | grind [getD_set, getD_rep, toNat_succ, cntN_yes, cntN_no])
  refine req_i ?_ ?_
  · -- r4
   (try simp only [nsL, nuInv, List.drop_zero, List.take_length]); exact ⟨by omega, by omega, rfl⟩
  refine all_i fun n1 => ?_
  refine imp_i fun h3 => ?_
  refine imp_i fun h4 => ?_
  refine all_i fun n2 => ?_
  refine imp_i fun h5 => ?_
  refine imp_i fun h6 => ?_
  refine imp_i fun h7 => ?_
  try simp only [nsL, c01, nuInv, meaF, List.cons.injEq, DV.b.injEq, and_true, List.take_nil, List.take_zero, List.length_take, List.take_length, List.take_take, Nat.min_self, List.drop_nil, List.length_drop, List.drop_zero, List.length_cons, List.length_nil] at h7
  refine bR_dec (fun h8 => ?_) (fun h8 => ?_)
  ·
   have nb := numA_40 (l := l0) (a := 0) (k := (n1 + 1).toNat) (by omega) (fun j _ _ => bit01 h1)
   have nx := numA_next (l := l0) (a := 0) (i := n1) (by omega)
   rw [Nat.zero_add] at nx
   have gb := getD_bd (i := n1.toNat) h1 (by omega) (by omega)
   have ob : opI (SO.or Go.IntKind.i64) (n2 * Int.ofNat 2) (l0.getD n1.toNat 0) = 2 * n2 + l0.getD n1.toNat 0 := orI_bit (by omega) (by omega) gb.1 gb.2
   have ob2 : opI (SO.or Go.IntKind.i64) (n2 * 2) (l0.getD n1.toNat 0) = 2 * n2 + l0.getD n1.toNat 0 := ob
   refine req_i ?_ ?_
   · -- r5
    first | omega | ((try simp only [Int.toNat_natCast, List.length_cons, List.length_nil]); first | done | omega | assumption | grind [getD_set, getD_rep, toNat_succ, cntN_yes, cntN_no])
   refine req_i ?_ ?_
   · -- r6
    first | omega | ((try simp only [Int.toNat_natCast, List.length_cons, List.length_nil, Nat.add_eq, Nat.zero_add, Nat.add_zero]); first | done | omega | assumption | grind [getD_set, getD_rep, toNat_succ, cntN_yes, cntN_no])
   refine bR_t ?_ ?_
   · -- g0
    first | rfl | (simp only [bR_iff, bR_iff_f, dec_iff, dec_f, beqB_iff', andB_iff', reduceCtorEq, imp_self, false_implies, and_true, true_and, implies_true, and_self]; done) | (simp [bR_iff, dec_iff, beqB_iff', andB_iff']; done) | (simp [bR_iff, dec_iff, beqB_iff', andB_iff']; omega)
   refine req_i ?_ ?_
   · -- r7
    first | omega | assumption | grind
   refine req_i ?_ ?_
   · -- r8
    first | omega | assumption | grind
   refine req_i ?_ ?_
   · -- r9
    (try simp only [Nat.add_eq, Nat.zero_add]); first | rw [ob] | rw [ob2]
    omega
   refine req_i ?_ ?_
   · -- r10
    (try simp only [Nat.add_eq, Nat.zero_add]); first | rw [ob] | rw [ob2]
    omega
   refine req_i ?_ ?_
   · -- r11
    (try simp only [nsL, nuInv, List.drop_zero, List.take_length, Nat.add_eq, Nat.zero_add]); first | rw [ob] | rw [ob2]
    exact ⟨by omega, by omega, by omega⟩
   refine req_i ?_ ?_
   · -- r12
    first | omega | ((try simp only [nsL, c01, nuInv, meaF, List.cons.injEq, DV.b.injEq, and_true, Int.toNat_natCast, List.take_nil, List.take_zero, List.length_take, List.take_length, List.take_take, Nat.min_self, List.drop_nil, List.length_drop, List.drop_zero, List.length_cons, List.length_nil, Nat.add_eq, Nat.zero_add, Nat.add_zero]); first | done | omega | assumption | grind [getD_set, getD_rep, toNat_succ, cntN_yes, cntN_no])
   rfl
  ·
   have nb := numA_40 (l := l0) (a := 0) (k := l0.length) (by omega) (fun j _ _ => bit01 h1)
   have ee : n1.toNat = l0.length := by omega
   have n2e : n2 = numA l0 0 l0.length := by rw [h7.2.2, ee]
   rw [← n2e] at nb
   have uu := upS (n := n2) (L := (l0.length : Int)) (by omega) (by omega) (by omega) nb.2.2
   have sb := sgnN_bd (g := true) (b := (l0.length : Int)) (n := n2) (by omega) (by omega) (by omega) nb.2.2
   have rb := p2_b (b := (l0.length : Int)) (by omega) (by omega)
   rw [loR_t, hiR_t] at sb
   refine req_i ?_ ?_
   · -- r13
    rw [uu]; omega
   refine req_i ?_ ?_
   · -- r14
    rw [uu]; omega
   refine req_i ?_ ?_
   · -- r15
    rw [uu, n2e]; exact rfl
   rfl
theorem ext_ns : ∀ p ∈ ([] : List (Nat × Ext)), ExtRow Try.prog p.1 p.2 := by
  intro p hp
  cases hp
theorem cts_ns : CtsOk Try.prog [] := fun f c h => by cases h
theorem fn_ns : FnOk Try.prog 45 sigNs [] := fn_sound (by kernel_rfl) ext_ns cts_ns names vt_ns
end Go.Proofs.Ytbgooiiihmnnmaa

namespace Go.Proofs.Ytbgooiiihmnnmaa
open Go.Ev Go.Sp
set_option maxRecDepth 100000
theorem vc_read : vcFn Try.prog [(46, Ext.ctr (ctOf sigNu)), (45, Ext.ctr (ctOf sigNs)), (32, Ext.ctr (ctOf sigVl))] noA [] 100 41 sigRd = (allB fun l0 : List Int => 
impB (l0.length ≤ (200 : Nat)) (
impB (∀ (y : Int), y ∈ l0 → (-9223372036854775808 : Int) ≤ y ∧ y ≤ (9223372036854775807 : Int)) (
allB fun n1 : Int => 
impB ((0 : Int) ≤ n1) (
impB (n1 ≤ (4000 : Int)) (
allB fun n2 : Int => 
impB ((1 : Int) ≤ n2) (
impB (n2 ≤ (40 : Int)) (
allB fun b3 : Bool => 
allB fun n4 : Int => 
impB ((1 : Int) ≤ n4) (
impB (n4 ≤ (1000000 : Int)) (
allB fun n5 : Int => 
impB ((-1000000000000000 : Int) ≤ n5) (
impB (n5 ≤ (1000000000000000 : Int)) (
impB (sigRd.pre [DV.l l0, DV.n n1, DV.n n2, DV.b b3, DV.n n4, DV.n n5]) (
bR (b3) (
 reqB (n1.toNat ≤ (n1 + n2).toNat) (
 reqB ((n1 + n2).toNat ≤ l0.length) (
 reqB ((Nat.add (0 : Nat) n1.toNat + (n1 + n2).toNat.sub n1.toNat) * (1 : Nat) ≤ l0.length.mul (1 : Nat)) (
 reqB ((n1 + n2).toNat.sub n1.toNat ≤ (40 : Nat)) (
 reqB ((List.take ((n1 + n2).toNat.sub n1.toNat) (List.drop (Nat.add (0 : Nat) n1.toNat) l0)).length =
 (n1 + n2).toNat.sub n1.toNat) (
 reqB (∀ (y : Int),
 y ∈ List.take ((n1 + n2).toNat.sub n1.toNat) (List.drop (Nat.add (0 : Nat) n1.toNat) l0) →
 (0 : Int) ≤ y ∧ y ≤ (1 : Int)) (
 reqB (sigNs.pre [DV.l (List.take ((n1 + n2).toNat.sub n1.toNat) (List.drop (Nat.add (0 : Nat) n1.toNat) l0))]) (
 allB fun n6 : Int => 
 impB ((-549755813888 : Int) ≤ n6) (
 impB (n6 ≤ (549755813887 : Int)) (
 impB (sigNs.post [DV.l (List.take ((n1 + n2).toNat.sub n1.toNat) (List.drop (Nat.add (0 : Nat) n1.toNat) l0))]
 [DV.n n6]) (
 reqB ((0 : Int) ≤ n1) (
 reqB (n1 ≤ (4000 : Int)) (
 reqB ((1 : Int) ≤ n2) (
 reqB (n2 ≤ (40 : Int)) (
 reqB ((1 : Int) ≤ n4) (
 reqB (n4 ≤ (1000000 : Int)) (
 reqB ((-1000000000000000 : Int) ≤ n5) (
 reqB (n5 ≤ (1000000000000000 : Int)) (
 reqB ((-549755813888 : Int) ≤ n6) (
 reqB (n6 ≤ (1099511627775 : Int)) (
 reqB (sigVl.pre [DV.n n1, DV.n n2, DV.b b3, DV.n n4, DV.n n5, DV.n n6]) (
 allB fun n7 : Int => 
 impB ((-1200000000000000000 : Int) ≤ n7) (
 impB (n7 ≤ (1200000000000000000 : Int)) (
 impB (sigVl.post [DV.n n1, DV.n n2, DV.b b3, DV.n n4, DV.n n5, DV.n n6]
 [DV.n n7]) (
 reqB ((-1200000000000000000 : Int) ≤ n7) (
 reqB (n7 ≤ (1200000000000000000 : Int)) (
 reqB (sigRd.post [DV.l l0, DV.n n1, DV.n n2, DV.b b3, DV.n n4, DV.n n5]
 [DV.n n7]) (
 true)))))))))))))))))))))))))))) (
 reqB (n1.toNat ≤ (n1 + n2).toNat) (
 reqB ((n1 + n2).toNat ≤ l0.length) (
 reqB ((Nat.add (0 : Nat) n1.toNat + (n1 + n2).toNat.sub n1.toNat) * (1 : Nat) ≤ l0.length.mul (1 : Nat)) (
 reqB ((n1 + n2).toNat.sub n1.toNat ≤ (40 : Nat)) (
 reqB ((List.take ((n1 + n2).toNat.sub n1.toNat) (List.drop (Nat.add (0 : Nat) n1.toNat) l0)).length =
 (n1 + n2).toNat.sub n1.toNat) (
 reqB (∀ (y : Int),
 y ∈ List.take ((n1 + n2).toNat.sub n1.toNat) (List.drop (Nat.add (0 : Nat) n1.toNat) l0) →
 (0 : Int) ≤ y ∧ y ≤ (1 : Int)) (
 reqB (sigNu.pre [DV.l (List.take ((n1 + n2).toNat.sub n1.toNat) (List.drop (Nat.add (0 : Nat) n1.toNat) l0))]) (
 allB fun n8 : Int => 
 impB ((0 : Int) ≤ n8) (
 impB (n8 ≤ (1099511627775 : Int)) (
 impB (sigNu.post [DV.l (List.take ((n1 + n2).toNat.sub n1.toNat) (List.drop (Nat.add (0 : Nat) n1.toNat) l0))]
 [DV.n n8]) (
 reqB ((0 : Int) ≤ n1) (
 reqB (n1 ≤ (4000 : Int)) (
 reqB ((1 : Int) ≤ n2) (
 reqB (n2 ≤ (40 : Int)) (
 reqB ((1 : Int) ≤ n4) (
 reqB (n4 ≤ (1000000 : Int)) (
 reqB ((-1000000000000000 : Int) ≤ n5) (
 reqB (n5 ≤ (1000000000000000 : Int)) (
 reqB ((-549755813888 : Int) ≤ n8) (
 reqB (n8 ≤ (1099511627775 : Int)) (
 reqB (sigVl.pre [DV.n n1, DV.n n2, DV.b b3, DV.n n4, DV.n n5, DV.n n8]) (
 allB fun n9 : Int => 
 impB ((-1200000000000000000 : Int) ≤ n9) (
 impB (n9 ≤ (1200000000000000000 : Int)) (
 impB (sigVl.post [DV.n n1, DV.n n2, DV.b b3, DV.n n4, DV.n n5, DV.n n8]
 [DV.n n9]) (
 reqB ((-1200000000000000000 : Int) ≤ n9) (
 reqB (n9 ≤ (1200000000000000000 : Int)) (
 reqB (sigRd.post [DV.l l0, DV.n n1, DV.n n2, DV.b b3, DV.n n4, DV.n n5]
 [DV.n n9]) (
 true)))))))))))))))))))))))))))))))))))))))) := by kernel_rfl
set_option maxHeartbeats 8000000 in
theorem vt_read : vcFn Try.prog [(46, Ext.ctr (ctOf sigNu)), (45, Ext.ctr (ctOf sigNs)), (32, Ext.ctr (ctOf sigVl))] noA [] 100 41 sigRd = true := by
  rw [vc_read]
  try simp only [Int.toNat_natCast, List.length_set, List.length_replicate, List.length_take, List.length_drop, List.length_append, List.length_cons, List.length_nil, Nat.min_self, List.take_take, lenCols_i, lenCols_b, List.drop_zero, List.take_length, List.take_nil, List.drop_nil, List.take_zero, List.nil_append, Nat.add_eq, Nat.mul_eq, Nat.sub_eq, Nat.zero_add, Nat.add_zero, Nat.sub_zero, Nat.mul_one]
  refine all_i fun l0 => ?_
  refine imp_i fun h0 => ?_
  refine imp_i fun h1 => ?_
  refine all_i fun n1 => ?_
  refine imp_i fun h2 => ?_
  refine imp_i fun h3 => ?_
  refine all_i fun n2 => ?_
  refine imp_i fun h4 => ?_
  refine imp_i fun h5 => ?_
  refine all_i fun b3 => ?_
  refine all_i fun n4 => ?_
  refine imp_i fun h6 => ?_
  refine imp_i fun h7 => ?_
  refine all_i fun n5 => ?_
  refine imp_i fun h8 => ?_
  refine imp_i fun h9 => ?_
  refine imp_i fun h10 => ?_
  try simp only [sigRd, cL, gV, lB, rdPre, rdPost, okL, okF, List.cons.injEq, DV.b.injEq, and_true, List.length_cons, List.length_nil] at h10
  have fm := h10.2.2
  have len := h10.2.1
  have td := td_len (l := l0) (a := n1) (b := n2) (m := n1.toNat) (n := (n1 + n2).toNat - n1.toNat) rfl (by omega) (by omega) (by omega) (by omega)
  have nb := numA_40 (l := l0) (a := n1.toNat) (k := n2.toNat) (by omega) (fun j _ _ => fm j (by omega) (by omega))
  have t2 := Int.toNat_of_nonneg (show 0 ≤ n2 by omega)
  rw [t2] at nb
  refine bR_i (fun h11 => ?_) (fun h11 => ?_)
  ·
   refine req_i ?_ ?_
   · -- r0
    first | omega | assumption | grind
   refine req_i ?_ ?_
   · -- r1
    first | omega | ((try simp only [Int.toNat_natCast, List.length_cons, List.length_nil]); first | done | omega | assumption | grind [getD_set, getD_rep, toNat_succ, cntN_yes, cntN_no])
   refine req_i ?_ ?_
   · -- r2
    first | omega | ((try simp only [Int.toNat_natCast, List.length_cons, List.length_nil, Nat.add_eq, Nat.zero_add, Nat.add_zero, Nat.mul_eq, Nat.sub_eq, Nat.sub_zero]); first | done | omega | assumption | grind [getD_set, getD_rep, toNat_succ, cntN_yes, cntN_no])
   refine req_i ?_ ?_
   · -- r3
    first | omega | assumption | grind
   refine req_i ?_ ?_
   · -- r4
    first | omega | ((try simp only [Int.toNat_natCast, List.take_nil, List.take_zero, List.length_take, List.take_length, List.take_take, Nat.min_self, List.drop_nil, List.length_drop, List.drop_zero, List.length_cons, List.length_nil, Nat.add_eq, Nat.zero_add, Nat.add_zero, Nat.sub_eq, Nat.sub_zero]); first | done | omega | assumption | grind [getD_set, getD_rep, toNat_succ, cntN_yes, cntN_no])
   refine req_i ?_ ?_
   · -- r5
    exact form_mem (l := l0) (a := n1) (b := n2) (by (try simp only [Nat.add_eq, Nat.zero_add]); try omega) (by (try simp only [Nat.sub_eq]); omega) (by omega) (by omega) fm
   refine req_i ?_ ?_
   · -- r6
    first | trivial | assumption | (simp only [sigNs, c01, numPre, nsPost, List.cons.injEq, DV.b.injEq, and_true, Int.toNat_natCast, List.take_nil, List.take_zero, List.length_take, List.take_length, List.take_take, Nat.min_self, List.drop_nil, List.length_drop, List.drop_zero, List.length_cons, List.length_nil, Nat.add_eq, Nat.zero_add, Nat.add_zero, Nat.sub_eq, Nat.sub_zero]; done) | ((try simp only [sigNs, c01, numPre, nsPost, List.cons.injEq, DV.b.injEq, and_true, Int.toNat_natCast, List.take_nil, List.take_zero, List.length_take, List.take_length, List.take_take, Nat.min_self, List.drop_nil, List.length_drop, List.drop_zero, List.length_cons, List.length_nil, Nat.add_eq, Nat.zero_add, Nat.add_zero, Nat.sub_eq, Nat.sub_zero]); first | omega | assumption | grind)
   refine all_i fun n6 => ?_
   refine imp_i fun h12 => ?_
   refine imp_i fun h13 => ?_
   refine imp_i fun h14 => ?_
   try simp only [sigNs, c01, numPre, nsPost, List.cons.injEq, DV.b.injEq, and_true, Int.toNat_natCast, List.take_nil, List.take_zero, List.length_take, List.take_length, List.take_take, Nat.min_self, List.drop_nil, List.length_drop, List.drop_zero, List.length_cons, List.length_nil, Nat.add_eq, Nat.zero_add, Nat.add_zero, Nat.sub_eq, Nat.sub_zero] at h14
   have kn : (n1 + n2).toNat - n1.toNat = n2.toNat := by omega
   have km : min n2.toNat (l0.length - n1.toNat) = n2.toNat := by omega
   have e6 : n6 = sgnN true n2 (numA l0 n1.toNat n2.toNat) := by
     (try simp only [Nat.add_eq, Nat.zero_add, Nat.sub_eq] at h14)
     rw [h14, kn, km, numA_td, t2]
   refine req_i ?_ ?_
   · -- r7
    first | omega | assumption | grind
   refine req_i ?_ ?_
   · -- r8
    first | omega | assumption | grind
   refine req_i ?_ ?_
   · -- r9
    first | omega | assumption | grind
   refine req_i ?_ ?_
   · -- r10
    first | omega | assumption | grind
   refine req_i ?_ ?_
   · -- r11
    first | omega | assumption | grind
   refine req_i ?_ ?_
   · -- r12
    first | omega | assumption | grind
   refine req_i ?_ ?_
   · -- r13
    first | omega | assumption | grind
   refine req_i ?_ ?_
   · -- r14
    first | omega | assumption | grind
   refine req_i ?_ ?_
   · -- r15
    first | omega | assumption | grind
   refine req_i ?_ ?_
   · -- r16
    first | omega | assumption | grind
   refine req_i ?_ ?_
   · -- r17
    first | trivial | assumption | (simp only [sigVl, gV, vlPost, List.cons.injEq, DV.b.injEq, and_true, List.length_cons, List.length_nil]; done) | ((try simp only [sigVl, gV, vlPost, List.cons.injEq, DV.b.injEq, and_true, List.length_cons, List.length_nil]); first | omega | assumption | grind)
   refine all_i fun n7 => ?_
   refine imp_i fun h15 => ?_
   refine imp_i fun h16 => ?_
   refine imp_i fun h17 => ?_
   try simp only [sigVl, gV, vlPost, List.cons.injEq, DV.b.injEq, and_true, List.length_cons, List.length_nil] at h17
   refine req_i ?_ ?_
   · -- r18
    first | omega | assumption | grind
   refine req_i ?_ ?_
   · -- r19
    first | omega | assumption | grind
   refine req_i ?_ ?_
   · -- r20
    show n7 = n5 + sgnN b3 n2 (numA l0 n1.toNat n2.toNat) * n4
    rw [h17, e6, h11]
   rfl
  ·
   have b3f : b3 = false := by simpa using h11
   refine req_i ?_ ?_
   · -- r21
    first | omega | assumption | grind
   refine req_i ?_ ?_
   · -- r22
    first | omega | ((try simp only [Int.toNat_natCast, List.length_cons, List.length_nil]); first | done | omega | assumption | grind [getD_set, getD_rep, toNat_succ, cntN_yes, cntN_no])
   refine req_i ?_ ?_
   · -- r23
    first | omega | ((try simp only [Int.toNat_natCast, List.length_cons, List.length_nil, Nat.add_eq, Nat.zero_add, Nat.add_zero, Nat.mul_eq, Nat.sub_eq, Nat.sub_zero]); first | done | omega | assumption | grind [getD_set, getD_rep, toNat_succ, cntN_yes, cntN_no])
   refine req_i ?_ ?_
   · -- r24
    first | omega | assumption | grind
   refine req_i ?_ ?_
   · -- r25
    first | omega | ((try simp only [Int.toNat_natCast, List.take_nil, List.take_zero, List.length_take, List.take_length, List.take_take, Nat.min_self, List.drop_nil, List.length_drop, List.drop_zero, List.length_cons, List.length_nil, Nat.add_eq, Nat.zero_add, Nat.add_zero, Nat.sub_eq, Nat.sub_zero]); first | done | omega | assumption | grind [getD_set, getD_rep, toNat_succ, cntN_yes, cntN_no])
   refine req_i ?_ ?_
   · -- r26
    exact form_mem (l := l0) (a := n1) (b := n2) (by (try simp only [Nat.add_eq, Nat.zero_add]); try omega) (by (try simp only [Nat.sub_eq]); omega) (by omega) (by omega) fm
   refine req_i ?_ ?_
   · -- r27
    first | trivial | assumption | (simp only [sigNu, c01, numPre, nuPost, List.cons.injEq, DV.b.injEq, and_true, Int.toNat_natCast, List.take_nil, List.take_zero, List.length_take, List.take_length, List.take_take, Nat.min_self, List.drop_nil, List.length_drop, List.drop_zero, List.length_cons, List.length_nil, Nat.add_eq, Nat.zero_add, Nat.add_zero, Nat.sub_eq, Nat.sub_zero]; done) | ((try simp only [sigNu, c01, numPre, nuPost, List.cons.injEq, DV.b.injEq, and_true, Int.toNat_natCast, List.take_nil, List.take_zero, List.length_take, List.take_length, List.take_take, Nat.min_self, List.drop_nil, List.length_drop, List.drop_zero, List.length_cons, List.length_nil, Nat.add_eq, Nat.zero_add, Nat.add_zero, Nat.sub_eq, Nat.sub_zero]); first | omega | assumption | grind)
   refine all_i fun n8 => ?_
   refine imp_i fun h18 => ?_
   refine imp_i fun h19 => ?_
   refine imp_i fun h20 => ?_
   try simp only [sigNu, c01, numPre, nuPost, List.cons.injEq, DV.b.injEq, and_true, Int.toNat_natCast, List.take_nil, List.take_zero, List.length_take, List.take_length, List.take_take, Nat.min_self, List.drop_nil, List.length_drop, List.drop_zero, List.length_cons, List.length_nil, Nat.add_eq, Nat.zero_add, Nat.add_zero, Nat.sub_eq, Nat.sub_zero] at h20
   have kn : (n1 + n2).toNat - n1.toNat = n2.toNat := by omega
   have km : min n2.toNat (l0.length - n1.toNat) = n2.toNat := by omega
   have e8 : n8 = numA l0 n1.toNat n2.toNat := by
     (try simp only [Nat.add_eq, Nat.zero_add, Nat.sub_eq] at h20)
     rw [h20, kn, km, numA_td]
   refine req_i ?_ ?_
   · -- r28
    first | omega | assumption | grind
   refine req_i ?_ ?_
   · -- r29
    first | omega | assumption | grind
   refine req_i ?_ ?_
   · -- r30
    first | omega | assumption | grind
   refine req_i ?_ ?_
   · -- r31
    first | omega | assumption | grind
   refine req_i ?_ ?_
   · -- r32
    first | omega | assumption | grind
   refine req_i ?_ ?_
   · -- r33
    first | omega | assumption | grind
   refine req_i ?_ ?_
   · -- r34
    first | omega | assumption | grind
   refine req_i ?_ ?_
   · -- r35
    first | omega | assumption | grind
   refine req_i ?_ ?_
   · -- r36
    first | omega | assumption | grind
   refine req_i ?_ ?_
   · -- r37
    first | omega | assumption | grind
   refine req_i ?_ ?_
   · -- r38
    first | trivial | assumption | (simp only [sigVl, gV, vlPost, List.cons.injEq, DV.b.injEq, and_true, List.length_cons, List.length_nil]; done) | ((try simp only [sigVl, gV, vlPost, List.cons.injEq, DV.b.injEq, and_true, List.length_cons, List.length_nil]); first | omega | assumption | grind)
   refine all_i fun n9 => ?_
   refine imp_i fun h21 => ?_
   refine imp_i fun h22 => ?_
   refine imp_i fun h23 => ?_
   try simp only [sigVl, gV, vlPost, List.cons.injEq, DV.b.injEq, and_true, List.length_cons, List.length_nil] at h23
   refine req_i ?_ ?_
   · -- r39
    first | omega | assumption | grind
   refine req_i ?_ ?_
   · -- r40
    first | omega | assumption | grind
   refine req_i ?_ ?_
   · -- r41
    show n9 = n5 + sgnN b3 n2 (numA l0 n1.toNat n2.toNat) * n4
    rw [h23, e8, b3f, sgnN_f nb.2.2]
   rfl
theorem ext_read : ∀ p ∈ ([(46, Ext.ctr (ctOf sigNu)), (45, Ext.ctr (ctOf sigNs)), (32, Ext.ctr (ctOf sigVl))] : List (Nat × Ext)), ExtRow Try.prog p.1 p.2 := by
  intro p hp
  simp only [List.mem_cons, List.not_mem_nil, or_false] at hp
  rcases hp with rfl | rfl | rfl
  · trivial
  · trivial
  · trivial
theorem cts_read : CtsOk Try.prog [(46, Ext.ctr (ctOf sigNu)), (45, Ext.ctr (ctOf sigNs)), (32, Ext.ctr (ctOf sigVl))] := ctsOk_of (cs := [(46, sigNu), (45, sigNs), (32, sigVl)])
  (fun p hp => by
    simp only [List.mem_cons, List.not_mem_nil, or_false] at hp
    rcases hp with rfl | rfl | rfl
    · exact fn_nu
    · exact fn_ns
    · exact fn_vl
)
  (fun f c h => by
    simp only [List.lookup_cons] at h
    repeat' split at h
    all_goals first | (cases h; done) | (rename_i e; have e := beq_iff_eq.1 e; subst e; cases h; refine ⟨_, ?_, rfl⟩; simp))
theorem fn_read : FnOk Try.prog 41 sigRd [] := fn_sound (by kernel_rfl) ext_read cts_read names vt_read
end Go.Proofs.Ytbgooiiihmnnmaa

namespace Go.Proofs.Ytbgooiiihmnnmaa
open Go.Ev Go.Sp
set_option maxRecDepth 100000
theorem vc_get : vcFn Try.prog [(34, Ext.ctr (ctOf sigPl)), (41, Ext.ctr (ctOf sigRd))] noA [] 100 14 sigGet = (allB fun l0 : List Int => 
impB (l0.length ≤ (200 : Nat)) (
impB (∀ (y : Int), y ∈ l0 → (-9223372036854775808 : Int) ≤ y ∧ y ≤ (9223372036854775807 : Int)) (
allB fun n1 : Int => 
impB ((-9223372036854775808 : Int) ≤ n1) (
impB (n1 ≤ (9223372036854775807 : Int)) (
allB fun n2 : Int => 
impB ((-9223372036854775808 : Int) ≤ n2) (
impB (n2 ≤ (9223372036854775807 : Int)) (
allB fun b3 : Bool => 
allB fun n4 : Int => 
impB ((-9223372036854775808 : Int) ≤ n4) (
impB (n4 ≤ (9223372036854775807 : Int)) (
allB fun n5 : Int => 
impB ((-9223372036854775808 : Int) ≤ n5) (
impB (n5 ≤ (9223372036854775807 : Int)) (
impB (sigGet.pre [DV.l l0, DV.n n1, DV.n n2, DV.b b3, DV.n n4, DV.n n5]) (
reqB (((0 : Nat) + l0.length) * (1 : Nat) ≤ l0.length.mul (1 : Nat)) (
reqB (l0.length ≤ (200 : Nat)) (
reqB ((List.take l0.length (List.drop (0 : Nat) l0)).length = l0.length) (
reqB (∀ (y : Int),
 y ∈ List.take l0.length (List.drop (0 : Nat) l0) → (-9223372036854775808 : Int) ≤ y ∧ y ≤ (9223372036854775807 : Int)) (
reqB ((-9223372036854775808 : Int) ≤ n1) (
reqB (n1 ≤ (9223372036854775807 : Int)) (
reqB ((-9223372036854775808 : Int) ≤ n2) (
reqB (n2 ≤ (9223372036854775807 : Int)) (
reqB ((-9223372036854775808 : Int) ≤ n4) (
reqB (n4 ≤ (9223372036854775807 : Int)) (
reqB ((-9223372036854775808 : Int) ≤ n5) (
reqB (n5 ≤ (9223372036854775807 : Int)) (
reqB (sigPl.pre
 [DV.l (List.take l0.length (List.drop (0 : Nat) l0)), DV.n n1, DV.n n2, DV.b b3,
 DV.n n4, DV.n n5]) (
allB fun n6 : Int => 
impB ((0 : Int) ≤ n6) (
impB (n6 ≤ (18 : Int)) (
impB (sigPl.post
 [DV.l (List.take l0.length (List.drop (0 : Nat) l0)), DV.n n1, DV.n n2, DV.b b3,
 DV.n n4, DV.n n5]
 [DV.n n6]) (
bR (dec (n6 ≠ (0 : Int))) (
 reqB ((0 : Int) ≤ n6) (
 reqB (n6 ≤ (18 : Int)) (
 reqB (sigGet.post [DV.l l0, DV.n n1, DV.n n2, DV.b b3, DV.n n4, DV.n n5]
 [DV.n (0 : Int), DV.n n6]) (
 true)))) (
 reqB (((0 : Nat) + l0.length) * (1 : Nat) ≤ l0.length.mul (1 : Nat)) (
 reqB (l0.length ≤ (200 : Nat)) (
 reqB ((List.take l0.length (List.drop (0 : Nat) l0)).length = l0.length) (
 reqB (∀ (y : Int),
 y ∈ List.take l0.length (List.drop (0 : Nat) l0) → (-9223372036854775808 : Int) ≤ y ∧ y ≤ (9223372036854775807 : Int)) (
 reqB ((0 : Int) ≤ n1) (
 reqB (n1 ≤ (4000 : Int)) (
 reqB ((1 : Int) ≤ n2) (
 reqB (n2 ≤ (40 : Int)) (
 reqB ((1 : Int) ≤ n4) (
 reqB (n4 ≤ (1000000 : Int)) (
 reqB ((-1000000000000000 : Int) ≤ n5) (
 reqB (n5 ≤ (1000000000000000 : Int)) (
 reqB (sigRd.pre
 [DV.l (List.take l0.length (List.drop (0 : Nat) l0)), DV.n n1, DV.n n2, DV.b b3,
 DV.n n4, DV.n n5]) (
 allB fun n7 : Int => 
 impB ((-1200000000000000000 : Int) ≤ n7) (
 impB (n7 ≤ (1200000000000000000 : Int)) (
 impB (sigRd.post
 [DV.l (List.take l0.length (List.drop (0 : Nat) l0)), DV.n n1, DV.n n2, DV.b b3,
 DV.n n4, DV.n n5]
 [DV.n n7]) (
 reqB ((-1200000000000000000 : Int) ≤ n7) (
 reqB (n7 ≤ (1200000000000000000 : Int)) (
 reqB (sigGet.post [DV.l l0, DV.n n1, DV.n n2, DV.b b3, DV.n n4, DV.n n5]
 [DV.n n7, DV.n (0 : Int)]) (
 true)))))))))))))))))))))))))))))))))))))))))))))))) := by kernel_rfl
set_option maxHeartbeats 8000000 in
theorem vt_get : vcFn Try.prog [(34, Ext.ctr (ctOf sigPl)), (41, Ext.ctr (ctOf sigRd))] noA [] 100 14 sigGet = true := by
  rw [vc_get]
  try simp only [Int.toNat_natCast, List.length_set, List.length_replicate, List.length_take, List.length_drop, List.length_append, List.length_cons, List.length_nil, Nat.min_self, List.take_take, lenCols_i, lenCols_b, List.drop_zero, List.take_length, List.take_nil, List.drop_nil, List.take_zero, List.nil_append, Nat.add_eq, Nat.mul_eq, Nat.sub_eq, Nat.zero_add, Nat.add_zero, Nat.sub_zero, Nat.mul_one]
  refine all_i fun l0 => ?_
  refine imp_i fun h0 => ?_
  refine imp_i fun h1 => ?_
  refine all_i fun n1 => ?_
  refine imp_i fun h2 => ?_
  refine imp_i fun h3 => ?_
  refine all_i fun n2 => ?_
  refine imp_i fun h4 => ?_
  refine imp_i fun h5 => ?_
  refine all_i fun b3 => ?_
  refine all_i fun n4 => ?_
  refine imp_i fun h6 => ?_
  refine imp_i fun h7 => ?_
  refine all_i fun n5 => ?_
  refine imp_i fun h8 => ?_
  refine imp_i fun h9 => ?_
  refine imp_i fun h10 => ?_
  try simp only [sigGet, cL, fV, lB, getPost, plErr, okL, okF, List.cons.injEq, DV.b.injEq, and_true, List.length_cons, List.length_nil] at h10
  refine req_i ?_ ?_
  · -- r0
   first | omega | ((try simp only [Nat.mul_eq]); first | done | omega | assumption | grind [getD_set, getD_rep, toNat_succ, cntN_yes, cntN_no])
  refine req_i ?_ ?_
  · -- r1
   first | omega | ((try simp only [Nat.zero_add]); first | done | omega | assumption | grind [getD_set, getD_rep, toNat_succ, cntN_yes, cntN_no])
  refine req_i ?_ ?_
  · -- r2
   first | omega | ((try simp only [List.take_nil, List.take_zero, List.length_take, List.take_length, List.take_take, Nat.min_self, List.drop_nil, List.length_drop, List.drop_zero, List.length_cons, List.length_nil]); first | done | omega | assumption | grind [getD_set, getD_rep, toNat_succ, cntN_yes, cntN_no])
  refine req_i ?_ ?_
  · -- r3
   first | assumption | exact rep_bd (by omega) (by omega) | exact set_bd (by assumption) (by omega) (by omega) | exact take_bd (by assumption) | ((try simp only [List.take_nil, List.take_zero, List.length_take, List.take_length, List.take_take, Nat.min_self, List.drop_nil, List.length_drop, List.drop_zero, List.length_cons, List.length_nil]); first | assumption | exact rep_bd (by omega) (by omega) | exact set_bd (by assumption) (by omega) (by omega) | exact take_bd (by assumption) | grind [getD_set, getD_rep, toNat_succ, cntN_yes, cntN_no])
  refine req_i ?_ ?_
  · -- r4
   first | omega | assumption | grind
  refine req_i ?_ ?_
  · -- r5
   first | omega | assumption | grind
  refine req_i ?_ ?_
  · -- r6
   first | omega | assumption | grind
  refine req_i ?_ ?_
  · -- r7
   first | omega | assumption | grind
  refine req_i ?_ ?_
  · -- r8
   first | omega | assumption | grind
  refine req_i ?_ ?_
  · -- r9
   first | omega | assumption | grind
  refine req_i ?_ ?_
  · -- r10
   first | omega | assumption | grind
  refine req_i ?_ ?_
  · -- r11
   first | omega | assumption | grind
  refine req_i ?_ ?_
  · -- r12
   first | omega | ((try simp only [sigPl, cL, fV, plPost, plErr, okL, okF, List.cons.injEq, DV.b.injEq, and_true, List.take_nil, List.take_zero, List.length_take, List.take_length, List.take_take, Nat.min_self, List.drop_nil, List.length_drop, List.drop_zero, List.length_cons, List.length_nil]); first | done | omega | assumption | grind [getD_set, getD_rep, toNat_succ, cntN_yes, cntN_no])
  refine all_i fun n6 => ?_
  refine imp_i fun h11 => ?_
  refine imp_i fun h12 => ?_
  refine imp_i fun h13 => ?_
  try simp only [Int.toNat_natCast, List.length_set, List.length_replicate, List.length_take, List.length_drop, List.length_append, List.length_cons, List.length_nil, Nat.min_self, List.take_take, lenCols_i, lenCols_b, List.drop_zero, List.take_length, List.take_nil, List.drop_nil, List.take_zero, List.nil_append, Nat.add_eq, Nat.mul_eq, Nat.sub_eq, Nat.zero_add, Nat.add_zero, Nat.sub_zero, Nat.mul_one] at h13
  refine bR_dec (fun h14 => ?_) (fun h14 => ?_)
  ·
   have pe : plErr l0 n1 n2 n4 n5 n6 := by
     rcases h13 with h | ⟨_, e⟩
     · exact h
     · omega
   refine req_i ?_ ?_
   · -- r13
    first | omega | assumption | grind
   refine req_i ?_ ?_
   · -- r14
    first | omega | assumption | grind
   refine req_i ?_ ?_
   · -- r15
    exact .inl ⟨pe, rfl⟩
   rfl
  ·
   obtain ⟨ok, e6⟩ : okL l0 n1 n2 n4 n5 ∧ n6 = 0 := by
     rcases h13 with h | h
     · rcases h with ⟨_, e⟩ | ⟨_, _, e⟩ | ⟨_, _, _, e⟩ <;> omega
     · exact h
   have ok2 := ok
   unfold okL okF at ok2
   obtain ⟨ok2, len, fm⟩ := ok2
   refine req_i ?_ ?_
   · -- r16
    first | omega | ((try simp only [Nat.mul_eq]); first | done | omega | assumption | grind [getD_set, getD_rep, toNat_succ, cntN_yes, cntN_no])
   refine req_i ?_ ?_
   · -- r17
    first | omega | ((try simp only [Nat.zero_add]); first | done | omega | assumption | grind [getD_set, getD_rep, toNat_succ, cntN_yes, cntN_no])
   refine req_i ?_ ?_
   · -- r18
    first | omega | ((try simp only [List.take_nil, List.take_zero, List.length_take, List.take_length, List.take_take, Nat.min_self, List.drop_nil, List.length_drop, List.drop_zero, List.length_cons, List.length_nil]); first | done | omega | assumption | grind [getD_set, getD_rep, toNat_succ, cntN_yes, cntN_no])
   refine req_i ?_ ?_
   · -- r19
    first | assumption | exact rep_bd (by omega) (by omega) | exact set_bd (by assumption) (by omega) (by omega) | exact take_bd (by assumption) | ((try simp only [List.take_nil, List.take_zero, List.length_take, List.take_length, List.take_take, Nat.min_self, List.drop_nil, List.length_drop, List.drop_zero, List.length_cons, List.length_nil]); first | assumption | exact rep_bd (by omega) (by omega) | exact set_bd (by assumption) (by omega) (by omega) | exact take_bd (by assumption) | grind [getD_set, getD_rep, toNat_succ, cntN_yes, cntN_no])
   refine req_i ?_ ?_
   · -- r20
    first | omega | assumption | grind
   refine req_i ?_ ?_
   · -- r21
    first | omega | assumption | grind
   refine req_i ?_ ?_
   · -- r22
    first | omega | assumption | grind
   refine req_i ?_ ?_
   · -- r23
    first | omega | assumption | grind
   refine req_i ?_ ?_
   · -- r24
    first | omega | assumption | grind
   refine req_i ?_ ?_
   · -- r25
    first | omega | assumption | grind
   refine req_i ?_ ?_
   · -- r26
    first | omega | assumption | grind
   refine req_i ?_ ?_
   · -- r27
    first | omega | assumption | grind
   refine req_i ?_ ?_
   · -- r28
    (try simp only [List.drop_zero, List.take_length]); exact ok
   refine all_i fun n7 => ?_
   refine imp_i fun h15 => ?_
   refine imp_i fun h16 => ?_
   refine imp_i fun h17 => ?_
   try simp only [Int.toNat_natCast, List.length_set, List.length_replicate, List.length_take, List.length_drop, List.length_append, List.length_cons, List.length_nil, Nat.min_self, List.take_take, lenCols_i, lenCols_b, List.drop_zero, List.take_length, List.take_nil, List.drop_nil, List.take_zero, List.nil_append, Nat.add_eq, Nat.mul_eq, Nat.sub_eq, Nat.zero_add, Nat.add_zero, Nat.sub_zero, Nat.mul_one] at h17
   refine req_i ?_ ?_
   · -- r29
    first | omega | assumption | grind
   refine req_i ?_ ?_
   · -- r30
    first | omega | assumption | grind
   refine req_i ?_ ?_
   · -- r31
    exact .inr ⟨ok, h17, rfl⟩
   rfl
theorem ext_get : ∀ p ∈ ([(34, Ext.ctr (ctOf sigPl)), (41, Ext.ctr (ctOf sigRd))] : List (Nat × Ext)), ExtRow Try.prog p.1 p.2 := by
  intro p hp
  simp only [List.mem_cons, List.not_mem_nil, or_false] at hp
  rcases hp with rfl | rfl
  · trivial
  · trivial
theorem cts_get : CtsOk Try.prog [(34, Ext.ctr (ctOf sigPl)), (41, Ext.ctr (ctOf sigRd))] := ctsOk_of (cs := [(34, sigPl), (41, sigRd)])
  (fun p hp => by
    simp only [List.mem_cons, List.not_mem_nil, or_false] at hp
    rcases hp with rfl | rfl
    · exact fn_pl
    · exact fn_read
)
  (fun f c h => by
    simp only [List.lookup_cons] at h
    repeat' split at h
    all_goals first | (cases h; done) | (rename_i e; have e := beq_iff_eq.1 e; subst e; cases h; refine ⟨_, ?_, rfl⟩; simp))
theorem fn_get : FnOk Try.prog 14 sigGet [] := fn_sound (by kernel_rfl) ext_get cts_get names vt_get
end Go.Proofs.Ytbgooiiihmnnmaa

namespace Go.Proofs.Ytbgooiiihmnnmaa
open Go.Ev Go.Sp
set_option maxRecDepth 100000
theorem vc_al : vcFn Try.prog [] (fun f p _ => at2 f p 18 58 alL (none)) [] 100 18 sigAl = (allB fun l0 : List Int => 
impB (l0.length ≤ (200 : Nat)) (
impB (∀ (y : Int), y ∈ l0 → (-9223372036854775808 : Int) ≤ y ∧ y ≤ (9223372036854775807 : Int)) (
allB fun l1 : List Int => 
impB (l1.length ≤ (200 : Nat)) (
impB (∀ (y : Int), y ∈ l1 → (-9223372036854775808 : Int) ≤ y ∧ y ≤ (9223372036854775807 : Int)) (
impB (sigAl.pre [DV.l l0, DV.l l1]) (
bR (dec ((↑l0.length : Int) ≠ (↑l1.length : Int))) (
 reqB (sigAl.post [DV.l l0, DV.l l1] [DV.b Bool.false]) (
 true)) (
 reqB (((0 : Nat) + l0.length) * (1 : Nat) ≤ l0.length.mul (1 : Nat)) (
 reqB (l0.length ≤ (200 : Nat)) (
 reqB ((List.take l0.length (List.drop (0 : Nat) l0)).length = l0.length) (
 reqB (∀ (y : Int),
 y ∈ List.take l0.length (List.drop (0 : Nat) l0) → (-9223372036854775808 : Int) ≤ y ∧ y ≤ (9223372036854775807 : Int)) (
 reqB (((0 : Nat) + l1.length) * (1 : Nat) ≤ l1.length.mul (1 : Nat)) (
 reqB (l1.length ≤ (200 : Nat)) (
 reqB ((List.take l1.length (List.drop (0 : Nat) l1)).length = l1.length) (
 reqB (∀ (y : Int),
 y ∈ List.take l1.length (List.drop (0 : Nat) l1) → (-9223372036854775808 : Int) ≤ y ∧ y ≤ (9223372036854775807 : Int)) (
 reqB (alL.inv
 [DV.l (List.take l0.length (List.drop (0 : Nat) l0)), DV.l (List.take l1.length (List.drop (0 : Nat) l1))]
 [DV.n (0 : Int)]) (
 allB fun n2 : Int => 
 impB ((0 : Int) ≤ n2) (
 impB (n2 ≤ (200 : Int)) (
 impB (alL.inv
 [DV.l (List.take l0.length (List.drop (0 : Nat) l0)), DV.l (List.take l1.length (List.drop (0 : Nat) l1))]
 [DV.n n2]) (
 bR (dec (n2 < (↑l0.length : Int))) (
 reqB (n2.toNat < l0.length) (
 reqB (Nat.add (0 : Nat) n2.toNat < l0.length) (
 reqB (n2.toNat < l1.length) (
 reqB (Nat.add (0 : Nat) n2.toNat < l1.length) (
 bR (dec (l0.getD (Nat.add (0 : Nat) n2.toNat) (0 : Int) ≠ l1.getD (Nat.add (0 : Nat) n2.toNat) (0 : Int))) (
 reqB (sigAl.post [DV.l l0, DV.l l1] [DV.b Bool.false]) (
 true)) (
 bR (bR (bR (dec ((0 : Nat) = (0 : Nat))) (
 dec (l0.length = l0.length)) (
 false)) (
 bR (bR (dec ((0 : Nat) = (0 : Nat))) (
 dec (l1.length = l1.length)) (
 false)) (
 true) (
 false)) (
 false)) (
 reqB ((0 : Int) ≤ n2 + (1 : Int)) (
 reqB (n2 + (1 : Int) ≤ (200 : Int)) (
 reqB (alL.inv
 [DV.l (List.take l0.length (List.drop (0 : Nat) l0)), DV.l (List.take l1.length (List.drop (0 : Nat) l1))]
 [DV.n (n2 + (1 : Int))]) (
 reqB (alL.mea
 [DV.l (List.take l0.length (List.drop (0 : Nat) l0)),
 DV.l (List.take l1.length (List.drop (0 : Nat) l1))]
 [DV.n (n2 + (1 : Int))] <
 alL.mea
 [DV.l (List.take l0.length (List.drop (0 : Nat) l0)),
 DV.l (List.take l1.length (List.drop (0 : Nat) l1))]
 [DV.n n2]) (
 true))))) (
 false))))))) (
 reqB (sigAl.post [DV.l l0, DV.l l1] [DV.b Bool.true]) (
 true))))))))))))))))))))) := by kernel_rfl
set_option maxHeartbeats 8000000 in
theorem vt_al : vcFn Try.prog [] (fun f p _ => at2 f p 18 58 alL (none)) [] 100 18 sigAl = true := by
  rw [vc_al]
  try simp only [Int.toNat_natCast, List.length_set, List.length_replicate, List.length_take, List.length_drop, List.length_append, List.length_cons, List.length_nil, Nat.min_self, List.take_take, lenCols_i, lenCols_b, List.drop_zero, List.take_length, List.take_nil, List.drop_nil, List.take_zero, List.nil_append, Nat.add_eq, Nat.mul_eq, Nat.sub_eq, Nat.zero_add, Nat.add_zero, Nat.sub_zero, Nat.mul_one]
  refine all_i fun l0 => ?_
  refine imp_i fun h0 => ?_
  refine imp_i fun h1 => ?_
  refine all_i fun l1 => ?_
  refine imp_i fun h2 => ?_
  refine imp_i fun h3 => ?_
  refine imp_i fun h4 => ?_
  try simp only [sigAl, cL, alP, List.cons.injEq, DV.b.injEq, and_true, List.length_cons, List.length_nil] at h4
  refine bR_dec (fun h5 => ?_) (fun h5 => ?_)
  ·
   refine req_i ?_ ?_
   · -- r0
    first | omega | ((try simp only [sigAl, cL, alP, List.cons.injEq, DV.b.injEq, and_true, List.length_cons, List.length_nil]); first | done | omega | assumption | grind [getD_set, getD_rep, toNat_succ, cntN_yes, cntN_no])
   rfl
  ·
   refine req_i ?_ ?_
   · -- r1
    first | omega | ((try simp only [Nat.mul_eq]); first | done | omega | assumption | grind [getD_set, getD_rep, toNat_succ, cntN_yes, cntN_no])
   refine req_i ?_ ?_
   · -- r2
    first | omega | ((try simp only [Nat.zero_add]); first | done | omega | assumption | grind [getD_set, getD_rep, toNat_succ, cntN_yes, cntN_no])
   refine req_i ?_ ?_
   · -- r3
    first | omega | ((try simp only [List.take_nil, List.take_zero, List.length_take, List.take_length, List.take_take, Nat.min_self, List.drop_nil, List.length_drop, List.drop_zero, List.length_cons, List.length_nil]); first | done | omega | assumption | grind [getD_set, getD_rep, toNat_succ, cntN_yes, cntN_no])
   refine req_i ?_ ?_
   · -- r4
    first | assumption | exact rep_bd (by omega) (by omega) | exact set_bd (by assumption) (by omega) (by omega) | exact take_bd (by assumption) | ((try simp only [List.take_nil, List.take_zero, List.length_take, List.take_length, List.take_take, Nat.min_self, List.drop_nil, List.length_drop, List.drop_zero, List.length_cons, List.length_nil]); first | assumption | exact rep_bd (by omega) (by omega) | exact set_bd (by assumption) (by omega) (by omega) | exact take_bd (by assumption) | grind [getD_set, getD_rep, toNat_succ, cntN_yes, cntN_no])
   refine req_i ?_ ?_
   · -- r5
    first | omega | ((try simp only [Nat.mul_eq]); first | done | omega | assumption | grind [getD_set, getD_rep, toNat_succ, cntN_yes, cntN_no])
   refine req_i ?_ ?_
   · -- r6
    first | omega | ((try simp only [Nat.zero_add]); first | done | omega | assumption | grind [getD_set, getD_rep, toNat_succ, cntN_yes, cntN_no])
   refine req_i ?_ ?_
   · -- r7
    first | omega | ((try simp only [List.take_nil, List.take_zero, List.length_take, List.take_length, List.take_take, Nat.min_self, List.drop_nil, List.length_drop, List.drop_zero, List.length_cons, List.length_nil]); first | done | omega | assumption | grind [getD_set, getD_rep, toNat_succ, cntN_yes, cntN_no])
   refine req_i ?_ ?_
   · -- r8
    first | assumption | exact rep_bd (by omega) (by omega) | exact set_bd (by assumption) (by omega) (by omega) | exact take_bd (by assumption) | ((try simp only [List.take_nil, List.take_zero, List.length_take, List.take_length, List.take_take, Nat.min_self, List.drop_nil, List.length_drop, List.drop_zero, List.length_cons, List.length_nil]); first | assumption | exact rep_bd (by omega) (by omega) | exact set_bd (by assumption) (by omega) (by omega) | exact take_bd (by assumption) | grind [getD_set, getD_rep, toNat_succ, cntN_yes, cntN_no])
   refine req_i ?_ ?_
   · -- r9
    first | omega | ((try simp only [alL, cL, alInv, meaF, List.cons.injEq, DV.b.injEq, and_true, List.take_nil, List.take_zero, List.length_take, List.take_length, List.take_take, Nat.min_self, List.drop_nil, List.length_drop, List.drop_zero, List.length_cons, List.length_nil]); first | done | omega | assumption | grind [getD_set, getD_rep, toNat_succ, cntN_yes, cntN_no])
   refine all_i fun n2 => ?_
   refine imp_i fun h6 => ?_
   refine imp_i fun h7 => ?_
   refine imp_i fun h8 => ?_
   try simp only [alL, cL, alInv, meaF, List.cons.injEq, DV.b.injEq, and_true, List.take_nil, List.take_zero, List.length_take, List.take_length, List.take_take, Nat.min_self, List.drop_nil, List.length_drop, List.drop_zero, List.length_cons, List.length_nil] at h8
   refine bR_dec (fun h9 => ?_) (fun h9 => ?_)
   ·
    refine req_i ?_ ?_
    · -- r10
     first | omega | ((try simp only [Int.toNat_natCast, List.length_cons, List.length_nil]); first | done | omega | assumption | grind [getD_set, getD_rep, toNat_succ, cntN_yes, cntN_no])
    refine req_i ?_ ?_
    · -- r11
     first | omega | ((try simp only [Int.toNat_natCast, List.length_cons, List.length_nil, Nat.add_eq, Nat.zero_add, Nat.add_zero]); first | done | omega | assumption | grind [getD_set, getD_rep, toNat_succ, cntN_yes, cntN_no])
    refine req_i ?_ ?_
    · -- r12
     first | omega | ((try simp only [Int.toNat_natCast, List.length_cons, List.length_nil]); first | done | omega | assumption | grind [getD_set, getD_rep, toNat_succ, cntN_yes, cntN_no])
    refine req_i ?_ ?_
    · -- r13
     first | omega | ((try simp only [Int.toNat_natCast, List.length_cons, List.length_nil, Nat.add_eq, Nat.zero_add, Nat.add_zero]); first | done | omega | assumption | grind [getD_set, getD_rep, toNat_succ, cntN_yes, cntN_no])
    refine bR_dec (fun h10 => ?_) (fun h10 => ?_)
    ·
     refine req_i ?_ ?_
     · -- r14
      first | omega | ((try simp only [sigAl, cL, alP, List.cons.injEq, DV.b.injEq, and_true, List.length_cons, List.length_nil]); first | done | omega | assumption | grind [getD_set, getD_rep, toNat_succ, cntN_yes, cntN_no])
     rfl
    ·
     refine bR_t ?_ ?_
     · -- g0
      first | rfl | (simp only [bR_iff, bR_iff_f, dec_iff, dec_f, beqB_iff', andB_iff', reduceCtorEq, imp_self, false_implies, and_true, true_and, implies_true, and_self]; done) | (simp [bR_iff, dec_iff, beqB_iff', andB_iff']; done) | (simp [bR_iff, dec_iff, beqB_iff', andB_iff']; omega)
     refine req_i ?_ ?_
     · -- r15
      first | omega | assumption | grind
     refine req_i ?_ ?_
     · -- r16
      first | omega | assumption | grind
     refine req_i ?_ ?_
     · -- r17
      first | omega | ((try simp only [alL, cL, alInv, meaF, List.cons.injEq, DV.b.injEq, and_true, List.take_nil, List.take_zero, List.length_take, List.take_length, List.take_take, Nat.min_self, List.drop_nil, List.length_drop, List.drop_zero, List.length_cons, List.length_nil]); first | done | omega | assumption | grind [getD_set, getD_rep, toNat_succ, cntN_yes, cntN_no])
     refine req_i ?_ ?_
     · -- r18
      first | omega | ((try simp only [alL, cL, alInv, meaF, List.cons.injEq, DV.b.injEq, and_true, List.take_nil, List.take_zero, List.length_take, List.take_length, List.take_take, Nat.min_self, List.drop_nil, List.length_drop, List.drop_zero, List.length_cons, List.length_nil]); first | done | omega | assumption | grind [getD_set, getD_rep, toNat_succ, cntN_yes, cntN_no])
     rfl
   ·
    have e1 := al_of (a := l0) (b := l1) h8.2.1 h9 h8.2.2.2
    refine req_i ?_ ?_
    · -- r19
     first | omega | ((try simp only [sigAl, cL, alP, List.cons.injEq, DV.b.injEq, and_true, List.length_cons, List.length_nil]); first | done | omega | assumption | grind [getD_set, getD_rep, toNat_succ, cntN_yes, cntN_no])
    rfl
theorem ext_al : ∀ p ∈ ([] : List (Nat × Ext)), ExtRow Try.prog p.1 p.2 := by
  intro p hp
  cases hp
theorem cts_al : CtsOk Try.prog [] := fun f c h => by cases h
theorem fn_al : FnOk Try.prog 18 sigAl [] := fn_sound (by kernel_rfl) ext_al cts_al names vt_al
end Go.Proofs.Ytbgooiiihmnnmaa

namespace Go.Proofs.Ytbgooiiihmnnmaa
open Go.Ev Go.Sp
set_option maxRecDepth 100000
theorem vc_awake : vcFn Try.prog [] noA [] 300 9 sigTrue0 = (impB (sigTrue0.pre []) (
reqB (sigTrue0.post [] [DV.b (eqI (0 : Int) (0 : Int))]) (
true))) := by kernel_rfl
set_option maxHeartbeats 8000000 in
theorem vt_awake : vcFn Try.prog [] noA [] 300 9 sigTrue0 = true := by
  rw [vc_awake]
  try simp only [Int.toNat_natCast, List.length_set, List.length_replicate, List.length_take, List.length_drop, List.length_append, List.length_cons, List.length_nil, Nat.min_self, List.take_take, lenCols_i, lenCols_b, List.drop_zero, List.take_length, List.take_nil, List.drop_nil, List.take_zero, List.nil_append, Nat.add_eq, Nat.mul_eq, Nat.sub_eq, Nat.zero_add, Nat.add_zero, Nat.sub_zero, Nat.mul_one]
  refine imp_i fun h0 => ?_
  try simp only [sigTrue0, List.cons.injEq, DV.b.injEq, and_true, List.length_cons, List.length_nil] at h0
  refine req_i ?_ ?_
  · -- r0
   exact rfl
  rfl
theorem ext_awake : ∀ p ∈ ([] : List (Nat × Ext)), ExtRow Try.prog p.1 p.2 := by
  intro p hp
  cases hp
theorem cts_awake : CtsOk Try.prog [] := fun f c h => by cases h
theorem fn_awake : FnOk Try.prog 9 sigTrue0 [] := fn_sound (by kernel_rfl) ext_awake cts_awake names vt_awake
end Go.Proofs.Ytbgooiiihmnnmaa

