import Derived.Test.YtbgooiiihmnnmaaSpec25e
import Derived.Test.YtbgooiiihmnnmaaRows
import Derived.Test.YtbgooiiihmnnmaaFaFieldPuts
namespace Go.Proofs.Ytbgooiiihmnnmaa
open Go.Ev Go.Sp
set_option maxRecDepth 100000
theorem vc_getR : vcFn Try.prog [(38, Ext.ctr (ctOf sigPl)), (33, Ext.ctr (ctOf sigRl))] (fun f p _ => at2 f p 15 122 ngL (none)) [] 100 15 sigGet = (allB fun l0 : List Int => 
impB (l0.length ≤ (200 : Nat)) (
impB (∀ (y : Int), y ∈ l0 → (-9223372036854775808 : Int) ≤ y ∧ y ≤ (9223372036854775807 : Int)) (
allB fun n1 : Int => 
impB ((-9223372036854775808 : Int) ≤ n1) (
impB (n1 ≤ (9223372036854775807 : Int)) (
allB fun n2 : Int => 
impB ((-9223372036854775808 : Int) ≤ n2) (
impB (n2 ≤ (9223372036854775807 : Int)) (
allB fun b3 : Bool => 
allB fun n4 : Int => 
impB ((-9223372036854775808 : Int) ≤ n4) (
impB (n4 ≤ (9223372036854775807 : Int)) (
allB fun n5 : Int => 
impB ((-9223372036854775808 : Int) ≤ n5) (
impB (n5 ≤ (9223372036854775807 : Int)) (
impB (sigGet.pre [DV.l l0, DV.n n1, DV.n n2, DV.b b3, DV.n n4, DV.n n5]) (
reqB (((0 : Nat) + l0.length) * (1 : Nat) ≤ l0.length.mul (1 : Nat)) (
reqB (l0.length ≤ (200 : Nat)) (
reqB ((List.take l0.length (List.drop (0 : Nat) l0)).length = l0.length) (
reqB (∀ (y : Int),
 y ∈ List.take l0.length (List.drop (0 : Nat) l0) → (-9223372036854775808 : Int) ≤ y ∧ y ≤ (9223372036854775807 : Int)) (
reqB ((-9223372036854775808 : Int) ≤ n1) (
reqB (n1 ≤ (9223372036854775807 : Int)) (
reqB ((-9223372036854775808 : Int) ≤ n2) (
reqB (n2 ≤ (9223372036854775807 : Int)) (
reqB ((-9223372036854775808 : Int) ≤ n4) (
reqB (n4 ≤ (9223372036854775807 : Int)) (
reqB ((-9223372036854775808 : Int) ≤ n5) (
reqB (n5 ≤ (9223372036854775807 : Int)) (
reqB (sigPl.pre
 [DV.l (List.take l0.length (List.drop (0 : Nat) l0)), DV.n n1, DV.n n2, DV.b b3,
 DV.n n4, DV.n n5]) (
allB fun n6 : Int => 
impB ((0 : Int) ≤ n6) (
impB (n6 ≤ (18 : Int)) (
impB (sigPl.post
 [DV.l (List.take l0.length (List.drop (0 : Nat) l0)), DV.n n1, DV.n n2, DV.b b3,
 DV.n n4, DV.n n5]
 [DV.n n6]) (
bR (dec (n6 ≠ (0 : Int))) (
 reqB ((0 : Int) ≤ n6) (
 reqB (n6 ≤ (18 : Int)) (
 reqB (sigGet.post [DV.l l0, DV.n n1, DV.n n2, DV.b b3, DV.n n4, DV.n n5]
 [DV.n (0 : Int), DV.n n6]) (
 true)))) (
 reqB (((0 : Nat) + l0.length) * (1 : Nat) ≤ l0.length.mul (1 : Nat)) (
 reqB (l0.length ≤ (200 : Nat)) (
 reqB ((List.take l0.length (List.drop (0 : Nat) l0)).length = l0.length) (
 reqB (∀ (y : Int),
 y ∈ List.take l0.length (List.drop (0 : Nat) l0) → (-9223372036854775808 : Int) ≤ y ∧ y ≤ (9223372036854775807 : Int)) (
 reqB ((-9223372036854775808 : Int) ≤ n1) (
 reqB (n1 ≤ (9223372036854775807 : Int)) (
 reqB ((-9223372036854775808 : Int) ≤ n2) (
 reqB (n2 ≤ (9223372036854775807 : Int)) (
 reqB ((0 : Int) ≤ n1) (
 reqB (n1 ≤ (4000 : Int)) (
 reqB (ngL.inv [DV.l (List.take l0.length (List.drop (0 : Nat) l0)), DV.n n1, DV.n n2]
 [DV.n n1, DV.n (0 : Int)]) (
 allB fun n7 : Int => 
 impB ((0 : Int) ≤ n7) (
 impB (n7 ≤ (4000 : Int)) (
 allB fun n8 : Int => 
 impB ((0 : Int) ≤ n8) (
 impB (n8 ≤ (1099511627775 : Int)) (
 impB (ngL.inv [DV.l (List.take l0.length (List.drop (0 : Nat) l0)), DV.n n1, DV.n n2]
 [DV.n n7, DV.n n8]) (
 allB fun n9 : Int => 
 impB (n9 = Go.IntKind.i64.wrap (n1 + n2)) (
 impB (Int.negSucc (9223372036854775807 : Nat) ≤ n9) (
 impB (n9 ≤ Int.ofNat (9223372036854775807 : Nat)) (
 bR (dec (n7 < n9)) (
 reqB (n7.toNat < l0.length) (
 reqB (Nat.add (0 : Nat) n7.toNat < l0.length) (
 allB fun n10 : Int => 
 impB (n10 = Go.IntKind.i64.wrap ((2 : Int) * n8 + l0.getD (Nat.add (0 : Nat) n7.toNat) (0 : Int))) (
 impB (Int.negSucc (9223372036854775807 : Nat) ≤ n10) (
 impB (n10 ≤ Int.ofNat (9223372036854775807 : Nat)) (
 bR (bR (bR (dec ((0 : Nat) = (0 : Nat))) (
 dec (l0.length = l0.length)) (
 false)) (
 bR (bR (dec (n1 = n1)) (
 bR (dec (n2 = n2)) (
 bR (bR (b3) (
 b3) (
 bR (b3) (
 false) (
 true))) (
 bR (dec (n4 = n4)) (
 bR (dec (n5 = n5)) (
 true) (
 false)) (
 false)) (
 false)) (
 false)) (
 false)) (
 true) (
 false)) (
 false)) (
 bR (bR (bR (dec (n1 = n1)) (
 bR (dec (n2 = n2)) (
 bR (bR (b3) (
 b3) (
 bR (b3) (
 false) (
 true))) (
 bR (dec (n4 = n4)) (
 bR (dec (n5 = n5)) (
 true) (
 false)) (
 false)) (
 false)) (
 false)) (
 false)) (
 true) (
 false)) (
 reqB ((0 : Int) ≤ n7 + (1 : Int)) (
 reqB (n7 + (1 : Int) ≤ (4000 : Int)) (
 reqB ((0 : Int) ≤ n10) (
 reqB (n10 ≤ (1099511627775 : Int)) (
 reqB (ngL.inv [DV.l (List.take l0.length (List.drop (0 : Nat) l0)), DV.n n1, DV.n n2]
 [DV.n (n7 + (1 : Int)), DV.n n10]) (
 reqB (ngL.mea [DV.l (List.take l0.length (List.drop (0 : Nat) l0)), DV.n n1, DV.n n2]
 [DV.n (n7 + (1 : Int)), DV.n n10] <
 ngL.mea [DV.l (List.take l0.length (List.drop (0 : Nat) l0)), DV.n n1, DV.n n2]
 [DV.n n7, DV.n n8]) (
 true))))))) (
 false)) (
 false))))))) (
 reqB ((0 : Int) ≤ n1) (
 reqB (n1 ≤ (4000 : Int)) (
 reqB ((1 : Int) ≤ n2) (
 reqB (n2 ≤ (40 : Int)) (
 reqB ((1 : Int) ≤ n4) (
 reqB (n4 ≤ (1000000 : Int)) (
 reqB ((-1000000000000000 : Int) ≤ n5) (
 reqB (n5 ≤ (1000000000000000 : Int)) (
 reqB (sigRl.pre [DV.n n1, DV.n n2, DV.b b3, DV.n n4, DV.n n5]) (
 allB fun n11 : Int => 
 impB ((-549755813888 : Int) ≤ n11) (
 impB (n11 ≤ (0 : Int)) (
 allB fun n12 : Int => 
 impB ((0 : Int) ≤ n12) (
 impB (n12 ≤ (1099511627775 : Int)) (
 impB (sigRl.post [DV.n n1, DV.n n2, DV.b b3, DV.n n4, DV.n n5]
 [DV.n n11, DV.n n12]) (
 bR (dec (n12 < n8)) (
 allB fun n13 : Int => 
 impB (n13 = Go.IntKind.u64.wrap n2) (
 impB (Int.ofNat (0 : Nat) ≤ n13) (
 impB (n13 ≤ Int.ofNat (18446744073709551615 : Nat)) (
 allB fun n14 : Int => 
 impB (n14 = Go.IntKind.i64.wrap (n8 - opI (SO.shl Go.IntKind.i64) (1 : Int) n13)) (
 impB (Int.negSucc (9223372036854775807 : Nat) ≤ n14) (
 impB (n14 ≤ Int.ofNat (9223372036854775807 : Nat)) (
 allB fun n15 : Int => 
 impB (n15 = Go.IntKind.i64.wrap (n14 * n4)) (
 impB (Int.negSucc (9223372036854775807 : Nat) ≤ n15) (
 impB (n15 ≤ Int.ofNat (9223372036854775807 : Nat)) (
 allB fun n16 : Int => 
 impB (n16 = Go.IntKind.i64.wrap (n5 + n15)) (
 impB (Int.negSucc (9223372036854775807 : Nat) ≤ n16) (
 impB (n16 ≤ Int.ofNat (9223372036854775807 : Nat)) (
 reqB ((-1200000000000000000 : Int) ≤ n16) (
 reqB (n16 ≤ (1200000000000000000 : Int)) (
 reqB (sigGet.post [DV.l l0, DV.n n1, DV.n n2, DV.b b3, DV.n n4, DV.n n5]
 [DV.n n16, DV.n (0 : Int)]) (
 true)))))))))))))))) (
 allB fun n17 : Int => 
 impB (n17 = Go.IntKind.i64.wrap (n8 * n4)) (
 impB (Int.negSucc (9223372036854775807 : Nat) ≤ n17) (
 impB (n17 ≤ Int.ofNat (9223372036854775807 : Nat)) (
 allB fun n18 : Int => 
 impB (n18 = Go.IntKind.i64.wrap (n5 + n17)) (
 impB (Int.negSucc (9223372036854775807 : Nat) ≤ n18) (
 impB (n18 ≤ Int.ofNat (9223372036854775807 : Nat)) (
 reqB ((-1200000000000000000 : Int) ≤ n18) (
 reqB (n18 ≤ (1200000000000000000 : Int)) (
 reqB (sigGet.post [DV.l l0, DV.n n1, DV.n n2, DV.b b3, DV.n n4, DV.n n5]
 [DV.n n18, DV.n (0 : Int)]) (
 true))))))))))))))))))))))))))))))))))))))))))))))))))))))))))))))))))))))))) := by kernel_rfl
set_option maxHeartbeats 8000000 in
theorem vt_getR : vcFn Try.prog [(38, Ext.ctr (ctOf sigPl)), (33, Ext.ctr (ctOf sigRl))] (fun f p _ => at2 f p 15 122 ngL (none)) [] 100 15 sigGet = true := by
  rw [vc_getR]
  try simp only [Int.toNat_natCast, List.length_set, List.length_replicate, List.length_take, List.length_drop, List.length_append, List.length_cons, List.length_nil, Nat.min_self, List.take_take, lenCols_i, lenCols_b, List.drop_zero, List.take_length, List.take_nil, List.drop_nil, List.take_zero, List.nil_append, Nat.add_eq, Nat.mul_eq, Nat.sub_eq, Nat.zero_add, Nat.add_zero, Nat.sub_zero, Nat.mul_one]
  refine all_i fun l0 => ?_
  refine imp_i fun h0 => ?_
  refine imp_i fun h1 => ?_
  refine all_i fun n1 => ?_
  refine imp_i fun h2 => ?_
  refine imp_i fun h3 => ?_
  refine all_i fun n2 => ?_
  refine imp_i fun h4 => ?_
  refine imp_i fun h5 => ?_
  refine all_i fun b3 => ?_
  refine all_i fun n4 => ?_
  refine imp_i fun h6 => ?_
  refine imp_i fun h7 => ?_
  refine all_i fun n5 => ?_
  refine imp_i fun h8 => ?_
  refine imp_i fun h9 => ?_
  refine imp_i fun h10 => ?_
  try simp only [sigGet, cL, fV, lB, getPost, plErr, okL, okF, List.cons.injEq, DV.b.injEq, and_true, List.length_cons, List.length_nil] at h10
  refine req_i ?_ ?_
  · -- r0
   first | omega | ((try simp only [Nat.mul_eq]); first | done | omega | assumption | grind [getD_set, getD_rep, toNat_succ, cntN_yes, cntN_no])
  refine req_i ?_ ?_
  · -- r1
   first | omega | ((try simp only [Nat.zero_add]); first | done | omega | assumption | grind [getD_set, getD_rep, toNat_succ, cntN_yes, cntN_no])
  refine req_i ?_ ?_
  · -- r2
   first | omega | ((try simp only [List.take_nil, List.take_zero, List.length_take, List.take_length, List.take_take, Nat.min_self, List.drop_nil, List.length_drop, List.drop_zero, List.length_cons, List.length_nil]); first | done | omega | assumption | grind [getD_set, getD_rep, toNat_succ, cntN_yes, cntN_no])
  refine req_i ?_ ?_
  · -- r3
   first | assumption | exact rep_bd (by omega) (by omega) | exact set_bd (by assumption) (by omega) (by omega) | exact take_bd (by assumption) | ((try simp only [List.take_nil, List.take_zero, List.length_take, List.take_length, List.take_take, Nat.min_self, List.drop_nil, List.length_drop, List.drop_zero, List.length_cons, List.length_nil]); first | assumption | exact rep_bd (by omega) (by omega) | exact set_bd (by assumption) (by omega) (by omega) | exact take_bd (by assumption) | grind [getD_set, getD_rep, toNat_succ, cntN_yes, cntN_no])
  refine req_i ?_ ?_
  · -- r4
   first | omega | assumption | grind
  refine req_i ?_ ?_
  · -- r5
   first | omega | assumption | grind
  refine req_i ?_ ?_
  · -- r6
   first | omega | assumption | grind
  refine req_i ?_ ?_
  · -- r7
   first | omega | assumption | grind
  refine req_i ?_ ?_
  · -- r8
   first | omega | assumption | grind
  refine req_i ?_ ?_
  · -- r9
   first | omega | assumption | grind
  refine req_i ?_ ?_
  · -- r10
   first | omega | assumption | grind
  refine req_i ?_ ?_
  · -- r11
   first | omega | assumption | grind
  refine req_i ?_ ?_
  · -- r12
   first | omega | ((try simp only [sigPl, cL, fV, plPost, plErr, okL, okF, List.cons.injEq, DV.b.injEq, and_true, List.take_nil, List.take_zero, List.length_take, List.take_length, List.take_take, Nat.min_self, List.drop_nil, List.length_drop, List.drop_zero, List.length_cons, List.length_nil]); first | done | omega | assumption | grind [getD_set, getD_rep, toNat_succ, cntN_yes, cntN_no])
  refine all_i fun n6 => ?_
  refine imp_i fun h11 => ?_
  refine imp_i fun h12 => ?_
  refine imp_i fun h13 => ?_
  try simp only [Int.toNat_natCast, List.length_set, List.length_replicate, List.length_take, List.length_drop, List.length_append, List.length_cons, List.length_nil, Nat.min_self, List.take_take, lenCols_i, lenCols_b, List.drop_zero, List.take_length, List.take_nil, List.drop_nil, List.take_zero, List.nil_append, Nat.add_eq, Nat.mul_eq, Nat.sub_eq, Nat.zero_add, Nat.add_zero, Nat.sub_zero, Nat.mul_one] at h13
  refine bR_dec (fun h14 => ?_) (fun h14 => ?_)
  ·
   have pe : plErr l0 n1 n2 n4 n5 n6 := by
     rcases h13 with h | ⟨_, e⟩
     · exact h
     · omega
   refine req_i ?_ ?_
   · -- r13
    first | omega | assumption | grind
   refine req_i ?_ ?_
   · -- r14
    first | omega | assumption | grind
   refine req_i ?_ ?_
   · -- r15
    exact .inl ⟨pe, rfl⟩
   rfl
  ·
   obtain ⟨ok, e6⟩ : okL l0 n1 n2 n4 n5 ∧ n6 = 0 := by
     rcases h13 with h | h
     · rcases h with ⟨_, e⟩ | ⟨_, _, e⟩ | ⟨_, _, _, e⟩ <;> omega
     · exact h
   have ok2 := ok
   unfold okL okF at ok2
   obtain ⟨ok2, len, fm⟩ := ok2
   refine req_i ?_ ?_
   · -- r16
    first | omega | ((try simp only [Nat.mul_eq]); first | done | omega | assumption | grind [getD_set, getD_rep, toNat_succ, cntN_yes, cntN_no])
   refine req_i ?_ ?_
   · -- r17
    first | omega | ((try simp only [Nat.zero_add]); first | done | omega | assumption | grind [getD_set, getD_rep, toNat_succ, cntN_yes, cntN_no])
   refine req_i ?_ ?_
   · -- r18
    first | omega | ((try simp only [List.take_nil, List.take_zero, List.length_take, List.take_length, List.take_take, Nat.min_self, List.drop_nil, List.length_drop, List.drop_zero, List.length_cons, List.length_nil]); first | done | omega | assumption | grind [getD_set, getD_rep, toNat_succ, cntN_yes, cntN_no])
   refine req_i ?_ ?_
   · -- r19
    first | assumption | exact rep_bd (by omega) (by omega) | exact set_bd (by assumption) (by omega) (by omega) | exact take_bd (by assumption) | ((try simp only [List.take_nil, List.take_zero, List.length_take, List.take_length, List.take_take, Nat.min_self, List.drop_nil, List.length_drop, List.drop_zero, List.length_cons, List.length_nil]); first | assumption | exact rep_bd (by omega) (by omega) | exact set_bd (by assumption) (by omega) (by omega) | exact take_bd (by assumption) | grind [getD_set, getD_rep, toNat_succ, cntN_yes, cntN_no])
   refine req_i ?_ ?_
   · -- r20
    first | omega | assumption | grind
   refine req_i ?_ ?_
   · -- r21
    first | omega | assumption | grind
   refine req_i ?_ ?_
   · -- r22
    first | omega | assumption | grind
   refine req_i ?_ ?_
   · -- r23
    first | omega | assumption | grind
   refine req_i ?_ ?_
   · -- r24
    first | omega | assumption | grind
   refine req_i ?_ ?_
   · -- r25
    first | omega | assumption | grind
   refine req_i ?_ ?_
   · -- r26
    (try simp only [ngL, ngInv, List.drop_zero, List.take_length, Nat.add_eq, Nat.zero_add]); exact ⟨by omega, by omega, by omega, by omega, fm, by omega, by omega, by show (0 : Int) = numA l0 n1.toNat (n1 - n1).toNat; rw [Int.sub_self]; rfl⟩
   refine all_i fun n7 => ?_
   refine imp_i fun h15 => ?_
   refine imp_i fun h16 => ?_
   refine all_i fun n8 => ?_
   refine imp_i fun h17 => ?_
   refine imp_i fun h18 => ?_
   refine imp_i fun h19 => ?_
   try simp only [ngL, cL, ngInv, meaG, List.cons.injEq, DV.b.injEq, and_true, List.take_nil, List.take_zero, List.length_take, List.take_length, List.take_take, Nat.min_self, List.drop_nil, List.length_drop, List.drop_zero, List.length_cons, List.length_nil] at h19
   refine all_i fun n9 => ?_
   refine imp_i fun h20 => ?_
   simp only [wrap_i64] at h20
   replace h20 : n9 = n1 + n2 := by (try simp only [wrap_i64] at h20); omega
   refine imp_i fun h21 => ?_
   refine imp_i fun h22 => ?_
   refine bR_dec (fun h23 => ?_) (fun h23 => ?_)
   ·
    have fb := fm n7.toNat (by omega) (by omega)
    have nx := numA_next (l := l0) (a := n1.toNat) (i := n7 - n1) (by omega)
    rw [show n7 - n1 + 1 = n7 + 1 - n1 by omega, show n1.toNat + (n7 - n1).toNat = n7.toNat by omega] at nx
    have nb := numA_40 (l := l0) (a := n1.toNat) (k := (n7 + 1 - n1).toNat) (by omega) (fun j _ _ => fm j (by omega) (by omega))
    refine req_i ?_ ?_
    · -- r27
     first | omega | ((try simp only [Int.toNat_natCast, List.length_cons, List.length_nil]); first | done | omega | assumption | grind [getD_set, getD_rep, toNat_succ, cntN_yes, cntN_no])
    refine req_i ?_ ?_
    · -- r28
     first | omega | ((try simp only [Int.toNat_natCast, List.length_cons, List.length_nil, Nat.add_eq, Nat.zero_add, Nat.add_zero]); first | done | omega | assumption | grind [getD_set, getD_rep, toNat_succ, cntN_yes, cntN_no])
    refine all_i fun n10 => ?_
    refine imp_i fun h24 => ?_
    simp only [wrap_i64] at h24
    replace h24 : n10 = 2 * n8 + l0.getD n7.toNat 0 := by (try simp only [wrap_i64, Nat.add_eq, Nat.zero_add] at h24); omega
    refine imp_i fun h25 => ?_
    refine imp_i fun h26 => ?_
    refine bR_t ?_ ?_
    · -- g0
     first | rfl | (simp only [bR_iff, bR_iff_f, dec_iff, dec_f, beqB_iff', andB_iff', reduceCtorEq, imp_self, false_implies, and_true, true_and, implies_true, and_self]; done) | (simp [bR_iff, dec_iff, beqB_iff', andB_iff']; done) | (simp [bR_iff, dec_iff, beqB_iff', andB_iff']; omega)
    refine bR_t ?_ ?_
    · -- g1
     first | rfl | (simp only [bR_iff, bR_iff_f, dec_iff, dec_f, beqB_iff', andB_iff', reduceCtorEq, imp_self, false_implies, and_true, true_and, implies_true, and_self]; done) | (simp [bR_iff, dec_iff, beqB_iff', andB_iff']; done) | (simp [bR_iff, dec_iff, beqB_iff', andB_iff']; omega)
    refine req_i ?_ ?_
    · -- r29
     first | omega | assumption | grind
    refine req_i ?_ ?_
    · -- r30
     first | omega | assumption | grind
    refine req_i ?_ ?_
    · -- r31
     first | omega | assumption | grind
    refine req_i ?_ ?_
    · -- r32
     first | omega | assumption | grind
    refine req_i ?_ ?_
    · -- r33
     (try simp only [ngL, ngInv, List.drop_zero, List.take_length, Nat.add_eq, Nat.zero_add]); exact ⟨by omega, by omega, by omega, by omega, fm, by omega, by omega, by omega⟩
    refine req_i ?_ ?_
    · -- r34
     first | omega | ((try simp only [ngL, cL, ngInv, meaG, List.cons.injEq, DV.b.injEq, and_true, List.take_nil, List.take_zero, List.length_take, List.take_length, List.take_take, Nat.min_self, List.drop_nil, List.length_drop, List.drop_zero, List.length_cons, List.length_nil]); first | done | omega | assumption | grind [getD_set, getD_rep, toNat_succ, cntN_yes, cntN_no])
    rfl
   ·
    have n8e : n8 = numA l0 n1.toNat n2.toNat := by
      rw [← show (n7 - n1).toNat = n2.toNat by omega]; exact h19.2.2.2.2.2.2.2
    have nb := numA_40 (l := l0) (a := n1.toNat) (k := n2.toNat) (by omega) (fun j _ _ => fm j (by omega) (by omega))
    rw [← n8e, Int.toNat_of_nonneg (show 0 ≤ n2 by omega)] at nb
    have sb := sgnN_bd (g := b3) (b := n2) (n := n8) (by omega) (by omega) (by omega) nb.2.2
    have rb := R_bd (g := b3) (b := n2) (by omega) (by omega)
    have pb := p2_b (b := n2) (by omega) (by omega)
    refine req_i ?_ ?_
    · -- r35
     first | omega | assumption | grind
    refine req_i ?_ ?_
    · -- r36
     first | omega | assumption | grind
    refine req_i ?_ ?_
    · -- r37
     first | omega | assumption | grind
    refine req_i ?_ ?_
    · -- r38
     first | omega | assumption | grind
    refine req_i ?_ ?_
    · -- r39
     first | omega | assumption | grind
    refine req_i ?_ ?_
    · -- r40
     first | omega | assumption | grind
    refine req_i ?_ ?_
    · -- r41
     first | omega | assumption | grind
    refine req_i ?_ ?_
    · -- r42
     first | omega | assumption | grind
    refine req_i ?_ ?_
    · -- r43
     first | trivial | assumption | (simp only [sigRl, gV, rlPost, List.cons.injEq, DV.b.injEq, and_true, List.length_cons, List.length_nil]; done) | ((try simp only [sigRl, gV, rlPost, List.cons.injEq, DV.b.injEq, and_true, List.length_cons, List.length_nil]); first | omega | assumption | grind)
    refine all_i fun n11 => ?_
    refine imp_i fun h27 => ?_
    refine imp_i fun h28 => ?_
    refine all_i fun n12 => ?_
    refine imp_i fun h29 => ?_
    refine imp_i fun h30 => ?_
    refine imp_i fun h31 => ?_
    try simp only [sigRl, gV, rlPost, List.cons.injEq, DV.b.injEq, and_true, List.length_cons, List.length_nil] at h31
    refine bR_dec (fun h32 => ?_) (fun h32 => ?_)
    ·
     have sg : sgnN b3 n2 n8 = n8 - p2 n2 := by unfold sgnN; rw [if_pos (by omega)]
     rw [sg] at sb
     refine all_i fun n13 => ?_
     refine imp_i fun h33 => ?_
     simp only [wrap_u64] at h33
     replace h33 : n13 = n2 := by (try simp only [wrap_u64] at h33); omega
     refine imp_i fun h34 => ?_
     refine imp_i fun h35 => ?_
     refine all_i fun n14 => ?_
     refine imp_i fun h36 => ?_
     simp only [wrap_i64] at h36
     have so := shl_one (n := n13) (by omega) (by omega)
     rw [so, h33] at h36
     replace h36 : n14 = n8 - p2 n2 := by (try simp only [wrap_i64] at h36); omega
     have vb := vl_bd (r := n14) (u := n4) (by omega) (by omega) (by omega) (by omega)
     refine imp_i fun h37 => ?_
     refine imp_i fun h38 => ?_
     refine all_i fun n15 => ?_
     refine imp_i fun h39 => ?_
     simp only [wrap_i64] at h39
     replace h39 : n15 = n14 * n4 := by (try simp only [wrap_i64] at h39); omega
     refine imp_i fun h40 => ?_
     refine imp_i fun h41 => ?_
     refine all_i fun n16 => ?_
     refine imp_i fun h42 => ?_
     simp only [wrap_i64] at h42
     replace h42 : n16 = n5 + n15 := by (try simp only [wrap_i64] at h42); omega
     refine imp_i fun h43 => ?_
     refine imp_i fun h44 => ?_
     refine req_i ?_ ?_
     · -- r44
      first | omega | assumption | grind
     refine req_i ?_ ?_
     · -- r45
      first | omega | assumption | grind
     refine req_i ?_ ?_
     · -- r46
      exact .inr ⟨ok, by show n16 = n5 + sgnN b3 n2 (numA l0 n1.toNat n2.toNat) * n4; rw [← n8e, sg, h42, h39, h36], rfl⟩
     rfl
    ·
     have sg : sgnN b3 n2 n8 = n8 := by unfold sgnN; rw [if_neg (by omega)]
     have vb := vl_bd (r := n8) (u := n4) (by omega) (by omega) (by omega) (by omega)
     refine all_i fun n17 => ?_
     refine imp_i fun h45 => ?_
     simp only [wrap_i64] at h45
     replace h45 : n17 = n8 * n4 := by (try simp only [wrap_i64] at h45); omega
     refine imp_i fun h46 => ?_
     refine imp_i fun h47 => ?_
     refine all_i fun n18 => ?_
     refine imp_i fun h48 => ?_
     simp only [wrap_i64] at h48
     replace h48 : n18 = n5 + n17 := by (try simp only [wrap_i64] at h48); omega
     refine imp_i fun h49 => ?_
     refine imp_i fun h50 => ?_
     refine req_i ?_ ?_
     · -- r47
      first | omega | assumption | grind
     refine req_i ?_ ?_
     · -- r48
      first | omega | assumption | grind
     refine req_i ?_ ?_
     · -- r49
      exact .inr ⟨ok, by show n18 = n5 + sgnN b3 n2 (numA l0 n1.toNat n2.toNat) * n4; rw [← n8e, sg, h48, h45], rfl⟩
     rfl
theorem ext_getR : ∀ p ∈ ([(38, Ext.ctr (ctOf sigPl)), (33, Ext.ctr (ctOf sigRl))] : List (Nat × Ext)), ExtRow Try.prog p.1 p.2 := by
  intro p hp
  simp only [List.mem_cons, List.not_mem_nil, or_false] at hp
  rcases hp with rfl | rfl
  · trivial
  · trivial
theorem cts_getR : CtsOk Try.prog [(38, Ext.ctr (ctOf sigPl)), (33, Ext.ctr (ctOf sigRl))] := ctsOk_of (cs := [(38, sigPl), (33, sigRl)])
  (fun p hp => by
    simp only [List.mem_cons, List.not_mem_nil, or_false] at hp
    rcases hp with rfl | rfl
    · exact fn_plR
    · exact fn_rlR
)
  (fun f c h => by
    simp only [List.lookup_cons] at h
    repeat' split at h
    all_goals first | (cases h; done) | (rename_i e; have e := beq_iff_eq.1 e; subst e; cases h; refine ⟨_, ?_, rfl⟩; simp))
theorem fn_getR : FnOk Try.prog 15 sigGet [] := fn_sound (by kernel_rfl) ext_getR cts_getR names vt_getR
end Go.Proofs.Ytbgooiiihmnnmaa

namespace Go.Proofs.Ytbgooiiihmnnmaa
open Go.Ev Go.Sp
set_option maxRecDepth 100000
theorem vc_al : vcFn Try.prog [] (fun f p _ => at2 f p 18 58 alL (none)) [] 100 18 sigAl = (allB fun l0 : List Int => 
impB (l0.length ≤ (200 : Nat)) (
impB (∀ (y : Int), y ∈ l0 → (-9223372036854775808 : Int) ≤ y ∧ y ≤ (9223372036854775807 : Int)) (
allB fun l1 : List Int => 
impB (l1.length ≤ (200 : Nat)) (
impB (∀ (y : Int), y ∈ l1 → (-9223372036854775808 : Int) ≤ y ∧ y ≤ (9223372036854775807 : Int)) (
impB (sigAl.pre [DV.l l0, DV.l l1]) (
bR (dec ((↑l0.length : Int) ≠ (↑l1.length : Int))) (
 reqB (sigAl.post [DV.l l0, DV.l l1] [DV.b Bool.false]) (
 true)) (
 reqB (((0 : Nat) + l0.length) * (1 : Nat) ≤ l0.length.mul (1 : Nat)) (
 reqB (l0.length ≤ (200 : Nat)) (
 reqB ((List.take l0.length (List.drop (0 : Nat) l0)).length = l0.length) (
 reqB (∀ (y : Int),
 y ∈ List.take l0.length (List.drop (0 : Nat) l0) → (-9223372036854775808 : Int) ≤ y ∧ y ≤ (9223372036854775807 : Int)) (
 reqB (((0 : Nat) + l1.length) * (1 : Nat) ≤ l1.length.mul (1 : Nat)) (
 reqB (l1.length ≤ (200 : Nat)) (
 reqB ((List.take l1.length (List.drop (0 : Nat) l1)).length = l1.length) (
 reqB (∀ (y : Int),
 y ∈ List.take l1.length (List.drop (0 : Nat) l1) → (-9223372036854775808 : Int) ≤ y ∧ y ≤ (9223372036854775807 : Int)) (
 reqB (alL.inv
 [DV.l (List.take l0.length (List.drop (0 : Nat) l0)), DV.l (List.take l1.length (List.drop (0 : Nat) l1))]
 [DV.n (0 : Int)]) (
 allB fun n2 : Int => 
 impB ((0 : Int) ≤ n2) (
 impB (n2 ≤ (200 : Int)) (
 impB (alL.inv
 [DV.l (List.take l0.length (List.drop (0 : Nat) l0)), DV.l (List.take l1.length (List.drop (0 : Nat) l1))]
 [DV.n n2]) (
 bR (dec (n2 < (↑l0.length : Int))) (
 reqB (n2.toNat < l0.length) (
 reqB (Nat.add (0 : Nat) n2.toNat < l0.length) (
 reqB (n2.toNat < l1.length) (
 reqB (Nat.add (0 : Nat) n2.toNat < l1.length) (
 bR (dec (l0.getD (Nat.add (0 : Nat) n2.toNat) (0 : Int) ≠ l1.getD (Nat.add (0 : Nat) n2.toNat) (0 : Int))) (
 reqB (sigAl.post [DV.l l0, DV.l l1] [DV.b Bool.false]) (
 true)) (
 bR (bR (bR (dec ((0 : Nat) = (0 : Nat))) (
 dec (l0.length = l0.length)) (
 false)) (
 bR (bR (dec ((0 : Nat) = (0 : Nat))) (
 dec (l1.length = l1.length)) (
 false)) (
 true) (
 false)) (
 false)) (
 reqB ((0 : Int) ≤ n2 + (1 : Int)) (
 reqB (n2 + (1 : Int) ≤ (200 : Int)) (
 reqB (alL.inv
 [DV.l (List.take l0.length (List.drop (0 : Nat) l0)), DV.l (List.take l1.length (List.drop (0 : Nat) l1))]
 [DV.n (n2 + (1 : Int))]) (
 reqB (alL.mea
 [DV.l (List.take l0.length (List.drop (0 : Nat) l0)),
 DV.l (List.take l1.length (List.drop (0 : Nat) l1))]
 [DV.n (n2 + (1 : Int))] <
 alL.mea
 [DV.l (List.take l0.length (List.drop (0 : Nat) l0)),
 DV.l (List.take l1.length (List.drop (0 : Nat) l1))]
 [DV.n n2]) (
 true))))) (
 false))))))) (
 reqB (sigAl.post [DV.l l0, DV.l l1] [DV.b Bool.true]) (
 true))))))))))))))))))))) := by kernel_rfl
set_option maxHeartbeats 8000000 in
theorem vt_al : vcFn Try.prog [] (fun f p _ => at2 f p 18 58 alL (none)) [] 100 18 sigAl = true := by
  rw [vc_al]
  try simp only [Int.toNat_natCast, List.length_set, List.length_replicate, List.length_take, List.length_drop, List.length_append, List.length_cons, List.length_nil, Nat.min_self, List.take_take, lenCols_i, lenCols_b, List.drop_zero, List.take_length, List.take_nil, List.drop_nil, List.take_zero, List.nil_append, Nat.add_eq, Nat.mul_eq, Nat.sub_eq, Nat.zero_add, Nat.add_zero, Nat.sub_zero, Nat.mul_one]
  refine all_i fun l0 => ?_
  refine imp_i fun h0 => ?_
  refine imp_i fun h1 => ?_
  refine all_i fun l1 => ?_
  refine imp_i fun h2 => ?_
  refine imp_i fun h3 => ?_
  refine imp_i fun h4 => ?_
  try simp only [sigAl, cL, alP, List.cons.injEq, DV.b.injEq, and_true, List.length_cons, List.length_nil] at h4
  refine bR_dec (fun h5 => ?_) (fun h5 => ?_)
  ·
   refine req_i ?_ ?_
   · -- r0
    first | omega | ((try simp only [sigAl, cL, alP, List.cons.injEq, DV.b.injEq, and_true, List.length_cons, List.length_nil]); first | done | omega | assumption | grind [getD_set, getD_rep, toNat_succ, cntN_yes, cntN_no])
   rfl
  ·
   refine req_i ?_ ?_
   · -- r1
    first | omega | ((try simp only [Nat.mul_eq]); first | done | omega | assumption | grind [getD_set, getD_rep, toNat_succ, cntN_yes, cntN_no])
   refine req_i ?_ ?_
   · -- r2
    first | omega | ((try simp only [Nat.zero_add]); first | done | omega | assumption | grind [getD_set, getD_rep, toNat_succ, cntN_yes, cntN_no])
   refine req_i ?_ ?_
   · -- r3
    first | omega | ((try simp only [List.take_nil, List.take_zero, List.length_take, List.take_length, List.take_take, Nat.min_self, List.drop_nil, List.length_drop, List.drop_zero, List.length_cons, List.length_nil]); first | done | omega | assumption | grind [getD_set, getD_rep, toNat_succ, cntN_yes, cntN_no])
   refine req_i ?_ ?_
   · -- r4
    first | assumption | exact rep_bd (by omega) (by omega) | exact set_bd (by assumption) (by omega) (by omega) | exact take_bd (by assumption) | ((try simp only [List.take_nil, List.take_zero, List.length_take, List.take_length, List.take_take, Nat.min_self, List.drop_nil, List.length_drop, List.drop_zero, List.length_cons, List.length_nil]); first | assumption | exact rep_bd (by omega) (by omega) | exact set_bd (by assumption) (by omega) (by omega) | exact take_bd (by assumption) | grind [getD_set, getD_rep, toNat_succ, cntN_yes, cntN_no])
   refine req_i ?_ ?_
   · -- r5
    first | omega | ((try simp only [Nat.mul_eq]); first | done | omega | assumption | grind [getD_set, getD_rep, toNat_succ, cntN_yes, cntN_no])
   refine req_i ?_ ?_
   · -- r6
    first | omega | ((try simp only [Nat.zero_add]); first | done | omega | assumption | grind [getD_set, getD_rep, toNat_succ, cntN_yes, cntN_no])
   refine req_i ?_ ?_
   · -- r7
    first | omega | ((try simp only [List.take_nil, List.take_zero, List.length_take, List.take_length, List.take_take, Nat.min_self, List.drop_nil, List.length_drop, List.drop_zero, List.length_cons, List.length_nil]); first | done | omega | assumption | grind [getD_set, getD_rep, toNat_succ, cntN_yes, cntN_no])
   refine req_i ?_ ?_
   · -- r8
    first | assumption | exact rep_bd (by omega) (by omega) | exact set_bd (by assumption) (by omega) (by omega) | exact take_bd (by assumption) | ((try simp only [List.take_nil, List.take_zero, List.length_take, List.take_length, List.take_take, Nat.min_self, List.drop_nil, List.length_drop, List.drop_zero, List.length_cons, List.length_nil]); first | assumption | exact rep_bd (by omega) (by omega) | exact set_bd (by assumption) (by omega) (by omega) | exact take_bd (by assumption) | grind [getD_set, getD_rep, toNat_succ, cntN_yes, cntN_no])
   refine req_i ?_ ?_
   · -- r9
    first | omega | ((try simp only [alL, cL, alInv, meaF, List.cons.injEq, DV.b.injEq, and_true, List.take_nil, List.take_zero, List.length_take, List.take_length, List.take_take, Nat.min_self, List.drop_nil, List.length_drop, List.drop_zero, List.length_cons, List.length_nil]); first | done | omega | assumption | grind [getD_set, getD_rep, toNat_succ, cntN_yes, cntN_no])
   refine all_i fun n2 => ?_
   refine imp_i fun h6 => ?_
   refine imp_i fun h7 => ?_
   refine imp_i fun h8 => ?_
   try simp only [alL, cL, alInv, meaF, List.cons.injEq, DV.b.injEq, and_true, List.take_nil, List.take_zero, List.length_take, List.take_length, List.take_take, Nat.min_self, List.drop_nil, List.length_drop, List.drop_zero, List.length_cons, List.length_nil] at h8
   refine bR_dec (fun h9 => ?_) (fun h9 => ?_)
   ·
    refine req_i ?_ ?_
    · -- r10
     first | omega | ((try simp only [Int.toNat_natCast, List.length_cons, List.length_nil]); first | done | omega | assumption | grind [getD_set, getD_rep, toNat_succ, cntN_yes, cntN_no])
    refine req_i ?_ ?_
    · -- r11
     first | omega | ((try simp only [Int.toNat_natCast, List.length_cons, List.length_nil, Nat.add_eq, Nat.zero_add, Nat.add_zero]); first | done | omega | assumption | grind [getD_set, getD_rep, toNat_succ, cntN_yes, cntN_no])
    refine req_i ?_ ?_
    · -- r12
     first | omega | ((try simp only [Int.toNat_natCast, List.length_cons, List.length_nil]); first | done | omega | assumption | grind [getD_set, getD_rep, toNat_succ, cntN_yes, cntN_no])
    refine req_i ?_ ?_
    · -- r13
     first | omega | ((try simp only [Int.toNat_natCast, List.length_cons, List.length_nil, Nat.add_eq, Nat.zero_add, Nat.add_zero]); first | done | omega | assumption | grind [getD_set, getD_rep, toNat_succ, cntN_yes, cntN_no])
    refine bR_dec (fun h10 => ?_) (fun h10 => ?_)
    ·
     refine req_i ?_ ?_
     · -- r14
      first | omega | ((try simp only [sigAl, cL, alP, List.cons.injEq, DV.b.injEq, and_true, List.length_cons, List.length_nil]); first | done | omega | assumption | grind [getD_set, getD_rep, toNat_succ, cntN_yes, cntN_no])
     rfl
    ·
     refine bR_t ?_ ?_
     · -- g0
      first | rfl | (simp only [bR_iff, bR_iff_f, dec_iff, dec_f, beqB_iff', andB_iff', reduceCtorEq, imp_self, false_implies, and_true, true_and, implies_true, and_self]; done) | (simp [bR_iff, dec_iff, beqB_iff', andB_iff']; done) | (simp [bR_iff, dec_iff, beqB_iff', andB_iff']; omega)
     refine req_i ?_ ?_
     · -- r15
      first | omega | assumption | grind
     refine req_i ?_ ?_
     · -- r16
      first | omega | assumption | grind
     refine req_i ?_ ?_
     · -- r17
      first | omega | ((try simp only [alL, cL, alInv, meaF, List.cons.injEq, DV.b.injEq, and_true, List.take_nil, List.take_zero, List.length_take, List.take_length, List.take_take, Nat.min_self, List.drop_nil, List.length_drop, List.drop_zero, List.length_cons, List.length_nil]); first | done | omega | assumption | grind [getD_set, getD_rep, toNat_succ, cntN_yes, cntN_no])
     refine req_i ?_ ?_
     · -- r18
      first | omega | ((try simp only [alL, cL, alInv, meaF, List.cons.injEq, DV.b.injEq, and_true, List.take_nil, List.take_zero, List.length_take, List.take_length, List.take_take, Nat.min_self, List.drop_nil, List.length_drop, List.drop_zero, List.length_cons, List.length_nil]); first | done | omega | assumption | grind [getD_set, getD_rep, toNat_succ, cntN_yes, cntN_no])
     rfl
   ·
    have e1 := al_of (a := l0) (b := l1) h8.2.1 h9 h8.2.2.2
    refine req_i ?_ ?_
    · -- r19
     first | omega | ((try simp only [sigAl, cL, alP, List.cons.injEq, DV.b.injEq, and_true, List.length_cons, List.length_nil]); first | done | omega | assumption | grind [getD_set, getD_rep, toNat_succ, cntN_yes, cntN_no])
    rfl
theorem ext_al : ∀ p ∈ ([] : List (Nat × Ext)), ExtRow Try.prog p.1 p.2 := by
  intro p hp
  cases hp
theorem cts_al : CtsOk Try.prog [] := fun f c h => by cases h
theorem fn_al : FnOk Try.prog 18 sigAl [] := fn_sound (by kernel_rfl) ext_al cts_al names vt_al
end Go.Proofs.Ytbgooiiihmnnmaa

namespace Go.Proofs.Ytbgooiiihmnnmaa
open Go.Ev Go.Sp
set_option maxRecDepth 100000
theorem vc_awake : vcFn Try.prog [] noA [] 300 9 sigTrue0 = (impB (sigTrue0.pre []) (
reqB (sigTrue0.post [] [DV.b (eqI (0 : Int) (0 : Int))]) (
true))) := by kernel_rfl
set_option maxHeartbeats 8000000 in
theorem vt_awake : vcFn Try.prog [] noA [] 300 9 sigTrue0 = true := by
  rw [vc_awake]
  try simp only [Int.toNat_natCast, List.length_set, List.length_replicate, List.length_take, List.length_drop, List.length_append, List.length_cons, List.length_nil, Nat.min_self, List.take_take, lenCols_i, lenCols_b, List.drop_zero, List.take_length, List.take_nil, List.drop_nil, List.take_zero, List.nil_append, Nat.add_eq, Nat.mul_eq, Nat.sub_eq, Nat.zero_add, Nat.add_zero, Nat.sub_zero, Nat.mul_one]
  refine imp_i fun h0 => ?_
  try simp only [sigTrue0, List.cons.injEq, DV.b.injEq, and_true, List.length_cons, List.length_nil] at h0
  refine req_i ?_ ?_
  · -- r0
   exact rfl
  rfl
theorem ext_awake : ∀ p ∈ ([] : List (Nat × Ext)), ExtRow Try.prog p.1 p.2 := by
  intro p hp
  cases hp
theorem cts_awake : CtsOk Try.prog [] := fun f c h => by cases h
theorem fn_awake : FnOk Try.prog 9 sigTrue0 [] := fn_sound (by kernel_rfl) ext_awake cts_awake names vt_awake
end Go.Proofs.Ytbgooiiihmnnmaa

namespace Go.Proofs.Ytbgooiiihmnnmaa
open Go.Ev Go.Sp
set_option maxRecDepth 100000
theorem vc_FieldPuts : vcFn Try.prog [(10, Ext.ctr (ctOf sigLim)), (11, Ext.ctr (ctOf sigLim)), (16, Ext.ctr (ctOf sigChk)), (17, Ext.ctr (ctOf sigChk)), (12, Ext.ctr (ctOf sigPut)), (13, Ext.ctr (ctOf sigPut)), (14, Ext.ctr (ctOf sigGet)), (15, Ext.ctr (ctOf sigGet)), (18, Ext.ctr (ctOf sigAl)), (9, Ext.ctr (ctOf sigTrue0))] noA [] 100 3 sigPuts = (allB fun l0 : List Int => 
impB (l0.length ≤ (9223372036854775807 : Nat)) (
impB (∀ (y : Int), y ∈ l0 → (-9223372036854775808 : Int) ≤ y ∧ y ≤ (9223372036854775807 : Int)) (
allB fun n1 : Int => 
impB ((-9223372036854775808 : Int) ≤ n1) (
impB (n1 ≤ (9223372036854775807 : Int)) (
allB fun n2 : Int => 
impB ((-9223372036854775808 : Int) ≤ n2) (
impB (n2 ≤ (9223372036854775807 : Int)) (
allB fun b3 : Bool => 
allB fun n4 : Int => 
impB ((-9223372036854775808 : Int) ≤ n4) (
impB (n4 ≤ (9223372036854775807 : Int)) (
allB fun n5 : Int => 
impB ((-9223372036854775808 : Int) ≤ n5) (
impB (n5 ≤ (9223372036854775807 : Int)) (
allB fun n6 : Int => 
impB ((-9223372036854775808 : Int) ≤ n6) (
impB (n6 ≤ (9223372036854775807 : Int)) (
impB (sigPuts.pre
 [DV.l l0, DV.n n1, DV.n n2, DV.b b3, DV.n n4, DV.n n5, DV.n n6]) (
bR (dec ((200 : Int) < (↑l0.length : Int))) (
 reqB (sigTrue0.pre []) (
 allB fun b7 : Bool => 
 impB (sigTrue0.post [] [DV.b b7]) (
 reqB (sigPuts.post
 [DV.l l0, DV.n n1, DV.n n2, DV.b b3, DV.n n4, DV.n n5, DV.n n6]
 [DV.b b7]) (
 true)))) (
 reqB ((-9223372036854775808 : Int) ≤ n1) (
 reqB (n1 ≤ (9223372036854775807 : Int)) (
 reqB ((-9223372036854775808 : Int) ≤ n2) (
 reqB (n2 ≤ (9223372036854775807 : Int)) (
 reqB ((-9223372036854775808 : Int) ≤ n4) (
 reqB (n4 ≤ (9223372036854775807 : Int)) (
 reqB ((-9223372036854775808 : Int) ≤ n5) (
 reqB (n5 ≤ (9223372036854775807 : Int)) (
 reqB (sigLim.pre [DV.n n1, DV.n n2, DV.b b3, DV.n n4, DV.n n5]) (
 allB fun n8 : Int => 
 impB ((-1200000000000000000 : Int) ≤ n8) (
 impB (n8 ≤ (1200000000000000000 : Int)) (
 allB fun n9 : Int => 
 impB ((-1200000000000000000 : Int) ≤ n9) (
 impB (n9 ≤ (1200000000000000000 : Int)) (
 allB fun n10 : Int => 
 impB ((0 : Int) ≤ n10) (
 impB (n10 ≤ (18 : Int)) (
 impB (sigLim.post [DV.n n1, DV.n n2, DV.b b3, DV.n n4, DV.n n5]
 [DV.n n8, DV.n n9, DV.n n10]) (
 reqB ((-9223372036854775808 : Int) ≤ n1) (
 reqB (n1 ≤ (9223372036854775807 : Int)) (
 reqB ((-9223372036854775808 : Int) ≤ n2) (
 reqB (n2 ≤ (9223372036854775807 : Int)) (
 reqB ((-9223372036854775808 : Int) ≤ n4) (
 reqB (n4 ≤ (9223372036854775807 : Int)) (
 reqB ((-9223372036854775808 : Int) ≤ n5) (
 reqB (n5 ≤ (9223372036854775807 : Int)) (
 reqB (sigLim.pre [DV.n n1, DV.n n2, DV.b b3, DV.n n4, DV.n n5]) (
 allB fun n11 : Int => 
 impB ((-1200000000000000000 : Int) ≤ n11) (
 impB (n11 ≤ (1200000000000000000 : Int)) (
 allB fun n12 : Int => 
 impB ((-1200000000000000000 : Int) ≤ n12) (
 impB (n12 ≤ (1200000000000000000 : Int)) (
 allB fun n13 : Int => 
 impB ((0 : Int) ≤ n13) (
 impB (n13 ≤ (18 : Int)) (
 impB (sigLim.post [DV.n n1, DV.n n2, DV.b b3, DV.n n4, DV.n n5]
 [DV.n n11, DV.n n12, DV.n n13]) (
 reqB (((0 : Nat) + l0.length) * (0 + (1 : Nat)) ≤ l0.length.mul (1 : Nat)) (
 reqB ((0 : Nat) + l0.length ≤ (1000000 : Nat)) (
 reqB (((0 : Nat) + l0.length) * (1 : Nat) ≤ l0.length.mul (0 + (1 : Nat))) (
 reqB (l0.length ≤ (200 : Nat)) (
 reqB ((List.take l0.length (List.drop (0 : Nat) (List.take l0.length (List.drop (0 : Nat) l0)))).length = l0.length) (
 reqB (∀ (y : Int),
 y ∈ List.take l0.length (List.drop (0 : Nat) (List.take l0.length (List.drop (0 : Nat) l0))) →
 (-9223372036854775808 : Int) ≤ y ∧ y ≤ (9223372036854775807 : Int)) (
 reqB ((-9223372036854775808 : Int) ≤ n1) (
 reqB (n1 ≤ (9223372036854775807 : Int)) (
 reqB ((-9223372036854775808 : Int) ≤ n2) (
 reqB (n2 ≤ (9223372036854775807 : Int)) (
 reqB ((-9223372036854775808 : Int) ≤ n4) (
 reqB (n4 ≤ (9223372036854775807 : Int)) (
 reqB ((-9223372036854775808 : Int) ≤ n5) (
 reqB (n5 ≤ (9223372036854775807 : Int)) (
 reqB ((-9223372036854775808 : Int) ≤ n6) (
 reqB (n6 ≤ (9223372036854775807 : Int)) (
 reqB (sigPut.pre
 [DV.l (List.take l0.length (List.drop (0 : Nat) (List.take l0.length (List.drop (0 : Nat) l0)))), DV.n n1,
 DV.n n2, DV.b b3, DV.n n4, DV.n n5, DV.n n6]) (
 allB fun l14 : List Int => 
 impB (l14.length ≤ (200 : Nat)) (
 impB (∀ (y : Int), y ∈ l14 → (-9223372036854775808 : Int) ≤ y ∧ y ≤ (9223372036854775807 : Int)) (
 allB fun n15 : Int => 
 impB ((0 : Int) ≤ n15) (
 impB (n15 ≤ (18 : Int)) (
 impB (sigPut.post
 [DV.l (List.take l0.length (List.drop (0 : Nat) (List.take l0.length (List.drop (0 : Nat) l0)))), DV.n n1,
 DV.n n2, DV.b b3, DV.n n4, DV.n n5, DV.n n6]
 [DV.l l14, DV.n n15]) (
 reqB (((0 : Nat) + l0.length) * (1 : Nat) ≤ l0.length.mul (1 : Nat)) (
 reqB (l0.length ≤ (200 : Nat)) (
 reqB ((List.take l0.length (List.drop (0 : Nat) l0)).length = l0.length) (
 reqB (∀ (y : Int),
 y ∈ List.take l0.length (List.drop (0 : Nat) l0) → (-9223372036854775808 : Int) ≤ y ∧ y ≤ (9223372036854775807 : Int)) (
 reqB ((-9223372036854775808 : Int) ≤ n1) (
 reqB (n1 ≤ (9223372036854775807 : Int)) (
 reqB ((-9223372036854775808 : Int) ≤ n2) (
 reqB (n2 ≤ (9223372036854775807 : Int)) (
 reqB ((-9223372036854775808 : Int) ≤ n4) (
 reqB (n4 ≤ (9223372036854775807 : Int)) (
 reqB ((-9223372036854775808 : Int) ≤ n5) (
 reqB (n5 ≤ (9223372036854775807 : Int)) (
 reqB ((-9223372036854775808 : Int) ≤ n6) (
 reqB (n6 ≤ (9223372036854775807 : Int)) (
 reqB (sigPut.pre
 [DV.l (List.take l0.length (List.drop (0 : Nat) l0)), DV.n n1, DV.n n2, DV.b b3,
 DV.n n4, DV.n n5, DV.n n6]) (
 allB fun l16 : List Int => 
 impB (l16.length ≤ (200 : Nat)) (
 impB (∀ (y : Int), y ∈ l16 → (-9223372036854775808 : Int) ≤ y ∧ y ≤ (9223372036854775807 : Int)) (
 allB fun n17 : Int => 
 impB ((0 : Int) ≤ n17) (
 impB (n17 ≤ (18 : Int)) (
 impB (sigPut.post
 [DV.l (List.take l0.length (List.drop (0 : Nat) l0)), DV.n n1, DV.n n2, DV.b b3,
 DV.n n4, DV.n n5, DV.n n6]
 [DV.l l16, DV.n n17]) (
 reqB (((0 : Nat) + l0.length) * (1 : Nat) ≤ l0.length.mul (0 + (1 : Nat))) (
 reqB (l0.length ≤ (200 : Nat)) (
 reqB ((List.take l0.length (List.drop (0 : Nat) (List.take l0.length (List.drop (0 : Nat) l0)))).length = l0.length) (
 reqB (∀ (y : Int),
 y ∈ List.take l0.length (List.drop (0 : Nat) (List.take l0.length (List.drop (0 : Nat) l0))) →
 (-9223372036854775808 : Int) ≤ y ∧ y ≤ (9223372036854775807 : Int)) (
 reqB ((-9223372036854775808 : Int) ≤ n1) (
 reqB (n1 ≤ (9223372036854775807 : Int)) (
 reqB ((-9223372036854775808 : Int) ≤ n2) (
 reqB (n2 ≤ (9223372036854775807 : Int)) (
 reqB ((-9223372036854775808 : Int) ≤ n4) (
 reqB (n4 ≤ (9223372036854775807 : Int)) (
 reqB ((-9223372036854775808 : Int) ≤ n5) (
 reqB (n5 ≤ (9223372036854775807 : Int)) (
 reqB (sigGet.pre
 [DV.l (List.take l0.length (List.drop (0 : Nat) (List.take l0.length (List.drop (0 : Nat) l0)))), DV.n n1,
 DV.n n2, DV.b b3, DV.n n4, DV.n n5]) (
 allB fun n18 : Int => 
 impB ((-1200000000000000000 : Int) ≤ n18) (
 impB (n18 ≤ (1200000000000000000 : Int)) (
 allB fun n19 : Int => 
 impB ((0 : Int) ≤ n19) (
 impB (n19 ≤ (18 : Int)) (
 impB (sigGet.post
 [DV.l (List.take l0.length (List.drop (0 : Nat) (List.take l0.length (List.drop (0 : Nat) l0)))), DV.n n1,
 DV.n n2, DV.b b3, DV.n n4, DV.n n5]
 [DV.n n18, DV.n n19]) (
 reqB (((0 : Nat) + l0.length) * (1 : Nat) ≤ l0.length.mul (1 : Nat)) (
 reqB (l0.length ≤ (200 : Nat)) (
 reqB ((List.take l0.length (List.drop (0 : Nat) l0)).length = l0.length) (
 reqB (∀ (y : Int),
 y ∈ List.take l0.length (List.drop (0 : Nat) l0) → (-9223372036854775808 : Int) ≤ y ∧ y ≤ (9223372036854775807 : Int)) (
 reqB ((-9223372036854775808 : Int) ≤ n1) (
 reqB (n1 ≤ (9223372036854775807 : Int)) (
 reqB ((-9223372036854775808 : Int) ≤ n2) (
 reqB (n2 ≤ (9223372036854775807 : Int)) (
 reqB ((-9223372036854775808 : Int) ≤ n4) (
 reqB (n4 ≤ (9223372036854775807 : Int)) (
 reqB ((-9223372036854775808 : Int) ≤ n5) (
 reqB (n5 ≤ (9223372036854775807 : Int)) (
 reqB (sigGet.pre
 [DV.l (List.take l0.length (List.drop (0 : Nat) l0)), DV.n n1, DV.n n2, DV.b b3,
 DV.n n4, DV.n n5]) (
 allB fun n20 : Int => 
 impB ((-1200000000000000000 : Int) ≤ n20) (
 impB (n20 ≤ (1200000000000000000 : Int)) (
 allB fun n21 : Int => 
 impB ((0 : Int) ≤ n21) (
 impB (n21 ≤ (18 : Int)) (
 impB (sigGet.post
 [DV.l (List.take l0.length (List.drop (0 : Nat) l0)), DV.n n1, DV.n n2, DV.b b3,
 DV.n n4, DV.n n5]
 [DV.n n20, DV.n n21]) (
 bR (dec (n8 = n11)) (
 bR (dec (n9 = n12)) (
 bR (dec (n10 = n13)) (
 reqB ((-9223372036854775808 : Int) ≤ n1) (
 reqB (n1 ≤ (9223372036854775807 : Int)) (
 reqB ((-9223372036854775808 : Int) ≤ n2) (
 reqB (n2 ≤ (9223372036854775807 : Int)) (
 reqB ((-9223372036854775808 : Int) ≤ n4) (
 reqB (n4 ≤ (9223372036854775807 : Int)) (
 reqB ((-9223372036854775808 : Int) ≤ n5) (
 reqB (n5 ≤ (9223372036854775807 : Int)) (
 reqB (sigChk.pre [DV.n n1, DV.n n2, DV.b b3, DV.n n4, DV.n n5]) (
 allB fun n22 : Int => 
 impB ((0 : Int) ≤ n22) (
 impB (n22 ≤ (18 : Int)) (
 impB (sigChk.post [DV.n n1, DV.n n2, DV.b b3, DV.n n4, DV.n n5] [DV.n n22]) (
 reqB ((-9223372036854775808 : Int) ≤ n1) (
 reqB (n1 ≤ (9223372036854775807 : Int)) (
 reqB ((-9223372036854775808 : Int) ≤ n2) (
 reqB (n2 ≤ (9223372036854775807 : Int)) (
 reqB ((-9223372036854775808 : Int) ≤ n4) (
 reqB (n4 ≤ (9223372036854775807 : Int)) (
 reqB ((-9223372036854775808 : Int) ≤ n5) (
 reqB (n5 ≤ (9223372036854775807 : Int)) (
 reqB (sigChk.pre [DV.n n1, DV.n n2, DV.b b3, DV.n n4, DV.n n5]) (
 allB fun n23 : Int => 
 impB ((0 : Int) ≤ n23) (
 impB (n23 ≤ (18 : Int)) (
 impB (sigChk.post [DV.n n1, DV.n n2, DV.b b3, DV.n n4, DV.n n5] [DV.n n23]) (
 bR (dec (n22 = n23)) (
 reqB (((0 : Nat) + l14.length) * (1 : Nat) ≤ l14.length.mul (1 : Nat)) (
 reqB (l14.length ≤ (200 : Nat)) (
 reqB ((List.take l14.length (List.drop (0 : Nat) l14)).length = l14.length) (
 reqB (∀ (y : Int),
 y ∈ List.take l14.length (List.drop (0 : Nat) l14) →
 (-9223372036854775808 : Int) ≤ y ∧ y ≤ (9223372036854775807 : Int)) (
 reqB (((0 : Nat) + l16.length) * (1 : Nat) ≤ l16.length.mul (1 : Nat)) (
 reqB (l16.length ≤ (200 : Nat)) (
 reqB ((List.take l16.length (List.drop (0 : Nat) l16)).length = l16.length) (
 reqB (∀ (y : Int),
 y ∈ List.take l16.length (List.drop (0 : Nat) l16) →
 (-9223372036854775808 : Int) ≤ y ∧ y ≤ (9223372036854775807 : Int)) (
 reqB (sigAl.pre
 [DV.l (List.take l14.length (List.drop (0 : Nat) l14)),
 DV.l (List.take l16.length (List.drop (0 : Nat) l16))]) (
 allB fun b24 : Bool => 
 impB (sigAl.post
 [DV.l (List.take l14.length (List.drop (0 : Nat) l14)),
 DV.l (List.take l16.length (List.drop (0 : Nat) l16))]
 [DV.b b24]) (
 bR (b24) (
 bR (dec (n15 = n17)) (
 bR (dec (n18 = n20)) (
 bR (dec (n19 = n21)) (
 reqB (((0 : Nat) + l0.length) * (1 : Nat) ≤ l0.length.mul (0 + (1 : Nat))) (
 reqB (l0.length ≤ (200 : Nat)) (
 reqB ((List.take l0.length (List.drop (0 : Nat) (List.take l0.length (List.drop (0 : Nat) l0)))).length = l0.length) (
 reqB (∀ (y : Int),
 y ∈ List.take l0.length (List.drop (0 : Nat) (List.take l0.length (List.drop (0 : Nat) l0))) →
 (-9223372036854775808 : Int) ≤ y ∧ y ≤ (9223372036854775807 : Int)) (
 reqB (((0 : Nat) + l0.length) * (1 : Nat) ≤ l0.length.mul (1 : Nat)) (
 reqB (l0.length ≤ (200 : Nat)) (
 reqB ((List.take l0.length (List.drop (0 : Nat) l0)).length = l0.length) (
 reqB (∀ (y : Int),
 y ∈ List.take l0.length (List.drop (0 : Nat) l0) → (-9223372036854775808 : Int) ≤ y ∧ y ≤ (9223372036854775807 : Int)) (
 reqB (sigAl.pre
 [DV.l (List.take l0.length (List.drop (0 : Nat) (List.take l0.length (List.drop (0 : Nat) l0)))),
 DV.l (List.take l0.length (List.drop (0 : Nat) l0))]) (
 allB fun b25 : Bool => 
 impB (sigAl.post
 [DV.l (List.take l0.length (List.drop (0 : Nat) (List.take l0.length (List.drop (0 : Nat) l0)))),
 DV.l (List.take l0.length (List.drop (0 : Nat) l0))]
 [DV.b b25]) (
 bR (b25) (
 reqB (sigTrue0.pre []) (
 allB fun b26 : Bool => 
 impB (sigTrue0.post [] [DV.b b26]) (
 reqB (sigPuts.post
 [DV.l l0, DV.n n1, DV.n n2, DV.b b3, DV.n n4, DV.n n5, DV.n n6]
 [DV.b b26]) (
 true)))) (
 reqB (sigPuts.post
 [DV.l l0, DV.n n1, DV.n n2, DV.b b3, DV.n n4, DV.n n5, DV.n n6]
 [DV.b Bool.false]) (
 true))))))))))))) (
 reqB (sigPuts.post
 [DV.l l0, DV.n n1, DV.n n2, DV.b b3, DV.n n4, DV.n n5, DV.n n6]
 [DV.b Bool.false]) (
 true))) (
 reqB (sigPuts.post
 [DV.l l0, DV.n n1, DV.n n2, DV.b b3, DV.n n4, DV.n n5, DV.n n6]
 [DV.b Bool.false]) (
 true))) (
 reqB (sigPuts.post
 [DV.l l0, DV.n n1, DV.n n2, DV.b b3, DV.n n4, DV.n n5, DV.n n6]
 [DV.b Bool.false]) (
 true))) (
 reqB (sigPuts.post
 [DV.l l0, DV.n n1, DV.n n2, DV.b b3, DV.n n4, DV.n n5, DV.n n6]
 [DV.b Bool.false]) (
 true))))))))))))) (
 reqB (sigPuts.post
 [DV.l l0, DV.n n1, DV.n n2, DV.b b3, DV.n n4, DV.n n5, DV.n n6]
 [DV.b Bool.false]) (
 true))))))))))))))))))))))))))) (
 reqB (sigPuts.post
 [DV.l l0, DV.n n1, DV.n n2, DV.b b3, DV.n n4, DV.n n5, DV.n n6]
 [DV.b Bool.false]) (
 true))) (
 reqB (sigPuts.post
 [DV.l l0, DV.n n1, DV.n n2, DV.b b3, DV.n n4, DV.n n5, DV.n n6]
 [DV.b Bool.false]) (
 true))) (
 reqB (sigPuts.post
 [DV.l l0, DV.n n1, DV.n n2, DV.b b3, DV.n n4, DV.n n5, DV.n n6]
 [DV.b Bool.false]) (
 true))))))))))))))))))))))))))))))))))))))))))))))))))))))))))))))))))))))))))))))))))))))))))))))))))))))))))))))))))))))))))))))) := by kernel_rfl
set_option maxHeartbeats 8000000 in
theorem vt_FieldPuts : vcFn Try.prog [(10, Ext.ctr (ctOf sigLim)), (11, Ext.ctr (ctOf sigLim)), (16, Ext.ctr (ctOf sigChk)), (17, Ext.ctr (ctOf sigChk)), (12, Ext.ctr (ctOf sigPut)), (13, Ext.ctr (ctOf sigPut)), (14, Ext.ctr (ctOf sigGet)), (15, Ext.ctr (ctOf sigGet)), (18, Ext.ctr (ctOf sigAl)), (9, Ext.ctr (ctOf sigTrue0))] noA [] 100 3 sigPuts = true := by
  rw [vc_FieldPuts]
  try simp only [Int.toNat_natCast, List.length_set, List.length_replicate, List.length_take, List.length_drop, List.length_append, List.length_cons, List.length_nil, Nat.min_self, List.take_take, lenCols_i, lenCols_b, List.drop_zero, List.take_length, List.take_nil, List.drop_nil, List.take_zero, List.nil_append, Nat.add_eq, Nat.mul_eq, Nat.sub_eq, Nat.zero_add, Nat.add_zero, Nat.sub_zero, Nat.mul_one]
  refine all_i fun l0 => ?_
  refine imp_i fun h0 => ?_
  refine imp_i fun h1 => ?_
  refine all_i fun n1 => ?_
  refine imp_i fun h2 => ?_
  refine imp_i fun h3 => ?_
  refine all_i fun n2 => ?_
  refine imp_i fun h4 => ?_
  refine imp_i fun h5 => ?_
  refine all_i fun b3 => ?_
  refine all_i fun n4 => ?_
  refine imp_i fun h6 => ?_
  refine imp_i fun h7 => ?_
  refine all_i fun n5 => ?_
  refine imp_i fun h8 => ?_
  refine imp_i fun h9 => ?_
  refine all_i fun n6 => ?_
  refine imp_i fun h10 => ?_
  refine imp_i fun h11 => ?_
  refine imp_i fun h12 => ?_
  try simp only [sigPuts, fV, List.cons.injEq, DV.b.injEq, and_true, List.length_cons, List.length_nil] at h12
  refine bR_dec (fun h13 => ?_) (fun h13 => ?_)
  ·
   refine req_i ?_ ?_
   · -- r0
    first | omega | assumption | grind
   refine all_i fun b7 => ?_
   refine imp_i fun h14 => ?_
   try simp only [sigTrue0, List.cons.injEq, DV.b.injEq, and_true, List.length_cons, List.length_nil] at h14
   refine req_i ?_ ?_
   · -- r1
    first | omega | ((try simp only [sigPuts, fV, List.cons.injEq, DV.b.injEq, and_true, List.length_cons, List.length_nil]); first | done | omega | assumption | grind [getD_set, getD_rep, toNat_succ, cntN_yes, cntN_no])
   rfl
  ·
   refine req_i ?_ ?_
   · -- r2
    first | omega | assumption | grind
   refine req_i ?_ ?_
   · -- r3
    first | omega | assumption | grind
   refine req_i ?_ ?_
   · -- r4
    first | omega | assumption | grind
   refine req_i ?_ ?_
   · -- r5
    first | omega | assumption | grind
   refine req_i ?_ ?_
   · -- r6
    first | omega | assumption | grind
   refine req_i ?_ ?_
   · -- r7
    first | omega | assumption | grind
   refine req_i ?_ ?_
   · -- r8
    first | omega | assumption | grind
   refine req_i ?_ ?_
   · -- r9
    first | omega | assumption | grind
   refine req_i ?_ ?_
   · -- r10
    first | trivial | assumption | (simp only [sigLim, fV, lB, limPost, okF, List.cons.injEq, DV.b.injEq, and_true, List.length_cons, List.length_nil]; done) | ((try simp only [sigLim, fV, lB, limPost, okF, List.cons.injEq, DV.b.injEq, and_true, List.length_cons, List.length_nil]); first | omega | assumption | grind)
   refine all_i fun n8 => ?_
   refine imp_i fun h15 => ?_
   refine imp_i fun h16 => ?_
   refine all_i fun n9 => ?_
   refine imp_i fun h17 => ?_
   refine imp_i fun h18 => ?_
   refine all_i fun n10 => ?_
   refine imp_i fun h19 => ?_
   refine imp_i fun h20 => ?_
   refine imp_i fun h21 => ?_
   try simp only [Int.toNat_natCast, List.length_set, List.length_replicate, List.length_take, List.length_drop, List.length_append, List.length_cons, List.length_nil, Nat.min_self, List.take_take, lenCols_i, lenCols_b, List.drop_zero, List.take_length, List.take_nil, List.drop_nil, List.take_zero, List.nil_append, Nat.add_eq, Nat.mul_eq, Nat.sub_eq, Nat.zero_add, Nat.add_zero, Nat.sub_zero, Nat.mul_one] at h21
   refine req_i ?_ ?_
   · -- r11
    first | omega | assumption | grind
   refine req_i ?_ ?_
   · -- r12
    first | omega | assumption | grind
   refine req_i ?_ ?_
   · -- r13
    first | omega | assumption | grind
   refine req_i ?_ ?_
   · -- r14
    first | omega | assumption | grind
   refine req_i ?_ ?_
   · -- r15
    first | omega | assumption | grind
   refine req_i ?_ ?_
   · -- r16
    first | omega | assumption | grind
   refine req_i ?_ ?_
   · -- r17
    first | omega | assumption | grind
   refine req_i ?_ ?_
   · -- r18
    first | omega | assumption | grind
   refine req_i ?_ ?_
   · -- r19
    first | trivial | assumption | (simp only [sigLim, fV, lB, limPost, okF, List.cons.injEq, DV.b.injEq, and_true, List.length_cons, List.length_nil]; done) | ((try simp only [sigLim, fV, lB, limPost, okF, List.cons.injEq, DV.b.injEq, and_true, List.length_cons, List.length_nil]); first | omega | assumption | grind)
   refine all_i fun n11 => ?_
   refine imp_i fun h22 => ?_
   refine imp_i fun h23 => ?_
   refine all_i fun n12 => ?_
   refine imp_i fun h24 => ?_
   refine imp_i fun h25 => ?_
   refine all_i fun n13 => ?_
   refine imp_i fun h26 => ?_
   refine imp_i fun h27 => ?_
   refine imp_i fun h28 => ?_
   try simp only [Int.toNat_natCast, List.length_set, List.length_replicate, List.length_take, List.length_drop, List.length_append, List.length_cons, List.length_nil, Nat.min_self, List.take_take, lenCols_i, lenCols_b, List.drop_zero, List.take_length, List.take_nil, List.drop_nil, List.take_zero, List.nil_append, Nat.add_eq, Nat.mul_eq, Nat.sub_eq, Nat.zero_add, Nat.add_zero, Nat.sub_zero, Nat.mul_one] at h28
   obtain ⟨q1, q2, q3⟩ := lim_fun h21 h28
   refine req_i ?_ ?_
   · -- r20
    first | omega | ((try simp only [Nat.mul_eq]); first | done | omega | assumption | grind [getD_set, getD_rep, toNat_succ, cntN_yes, cntN_no])
   refine req_i ?_ ?_
   · -- r21
    first | omega | ((try simp only [Nat.zero_add]); first | done | omega | assumption | grind [getD_set, getD_rep, toNat_succ, cntN_yes, cntN_no])
   refine req_i ?_ ?_
   · -- r22
    first | omega | ((try simp only [Nat.mul_eq]); first | done | omega | assumption | grind [getD_set, getD_rep, toNat_succ, cntN_yes, cntN_no])
   refine req_i ?_ ?_
   · -- r23
    first | omega | ((try simp only [Nat.zero_add]); first | done | omega | assumption | grind [getD_set, getD_rep, toNat_succ, cntN_yes, cntN_no])
   refine req_i ?_ ?_
   · -- r24
    first | omega | ((try simp only [List.take_nil, List.take_zero, List.length_take, List.take_length, List.take_take, Nat.min_self, List.drop_nil, List.length_drop, List.drop_zero, List.length_cons, List.length_nil]); first | done | omega | assumption | grind [getD_set, getD_rep, toNat_succ, cntN_yes, cntN_no])
   refine req_i ?_ ?_
   · -- r25
    first | assumption | exact rep_bd (by omega) (by omega) | exact set_bd (by assumption) (by omega) (by omega) | exact take_bd (by assumption) | ((try simp only [List.take_nil, List.take_zero, List.length_take, List.take_length, List.take_take, Nat.min_self, List.drop_nil, List.length_drop, List.drop_zero, List.length_cons, List.length_nil]); first | assumption | exact rep_bd (by omega) (by omega) | exact set_bd (by assumption) (by omega) (by omega) | exact take_bd (by assumption) | grind [getD_set, getD_rep, toNat_succ, cntN_yes, cntN_no])
   refine req_i ?_ ?_
   · -- r26
    first | omega | assumption | grind
   refine req_i ?_ ?_
   · -- r27
    first | omega | assumption | grind
   refine req_i ?_ ?_
   · -- r28
    first | omega | assumption | grind
   refine req_i ?_ ?_
   · -- r29
    first | omega | assumption | grind
   refine req_i ?_ ?_
   · -- r30
    first | omega | assumption | grind
   refine req_i ?_ ?_
   · -- r31
    first | omega | assumption | grind
   refine req_i ?_ ?_
   · -- r32
    first | omega | assumption | grind
   refine req_i ?_ ?_
   · -- r33
    first | omega | assumption | grind
   refine req_i ?_ ?_
   · -- r34
    first | omega | assumption | grind
   refine req_i ?_ ?_
   · -- r35
    first | omega | assumption | grind
   refine req_i ?_ ?_
   · -- r36
    first | omega | ((try simp only [sigPut, cL, fV, putPost, plErr, okL, inV, okF, List.cons.injEq, DV.b.injEq, and_true, List.take_nil, List.take_zero, List.length_take, List.take_length, List.take_take, Nat.min_self, List.drop_nil, List.length_drop, List.drop_zero, List.length_cons, List.length_nil]); first | done | omega | assumption | grind [getD_set, getD_rep, toNat_succ, cntN_yes, cntN_no])
   refine all_i fun l14 => ?_
   refine imp_i fun h29 => ?_
   refine imp_i fun h30 => ?_
   refine all_i fun n15 => ?_
   refine imp_i fun h31 => ?_
   refine imp_i fun h32 => ?_
   refine imp_i fun h33 => ?_
   try simp only [Int.toNat_natCast, List.length_set, List.length_replicate, List.length_take, List.length_drop, List.length_append, List.length_cons, List.length_nil, Nat.min_self, List.take_take, lenCols_i, lenCols_b, List.drop_zero, List.take_length, List.take_nil, List.drop_nil, List.take_zero, List.nil_append, Nat.add_eq, Nat.mul_eq, Nat.sub_eq, Nat.zero_add, Nat.add_zero, Nat.sub_zero, Nat.mul_one] at h33
   refine req_i ?_ ?_
   · -- r37
    first | omega | ((try simp only [Nat.mul_eq]); first | done | omega | assumption | grind [getD_set, getD_rep, toNat_succ, cntN_yes, cntN_no])
   refine req_i ?_ ?_
   · -- r38
    first | omega | ((try simp only [Nat.zero_add]); first | done | omega | assumption | grind [getD_set, getD_rep, toNat_succ, cntN_yes, cntN_no])
   refine req_i ?_ ?_
   · -- r39
    first | omega | ((try simp only [List.take_nil, List.take_zero, List.length_take, List.take_length, List.take_take, Nat.min_self, List.drop_nil, List.length_drop, List.drop_zero, List.length_cons, List.length_nil]); first | done | omega | assumption | grind [getD_set, getD_rep, toNat_succ, cntN_yes, cntN_no])
   refine req_i ?_ ?_
   · -- r40
    first | assumption | exact rep_bd (by omega) (by omega) | exact set_bd (by assumption) (by omega) (by omega) | exact take_bd (by assumption) | ((try simp only [List.take_nil, List.take_zero, List.length_take, List.take_length, List.take_take, Nat.min_self, List.drop_nil, List.length_drop, List.drop_zero, List.length_cons, List.length_nil]); first | assumption | exact rep_bd (by omega) (by omega) | exact set_bd (by assumption) (by omega) (by omega) | exact take_bd (by assumption) | grind [getD_set, getD_rep, toNat_succ, cntN_yes, cntN_no])
   refine req_i ?_ ?_
   · -- r41
    first | omega | assumption | grind
   refine req_i ?_ ?_
   · -- r42
    first | omega | assumption | grind
   refine req_i ?_ ?_
   · -- r43
    first | omega | assumption | grind
   refine req_i ?_ ?_
   · -- r44
    first | omega | assumption | grind
   refine req_i ?_ ?_
   · -- r45
    first | omega | assumption | grind
   refine req_i ?_ ?_
   · -- r46
    first | omega | assumption | grind
   refine req_i ?_ ?_
   · -- r47
    first | omega | assumption | grind
   refine req_i ?_ ?_
   · -- r48
    first | omega | assumption | grind
   refine req_i ?_ ?_
   · -- r49
    first | omega | assumption | grind
   refine req_i ?_ ?_
   · -- r50
    first | omega | assumption | grind
   refine req_i ?_ ?_
   · -- r51
    first | omega | ((try simp only [sigPut, cL, fV, putPost, plErr, okL, inV, okF, List.cons.injEq, DV.b.injEq, and_true, List.take_nil, List.take_zero, List.length_take, List.take_length, List.take_take, Nat.min_self, List.drop_nil, List.length_drop, List.drop_zero, List.length_cons, List.length_nil]); first | done | omega | assumption | grind [getD_set, getD_rep, toNat_succ, cntN_yes, cntN_no])
   refine all_i fun l16 => ?_
   refine imp_i fun h34 => ?_
   refine imp_i fun h35 => ?_
   refine all_i fun n17 => ?_
   refine imp_i fun h36 => ?_
   refine imp_i fun h37 => ?_
   refine imp_i fun h38 => ?_
   try simp only [Int.toNat_natCast, List.length_set, List.length_replicate, List.length_take, List.length_drop, List.length_append, List.length_cons, List.length_nil, Nat.min_self, List.take_take, lenCols_i, lenCols_b, List.drop_zero, List.take_length, List.take_nil, List.drop_nil, List.take_zero, List.nil_append, Nat.add_eq, Nat.mul_eq, Nat.sub_eq, Nat.zero_add, Nat.add_zero, Nat.sub_zero, Nat.mul_one] at h38
   obtain ⟨q4, q5⟩ := put_fun h33 h38
   refine req_i ?_ ?_
   · -- r52
    first | omega | ((try simp only [Nat.mul_eq]); first | done | omega | assumption | grind [getD_set, getD_rep, toNat_succ, cntN_yes, cntN_no])
   refine req_i ?_ ?_
   · -- r53
    first | omega | ((try simp only [Nat.zero_add]); first | done | omega | assumption | grind [getD_set, getD_rep, toNat_succ, cntN_yes, cntN_no])
   refine req_i ?_ ?_
   · -- r54
    first | omega | ((try simp only [List.take_nil, List.take_zero, List.length_take, List.take_length, List.take_take, Nat.min_self, List.drop_nil, List.length_drop, List.drop_zero, List.length_cons, List.length_nil]); first | done | omega | assumption | grind [getD_set, getD_rep, toNat_succ, cntN_yes, cntN_no])
   refine req_i ?_ ?_
   · -- r55
    first | assumption | exact rep_bd (by omega) (by omega) | exact set_bd (by assumption) (by omega) (by omega) | exact take_bd (by assumption) | ((try simp only [List.take_nil, List.take_zero, List.length_take, List.take_length, List.take_take, Nat.min_self, List.drop_nil, List.length_drop, List.drop_zero, List.length_cons, List.length_nil]); first | assumption | exact rep_bd (by omega) (by omega) | exact set_bd (by assumption) (by omega) (by omega) | exact take_bd (by assumption) | grind [getD_set, getD_rep, toNat_succ, cntN_yes, cntN_no])
   refine req_i ?_ ?_
   · -- r56
    first | omega | assumption | grind
   refine req_i ?_ ?_
   · -- r57
    first | omega | assumption | grind
   refine req_i ?_ ?_
   · -- r58
    first | omega | assumption | grind
   refine req_i ?_ ?_
   · -- r59
    first | omega | assumption | grind
   refine req_i ?_ ?_
   · -- r60
    first | omega | assumption | grind
   refine req_i ?_ ?_
   · -- r61
    first | omega | assumption | grind
   refine req_i ?_ ?_
   · -- r62
    first | omega | assumption | grind
   refine req_i ?_ ?_
   · -- r63
    first | omega | assumption | grind
   refine req_i ?_ ?_
   · -- r64
    first | omega | ((try simp only [sigGet, cL, fV, lB, getPost, plErr, okL, okF, List.cons.injEq, DV.b.injEq, and_true, List.take_nil, List.take_zero, List.length_take, List.take_length, List.take_take, Nat.min_self, List.drop_nil, List.length_drop, List.drop_zero, List.length_cons, List.length_nil]); first | done | omega | assumption | grind [getD_set, getD_rep, toNat_succ, cntN_yes, cntN_no])
   refine all_i fun n18 => ?_
   refine imp_i fun h39 => ?_
   refine imp_i fun h40 => ?_
   refine all_i fun n19 => ?_
   refine imp_i fun h41 => ?_
   refine imp_i fun h42 => ?_
   refine imp_i fun h43 => ?_
   try simp only [Int.toNat_natCast, List.length_set, List.length_replicate, List.length_take, List.length_drop, List.length_append, List.length_cons, List.length_nil, Nat.min_self, List.take_take, lenCols_i, lenCols_b, List.drop_zero, List.take_length, List.take_nil, List.drop_nil, List.take_zero, List.nil_append, Nat.add_eq, Nat.mul_eq, Nat.sub_eq, Nat.zero_add, Nat.add_zero, Nat.sub_zero, Nat.mul_one] at h43
   refine req_i ?_ ?_
   · -- r65
    first | omega | ((try simp only [Nat.mul_eq]); first | done | omega | assumption | grind [getD_set, getD_rep, toNat_succ, cntN_yes, cntN_no])
   refine req_i ?_ ?_
   · -- r66
    first | omega | ((try simp only [Nat.zero_add]); first | done | omega | assumption | grind [getD_set, getD_rep, toNat_succ, cntN_yes, cntN_no])
   refine req_i ?_ ?_
   · -- r67
    first | omega | ((try simp only [List.take_nil, List.take_zero, List.length_take, List.take_length, List.take_take, Nat.min_self, List.drop_nil, List.length_drop, List.drop_zero, List.length_cons, List.length_nil]); first | done | omega | assumption | grind [getD_set, getD_rep, toNat_succ, cntN_yes, cntN_no])
   refine req_i ?_ ?_
   · -- r68
    first | assumption | exact rep_bd (by omega) (by omega) | exact set_bd (by assumption) (by omega) (by omega) | exact take_bd (by assumption) | ((try simp only [List.take_nil, List.take_zero, List.length_take, List.take_length, List.take_take, Nat.min_self, List.drop_nil, List.length_drop, List.drop_zero, List.length_cons, List.length_nil]); first | assumption | exact rep_bd (by omega) (by omega) | exact set_bd (by assumption) (by omega) (by omega) | exact take_bd (by assumption) | grind [getD_set, getD_rep, toNat_succ, cntN_yes, cntN_no])
   refine req_i ?_ ?_
   · -- r69
    first | omega | assumption | grind
   refine req_i ?_ ?_
   · -- r70
    first | omega | assumption | grind
   refine req_i ?_ ?_
   · -- r71
    first | omega | assumption | grind
   refine req_i ?_ ?_
   · -- r72
    first | omega | assumption | grind
   refine req_i ?_ ?_
   · -- r73
    first | omega | assumption | grind
   refine req_i ?_ ?_
   · -- r74
    first | omega | assumption | grind
   refine req_i ?_ ?_
   · -- r75
    first | omega | assumption | grind
   refine req_i ?_ ?_
   · -- r76
    first | omega | assumption | grind
   refine req_i ?_ ?_
   · -- r77
    first | omega | ((try simp only [sigGet, cL, fV, lB, getPost, plErr, okL, okF, List.cons.injEq, DV.b.injEq, and_true, List.take_nil, List.take_zero, List.length_take, List.take_length, List.take_take, Nat.min_self, List.drop_nil, List.length_drop, List.drop_zero, List.length_cons, List.length_nil]); first | done | omega | assumption | grind [getD_set, getD_rep, toNat_succ, cntN_yes, cntN_no])
   refine all_i fun n20 => ?_
   refine imp_i fun h44 => ?_
   refine imp_i fun h45 => ?_
   refine all_i fun n21 => ?_
   refine imp_i fun h46 => ?_
   refine imp_i fun h47 => ?_
   refine imp_i fun h48 => ?_
   try simp only [Int.toNat_natCast, List.length_set, List.length_replicate, List.length_take, List.length_drop, List.length_append, List.length_cons, List.length_nil, Nat.min_self, List.take_take, lenCols_i, lenCols_b, List.drop_zero, List.take_length, List.take_nil, List.drop_nil, List.take_zero, List.nil_append, Nat.add_eq, Nat.mul_eq, Nat.sub_eq, Nat.zero_add, Nat.add_zero, Nat.sub_zero, Nat.mul_one] at h48
   obtain ⟨q6, q7⟩ := get_fun h43 h48
   refine bR_dec (fun h49 => ?_) (fun h49 => ?_)
   ·
    refine bR_dec (fun h50 => ?_) (fun h50 => ?_)
    ·
     refine bR_dec (fun h51 => ?_) (fun h51 => ?_)
     ·
      refine req_i ?_ ?_
      · -- r78
       first | omega | assumption | grind
      refine req_i ?_ ?_
      · -- r79
       first | omega | assumption | grind
      refine req_i ?_ ?_
      · -- r80
       first | omega | assumption | grind
      refine req_i ?_ ?_
      · -- r81
       first | omega | assumption | grind
      refine req_i ?_ ?_
      · -- r82
       first | omega | assumption | grind
      refine req_i ?_ ?_
      · -- r83
       first | omega | assumption | grind
      refine req_i ?_ ?_
      · -- r84
       first | omega | assumption | grind
      refine req_i ?_ ?_
      · -- r85
       first | omega | assumption | grind
      refine req_i ?_ ?_
      · -- r86
       first | trivial | assumption | (simp only [sigChk, fV, chkPost, okF, List.cons.injEq, DV.b.injEq, and_true, List.length_cons, List.length_nil]; done) | ((try simp only [sigChk, fV, chkPost, okF, List.cons.injEq, DV.b.injEq, and_true, List.length_cons, List.length_nil]); first | omega | assumption | grind)
      refine all_i fun n22 => ?_
      refine imp_i fun h52 => ?_
      refine imp_i fun h53 => ?_
      refine imp_i fun h54 => ?_
      try simp only [Int.toNat_natCast, List.length_set, List.length_replicate, List.length_take, List.length_drop, List.length_append, List.length_cons, List.length_nil, Nat.min_self, List.take_take, lenCols_i, lenCols_b, List.drop_zero, List.take_length, List.take_nil, List.drop_nil, List.take_zero, List.nil_append, Nat.add_eq, Nat.mul_eq, Nat.sub_eq, Nat.zero_add, Nat.add_zero, Nat.sub_zero, Nat.mul_one] at h54
      refine req_i ?_ ?_
      · -- r87
       first | omega | assumption | grind
      refine req_i ?_ ?_
      · -- r88
       first | omega | assumption | grind
      refine req_i ?_ ?_
      · -- r89
       first | omega | assumption | grind
      refine req_i ?_ ?_
      · -- r90
       first | omega | assumption | grind
      refine req_i ?_ ?_
      · -- r91
       first | omega | assumption | grind
      refine req_i ?_ ?_
      · -- r92
       first | omega | assumption | grind
      refine req_i ?_ ?_
      · -- r93
       first | omega | assumption | grind
      refine req_i ?_ ?_
      · -- r94
       first | omega | assumption | grind
      refine req_i ?_ ?_
      · -- r95
       first | trivial | assumption | (simp only [sigChk, fV, chkPost, okF, List.cons.injEq, DV.b.injEq, and_true, List.length_cons, List.length_nil]; done) | ((try simp only [sigChk, fV, chkPost, okF, List.cons.injEq, DV.b.injEq, and_true, List.length_cons, List.length_nil]); first | omega | assumption | grind)
      refine all_i fun n23 => ?_
      refine imp_i fun h55 => ?_
      refine imp_i fun h56 => ?_
      refine imp_i fun h57 => ?_
      try simp only [Int.toNat_natCast, List.length_set, List.length_replicate, List.length_take, List.length_drop, List.length_append, List.length_cons, List.length_nil, Nat.min_self, List.take_take, lenCols_i, lenCols_b, List.drop_zero, List.take_length, List.take_nil, List.drop_nil, List.take_zero, List.nil_append, Nat.add_eq, Nat.mul_eq, Nat.sub_eq, Nat.zero_add, Nat.add_zero, Nat.sub_zero, Nat.mul_one] at h57
      have q8 := chk_fun h54 h57
      refine bR_dec (fun h58 => ?_) (fun h58 => ?_)
      ·
       refine req_i ?_ ?_
       · -- r96
        first | omega | ((try simp only [Nat.mul_eq]); first | done | omega | assumption | grind [getD_set, getD_rep, toNat_succ, cntN_yes, cntN_no])
       refine req_i ?_ ?_
       · -- r97
        first | omega | ((try simp only [Nat.zero_add]); first | done | omega | assumption | grind [getD_set, getD_rep, toNat_succ, cntN_yes, cntN_no])
       refine req_i ?_ ?_
       · -- r98
        first | omega | ((try simp only [List.take_nil, List.take_zero, List.length_take, List.take_length, List.take_take, Nat.min_self, List.drop_nil, List.length_drop, List.drop_zero, List.length_cons, List.length_nil]); first | done | omega | assumption | grind [getD_set, getD_rep, toNat_succ, cntN_yes, cntN_no])
       refine req_i ?_ ?_
       · -- r99
        first | assumption | exact rep_bd (by omega) (by omega) | exact set_bd (by assumption) (by omega) (by omega) | exact take_bd (by assumption) | ((try simp only [List.take_nil, List.take_zero, List.length_take, List.take_length, List.take_take, Nat.min_self, List.drop_nil, List.length_drop, List.drop_zero, List.length_cons, List.length_nil]); first | assumption | exact rep_bd (by omega) (by omega) | exact set_bd (by assumption) (by omega) (by omega) | exact take_bd (by assumption) | grind [getD_set, getD_rep, toNat_succ, cntN_yes, cntN_no])
       refine req_i ?_ ?_
       · -- r100
        first | omega | ((try simp only [Nat.mul_eq]); first | done | omega | assumption | grind [getD_set, getD_rep, toNat_succ, cntN_yes, cntN_no])
       refine req_i ?_ ?_
       · -- r101
        first | omega | ((try simp only [Nat.zero_add]); first | done | omega | assumption | grind [getD_set, getD_rep, toNat_succ, cntN_yes, cntN_no])
       refine req_i ?_ ?_
       · -- r102
        first | omega | ((try simp only [List.take_nil, List.take_zero, List.length_take, List.take_length, List.take_take, Nat.min_self, List.drop_nil, List.length_drop, List.drop_zero, List.length_cons, List.length_nil]); first | done | omega | assumption | grind [getD_set, getD_rep, toNat_succ, cntN_yes, cntN_no])
       refine req_i ?_ ?_
       · -- r103
        first | assumption | exact rep_bd (by omega) (by omega) | exact set_bd (by assumption) (by omega) (by omega) | exact take_bd (by assumption) | ((try simp only [List.take_nil, List.take_zero, List.length_take, List.take_length, List.take_take, Nat.min_self, List.drop_nil, List.length_drop, List.drop_zero, List.length_cons, List.length_nil]); first | assumption | exact rep_bd (by omega) (by omega) | exact set_bd (by assumption) (by omega) (by omega) | exact take_bd (by assumption) | grind [getD_set, getD_rep, toNat_succ, cntN_yes, cntN_no])
       refine req_i ?_ ?_
       · -- r104
        first | omega | ((try simp only [sigAl, cL, alP, List.cons.injEq, DV.b.injEq, and_true, List.take_nil, List.take_zero, List.length_take, List.take_length, List.take_take, Nat.min_self, List.drop_nil, List.length_drop, List.drop_zero, List.length_cons, List.length_nil]); first | done | omega | assumption | grind [getD_set, getD_rep, toNat_succ, cntN_yes, cntN_no])
       refine all_i fun b24 => ?_
       refine imp_i fun h59 => ?_
       try simp only [sigAl, cL, alP, List.cons.injEq, DV.b.injEq, and_true, List.take_nil, List.take_zero, List.length_take, List.take_length, List.take_take, Nat.min_self, List.drop_nil, List.length_drop, List.drop_zero, List.length_cons, List.length_nil] at h59
       refine bR_i (fun h60 => ?_) (fun h60 => ?_)
       ·
        refine bR_dec (fun h61 => ?_) (fun h61 => ?_)
        ·
         refine bR_dec (fun h62 => ?_) (fun h62 => ?_)
         ·
          refine bR_dec (fun h63 => ?_) (fun h63 => ?_)
          ·
           refine req_i ?_ ?_
           · -- r105
            first | omega | ((try simp only [Nat.mul_eq]); first | done | omega | assumption | grind [getD_set, getD_rep, toNat_succ, cntN_yes, cntN_no])
           refine req_i ?_ ?_
           · -- r106
            first | omega | ((try simp only [Nat.zero_add]); first | done | omega | assumption | grind [getD_set, getD_rep, toNat_succ, cntN_yes, cntN_no])
           refine req_i ?_ ?_
           · -- r107
            first | omega | ((try simp only [List.take_nil, List.take_zero, List.length_take, List.take_length, List.take_take, Nat.min_self, List.drop_nil, List.length_drop, List.drop_zero, List.length_cons, List.length_nil]); first | done | omega | assumption | grind [getD_set, getD_rep, toNat_succ, cntN_yes, cntN_no])
           refine req_i ?_ ?_
           · -- r108
            first | assumption | exact rep_bd (by omega) (by omega) | exact set_bd (by assumption) (by omega) (by omega) | exact take_bd (by assumption) | ((try simp only [List.take_nil, List.take_zero, List.length_take, List.take_length, List.take_take, Nat.min_self, List.drop_nil, List.length_drop, List.drop_zero, List.length_cons, List.length_nil]); first | assumption | exact rep_bd (by omega) (by omega) | exact set_bd (by assumption) (by omega) (by omega) | exact take_bd (by assumption) | grind [getD_set, getD_rep, toNat_succ, cntN_yes, cntN_no])
           refine req_i ?_ ?_
           · -- r109
            first | omega | ((try simp only [Nat.mul_eq]); first | done | omega | assumption | grind [getD_set, getD_rep, toNat_succ, cntN_yes, cntN_no])
           refine req_i ?_ ?_
           · -- r110
            first | omega | ((try simp only [Nat.zero_add]); first | done | omega | assumption | grind [getD_set, getD_rep, toNat_succ, cntN_yes, cntN_no])
           refine req_i ?_ ?_
           · -- r111
            first | omega | ((try simp only [List.take_nil, List.take_zero, List.length_take, List.take_length, List.take_take, Nat.min_self, List.drop_nil, List.length_drop, List.drop_zero, List.length_cons, List.length_nil]); first | done | omega | assumption | grind [getD_set, getD_rep, toNat_succ, cntN_yes, cntN_no])
           refine req_i ?_ ?_
           · -- r112
            first | assumption | exact rep_bd (by omega) (by omega) | exact set_bd (by assumption) (by omega) (by omega) | exact take_bd (by assumption) | ((try simp only [List.take_nil, List.take_zero, List.length_take, List.take_length, List.take_take, Nat.min_self, List.drop_nil, List.length_drop, List.drop_zero, List.length_cons, List.length_nil]); first | assumption | exact rep_bd (by omega) (by omega) | exact set_bd (by assumption) (by omega) (by omega) | exact take_bd (by assumption) | grind [getD_set, getD_rep, toNat_succ, cntN_yes, cntN_no])
           refine req_i ?_ ?_
           · -- r113
            first | omega | ((try simp only [sigAl, cL, alP, List.cons.injEq, DV.b.injEq, and_true, List.take_nil, List.take_zero, List.length_take, List.take_length, List.take_take, Nat.min_self, List.drop_nil, List.length_drop, List.drop_zero, List.length_cons, List.length_nil]); first | done | omega | assumption | grind [getD_set, getD_rep, toNat_succ, cntN_yes, cntN_no])
           refine all_i fun b25 => ?_
           refine imp_i fun h64 => ?_
           try simp only [sigAl, cL, alP, List.cons.injEq, DV.b.injEq, and_true, List.take_nil, List.take_zero, List.length_take, List.take_length, List.take_take, Nat.min_self, List.drop_nil, List.length_drop, List.drop_zero, List.length_cons, List.length_nil] at h64
           refine bR_i (fun h65 => ?_) (fun h65 => ?_)
           ·
            refine req_i ?_ ?_
            · -- r114
             first | omega | assumption | grind
            refine all_i fun b26 => ?_
            refine imp_i fun h66 => ?_
            try simp only [sigTrue0, List.cons.injEq, DV.b.injEq, and_true, List.length_cons, List.length_nil] at h66
            refine req_i ?_ ?_
            · -- r115
             first | omega | ((try simp only [sigPuts, fV, List.cons.injEq, DV.b.injEq, and_true, List.length_cons, List.length_nil]); first | done | omega | assumption | grind [getD_set, getD_rep, toNat_succ, cntN_yes, cntN_no])
            rfl
           ·
            refine req_i ?_ ?_
            · -- r116
             first | omega | ((try simp only [sigPuts, fV, List.cons.injEq, DV.b.injEq, and_true, List.length_cons, List.length_nil]); first | done | omega | assumption | grind [getD_set, getD_rep, toNat_succ, cntN_yes, cntN_no])
            rfl
          ·
           refine req_i ?_ ?_
           · -- r117
            first | omega | ((try simp only [sigPuts, fV, List.cons.injEq, DV.b.injEq, and_true, List.length_cons, List.length_nil]); first | done | omega | assumption | grind [getD_set, getD_rep, toNat_succ, cntN_yes, cntN_no])
           rfl
         ·
          refine req_i ?_ ?_
          · -- r118
           first | omega | ((try simp only [sigPuts, fV, List.cons.injEq, DV.b.injEq, and_true, List.length_cons, List.length_nil]); first | done | omega | assumption | grind [getD_set, getD_rep, toNat_succ, cntN_yes, cntN_no])
          rfl
        ·
         refine req_i ?_ ?_
         · -- r119
          first | omega | ((try simp only [sigPuts, fV, List.cons.injEq, DV.b.injEq, and_true, List.length_cons, List.length_nil]); first | done | omega | assumption | grind [getD_set, getD_rep, toNat_succ, cntN_yes, cntN_no])
         rfl
       ·
        refine req_i ?_ ?_
        · -- r120
         rw [h59.2 q4] at h60; cases h60
        rfl
      ·
       refine req_i ?_ ?_
       · -- r121
        first | omega | ((try simp only [sigPuts, fV, List.cons.injEq, DV.b.injEq, and_true, List.length_cons, List.length_nil]); first | done | omega | assumption | grind [getD_set, getD_rep, toNat_succ, cntN_yes, cntN_no])
       rfl
     ·
      refine req_i ?_ ?_
      · -- r122
       first | omega | ((try simp only [sigPuts, fV, List.cons.injEq, DV.b.injEq, and_true, List.length_cons, List.length_nil]); first | done | omega | assumption | grind [getD_set, getD_rep, toNat_succ, cntN_yes, cntN_no])
      rfl
    ·
     refine req_i ?_ ?_
     · -- r123
      first | omega | ((try simp only [sigPuts, fV, List.cons.injEq, DV.b.injEq, and_true, List.length_cons, List.length_nil]); first | done | omega | assumption | grind [getD_set, getD_rep, toNat_succ, cntN_yes, cntN_no])
     rfl
   ·
    refine req_i ?_ ?_
    · -- r124
     first | omega | ((try simp only [sigPuts, fV, List.cons.injEq, DV.b.injEq, and_true, List.length_cons, List.length_nil]); first | done | omega | assumption | grind [getD_set, getD_rep, toNat_succ, cntN_yes, cntN_no])
    rfl
theorem ext_FieldPuts : ∀ p ∈ ([(10, Ext.ctr (ctOf sigLim)), (11, Ext.ctr (ctOf sigLim)), (16, Ext.ctr (ctOf sigChk)), (17, Ext.ctr (ctOf sigChk)), (12, Ext.ctr (ctOf sigPut)), (13, Ext.ctr (ctOf sigPut)), (14, Ext.ctr (ctOf sigGet)), (15, Ext.ctr (ctOf sigGet)), (18, Ext.ctr (ctOf sigAl)), (9, Ext.ctr (ctOf sigTrue0))] : List (Nat × Ext)), ExtRow Try.prog p.1 p.2 := by
  intro p hp
  simp only [List.mem_cons, List.not_mem_nil, or_false] at hp
  rcases hp with rfl | rfl | rfl | rfl | rfl | rfl | rfl | rfl | rfl | rfl
  · trivial
  · trivial
  · trivial
  · trivial
  · trivial
  · trivial
  · trivial
  · trivial
  · trivial
  · trivial
theorem cts_FieldPuts : CtsOk Try.prog [(10, Ext.ctr (ctOf sigLim)), (11, Ext.ctr (ctOf sigLim)), (16, Ext.ctr (ctOf sigChk)), (17, Ext.ctr (ctOf sigChk)), (12, Ext.ctr (ctOf sigPut)), (13, Ext.ctr (ctOf sigPut)), (14, Ext.ctr (ctOf sigGet)), (15, Ext.ctr (ctOf sigGet)), (18, Ext.ctr (ctOf sigAl)), (9, Ext.ctr (ctOf sigTrue0))] := ctsOk_of (cs := [(10, sigLim), (11, sigLim), (16, sigChk), (17, sigChk), (12, sigPut), (13, sigPut), (14, sigGet), (15, sigGet), (18, sigAl), (9, sigTrue0)])
  (fun p hp => by
    simp only [List.mem_cons, List.not_mem_nil, or_false] at hp
    rcases hp with rfl | rfl | rfl | rfl | rfl | rfl | rfl | rfl | rfl | rfl
    · exact fn_lim
    · exact fn_limR
    · exact fn_check
    · exact fn_checkR
    · exact fn_put
    · exact fn_putR
    · exact fn_get
    · exact fn_getR
    · exact fn_al
    · exact fn_awake
)
  (fun f c h => by
    simp only [List.lookup_cons] at h
    repeat' split at h
    all_goals first | (cases h; done) | (rename_i e; have e := beq_iff_eq.1 e; subst e; cases h; refine ⟨_, ?_, rfl⟩; simp))
theorem fn_FieldPuts : FnOk Try.prog 3 sigPuts [] := fn_sound (by kernel_rfl) ext_FieldPuts cts_FieldPuts names vt_FieldPuts
end Go.Proofs.Ytbgooiiihmnnmaa

