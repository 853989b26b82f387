import Derived.Test.YtpmlodchbgfmeaaSpec08e
import Derived.Test.YtpmlodchbgfmeaaRows
import Derived.Test.YtpmlodchbgfmeaaFaGoldFinds
namespace Go.Proofs.Ytpmlodchbgfmeaa
open Go.Ev Go.Sp
set_option maxRecDepth 100000
theorem vc_findR : vcFn Try.prog [(24, Ext.ctr (ctOf sigLen)), (27, Ext.ctr (ctOf sigCode)), (41, Ext.ctr (ctOf sigRotB))] (fun f p _ => at2 f p 29 250 chkFRL (at2 f p 29 506 findRL (at2 f p 29 64806 findR2L (none)))) [] 100 29 sigFind = (allB fun n0 : Int => 
impB ((-9223372036854775808 : Int) ≤ n0) (
impB (n0 ≤ (9223372036854775807 : Int)) (
allB fun l1 : List Int => 
impB (l1.length ≤ (200 : Nat)) (
impB (∀ (y : Int), y ∈ l1 → (-9223372036854775808 : Int) ≤ y ∧ y ≤ (9223372036854775807 : Int)) (
impB (sigFind.pre [DV.n n0, DV.l l1]) (
reqB ((-9223372036854775808 : Int) ≤ n0) (
reqB (n0 ≤ (9223372036854775807 : Int)) (
reqB (sigLen.pre [DV.n n0]) (
allB fun n2 : Int => 
impB ((0 : Int) ≤ n2) (
impB (n2 ≤ (1023 : Int)) (
allB fun n3 : Int => 
impB ((0 : Int) ≤ n3) (
impB (n3 ≤ (18 : Int)) (
impB (sigLen.post [DV.n n0] [DV.n n2, DV.n n3]) (
bR (dec (n3 ≠ (0 : Int))) (
 reqB ((0 : Int) ≤ n3) (
 reqB (n3 ≤ (18 : Int)) (
 reqB (sigFind.post [DV.n n0, DV.l l1] [DV.n (0 : Int), DV.n (0 : Int), DV.n n3]) (
 true)))) (
 bR (dec ((↑l1.length : Int) ≠ n2)) (
 reqB (sigFind.post [DV.n n0, DV.l l1] [DV.n (0 : Int), DV.n (0 : Int), DV.n (3 : Int)]) (
 true)) (
 reqB (((0 : Nat) + l1.length) * (1 : Nat) ≤ l1.length.mul (1 : Nat)) (
 reqB (l1.length ≤ (200 : Nat)) (
 reqB ((List.take l1.length (List.drop (0 : Nat) l1)).length = l1.length) (
 reqB (∀ (y : Int),
 y ∈ List.take l1.length (List.drop (0 : Nat) l1) → (-9223372036854775808 : Int) ≤ y ∧ y ≤ (9223372036854775807 : Int)) (
 reqB (chkFRL.inv [DV.l (List.take l1.length (List.drop (0 : Nat) l1))] [DV.n (0 : Int)]) (
 allB fun n4 : Int => 
 impB ((0 : Int) ≤ n4) (
 impB (n4 ≤ (1100 : Int)) (
 impB (chkFRL.inv [DV.l (List.take l1.length (List.drop (0 : Nat) l1))] [DV.n n4]) (
 bR (dec (n4 < n2)) (
 reqB (n4.toNat < l1.length) (
 reqB (Nat.add (0 : Nat) n4.toNat < l1.length) (
 bR (dec (l1.getD (Nat.add (0 : Nat) n4.toNat) (0 : Int) ≠ (1 : Int))) (
 reqB (n4.toNat < l1.length) (
 reqB (Nat.add (0 : Nat) n4.toNat < l1.length) (
 bR (dec (l1.getD (Nat.add (0 : Nat) n4.toNat) (0 : Int) ≠ (-1 : Int))) (
 reqB (sigFind.post [DV.n n0, DV.l l1] [DV.n (0 : Int), DV.n (0 : Int), DV.n (3 : Int)]) (
 true)) (
 bR (bR (dec (n0 = n0)) (
 bR (bR (dec ((0 : Nat) = (0 : Nat))) (
 dec (l1.length = l1.length)) (
 false)) (
 bR (dec (n2 = n2)) (
 true) (
 false)) (
 false)) (
 false)) (
 reqB ((0 : Int) ≤ n4 + (1 : Int)) (
 reqB (n4 + (1 : Int) ≤ (1100 : Int)) (
 reqB (chkFRL.inv [DV.l (List.take l1.length (List.drop (0 : Nat) l1))] [DV.n (n4 + (1 : Int))]) (
 reqB (chkFRL.mea [DV.l (List.take l1.length (List.drop (0 : Nat) l1))] [DV.n (n4 + (1 : Int))] <
 chkFRL.mea [DV.l (List.take l1.length (List.drop (0 : Nat) l1))] [DV.n n4]) (
 true))))) (
 false))))) (
 bR (bR (dec (n0 = n0)) (
 bR (bR (dec ((0 : Nat) = (0 : Nat))) (
 dec (l1.length = l1.length)) (
 false)) (
 bR (dec (n2 = n2)) (
 true) (
 false)) (
 false)) (
 false)) (
 reqB ((0 : Int) ≤ n4 + (1 : Int)) (
 reqB (n4 + (1 : Int) ≤ (1100 : Int)) (
 reqB (chkFRL.inv [DV.l (List.take l1.length (List.drop (0 : Nat) l1))] [DV.n (n4 + (1 : Int))]) (
 reqB (chkFRL.mea [DV.l (List.take l1.length (List.drop (0 : Nat) l1))] [DV.n (n4 + (1 : Int))] <
 chkFRL.mea [DV.l (List.take l1.length (List.drop (0 : Nat) l1))] [DV.n n4]) (
 true))))) (
 false))))) (
 reqB ((-9223372036854775808 : Int) ≤ n0) (
 reqB (n0 ≤ (9223372036854775807 : Int)) (
 reqB (((0 : Nat) + l1.length) * (1 : Nat) ≤ l1.length.mul (1 : Nat)) (
 reqB (l1.length ≤ (200 : Nat)) (
 reqB ((List.take l1.length (List.drop (0 : Nat) l1)).length = l1.length) (
 reqB (∀ (y : Int),
 y ∈ List.take l1.length (List.drop (0 : Nat) l1) → (-9223372036854775808 : Int) ≤ y ∧ y ≤ (9223372036854775807 : Int)) (
 reqB (findRL.inv [DV.n n0, DV.l (List.take l1.length (List.drop (0 : Nat) l1))] [DV.n (1 : Int)]) (
 allB fun n5 : Int => 
 impB ((0 : Int) ≤ n5) (
 impB (n5 ≤ (1100 : Int)) (
 impB (findRL.inv [DV.n n0, DV.l (List.take l1.length (List.drop (0 : Nat) l1))] [DV.n n5]) (
 bR (dec (n5 ≤ n2 + (2 : Int))) (
 reqB ((-9223372036854775808 : Int) ≤ n0) (
 reqB (n0 ≤ (9223372036854775807 : Int)) (
 reqB ((-9223372036854775808 : Int) ≤ n5) (
 reqB (n5 ≤ (9223372036854775807 : Int)) (
 reqB (sigCode.pre [DV.n n0, DV.n n5]) (
 allB fun l6 : List Int => 
 impB (l6.length ≤ (1100 : Nat)) (
 impB (∀ (y : Int), y ∈ l6 → (-1 : Int) ≤ y ∧ y ≤ (1 : Int)) (
 allB fun n7 : Int => 
 impB ((0 : Int) ≤ n7) (
 impB (n7 ≤ (18 : Int)) (
 impB (sigCode.post [DV.n n0, DV.n n5] [DV.l l6, DV.n n7]) (
 reqB ((-9223372036854775808 : Int) ≤ n0) (
 reqB (n0 ≤ (9223372036854775807 : Int)) (
 reqB (((0 : Nat) + l1.length) * (1 : Nat) ≤ l1.length.mul (1 : Nat)) (
 reqB (l1.length ≤ (200 : Nat)) (
 reqB ((List.take l1.length (List.drop (0 : Nat) l1)).length = l1.length) (
 reqB (∀ (y : Int),
 y ∈ List.take l1.length (List.drop (0 : Nat) l1) → (-9223372036854775808 : Int) ≤ y ∧ y ≤ (9223372036854775807 : Int)) (
 reqB ((0 : Int) ≤ n5) (
 reqB (n5 ≤ (1100 : Int)) (
 reqB (findR2L.inv [DV.n n0, DV.l (List.take l1.length (List.drop (0 : Nat) l1)), DV.n n5]
 [DV.n (0 : Int)]) (
 allB fun n8 : Int => 
 impB ((0 : Int) ≤ n8) (
 impB (n8 ≤ (1100 : Int)) (
 impB (findR2L.inv [DV.n n0, DV.l (List.take l1.length (List.drop (0 : Nat) l1)), DV.n n5]
 [DV.n n8]) (
 bR (dec (n8 < n2)) (
 reqB (((0 : Nat) + l1.length) * (1 : Nat) ≤ l1.length.mul (1 : Nat)) (
 reqB (l1.length ≤ (1100 : Nat)) (
 reqB ((List.take l1.length (List.drop (0 : Nat) l1)).length = l1.length) (
 reqB (∀ (y : Int),
 y ∈ List.take l1.length (List.drop (0 : Nat) l1) → (-9223372036854775808 : Int) ≤ y ∧ y ≤ (9223372036854775807 : Int)) (
 reqB (((0 : Nat) + l6.length) * (1 : Nat) ≤ l6.length.mul (1 : Nat)) (
 reqB (l6.length ≤ (1100 : Nat)) (
 reqB ((List.take l6.length (List.drop (0 : Nat) l6)).length = l6.length) (
 reqB (∀ (y : Int), y ∈ List.take l6.length (List.drop (0 : Nat) l6) → (-1 : Int) ≤ y ∧ y ≤ (1 : Int)) (
 reqB ((0 : Int) ≤ n8) (
 reqB (n8 ≤ (1100 : Int)) (
 reqB (sigRotB.pre
 [DV.l (List.take l1.length (List.drop (0 : Nat) l1)), DV.l (List.take l6.length (List.drop (0 : Nat) l6)),
 DV.n n8]) (
 allB fun b9 : Bool => 
 impB (sigRotB.post
 [DV.l (List.take l1.length (List.drop (0 : Nat) l1)), DV.l (List.take l6.length (List.drop (0 : Nat) l6)),
 DV.n n8]
 [DV.b b9]) (
 bR (b9) (
 reqB ((0 : Int) ≤ n5) (
 reqB (n5 ≤ (1100 : Int)) (
 reqB ((0 : Int) ≤ n8) (
 reqB (n8 ≤ (1100 : Int)) (
 reqB (sigFind.post [DV.n n0, DV.l l1] [DV.n n5, DV.n n8, DV.n (0 : Int)]) (
 true)))))) (
 bR (bR (dec (n0 = n0)) (
 bR (bR (dec ((0 : Nat) = (0 : Nat))) (
 dec (l1.length = l1.length)) (
 false)) (
 bR (dec (n2 = n2)) (
 bR (dec (n5 = n5)) (
 bR (bR (bR (bR (false) (
 false) (
 true)) (
 true) (
 false)) (
 bR (dec ((0 : Nat) = (0 : Nat))) (
 dec (l6.length = l6.length)) (
 false)) (
 false)) (
 true) (
 false)) (
 false)) (
 false)) (
 false)) (
 false)) (
 bR (bR (bR (dec (l6.length.mul (1 : Nat) = l6.length.mul (1 : Nat))) (
 dec ([Col.i Go.IntKind.i64 (-1 : Int) (1 : Int) l6] = [Col.i Go.IntKind.i64 (-1 : Int) (1 : Int) l6])) (
 false)) (
 true) (
 false)) (
 reqB ((0 : Int) ≤ n8 + (1 : Int)) (
 reqB (n8 + (1 : Int) ≤ (1100 : Int)) (
 reqB (findR2L.inv [DV.n n0, DV.l (List.take l1.length (List.drop (0 : Nat) l1)), DV.n n5]
 [DV.n (n8 + (1 : Int))]) (
 reqB (findR2L.mea [DV.n n0, DV.l (List.take l1.length (List.drop (0 : Nat) l1)), DV.n n5]
 [DV.n (n8 + (1 : Int))] <
 findR2L.mea [DV.n n0, DV.l (List.take l1.length (List.drop (0 : Nat) l1)), DV.n n5]
 [DV.n n8]) (
 true))))) (
 false)) (
 false))))))))))))))) (
 bR (bR (dec (n0 = n0)) (
 bR (bR (dec ((0 : Nat) = (0 : Nat))) (
 dec (l1.length = l1.length)) (
 false)) (
 bR (dec (n2 = n2)) (
 true) (
 false)) (
 false)) (
 false)) (
 reqB ((0 : Int) ≤ n5 + (1 : Int)) (
 reqB (n5 + (1 : Int) ≤ (1100 : Int)) (
 reqB (findRL.inv [DV.n n0, DV.l (List.take l1.length (List.drop (0 : Nat) l1))]
 [DV.n (n5 + (1 : Int))]) (
 reqB (findRL.mea [DV.n n0, DV.l (List.take l1.length (List.drop (0 : Nat) l1))]
 [DV.n (n5 + (1 : Int))] <
 findRL.mea [DV.n n0, DV.l (List.take l1.length (List.drop (0 : Nat) l1))] [DV.n n5]) (
 true))))) (
 false))))))))))))))))))))))))) (
 reqB (sigFind.post [DV.n n0, DV.l l1] [DV.n (0 : Int), DV.n (0 : Int), DV.n (18 : Int)]) (
 true))))))))))))))))))))))))))))))))))))) := by kernel_rfl
set_option maxHeartbeats 8000000 in
theorem vt_findR : vcFn Try.prog [(24, Ext.ctr (ctOf sigLen)), (27, Ext.ctr (ctOf sigCode)), (41, Ext.ctr (ctOf sigRotB))] (fun f p _ => at2 f p 29 250 chkFRL (at2 f p 29 506 findRL (at2 f p 29 64806 findR2L (none)))) [] 100 29 sigFind = true := by
  rw [vc_findR]
  try simp only [Int.toNat_natCast, List.length_set, List.length_replicate, List.length_take, List.length_drop, List.length_append, List.length_cons, List.length_nil, Nat.min_self, List.take_take, lenCols_i, lenCols_b, List.drop_zero, List.take_length, Nat.add_eq, Nat.mul_eq, Nat.sub_eq, Nat.zero_add, Nat.sub_zero, Nat.mul_one]
  refine all_i fun n0 => ?_
  refine imp_i fun h0 => ?_
  refine imp_i fun h1 => ?_
  refine all_i fun l1 => ?_
  refine imp_i fun h2 => ?_
  refine imp_i fun h3 => ?_
  refine imp_i fun h4 => ?_
  try simp only [sigFind, findPost, List.cons.injEq, DV.b.injEq, and_true, List.length_cons, List.length_nil] at h4
  refine req_i ?_ ?_
  · -- r0
   first | omega | assumption | grind
  refine req_i ?_ ?_
  · -- r1
   first | omega | assumption | grind
  refine req_i ?_ ?_
  · -- r2
   first | trivial | assumption | (simp only [sigLen, sigLenR, iR, lenPost, List.cons.injEq, DV.b.injEq, and_true, List.length_cons, List.length_nil]; done) | ((try simp only [sigLen, sigLenR, iR, lenPost, List.cons.injEq, DV.b.injEq, and_true, List.length_cons, List.length_nil]); first | omega | assumption | grind)
  refine all_i fun n2 => ?_
  refine imp_i fun h5 => ?_
  refine imp_i fun h6 => ?_
  refine all_i fun n3 => ?_
  refine imp_i fun h7 => ?_
  refine imp_i fun h8 => ?_
  refine imp_i fun h9 => ?_
  try simp only [Int.toNat_natCast, List.length_set, List.length_replicate, List.length_take, List.length_drop, List.length_append, List.length_cons, List.length_nil, Nat.min_self, List.take_take, lenCols_i, lenCols_b, List.drop_zero, List.take_length, Nat.add_eq, Nat.mul_eq, Nat.sub_eq, Nat.zero_add, Nat.sub_zero, Nat.mul_one] at h9
  have hb := ite_case h9
  have nb := @nG_bd n0
  refine bR_dec (fun h10 => ?_) (fun h10 => ?_)
  ·
   refine req_i ?_ ?_
   · -- r3
    first | omega | assumption | grind
   refine req_i ?_ ?_
   · -- r4
    first | omega | assumption | grind
   refine req_i ?_ ?_
   · -- r5
    obtain ⟨k1, k2, k3⟩ := hb.resolve_left (fun g => h10 g.2.1); exact .inl ⟨k1, k2, rfl, rfl⟩
   rfl
  ·
   obtain ⟨ok, _, e2⟩ := hb.resolve_right (fun g => h10 (by rw [g.2.1]; decide))
   refine bR_dec (fun h11 => ?_) (fun h11 => ?_)
   ·
    refine req_i ?_ ?_
    · -- r6
     exact .inr (.inl ⟨ok, fun g => h11 (by omega), rfl, rfl, rfl⟩)
    rfl
   ·
    refine req_i ?_ ?_
    · -- r7
     first | omega | ((try simp only [Nat.mul_eq]); first | done | omega | assumption | grind [getD_set, getD_rep, toNat_succ, cntN_yes, cntN_no])
    refine req_i ?_ ?_
    · -- r8
     first | omega | ((try simp only [Nat.zero_add]); first | done | omega | assumption | grind [getD_set, getD_rep, toNat_succ, cntN_yes, cntN_no])
    refine req_i ?_ ?_
    · -- r9
     first | omega | ((try simp only [List.length_take, List.take_length, List.take_take, Nat.min_self, List.length_drop, List.drop_zero, List.length_cons, List.length_nil]); first | done | omega | assumption | grind [getD_set, getD_rep, toNat_succ, cntN_yes, cntN_no])
    refine req_i ?_ ?_
    · -- r10
     first | assumption | exact rep_bd (by omega) (by omega) | exact set_bd (by assumption) (by omega) (by omega) | exact take_bd (by assumption) | ((try simp only [List.length_take, List.take_length, List.take_take, Nat.min_self, List.length_drop, List.drop_zero, List.length_cons, List.length_nil]); first | assumption | exact rep_bd (by omega) (by omega) | exact set_bd (by assumption) (by omega) (by omega) | exact take_bd (by assumption) | grind [getD_set, getD_rep, toNat_succ, cntN_yes, cntN_no])
    refine req_i ?_ ?_
    · -- r11
     first | omega | ((try simp only [chkFRL, cF, chkFInv, meaR1, List.cons.injEq, DV.b.injEq, and_true, List.length_take, List.take_length, List.take_take, Nat.min_self, List.length_drop, List.drop_zero, List.length_cons, List.length_nil]); first | done | omega | assumption | grind [getD_set, getD_rep, toNat_succ, cntN_yes, cntN_no])
    refine all_i fun n4 => ?_
    refine imp_i fun h12 => ?_
    refine imp_i fun h13 => ?_
    refine imp_i fun h14 => ?_
    try simp only [chkFRL, cF, chkFInv, meaR1, List.cons.injEq, DV.b.injEq, and_true, List.length_take, List.take_length, List.take_take, Nat.min_self, List.length_drop, List.drop_zero, List.length_cons, List.length_nil] at h14
    refine bR_dec (fun h15 => ?_) (fun h15 => ?_)
    ·
     refine req_i ?_ ?_
     · -- r12
      first | omega | ((try simp only [Int.toNat_natCast, List.length_cons, List.length_nil]); first | done | omega | assumption | grind [getD_set, getD_rep, toNat_succ, cntN_yes, cntN_no])
     refine req_i ?_ ?_
     · -- r13
      first | omega | ((try simp only [Int.toNat_natCast, List.length_cons, List.length_nil, Nat.add_eq, Nat.zero_add]); first | done | omega | assumption | grind [getD_set, getD_rep, toNat_succ, cntN_yes, cntN_no])
     refine bR_dec (fun h16 => ?_) (fun h16 => ?_)
     ·
      refine req_i ?_ ?_
      · -- r14
       first | omega | ((try simp only [Int.toNat_natCast, List.length_cons, List.length_nil]); first | done | omega | assumption | grind [getD_set, getD_rep, toNat_succ, cntN_yes, cntN_no])
      refine req_i ?_ ?_
      · -- r15
       first | omega | ((try simp only [Int.toNat_natCast, List.length_cons, List.length_nil, Nat.add_eq, Nat.zero_add]); first | done | omega | assumption | grind [getD_set, getD_rep, toNat_succ, cntN_yes, cntN_no])
      refine bR_dec (fun h17 => ?_) (fun h17 => ?_)
      ·
       refine req_i ?_ ?_
       · -- r16
        try simp only [Nat.add_eq, Nat.zero_add] at h16 h17
        exact .inr (.inl ⟨ok, fun g => by have := g.2 n4.toNat (by omega); omega, rfl, rfl, rfl⟩)
       rfl
      ·
       refine bR_t ?_ ?_
       · -- g0
        first | rfl | (simp only [bR_iff, bR_iff_f, dec_iff, dec_f, beqB_iff', andB_iff', reduceCtorEq, imp_self, false_implies, and_true, true_and, implies_true, and_self]; done) | (simp [bR_iff, dec_iff, beqB_iff', andB_iff']; done) | (simp [bR_iff, dec_iff, beqB_iff', andB_iff']; omega)
       refine req_i ?_ ?_
       · -- r17
        first | omega | assumption | grind
       refine req_i ?_ ?_
       · -- r18
        first | omega | assumption | grind
       refine req_i ?_ ?_
       · -- r19
        simp only [chkFRL, chkFInv, List.drop_zero, List.take_length]; try simp only [Nat.add_eq, Nat.zero_add] at h16 h17
        exact ⟨by omega, by omega, fun j hj => by rcases Int.lt_or_le (j : Int) n4 with x | x; exact h14.2.2 j x; rw [show j = n4.toNat by omega]; omega⟩
       refine req_i ?_ ?_
       · -- r20
        first | omega | ((try simp only [chkFRL, cF, chkFInv, meaR1, List.cons.injEq, DV.b.injEq, and_true, List.length_take, List.take_length, List.take_take, Nat.min_self, List.length_drop, List.drop_zero, List.length_cons, List.length_nil]); first | done | omega | assumption | grind [getD_set, getD_rep, toNat_succ, cntN_yes, cntN_no])
       rfl
     ·
      refine bR_t ?_ ?_
      · -- g1
       first | rfl | (simp only [bR_iff, bR_iff_f, dec_iff, dec_f, beqB_iff', andB_iff', reduceCtorEq, imp_self, false_implies, and_true, true_and, implies_true, and_self]; done) | (simp [bR_iff, dec_iff, beqB_iff', andB_iff']; done) | (simp [bR_iff, dec_iff, beqB_iff', andB_iff']; omega)
      refine req_i ?_ ?_
      · -- r21
       first | omega | assumption | grind
      refine req_i ?_ ?_
      · -- r22
       first | omega | assumption | grind
      refine req_i ?_ ?_
      · -- r23
       simp only [chkFRL, chkFInv, List.drop_zero, List.take_length]; try simp only [Nat.add_eq, Nat.zero_add] at h16
       exact ⟨by omega, by omega, fun j hj => by rcases Int.lt_or_le (j : Int) n4 with x | x; exact h14.2.2 j x; rw [show j = n4.toNat by omega]; omega⟩
      refine req_i ?_ ?_
      · -- r24
       first | omega | ((try simp only [chkFRL, cF, chkFInv, meaR1, List.cons.injEq, DV.b.injEq, and_true, List.length_take, List.take_length, List.take_take, Nat.min_self, List.length_drop, List.drop_zero, List.length_cons, List.length_nil]); first | done | omega | assumption | grind [getD_set, getD_rep, toNat_succ, cntN_yes, cntN_no])
      rfl
    ·
     have pm : pm1 l1 := fun j hj => h14.2.2 j (by omega)
     refine req_i ?_ ?_
     · -- r25
      first | omega | assumption | grind
     refine req_i ?_ ?_
     · -- r26
      first | omega | assumption | grind
     refine req_i ?_ ?_
     · -- r27
      first | omega | ((try simp only [Nat.mul_eq]); first | done | omega | assumption | grind [getD_set, getD_rep, toNat_succ, cntN_yes, cntN_no])
     refine req_i ?_ ?_
     · -- r28
      first | omega | ((try simp only [Nat.zero_add]); first | done | omega | assumption | grind [getD_set, getD_rep, toNat_succ, cntN_yes, cntN_no])
     refine req_i ?_ ?_
     · -- r29
      first | omega | ((try simp only [List.length_take, List.take_length, List.take_take, Nat.min_self, List.length_drop, List.drop_zero, List.length_cons, List.length_nil]); first | done | omega | assumption | grind [getD_set, getD_rep, toNat_succ, cntN_yes, cntN_no])
     refine req_i ?_ ?_
     · -- r30
      first | assumption | exact rep_bd (by omega) (by omega) | exact set_bd (by assumption) (by omega) (by omega) | exact take_bd (by assumption) | ((try simp only [List.length_take, List.take_length, List.take_take, Nat.min_self, List.length_drop, List.drop_zero, List.length_cons, List.length_nil]); first | assumption | exact rep_bd (by omega) (by omega) | exact set_bd (by assumption) (by omega) (by omega) | exact take_bd (by assumption) | grind [getD_set, getD_rep, toNat_succ, cntN_yes, cntN_no])
     refine req_i ?_ ?_
     · -- r31
      exact ⟨by omega, by omega, fun q a b => by omega⟩
     refine all_i fun n5 => ?_
     refine imp_i fun h18 => ?_
     refine imp_i fun h19 => ?_
     refine imp_i fun h20 => ?_
     try simp only [findRL, cF, findInv, meaD, List.cons.injEq, DV.b.injEq, and_true, List.length_take, List.take_length, List.take_take, Nat.min_self, List.length_drop, List.drop_zero, List.length_cons, List.length_nil] at h20
     refine bR_dec (fun h21 => ?_) (fun h21 => ?_)
     ·
      refine req_i ?_ ?_
      · -- r32
       first | omega | assumption | grind
      refine req_i ?_ ?_
      · -- r33
       first | omega | assumption | grind
      refine req_i ?_ ?_
      · -- r34
       first | omega | assumption | grind
      refine req_i ?_ ?_
      · -- r35
       first | omega | assumption | grind
      refine req_i ?_ ?_
      · -- r36
       first | trivial | assumption | (simp only [sigCode, cCh, codePost, List.cons.injEq, DV.b.injEq, and_true, List.length_cons, List.length_nil]; done) | ((try simp only [sigCode, cCh, codePost, List.cons.injEq, DV.b.injEq, and_true, List.length_cons, List.length_nil]); first | omega | assumption | grind)
      refine all_i fun l6 => ?_
      refine imp_i fun h22 => ?_
      refine imp_i fun h23 => ?_
      refine all_i fun n7 => ?_
      refine imp_i fun h24 => ?_
      refine imp_i fun h25 => ?_
      refine imp_i fun h26 => ?_
      try simp only [Int.toNat_natCast, List.length_set, List.length_replicate, List.length_take, List.length_drop, List.length_append, List.length_cons, List.length_nil, Nat.min_self, List.take_take, lenCols_i, lenCols_b, List.drop_zero, List.take_length, Nat.add_eq, Nat.mul_eq, Nat.sub_eq, Nat.zero_add, Nat.sub_zero, Nat.mul_one] at h26
      obtain ⟨_, e8⟩ := (ite_case h26).resolve_right (fun g => g.1 ⟨ok, by omega, by omega⟩) |>.2
      have bl6 : (l6.length : Int) = nG n0 := by rw [e8, len_code ok]
      refine req_i ?_ ?_
      · -- r37
       first | omega | assumption | grind
      refine req_i ?_ ?_
      · -- r38
       first | omega | assumption | grind
      refine req_i ?_ ?_
      · -- r39
       first | omega | ((try simp only [Nat.mul_eq]); first | done | omega | assumption | grind [getD_set, getD_rep, toNat_succ, cntN_yes, cntN_no])
      refine req_i ?_ ?_
      · -- r40
       first | omega | ((try simp only [Nat.zero_add]); first | done | omega | assumption | grind [getD_set, getD_rep, toNat_succ, cntN_yes, cntN_no])
      refine req_i ?_ ?_
      · -- r41
       first | omega | ((try simp only [List.length_take, List.take_length, List.take_take, Nat.min_self, List.length_drop, List.drop_zero, List.length_cons, List.length_nil]); first | done | omega | assumption | grind [getD_set, getD_rep, toNat_succ, cntN_yes, cntN_no])
      refine req_i ?_ ?_
      · -- r42
       first | assumption | exact rep_bd (by omega) (by omega) | exact set_bd (by assumption) (by omega) (by omega) | exact take_bd (by assumption) | ((try simp only [List.length_take, List.take_length, List.take_take, Nat.min_self, List.length_drop, List.drop_zero, List.length_cons, List.length_nil]); first | assumption | exact rep_bd (by omega) (by omega) | exact set_bd (by assumption) (by omega) (by omega) | exact take_bd (by assumption) | grind [getD_set, getD_rep, toNat_succ, cntN_yes, cntN_no])
      refine req_i ?_ ?_
      · -- r43
       first | omega | assumption | grind
      refine req_i ?_ ?_
      · -- r44
       first | omega | assumption | grind
      refine req_i ?_ ?_
      · -- r45
       exact ⟨by omega, by omega, by omega, by omega, fun q a b => by omega⟩
      refine all_i fun n8 => ?_
      refine imp_i fun h27 => ?_
      refine imp_i fun h28 => ?_
      refine imp_i fun h29 => ?_
      try simp only [findR2L, cF, find2Inv, meaD, List.cons.injEq, DV.b.injEq, and_true, List.length_take, List.take_length, List.take_take, Nat.min_self, List.length_drop, List.drop_zero, List.length_cons, List.length_nil] at h29
      refine bR_dec (fun h30 => ?_) (fun h30 => ?_)
      ·
       refine req_i ?_ ?_
       · -- r46
        first | omega | ((try simp only [Nat.mul_eq]); first | done | omega | assumption | grind [getD_set, getD_rep, toNat_succ, cntN_yes, cntN_no])
       refine req_i ?_ ?_
       · -- r47
        first | omega | ((try simp only [Nat.zero_add]); first | done | omega | assumption | grind [getD_set, getD_rep, toNat_succ, cntN_yes, cntN_no])
       refine req_i ?_ ?_
       · -- r48
        first | omega | ((try simp only [List.length_take, List.take_length, List.take_take, Nat.min_self, List.length_drop, List.drop_zero, List.length_cons, List.length_nil]); first | done | omega | assumption | grind [getD_set, getD_rep, toNat_succ, cntN_yes, cntN_no])
       refine req_i ?_ ?_
       · -- r49
        first | assumption | exact rep_bd (by omega) (by omega) | exact set_bd (by assumption) (by omega) (by omega) | exact take_bd (by assumption) | ((try simp only [List.length_take, List.take_length, List.take_take, Nat.min_self, List.length_drop, List.drop_zero, List.length_cons, List.length_nil]); first | assumption | exact rep_bd (by omega) (by omega) | exact set_bd (by assumption) (by omega) (by omega) | exact take_bd (by assumption) | grind [getD_set, getD_rep, toNat_succ, cntN_yes, cntN_no])
       refine req_i ?_ ?_
       · -- r50
        first | omega | ((try simp only [Nat.mul_eq]); first | done | omega | assumption | grind [getD_set, getD_rep, toNat_succ, cntN_yes, cntN_no])
       refine req_i ?_ ?_
       · -- r51
        first | omega | ((try simp only [Nat.zero_add]); first | done | omega | assumption | grind [getD_set, getD_rep, toNat_succ, cntN_yes, cntN_no])
       refine req_i ?_ ?_
       · -- r52
        first | omega | ((try simp only [List.length_take, List.take_length, List.take_take, Nat.min_self, List.length_drop, List.drop_zero, List.length_cons, List.length_nil]); first | done | omega | assumption | grind [getD_set, getD_rep, toNat_succ, cntN_yes, cntN_no])
       refine req_i ?_ ?_
       · -- r53
        first | assumption | exact rep_bd (by omega) (by omega) | exact set_bd (by assumption) (by omega) (by omega) | exact take_bd (by assumption) | ((try simp only [List.length_take, List.take_length, List.take_take, Nat.min_self, List.length_drop, List.drop_zero, List.length_cons, List.length_nil]); first | assumption | exact rep_bd (by omega) (by omega) | exact set_bd (by assumption) (by omega) (by omega) | exact take_bd (by assumption) | grind [getD_set, getD_rep, toNat_succ, cntN_yes, cntN_no])
       refine req_i ?_ ?_
       · -- r54
        first | omega | assumption | grind
       refine req_i ?_ ?_
       · -- r55
        first | omega | assumption | grind
       refine req_i ?_ ?_
       · -- r56
        simp only [sigRotB, rotBPre, List.drop_zero, List.take_length]; omega
       refine all_i fun b9 => ?_
       refine imp_i fun h31 => ?_
       try simp only [sigRotB, cW, cC2, rotBPre, rotBPost, List.cons.injEq, DV.b.injEq, and_true, List.length_take, List.take_length, List.take_take, Nat.min_self, List.length_drop, List.drop_zero, List.length_cons, List.length_nil] at h31
       refine bR_i (fun h32 => ?_) (fun h32 => ?_)
       ·
        refine req_i ?_ ?_
        · -- r57
         first | omega | assumption | grind
        refine req_i ?_ ?_
        · -- r58
         first | omega | assumption | grind
        refine req_i ?_ ?_
        · -- r59
         first | omega | assumption | grind
        refine req_i ?_ ?_
        · -- r60
         first | omega | assumption | grind
        refine req_i ?_ ?_
        · -- r61
         have R := h31.1 (by simpa using h32)
         rw [e8] at R
         exact .inr (.inr (.inl ⟨ok, by omega, pm, ⟨by omega, by omega, by omega, by omega, R, h29.2.2.2.2, h20.2.2⟩, rfl⟩))
        rfl
       ·
        refine bR_t ?_ ?_
        · -- g2
         first | rfl | (simp only [bR_iff, bR_iff_f, dec_iff, dec_f, beqB_iff', andB_iff', reduceCtorEq, imp_self, false_implies, and_true, true_and, implies_true, and_self]; done) | (simp [bR_iff, dec_iff, beqB_iff', andB_iff']; done) | (simp [bR_iff, dec_iff, beqB_iff', andB_iff']; omega)
        refine bR_t ?_ ?_
        · -- g3
         first | rfl | (simp only [bR_iff, bR_iff_f, dec_iff, dec_f, beqB_iff', andB_iff', reduceCtorEq, imp_self, false_implies, and_true, true_and, implies_true, and_self]; done) | (simp [bR_iff, dec_iff, beqB_iff', andB_iff']; done) | (simp [bR_iff, dec_iff, beqB_iff', andB_iff']; omega)
        refine req_i ?_ ?_
        · -- r62
         first | omega | assumption | grind
        refine req_i ?_ ?_
        · -- r63
         first | omega | assumption | grind
        refine req_i ?_ ?_
        · -- r64
         have R : ¬rotE (codeL n0 n5) l1 n8 := fun g => by
           have := h31.2 (by rw [e8]; exact g)
           rw [h32] at this; cases this
         simp only [findR2L, find2Inv, List.drop_zero, List.take_length]; exact ⟨by omega, by omega, by omega, by omega, below_next h29.2.2.2.2 R⟩
        refine req_i ?_ ?_
        · -- r65
         first | omega | ((try simp only [findR2L, cF, find2Inv, meaD, List.cons.injEq, DV.b.injEq, and_true, List.length_take, List.take_length, List.take_take, Nat.min_self, List.length_drop, List.drop_zero, List.length_cons, List.length_nil]); first | done | omega | assumption | grind [getD_set, getD_rep, toNat_succ, cntN_yes, cntN_no])
        rfl
      ·
       refine bR_t ?_ ?_
       · -- g4
        first | rfl | (simp only [bR_iff, bR_iff_f, dec_iff, dec_f, beqB_iff', andB_iff', reduceCtorEq, imp_self, false_implies, and_true, true_and, implies_true, and_self]; done) | (simp [bR_iff, dec_iff, beqB_iff', andB_iff']; done) | (simp [bR_iff, dec_iff, beqB_iff', andB_iff']; omega)
       refine req_i ?_ ?_
       · -- r66
        first | omega | assumption | grind
       refine req_i ?_ ?_
       · -- r67
        first | omega | assumption | grind
       refine req_i ?_ ?_
       · -- r68
        simp only [findRL, findInv, List.drop_zero, List.take_length]; exact ⟨by omega, by omega, noneP_next h20.2.2 (fun k a b => h29.2.2.2.2 k a (by rw [len_code ok] at b; omega))⟩
       refine req_i ?_ ?_
       · -- r69
        first | omega | ((try simp only [findRL, cF, findInv, meaD, List.cons.injEq, DV.b.injEq, and_true, List.length_take, List.take_length, List.take_take, Nat.min_self, List.length_drop, List.drop_zero, List.length_cons, List.length_nil]); first | done | omega | assumption | grind [getD_set, getD_rep, toNat_succ, cntN_yes, cntN_no])
       rfl
     ·
      refine req_i ?_ ?_
      · -- r70
       exact .inr (.inr (.inr ⟨ok, by omega, pm, (by rw [show nG n0 + 3 = n5 by omega]; exact h20.2.2), rfl, rfl, rfl⟩))
      rfl
theorem ext_findR : ∀ p ∈ ([(24, Ext.ctr (ctOf sigLen)), (27, Ext.ctr (ctOf sigCode)), (41, Ext.ctr (ctOf sigRotB))] : List (Nat × Ext)), ExtRow Try.prog p.1 p.2 := by
  intro p hp
  simp only [List.mem_cons, List.not_mem_nil, or_false] at hp
  rcases hp with rfl | rfl | rfl
  · trivial
  · trivial
  · trivial
theorem cts_findR : CtsOk Try.prog [(24, Ext.ctr (ctOf sigLen)), (27, Ext.ctr (ctOf sigCode)), (41, Ext.ctr (ctOf sigRotB))] := ctsOk_of (cs := [(24, sigLen), (27, sigCode), (41, sigRotB)])
  (fun p hp => by
    simp only [List.mem_cons, List.not_mem_nil, or_false] at hp
    rcases hp with rfl | rfl | rfl
    · exact fn_lenR
    · exact fn_codeR
    · exact fn_rotB
)
  (fun f c h => by
    simp only [List.lookup_cons] at h
    repeat' split at h
    all_goals first | (cases h; done) | (rename_i e; have e := beq_iff_eq.1 e; subst e; cases h; refine ⟨_, ?_, rfl⟩; simp))
theorem fn_findR : FnOk Try.prog 29 sigFind [] := fn_sound (by kernel_rfl) ext_findR cts_findR names vt_findR
end Go.Proofs.Ytpmlodchbgfmeaa

namespace Go.Proofs.Ytpmlodchbgfmeaa
open Go.Ev Go.Sp
set_option maxRecDepth 100000
theorem vc_awake : vcFn Try.prog [] noA [] 300 20 sigTrue0 = (impB (sigTrue0.pre []) (
reqB (sigTrue0.post [] [DV.b Bool.true]) (
true))) := by kernel_rfl
set_option maxHeartbeats 8000000 in
theorem vt_awake : vcFn Try.prog [] noA [] 300 20 sigTrue0 = true := by
  rw [vc_awake]
  try simp only [Int.toNat_natCast, List.length_set, List.length_replicate, List.length_take, List.length_drop, List.length_append, List.length_cons, List.length_nil, Nat.min_self, List.take_take, lenCols_i, lenCols_b, List.drop_zero, List.take_length, Nat.add_eq, Nat.mul_eq, Nat.sub_eq, Nat.zero_add, Nat.sub_zero, Nat.mul_one]
  refine imp_i fun h0 => ?_
  try simp only [sigTrue0, List.cons.injEq, DV.b.injEq, and_true, List.length_cons, List.length_nil] at h0
  refine req_i ?_ ?_
  · -- r0
   first | omega | ((try simp only [sigTrue0, List.cons.injEq, DV.b.injEq, and_true, List.length_cons, List.length_nil]); first | done | omega | assumption | grind [getD_set, getD_rep, toNat_succ, cntN_yes, cntN_no])
  rfl
theorem ext_awake : ∀ p ∈ ([] : List (Nat × Ext)), ExtRow Try.prog p.1 p.2 := by
  intro p hp
  cases hp
theorem cts_awake : CtsOk Try.prog [] := fun f c h => by cases h
theorem fn_awake : FnOk Try.prog 20 sigTrue0 [] := fn_sound (by kernel_rfl) ext_awake cts_awake names vt_awake
end Go.Proofs.Ytpmlodchbgfmeaa

namespace Go.Proofs.Ytpmlodchbgfmeaa
open Go.Ev Go.Sp
set_option maxRecDepth 100000
theorem vc_GoldFinds : vcFn Try.prog [(18, Ext.ctr (ctOf sigFind)), (29, Ext.ctr (ctOf sigFind)), (20, Ext.ctr (ctOf sigTrue0))] noA [] 100 6 sigNF = (allB fun n0 : Int => 
impB ((-9223372036854775808 : Int) ≤ n0) (
impB (n0 ≤ (9223372036854775807 : Int)) (
allB fun l1 : List Int => 
impB (l1.length ≤ (9223372036854775807 : Nat)) (
impB (∀ (y : Int), y ∈ l1 → (-9223372036854775808 : Int) ≤ y ∧ y ≤ (9223372036854775807 : Int)) (
impB (sigNF.pre [DV.n n0, DV.l l1]) (
bR (dec ((7 : Int) < n0)) (
 bR (dec (n0 < (11 : Int))) (
 reqB (sigTrue0.pre []) (
 allB fun b2 : Bool => 
 impB (sigTrue0.post [] [DV.b b2]) (
 reqB (sigNF.post [DV.n n0, DV.l l1] [DV.b b2]) (
 true)))) (
 bR (dec ((200 : Int) < (↑l1.length : Int))) (
 reqB (sigTrue0.pre []) (
 allB fun b3 : Bool => 
 impB (sigTrue0.post [] [DV.b b3]) (
 reqB (sigNF.post [DV.n n0, DV.l l1] [DV.b b3]) (
 true)))) (
 reqB ((-9223372036854775808 : Int) ≤ n0) (
 reqB (n0 ≤ (9223372036854775807 : Int)) (
 reqB (((0 : Nat) + l1.length) * (1 : Nat) ≤ l1.length.mul (1 : Nat)) (
 reqB (l1.length ≤ (200 : Nat)) (
 reqB ((List.take l1.length (List.drop (0 : Nat) l1)).length = l1.length) (
 reqB (∀ (y : Int),
 y ∈ List.take l1.length (List.drop (0 : Nat) l1) → (-9223372036854775808 : Int) ≤ y ∧ y ≤ (9223372036854775807 : Int)) (
 reqB (sigFind.pre [DV.n n0, DV.l (List.take l1.length (List.drop (0 : Nat) l1))]) (
 allB fun n4 : Int => 
 impB ((0 : Int) ≤ n4) (
 impB (n4 ≤ (1100 : Int)) (
 allB fun n5 : Int => 
 impB ((0 : Int) ≤ n5) (
 impB (n5 ≤ (1100 : Int)) (
 allB fun n6 : Int => 
 impB ((0 : Int) ≤ n6) (
 impB (n6 ≤ (18 : Int)) (
 impB (sigFind.post [DV.n n0, DV.l (List.take l1.length (List.drop (0 : Nat) l1))]
 [DV.n n4, DV.n n5, DV.n n6]) (
 reqB ((-9223372036854775808 : Int) ≤ n0) (
 reqB (n0 ≤ (9223372036854775807 : Int)) (
 reqB (((0 : Nat) + l1.length) * (1 : Nat) ≤ l1.length.mul (1 : Nat)) (
 reqB (l1.length ≤ (200 : Nat)) (
 reqB ((List.take l1.length (List.drop (0 : Nat) l1)).length = l1.length) (
 reqB (∀ (y : Int),
 y ∈ List.take l1.length (List.drop (0 : Nat) l1) → (-9223372036854775808 : Int) ≤ y ∧ y ≤ (9223372036854775807 : Int)) (
 reqB (sigFind.pre [DV.n n0, DV.l (List.take l1.length (List.drop (0 : Nat) l1))]) (
 allB fun n7 : Int => 
 impB ((0 : Int) ≤ n7) (
 impB (n7 ≤ (1100 : Int)) (
 allB fun n8 : Int => 
 impB ((0 : Int) ≤ n8) (
 impB (n8 ≤ (1100 : Int)) (
 allB fun n9 : Int => 
 impB ((0 : Int) ≤ n9) (
 impB (n9 ≤ (18 : Int)) (
 impB (sigFind.post [DV.n n0, DV.l (List.take l1.length (List.drop (0 : Nat) l1))]
 [DV.n n7, DV.n n8, DV.n n9]) (
 bR (dec (n4 = n7)) (
 bR (dec (n5 = n8)) (
 bR (dec (n6 = n9)) (
 reqB (sigTrue0.pre []) (
 allB fun b10 : Bool => 
 impB (sigTrue0.post [] [DV.b b10]) (
 reqB (sigNF.post [DV.n n0, DV.l l1] [DV.b b10]) (
 true)))) (
 reqB (sigNF.post [DV.n n0, DV.l l1] [DV.b Bool.false]) (
 true))) (
 reqB (sigNF.post [DV.n n0, DV.l l1] [DV.b Bool.false]) (
 true))) (
 reqB (sigNF.post [DV.n n0, DV.l l1] [DV.b Bool.false]) (
 true))))))))))))))))))))))))))))))))) (
 bR (dec ((200 : Int) < (↑l1.length : Int))) (
 reqB (sigTrue0.pre []) (
 allB fun b11 : Bool => 
 impB (sigTrue0.post [] [DV.b b11]) (
 reqB (sigNF.post [DV.n n0, DV.l l1] [DV.b b11]) (
 true)))) (
 reqB ((-9223372036854775808 : Int) ≤ n0) (
 reqB (n0 ≤ (9223372036854775807 : Int)) (
 reqB (((0 : Nat) + l1.length) * (1 : Nat) ≤ l1.length.mul (1 : Nat)) (
 reqB (l1.length ≤ (200 : Nat)) (
 reqB ((List.take l1.length (List.drop (0 : Nat) l1)).length = l1.length) (
 reqB (∀ (y : Int),
 y ∈ List.take l1.length (List.drop (0 : Nat) l1) → (-9223372036854775808 : Int) ≤ y ∧ y ≤ (9223372036854775807 : Int)) (
 reqB (sigFind.pre [DV.n n0, DV.l (List.take l1.length (List.drop (0 : Nat) l1))]) (
 allB fun n12 : Int => 
 impB ((0 : Int) ≤ n12) (
 impB (n12 ≤ (1100 : Int)) (
 allB fun n13 : Int => 
 impB ((0 : Int) ≤ n13) (
 impB (n13 ≤ (1100 : Int)) (
 allB fun n14 : Int => 
 impB ((0 : Int) ≤ n14) (
 impB (n14 ≤ (18 : Int)) (
 impB (sigFind.post [DV.n n0, DV.l (List.take l1.length (List.drop (0 : Nat) l1))]
 [DV.n n12, DV.n n13, DV.n n14]) (
 reqB ((-9223372036854775808 : Int) ≤ n0) (
 reqB (n0 ≤ (9223372036854775807 : Int)) (
 reqB (((0 : Nat) + l1.length) * (1 : Nat) ≤ l1.length.mul (1 : Nat)) (
 reqB (l1.length ≤ (200 : Nat)) (
 reqB ((List.take l1.length (List.drop (0 : Nat) l1)).length = l1.length) (
 reqB (∀ (y : Int),
 y ∈ List.take l1.length (List.drop (0 : Nat) l1) → (-9223372036854775808 : Int) ≤ y ∧ y ≤ (9223372036854775807 : Int)) (
 reqB (sigFind.pre [DV.n n0, DV.l (List.take l1.length (List.drop (0 : Nat) l1))]) (
 allB fun n15 : Int => 
 impB ((0 : Int) ≤ n15) (
 impB (n15 ≤ (1100 : Int)) (
 allB fun n16 : Int => 
 impB ((0 : Int) ≤ n16) (
 impB (n16 ≤ (1100 : Int)) (
 allB fun n17 : Int => 
 impB ((0 : Int) ≤ n17) (
 impB (n17 ≤ (18 : Int)) (
 impB (sigFind.post [DV.n n0, DV.l (List.take l1.length (List.drop (0 : Nat) l1))]
 [DV.n n15, DV.n n16, DV.n n17]) (
 bR (dec (n12 = n15)) (
 bR (dec (n13 = n16)) (
 bR (dec (n14 = n17)) (
 reqB (sigTrue0.pre []) (
 allB fun b18 : Bool => 
 impB (sigTrue0.post [] [DV.b b18]) (
 reqB (sigNF.post [DV.n n0, DV.l l1] [DV.b b18]) (
 true)))) (
 reqB (sigNF.post [DV.n n0, DV.l l1] [DV.b Bool.false]) (
 true))) (
 reqB (sigNF.post [DV.n n0, DV.l l1] [DV.b Bool.false]) (
 true))) (
 reqB (sigNF.post [DV.n n0, DV.l l1] [DV.b Bool.false]) (
 true)))))))))))))))))))))))))))))))))))))) := by kernel_rfl
set_option maxHeartbeats 8000000 in
theorem vt_GoldFinds : vcFn Try.prog [(18, Ext.ctr (ctOf sigFind)), (29, Ext.ctr (ctOf sigFind)), (20, Ext.ctr (ctOf sigTrue0))] noA [] 100 6 sigNF = true := by
  rw [vc_GoldFinds]
  try simp only [Int.toNat_natCast, List.length_set, List.length_replicate, List.length_take, List.length_drop, List.length_append, List.length_cons, List.length_nil, Nat.min_self, List.take_take, lenCols_i, lenCols_b, List.drop_zero, List.take_length, Nat.add_eq, Nat.mul_eq, Nat.sub_eq, Nat.zero_add, Nat.sub_zero, Nat.mul_one]
  refine all_i fun n0 => ?_
  refine imp_i fun h0 => ?_
  refine imp_i fun h1 => ?_
  refine all_i fun l1 => ?_
  refine imp_i fun h2 => ?_
  refine imp_i fun h3 => ?_
  refine imp_i fun h4 => ?_
  try simp only [sigNF, List.cons.injEq, DV.b.injEq, and_true, List.length_cons, List.length_nil] at h4
  refine bR_dec (fun h5 => ?_) (fun h5 => ?_)
  ·
   refine bR_dec (fun h6 => ?_) (fun h6 => ?_)
   ·
    refine req_i ?_ ?_
    · -- r0
     first | omega | assumption | grind
    refine all_i fun b2 => ?_
    refine imp_i fun h7 => ?_
    try simp only [sigTrue0, List.cons.injEq, DV.b.injEq, and_true, List.length_cons, List.length_nil] at h7
    refine req_i ?_ ?_
    · -- r1
     first | omega | ((try simp only [sigNF, List.cons.injEq, DV.b.injEq, and_true, List.length_cons, List.length_nil]); first | done | omega | assumption | grind [getD_set, getD_rep, toNat_succ, cntN_yes, cntN_no])
    rfl
   ·
    refine bR_dec (fun h8 => ?_) (fun h8 => ?_)
    ·
     refine req_i ?_ ?_
     · -- r2
      first | omega | assumption | grind
     refine all_i fun b3 => ?_
     refine imp_i fun h9 => ?_
     try simp only [sigTrue0, List.cons.injEq, DV.b.injEq, and_true, List.length_cons, List.length_nil] at h9
     refine req_i ?_ ?_
     · -- r3
      first | omega | ((try simp only [sigNF, List.cons.injEq, DV.b.injEq, and_true, List.length_cons, List.length_nil]); first | done | omega | assumption | grind [getD_set, getD_rep, toNat_succ, cntN_yes, cntN_no])
     rfl
    ·
     refine req_i ?_ ?_
     · -- r4
      first | omega | assumption | grind
     refine req_i ?_ ?_
     · -- r5
      first | omega | assumption | grind
     refine req_i ?_ ?_
     · -- r6
      first | omega | ((try simp only [Nat.mul_eq]); first | done | omega | assumption | grind [getD_set, getD_rep, toNat_succ, cntN_yes, cntN_no])
     refine req_i ?_ ?_
     · -- r7
      first | omega | ((try simp only [Nat.zero_add]); first | done | omega | assumption | grind [getD_set, getD_rep, toNat_succ, cntN_yes, cntN_no])
     refine req_i ?_ ?_
     · -- r8
      first | omega | ((try simp only [List.length_take, List.take_length, List.take_take, Nat.min_self, List.length_drop, List.drop_zero, List.length_cons, List.length_nil]); first | done | omega | assumption | grind [getD_set, getD_rep, toNat_succ, cntN_yes, cntN_no])
     refine req_i ?_ ?_
     · -- r9
      first | assumption | exact rep_bd (by omega) (by omega) | exact set_bd (by assumption) (by omega) (by omega) | exact take_bd (by assumption) | ((try simp only [List.length_take, List.take_length, List.take_take, Nat.min_self, List.length_drop, List.drop_zero, List.length_cons, List.length_nil]); first | assumption | exact rep_bd (by omega) (by omega) | exact set_bd (by assumption) (by omega) (by omega) | exact take_bd (by assumption) | grind [getD_set, getD_rep, toNat_succ, cntN_yes, cntN_no])
     refine req_i ?_ ?_
     · -- r10
      first | trivial | assumption | (simp only [sigFind, findPost, List.cons.injEq, DV.b.injEq, and_true, List.length_take, List.take_length, List.take_take, Nat.min_self, List.length_drop, List.drop_zero, List.length_cons, List.length_nil]; done) | ((try simp only [sigFind, findPost, List.cons.injEq, DV.b.injEq, and_true, List.length_take, List.take_length, List.take_take, Nat.min_self, List.length_drop, List.drop_zero, List.length_cons, List.length_nil]); first | omega | assumption | grind)
     refine all_i fun n4 => ?_
     refine imp_i fun h10 => ?_
     refine imp_i fun h11 => ?_
     refine all_i fun n5 => ?_
     refine imp_i fun h12 => ?_
     refine imp_i fun h13 => ?_
     refine all_i fun n6 => ?_
     refine imp_i fun h14 => ?_
     refine imp_i fun h15 => ?_
     refine imp_i fun h16 => ?_
     try simp only [Int.toNat_natCast, List.length_set, List.length_replicate, List.length_take, List.length_drop, List.length_append, List.length_cons, List.length_nil, Nat.min_self, List.take_take, lenCols_i, lenCols_b, List.drop_zero, List.take_length, Nat.add_eq, Nat.mul_eq, Nat.sub_eq, Nat.zero_add, Nat.sub_zero, Nat.mul_one] at h16
     refine req_i ?_ ?_
     · -- r11
      first | omega | assumption | grind
     refine req_i ?_ ?_
     · -- r12
      first | omega | assumption | grind
     refine req_i ?_ ?_
     · -- r13
      first | omega | ((try simp only [Nat.mul_eq]); first | done | omega | assumption | grind [getD_set, getD_rep, toNat_succ, cntN_yes, cntN_no])
     refine req_i ?_ ?_
     · -- r14
      first | omega | ((try simp only [Nat.zero_add]); first | done | omega | assumption | grind [getD_set, getD_rep, toNat_succ, cntN_yes, cntN_no])
     refine req_i ?_ ?_
     · -- r15
      first | omega | ((try simp only [List.length_take, List.take_length, List.take_take, Nat.min_self, List.length_drop, List.drop_zero, List.length_cons, List.length_nil]); first | done | omega | assumption | grind [getD_set, getD_rep, toNat_succ, cntN_yes, cntN_no])
     refine req_i ?_ ?_
     · -- r16
      first | assumption | exact rep_bd (by omega) (by omega) | exact set_bd (by assumption) (by omega) (by omega) | exact take_bd (by assumption) | ((try simp only [List.length_take, List.take_length, List.take_take, Nat.min_self, List.length_drop, List.drop_zero, List.length_cons, List.length_nil]); first | assumption | exact rep_bd (by omega) (by omega) | exact set_bd (by assumption) (by omega) (by omega) | exact take_bd (by assumption) | grind [getD_set, getD_rep, toNat_succ, cntN_yes, cntN_no])
     refine req_i ?_ ?_
     · -- r17
      first | trivial | assumption | (simp only [sigFind, findPost, List.cons.injEq, DV.b.injEq, and_true, List.length_take, List.take_length, List.take_take, Nat.min_self, List.length_drop, List.drop_zero, List.length_cons, List.length_nil]; done) | ((try simp only [sigFind, findPost, List.cons.injEq, DV.b.injEq, and_true, List.length_take, List.take_length, List.take_take, Nat.min_self, List.length_drop, List.drop_zero, List.length_cons, List.length_nil]); first | omega | assumption | grind)
     refine all_i fun n7 => ?_
     refine imp_i fun h17 => ?_
     refine imp_i fun h18 => ?_
     refine all_i fun n8 => ?_
     refine imp_i fun h19 => ?_
     refine imp_i fun h20 => ?_
     refine all_i fun n9 => ?_
     refine imp_i fun h21 => ?_
     refine imp_i fun h22 => ?_
     refine imp_i fun h23 => ?_
     try simp only [Int.toNat_natCast, List.length_set, List.length_replicate, List.length_take, List.length_drop, List.length_append, List.length_cons, List.length_nil, Nat.min_self, List.take_take, lenCols_i, lenCols_b, List.drop_zero, List.take_length, Nat.add_eq, Nat.mul_eq, Nat.sub_eq, Nat.zero_add, Nat.sub_zero, Nat.mul_one] at h23
     obtain ⟨q1, q2, q3⟩ := find_fun h16 h23
     refine bR_dec (fun h24 => ?_) (fun h24 => ?_)
     ·
      refine bR_dec (fun h25 => ?_) (fun h25 => ?_)
      ·
       refine bR_dec (fun h26 => ?_) (fun h26 => ?_)
       ·
        refine req_i ?_ ?_
        · -- r18
         first | omega | assumption | grind
        refine all_i fun b10 => ?_
        refine imp_i fun h27 => ?_
        try simp only [sigTrue0, List.cons.injEq, DV.b.injEq, and_true, List.length_cons, List.length_nil] at h27
        refine req_i ?_ ?_
        · -- r19
         first | omega | ((try simp only [sigNF, List.cons.injEq, DV.b.injEq, and_true, List.length_cons, List.length_nil]); first | done | omega | assumption | grind [getD_set, getD_rep, toNat_succ, cntN_yes, cntN_no])
        rfl
       ·
        refine req_i ?_ ?_
        · -- r20
         first | omega | ((try simp only [sigNF, List.cons.injEq, DV.b.injEq, and_true, List.length_cons, List.length_nil]); first | done | omega | assumption | grind [getD_set, getD_rep, toNat_succ, cntN_yes, cntN_no])
        rfl
      ·
       refine req_i ?_ ?_
       · -- r21
        first | omega | ((try simp only [sigNF, List.cons.injEq, DV.b.injEq, and_true, List.length_cons, List.length_nil]); first | done | omega | assumption | grind [getD_set, getD_rep, toNat_succ, cntN_yes, cntN_no])
       rfl
     ·
      refine req_i ?_ ?_
      · -- r22
       first | omega | ((try simp only [sigNF, List.cons.injEq, DV.b.injEq, and_true, List.length_cons, List.length_nil]); first | done | omega | assumption | grind [getD_set, getD_rep, toNat_succ, cntN_yes, cntN_no])
      rfl
  ·
   refine bR_dec (fun h28 => ?_) (fun h28 => ?_)
   ·
    refine req_i ?_ ?_
    · -- r23
     first | omega | assumption | grind
    refine all_i fun b11 => ?_
    refine imp_i fun h29 => ?_
    try simp only [sigTrue0, List.cons.injEq, DV.b.injEq, and_true, List.length_cons, List.length_nil] at h29
    refine req_i ?_ ?_
    · -- r24
     first | omega | ((try simp only [sigNF, List.cons.injEq, DV.b.injEq, and_true, List.length_cons, List.length_nil]); first | done | omega | assumption | grind [getD_set, getD_rep, toNat_succ, cntN_yes, cntN_no])
    rfl
   ·
    refine req_i ?_ ?_
    · -- r25
     first | omega | assumption | grind
    refine req_i ?_ ?_
    · -- r26
     first | omega | assumption | grind
    refine req_i ?_ ?_
    · -- r27
     first | omega | ((try simp only [Nat.mul_eq]); first | done | omega | assumption | grind [getD_set, getD_rep, toNat_succ, cntN_yes, cntN_no])
    refine req_i ?_ ?_
    · -- r28
     first | omega | ((try simp only [Nat.zero_add]); first | done | omega | assumption | grind [getD_set, getD_rep, toNat_succ, cntN_yes, cntN_no])
    refine req_i ?_ ?_
    · -- r29
     first | omega | ((try simp only [List.length_take, List.take_length, List.take_take, Nat.min_self, List.length_drop, List.drop_zero, List.length_cons, List.length_nil]); first | done | omega | assumption | grind [getD_set, getD_rep, toNat_succ, cntN_yes, cntN_no])
    refine req_i ?_ ?_
    · -- r30
     first | assumption | exact rep_bd (by omega) (by omega) | exact set_bd (by assumption) (by omega) (by omega) | exact take_bd (by assumption) | ((try simp only [List.length_take, List.take_length, List.take_take, Nat.min_self, List.length_drop, List.drop_zero, List.length_cons, List.length_nil]); first | assumption | exact rep_bd (by omega) (by omega) | exact set_bd (by assumption) (by omega) (by omega) | exact take_bd (by assumption) | grind [getD_set, getD_rep, toNat_succ, cntN_yes, cntN_no])
    refine req_i ?_ ?_
    · -- r31
     first | trivial | assumption | (simp only [sigFind, findPost, List.cons.injEq, DV.b.injEq, and_true, List.length_take, List.take_length, List.take_take, Nat.min_self, List.length_drop, List.drop_zero, List.length_cons, List.length_nil]; done) | ((try simp only [sigFind, findPost, List.cons.injEq, DV.b.injEq, and_true, List.length_take, List.take_length, List.take_take, Nat.min_self, List.length_drop, List.drop_zero, List.length_cons, List.length_nil]); first | omega | assumption | grind)
    refine all_i fun n12 => ?_
    refine imp_i fun h30 => ?_
    refine imp_i fun h31 => ?_
    refine all_i fun n13 => ?_
    refine imp_i fun h32 => ?_
    refine imp_i fun h33 => ?_
    refine all_i fun n14 => ?_
    refine imp_i fun h34 => ?_
    refine imp_i fun h35 => ?_
    refine imp_i fun h36 => ?_
    try simp only [Int.toNat_natCast, List.length_set, List.length_replicate, List.length_take, List.length_drop, List.length_append, List.length_cons, List.length_nil, Nat.min_self, List.take_take, lenCols_i, lenCols_b, List.drop_zero, List.take_length, Nat.add_eq, Nat.mul_eq, Nat.sub_eq, Nat.zero_add, Nat.sub_zero, Nat.mul_one] at h36
    refine req_i ?_ ?_
    · -- r32
     first | omega | assumption | grind
    refine req_i ?_ ?_
    · -- r33
     first | omega | assumption | grind
    refine req_i ?_ ?_
    · -- r34
     first | omega | ((try simp only [Nat.mul_eq]); first | done | omega | assumption | grind [getD_set, getD_rep, toNat_succ, cntN_yes, cntN_no])
    refine req_i ?_ ?_
    · -- r35
     first | omega | ((try simp only [Nat.zero_add]); first | done | omega | assumption | grind [getD_set, getD_rep, toNat_succ, cntN_yes, cntN_no])
    refine req_i ?_ ?_
    · -- r36
     first | omega | ((try simp only [List.length_take, List.take_length, List.take_take, Nat.min_self, List.length_drop, List.drop_zero, List.length_cons, List.length_nil]); first | done | omega | assumption | grind [getD_set, getD_rep, toNat_succ, cntN_yes, cntN_no])
    refine req_i ?_ ?_
    · -- r37
     first | assumption | exact rep_bd (by omega) (by omega) | exact set_bd (by assumption) (by omega) (by omega) | exact take_bd (by assumption) | ((try simp only [List.length_take, List.take_length, List.take_take, Nat.min_self, List.length_drop, List.drop_zero, List.length_cons, List.length_nil]); first | assumption | exact rep_bd (by omega) (by omega) | exact set_bd (by assumption) (by omega) (by omega) | exact take_bd (by assumption) | grind [getD_set, getD_rep, toNat_succ, cntN_yes, cntN_no])
    refine req_i ?_ ?_
    · -- r38
     first | trivial | assumption | (simp only [sigFind, findPost, List.cons.injEq, DV.b.injEq, and_true, List.length_take, List.take_length, List.take_take, Nat.min_self, List.length_drop, List.drop_zero, List.length_cons, List.length_nil]; done) | ((try simp only [sigFind, findPost, List.cons.injEq, DV.b.injEq, and_true, List.length_take, List.take_length, List.take_take, Nat.min_self, List.length_drop, List.drop_zero, List.length_cons, List.length_nil]); first | omega | assumption | grind)
    refine all_i fun n15 => ?_
    refine imp_i fun h37 => ?_
    refine imp_i fun h38 => ?_
    refine all_i fun n16 => ?_
    refine imp_i fun h39 => ?_
    refine imp_i fun h40 => ?_
    refine all_i fun n17 => ?_
    refine imp_i fun h41 => ?_
    refine imp_i fun h42 => ?_
    refine imp_i fun h43 => ?_
    try simp only [Int.toNat_natCast, List.length_set, List.length_replicate, List.length_take, List.length_drop, List.length_append, List.length_cons, List.length_nil, Nat.min_self, List.take_take, lenCols_i, lenCols_b, List.drop_zero, List.take_length, Nat.add_eq, Nat.mul_eq, Nat.sub_eq, Nat.zero_add, Nat.sub_zero, Nat.mul_one] at h43
    obtain ⟨q1, q2, q3⟩ := find_fun h36 h43
    refine bR_dec (fun h44 => ?_) (fun h44 => ?_)
    ·
     refine bR_dec (fun h45 => ?_) (fun h45 => ?_)
     ·
      refine bR_dec (fun h46 => ?_) (fun h46 => ?_)
      ·
       refine req_i ?_ ?_
       · -- r39
        first | omega | assumption | grind
       refine all_i fun b18 => ?_
       refine imp_i fun h47 => ?_
       try simp only [sigTrue0, List.cons.injEq, DV.b.injEq, and_true, List.length_cons, List.length_nil] at h47
       refine req_i ?_ ?_
       · -- r40
        first | omega | ((try simp only [sigNF, List.cons.injEq, DV.b.injEq, and_true, List.length_cons, List.length_nil]); first | done | omega | assumption | grind [getD_set, getD_rep, toNat_succ, cntN_yes, cntN_no])
       rfl
      ·
       refine req_i ?_ ?_
       · -- r41
        first | omega | ((try simp only [sigNF, List.cons.injEq, DV.b.injEq, and_true, List.length_cons, List.length_nil]); first | done | omega | assumption | grind [getD_set, getD_rep, toNat_succ, cntN_yes, cntN_no])
       rfl
     ·
      refine req_i ?_ ?_
      · -- r42
       first | omega | ((try simp only [sigNF, List.cons.injEq, DV.b.injEq, and_true, List.length_cons, List.length_nil]); first | done | omega | assumption | grind [getD_set, getD_rep, toNat_succ, cntN_yes, cntN_no])
      rfl
    ·
     refine req_i ?_ ?_
     · -- r43
      first | omega | ((try simp only [sigNF, List.cons.injEq, DV.b.injEq, and_true, List.length_cons, List.length_nil]); first | done | omega | assumption | grind [getD_set, getD_rep, toNat_succ, cntN_yes, cntN_no])
     rfl
theorem ext_GoldFinds : ∀ p ∈ ([(18, Ext.ctr (ctOf sigFind)), (29, Ext.ctr (ctOf sigFind)), (20, Ext.ctr (ctOf sigTrue0))] : List (Nat × Ext)), ExtRow Try.prog p.1 p.2 := by
  intro p hp
  simp only [List.mem_cons, List.not_mem_nil, or_false] at hp
  rcases hp with rfl | rfl | rfl
  · trivial
  · trivial
  · trivial
theorem cts_GoldFinds : CtsOk Try.prog [(18, Ext.ctr (ctOf sigFind)), (29, Ext.ctr (ctOf sigFind)), (20, Ext.ctr (ctOf sigTrue0))] := ctsOk_of (cs := [(18, sigFind), (29, sigFind), (20, sigTrue0)])
  (fun p hp => by
    simp only [List.mem_cons, List.not_mem_nil, or_false] at hp
    rcases hp with rfl | rfl | rfl
    · exact fn_find
    · exact fn_findR
    · exact fn_awake
)
  (fun f c h => by
    simp only [List.lookup_cons] at h
    repeat' split at h
    all_goals first | (cases h; done) | (rename_i e; have e := beq_iff_eq.1 e; subst e; cases h; refine ⟨_, ?_, rfl⟩; simp))
theorem fn_GoldFinds : FnOk Try.prog 6 sigNF [] := fn_sound (by kernel_rfl) ext_GoldFinds cts_GoldFinds names vt_GoldFinds
end Go.Proofs.Ytpmlodchbgfmeaa

