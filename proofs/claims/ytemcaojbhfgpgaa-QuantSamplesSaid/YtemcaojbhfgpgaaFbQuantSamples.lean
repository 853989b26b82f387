import Derived.Test.YtemcaojbhfgpgaaSpec13e
import Derived.Test.YtemcaojbhfgpgaaRows
import Derived.Test.YtemcaojbhfgpgaaFaQuantSamples
namespace Go.Proofs.Ytemcaojbhfgpgaa
open Go.Ev Go.Sp
set_option maxRecDepth 100000
theorem vc_restR : vcFn Try.prog [(22, Ext.ctr (ctOf sigChkG)), (45, Ext.ctr (ctOf sigGr))] tabR [] 100 25 sigRest = (allB fun l0 : List Int => 
impB (l0.length ≤ (300 : Nat)) (
impB (∀ (y : Int), y ∈ l0 → (-9223372036854775808 : Int) ≤ y ∧ y ≤ (9223372036854775807 : Int)) (
allB fun l1 : List Int => 
impB (l1.length = l0.length) (
impB (∀ (y : Int), y ∈ l1 → (-9223372036854775808 : Int) ≤ y ∧ y ≤ (9223372036854775807 : Int)) (
allB fun n2 : Int => 
impB ((-9223372036854775808 : Int) ≤ n2) (
impB (n2 ≤ (9223372036854775807 : Int)) (
allB fun n3 : Int => 
impB ((-9223372036854775808 : Int) ≤ n3) (
impB (n3 ≤ (9223372036854775807 : Int)) (
impB (sigRest.pre [DV.l l0, DV.l l1, DV.n n2, DV.n n3]) (
reqB ((-9223372036854775808 : Int) ≤ n2) (
reqB (n2 ≤ (9223372036854775807 : Int)) (
reqB ((-9223372036854775808 : Int) ≤ n3) (
reqB (n3 ≤ (9223372036854775807 : Int)) (
reqB (sigChkG.pre [DV.n n2, DV.n n3]) (
allB fun n4 : Int => 
impB ((0 : Int) ≤ n4) (
impB (n4 ≤ (18 : Int)) (
impB (sigChkG.post [DV.n n2, DV.n n3] [DV.n n4]) (
bR (dec (n4 ≠ (0 : Int))) (
 reqB ((0 : Int) ≤ n4) (
 reqB (n4 ≤ (18 : Int)) (
 reqB (sigRest.post [DV.l l0, DV.l l1, DV.n n2, DV.n n3]
  [DV.l [], DV.l [], DV.n n4]) (
 true)))) (
 reqB ((2 : Int) ≤ n2) (
 reqB (n2 ≤ (8 : Int)) (
 reqB ((0 : Int) ≤ n3) (
 reqB (n3 ≤ (30 : Int)) (
 reqB (sigGr.pre [DV.n n2, DV.n n3]) (
 allB fun n5 : Int => 
 impB ((1 : Int) ≤ n5) (
 impB (n5 ≤ (127 : Int)) (
 impB (sigGr.post [DV.n n2, DV.n n3] [DV.n n5]) (
 reqB ((↑l0.length : Int).toNat ≤ (↑l0.length : Int).toNat) (
 reqB ((↑l0.length : Int).toNat ≤ (1000000 : Nat)) (
 reqB (((0 : Nat) + l0.length) * (2 : Nat) ≤ l0.length.mul (2 : Nat)) (
 reqB (l0.length ≤ (300 : Nat)) (
 reqB ((List.take l0.length (List.drop (0 : Nat) l0)).length = l0.length) (
 reqB (∀ (y : Int),
  y ∈ List.take l0.length (List.drop (0 : Nat) l0) → (-9223372036854775808 : Int) ≤ y ∧ y ≤ (9223372036854775807 : Int)) (
 reqB ((List.take l0.length (List.drop (0 : Nat) l1)).length = l0.length) (
 reqB (∀ (y : Int),
  y ∈ List.take l0.length (List.drop (0 : Nat) l1) → (-9223372036854775808 : Int) ≤ y ∧ y ≤ (9223372036854775807 : Int)) (
 reqB ((-9223372036854775808 : Int) ≤ n2) (
 reqB (n2 ≤ (9223372036854775807 : Int)) (
 reqB ((-9223372036854775808 : Int) ≤ n3) (
 reqB (n3 ≤ (9223372036854775807 : Int)) (
 reqB ((1 : Int) ≤ n5) (
 reqB (n5 ≤ (127 : Int)) (
 reqB (lenCols
    [Col.i Go.IntKind.i64 (Int.negSucc (9223372036854775807 : Nat)) (Int.ofNat (9223372036854775807 : Nat))
        (List.replicate (↑l0.length : Int).toNat (0 : Int)),
      Col.i Go.IntKind.i64 (Int.negSucc (9223372036854775807 : Nat)) (Int.ofNat (9223372036854775807 : Nat))
        (List.replicate (↑l0.length : Int).toNat (0 : Int))] ≤
  (300 : Nat)) (
 reqB ((List.replicate (↑l0.length : Int).toNat (0 : Int)).length =
  lenCols
    [Col.i Go.IntKind.i64 (Int.negSucc (9223372036854775807 : Nat)) (Int.ofNat (9223372036854775807 : Nat))
        (List.replicate (↑l0.length : Int).toNat (0 : Int)),
      Col.i Go.IntKind.i64 (Int.negSucc (9223372036854775807 : Nat)) (Int.ofNat (9223372036854775807 : Nat))
        (List.replicate (↑l0.length : Int).toNat (0 : Int))]) (
 reqB (∀ (y : Int),
  y ∈ List.replicate (↑l0.length : Int).toNat (0 : Int) →
    (-9223372036854775808 : Int) ≤ y ∧ y ≤ (9223372036854775807 : Int)) (
 reqB ((List.replicate (↑l0.length : Int).toNat (0 : Int)).length =
  lenCols
    [Col.i Go.IntKind.i64 (Int.negSucc (9223372036854775807 : Nat)) (Int.ofNat (9223372036854775807 : Nat))
        (List.replicate (↑l0.length : Int).toNat (0 : Int)),
      Col.i Go.IntKind.i64 (Int.negSucc (9223372036854775807 : Nat)) (Int.ofNat (9223372036854775807 : Nat))
        (List.replicate (↑l0.length : Int).toNat (0 : Int))]) (
 reqB (∀ (y : Int),
  y ∈ List.replicate (↑l0.length : Int).toNat (0 : Int) →
    (-9223372036854775808 : Int) ≤ y ∧ y ≤ (9223372036854775807 : Int)) (
 reqB ((rmapL (2 : Nat) (3 : Nat)).inv
  [DV.l (List.take l0.length (List.drop (0 : Nat) l0)), DV.l (List.take l0.length (List.drop (0 : Nat) l1)),
    DV.n n2, DV.n n3, DV.n n5]
  [DV.n (0 : Int), DV.l (List.replicate (↑l0.length : Int).toNat (0 : Int)),
    DV.l (List.replicate (↑l0.length : Int).toNat (0 : Int))]) (
 allB fun n6 : Int => 
 impB ((0 : Int) ≤ n6) (
 impB (n6 ≤ (300 : Int)) (
 allB fun l7 : List Int => 
 impB (l7.length ≤ (300 : Nat)) (
 impB (∀ (y : Int), y ∈ l7 → (-9223372036854775808 : Int) ≤ y ∧ y ≤ (9223372036854775807 : Int)) (
 allB fun l8 : List Int => 
 impB (l8.length = l7.length) (
 impB (∀ (y : Int), y ∈ l8 → (-9223372036854775808 : Int) ≤ y ∧ y ≤ (9223372036854775807 : Int)) (
 impB ((rmapL (2 : Nat) (3 : Nat)).inv
  [DV.l (List.take l0.length (List.drop (0 : Nat) l0)), DV.l (List.take l0.length (List.drop (0 : Nat) l1)),
    DV.n n2, DV.n n3, DV.n n5]
  [DV.n n6, DV.l l7, DV.l l8]) (
 bR (dec (n6 < (↑l0.length : Int))) (
  reqB (n6.toNat < l0.length) (
  reqB (Nat.add (0 : Nat) n6.toNat < l0.length) (
  bR (dec (l0.getD (Nat.add (0 : Nat) n6.toNat) (0 : Int) < (0 : Int) - n5)) (
   reqB (sigRest.post [DV.l l0, DV.l l1, DV.n n2, DV.n n3]
  [DV.l [], DV.l [], DV.n (2 : Int)]) (
   true)) (
   reqB (n6.toNat < l0.length) (
   reqB (Nat.add (0 : Nat) n6.toNat < l0.length) (
   bR (dec (n5 < l0.getD (Nat.add (0 : Nat) n6.toNat) (0 : Int))) (
    reqB (sigRest.post [DV.l l0, DV.l l1, DV.n n2, DV.n n3]
  [DV.l [], DV.l [], DV.n (2 : Int)]) (
    true)) (
    reqB (n6.toNat < l0.length) (
    reqB (Nat.add (0 : Nat) n6.toNat < l1.length) (
    bR (dec (l1.getD (Nat.add (0 : Nat) n6.toNat) (0 : Int) < (0 : Int) - n5)) (
     reqB (sigRest.post [DV.l l0, DV.l l1, DV.n n2, DV.n n3]
  [DV.l [], DV.l [], DV.n (2 : Int)]) (
     true)) (
     reqB (n6.toNat < l0.length) (
     reqB (Nat.add (0 : Nat) n6.toNat < l1.length) (
     bR (dec (n5 < l1.getD (Nat.add (0 : Nat) n6.toNat) (0 : Int))) (
      reqB (sigRest.post [DV.l l0, DV.l l1, DV.n n2, DV.n n3]
  [DV.l [], DV.l [], DV.n (2 : Int)]) (
      true)) (
      reqB (n6.toNat < l0.length) (
      reqB (Nat.add (0 : Nat) n6.toNat < l0.length) (
      reqB ((0 : Int) ≤ n3) (
      reqB (n6.toNat < l0.length) (
      reqB (Nat.add (0 : Nat) n6.toNat < l1.length) (
      reqB ((0 : Int) ≤ n3) (
      reqB (n6.toNat < (↑l0.length : Int).toNat) (
      reqB (Nat.add (0 : Nat) n6.toNat < l7.length) (
      reqB (Nat.add (0 : Nat) n6.toNat < l8.length) (
      bR (bR (bR (dec ((0 : Nat) = (0 : Nat))) (
       dec (l0.length = l0.length)) (
       false)) (
       bR (dec (n5 = n5)) (
        bR (bR (dec ((0 : Nat) = (0 : Nat))) (
         dec ((↑l0.length : Int).toNat = (↑l0.length : Int).toNat)) (
         false)) (
         true) (
         false)) (
        false)) (
       false)) (
       bR (bR (bR (dec (n2 = n2)) (
        bR (dec (n3 = n3)) (
         true) (
         false)) (
        false)) (
        true) (
        false)) (
        reqB ((0 : Int) ≤ n6 + (1 : Int)) (
        reqB (n6 + (1 : Int) ≤ (300 : Int)) (
        reqB (lenCols
    [Col.i Go.IntKind.i64 (-9223372036854775808 : Int) (9223372036854775807 : Int)
        (l7.set (Nat.add (0 : Nat) n6.toNat)
          (opI (SO.shl Go.IntKind.i64) (l0.getD (Nat.add (0 : Nat) n6.toNat) (0 : Int)) n3)),
      Col.i Go.IntKind.i64 (-9223372036854775808 : Int) (9223372036854775807 : Int)
        (l8.set (Nat.add (0 : Nat) n6.toNat)
          (opI (SO.shl Go.IntKind.i64) (l1.getD (Nat.add (0 : Nat) n6.toNat) (0 : Int)) n3))] ≤
  (300 : Nat)) (
        reqB ((l7.set (Nat.add (0 : Nat) n6.toNat)
      (opI (SO.shl Go.IntKind.i64) (l0.getD (Nat.add (0 : Nat) n6.toNat) (0 : Int)) n3)).length =
  lenCols
    [Col.i Go.IntKind.i64 (-9223372036854775808 : Int) (9223372036854775807 : Int)
        (l7.set (Nat.add (0 : Nat) n6.toNat)
          (opI (SO.shl Go.IntKind.i64) (l0.getD (Nat.add (0 : Nat) n6.toNat) (0 : Int)) n3)),
      Col.i Go.IntKind.i64 (-9223372036854775808 : Int) (9223372036854775807 : Int)
        (l8.set (Nat.add (0 : Nat) n6.toNat)
          (opI (SO.shl Go.IntKind.i64) (l1.getD (Nat.add (0 : Nat) n6.toNat) (0 : Int)) n3))]) (
        reqB (∀ (y : Int),
  y ∈
      l7.set (Nat.add (0 : Nat) n6.toNat)
        (opI (SO.shl Go.IntKind.i64) (l0.getD (Nat.add (0 : Nat) n6.toNat) (0 : Int)) n3) →
    (-9223372036854775808 : Int) ≤ y ∧ y ≤ (9223372036854775807 : Int)) (
        reqB ((l8.set (Nat.add (0 : Nat) n6.toNat)
      (opI (SO.shl Go.IntKind.i64) (l1.getD (Nat.add (0 : Nat) n6.toNat) (0 : Int)) n3)).length =
  lenCols
    [Col.i Go.IntKind.i64 (-9223372036854775808 : Int) (9223372036854775807 : Int)
        (l7.set (Nat.add (0 : Nat) n6.toNat)
          (opI (SO.shl Go.IntKind.i64) (l0.getD (Nat.add (0 : Nat) n6.toNat) (0 : Int)) n3)),
      Col.i Go.IntKind.i64 (-9223372036854775808 : Int) (9223372036854775807 : Int)
        (l8.set (Nat.add (0 : Nat) n6.toNat)
          (opI (SO.shl Go.IntKind.i64) (l1.getD (Nat.add (0 : Nat) n6.toNat) (0 : Int)) n3))]) (
        reqB (∀ (y : Int),
  y ∈
      l8.set (Nat.add (0 : Nat) n6.toNat)
        (opI (SO.shl Go.IntKind.i64) (l1.getD (Nat.add (0 : Nat) n6.toNat) (0 : Int)) n3) →
    (-9223372036854775808 : Int) ≤ y ∧ y ≤ (9223372036854775807 : Int)) (
        reqB ((rmapL (2 : Nat) (3 : Nat)).inv
  [DV.l (List.take l0.length (List.drop (0 : Nat) l0)), DV.l (List.take l0.length (List.drop (0 : Nat) l1)),
    DV.n n2, DV.n n3, DV.n n5]
  [DV.n (n6 + (1 : Int)),
    DV.l
      (l7.set (Nat.add (0 : Nat) n6.toNat)
        (opI (SO.shl Go.IntKind.i64) (l0.getD (Nat.add (0 : Nat) n6.toNat) (0 : Int)) n3)),
    DV.l
      (l8.set (Nat.add (0 : Nat) n6.toNat)
        (opI (SO.shl Go.IntKind.i64) (l1.getD (Nat.add (0 : Nat) n6.toNat) (0 : Int)) n3))]) (
        reqB ((rmapL (2 : Nat) (3 : Nat)).mea
    [DV.l (List.take l0.length (List.drop (0 : Nat) l0)),
      DV.l (List.take l0.length (List.drop (0 : Nat) l1)), DV.n n2, DV.n n3, DV.n n5]
    [DV.n (n6 + (1 : Int)),
      DV.l
        (l7.set (Nat.add (0 : Nat) n6.toNat)
          (opI (SO.shl Go.IntKind.i64) (l0.getD (Nat.add (0 : Nat) n6.toNat) (0 : Int)) n3)),
      DV.l
        (l8.set (Nat.add (0 : Nat) n6.toNat)
          (opI (SO.shl Go.IntKind.i64) (l1.getD (Nat.add (0 : Nat) n6.toNat) (0 : Int)) n3))] <
  (rmapL (2 : Nat) (3 : Nat)).mea
    [DV.l (List.take l0.length (List.drop (0 : Nat) l0)),
      DV.l (List.take l0.length (List.drop (0 : Nat) l1)), DV.n n2, DV.n n3, DV.n n5]
    [DV.n n6, DV.l l7, DV.l l8]) (
        true)))))))))) (
        false)) (
       false))))))))))))))))))))))) (
  reqB (((0 : Nat) + (↑l0.length : Int).toNat) * (2 : Nat) ≤ l7.length.mul (2 : Nat)) (
  reqB ((↑l0.length : Int).toNat ≤ (300 : Nat)) (
  reqB ((List.take (↑l0.length : Int).toNat (List.drop (0 : Nat) l7)).length = (↑l0.length : Int).toNat) (
  reqB (∀ (y : Int),
  y ∈ List.take (↑l0.length : Int).toNat (List.drop (0 : Nat) l7) →
    (-9223372036854775808 : Int) ≤ y ∧ y ≤ (9223372036854775807 : Int)) (
  reqB ((List.take (↑l0.length : Int).toNat (List.drop (0 : Nat) l8)).length = (↑l0.length : Int).toNat) (
  reqB (∀ (y : Int),
  y ∈ List.take (↑l0.length : Int).toNat (List.drop (0 : Nat) l8) →
    (-9223372036854775808 : Int) ≤ y ∧ y ≤ (9223372036854775807 : Int)) (
  reqB (sigRest.post [DV.l l0, DV.l l1, DV.n n2, DV.n n3]
  [DV.l (List.take (↑l0.length : Int).toNat (List.drop (0 : Nat) l7)),
    DV.l (List.take (↑l0.length : Int).toNat (List.drop (0 : Nat) l8)), DV.n (0 : Int)]) (
  true)))))))))))))))))))))))))))))))))))))))))))))))))))))))))))))) := by kernel_rfl
set_option maxHeartbeats 8000000 in
theorem vt_restR : vcFn Try.prog [(22, Ext.ctr (ctOf sigChkG)), (45, Ext.ctr (ctOf sigGr))] tabR [] 100 25 sigRest = true := by
  rw [vc_restR]
  try simp only [Int.toNat_natCast, List.length_set, List.length_replicate, List.length_take, List.length_drop, List.length_append, List.length_cons, List.length_nil, Nat.min_self, List.take_take, lenCols_i, lenCols_b, List.drop_zero, List.take_length, Nat.add_eq, Nat.mul_eq, Nat.sub_eq, Nat.zero_add, Nat.sub_zero, Nat.mul_one]
  refine all_i fun l0 => ?_
  refine imp_i fun h0 => ?_
  refine imp_i fun h1 => ?_
  refine all_i fun l1 => ?_
  refine imp_i fun h2 => ?_
  have tkl1 := take_eq h2
  try simp only [tkl1]
  refine imp_i fun h3 => ?_
  refine all_i fun n2 => ?_
  refine imp_i fun h4 => ?_
  refine imp_i fun h5 => ?_
  refine all_i fun n3 => ?_
  refine imp_i fun h6 => ?_
  refine imp_i fun h7 => ?_
  refine imp_i fun h8 => ?_
  try simp only [sigRest, restPost, List.cons.injEq, DV.b.injEq, and_true, List.length_cons, List.length_nil] at h8
  refine req_i ?_ ?_
  · -- r0
    first | omega | assumption | grind
  refine req_i ?_ ?_
  · -- r1
    first | omega | assumption | grind
  refine req_i ?_ ?_
  · -- r2
    first | omega | assumption | grind
  refine req_i ?_ ?_
  · -- r3
    first | omega | assumption | grind
  refine req_i ?_ ?_
  · -- r4
    first | trivial | assumption | (simp only [sigChkG, chkGPost, List.cons.injEq, DV.b.injEq, and_true, List.length_cons, List.length_nil]; done) | ((try simp only [sigChkG, chkGPost, List.cons.injEq, DV.b.injEq, and_true, List.length_cons, List.length_nil]); first | omega | assumption | grind)
  refine all_i fun n4 => ?_
  refine imp_i fun h9 => ?_
  refine imp_i fun h10 => ?_
  refine imp_i fun h11 => ?_
  try simp only [sigChkG, chkGPost, List.cons.injEq, DV.b.injEq, and_true, List.length_cons, List.length_nil] at h11
  refine bR_dec (fun h12 => ?_) (fun h12 => ?_)
  ·
    have er : errR n2 n3 l0 l1 = n4 := by rw [errR, if_neg (by omega)]; exact h11.symm
    refine req_i ?_ ?_
    · -- r5
      first | omega | assumption | grind
    refine req_i ?_ ?_
    · -- r6
      first | omega | assumption | grind
    refine req_i ?_ ?_
    · -- r7
      first | omega | ((try simp only [sigRest, restPost, List.cons.injEq, DV.b.injEq, and_true, List.length_cons, List.length_nil]); first | done | omega | assumption | grind [getD_set, getD_rep, toNat_succ, cntN_yes, cntN_no])
    rfl
  ·
    have G := errG_ok (b := n2) (n := n3) (by omega)
    refine req_i ?_ ?_
    · -- r8
      first | omega | assumption | grind
    refine req_i ?_ ?_
    · -- r9
      first | omega | assumption | grind
    refine req_i ?_ ?_
    · -- r10
      first | omega | assumption | grind
    refine req_i ?_ ?_
    · -- r11
      first | omega | assumption | grind
    refine req_i ?_ ?_
    · -- r12
      first | trivial | assumption | (simp only [sigGr, grPost, List.cons.injEq, DV.b.injEq, and_true, List.length_cons, List.length_nil]; done) | ((try simp only [sigGr, grPost, List.cons.injEq, DV.b.injEq, and_true, List.length_cons, List.length_nil]); first | omega | assumption | grind)
    refine all_i fun n5 => ?_
    refine imp_i fun h13 => ?_
    refine imp_i fun h14 => ?_
    refine imp_i fun h15 => ?_
    try simp only [sigGr, grPost, List.cons.injEq, DV.b.injEq, and_true, List.length_cons, List.length_nil] at h15
    have ql := qq_bd (b := n2) (by omega) (by omega)
    refine req_i ?_ ?_
    · -- r13
      first | omega | ((try simp only [Int.toNat_natCast, List.length_cons, List.length_nil]); first | done | omega | assumption | grind [getD_set, getD_rep, toNat_succ, cntN_yes, cntN_no])
    refine req_i ?_ ?_
    · -- r14
      first | omega | ((try simp only [Int.toNat_natCast, List.length_cons, List.length_nil]); first | done | omega | assumption | grind [getD_set, getD_rep, toNat_succ, cntN_yes, cntN_no])
    refine req_i ?_ ?_
    · -- r15
      first | omega | ((try simp only [Nat.mul_eq]); first | done | omega | assumption | grind [getD_set, getD_rep, toNat_succ, cntN_yes, cntN_no])
    refine req_i ?_ ?_
    · -- r16
      first | omega | ((try simp only [Nat.zero_add]); first | done | omega | assumption | grind [getD_set, getD_rep, toNat_succ, cntN_yes, cntN_no])
    refine req_i ?_ ?_
    · -- r17
      first | omega | ((try simp only [List.length_take, List.take_length, List.take_take, Nat.min_self, List.length_drop, List.drop_zero, List.length_cons, List.length_nil]); first | done | omega | assumption | grind [getD_set, getD_rep, toNat_succ, cntN_yes, cntN_no])
    refine req_i ?_ ?_
    · -- r18
      first | assumption | exact rep_bd (by omega) (by omega) | exact set_bd (by assumption) (by omega) (by omega) | exact take_bd (by assumption) | ((try simp only [List.length_take, List.take_length, List.take_take, Nat.min_self, List.length_drop, List.drop_zero, List.length_cons, List.length_nil]); first | assumption | exact rep_bd (by omega) (by omega) | exact set_bd (by assumption) (by omega) (by omega) | exact take_bd (by assumption) | grind [getD_set, getD_rep, toNat_succ, cntN_yes, cntN_no])
    refine req_i ?_ ?_
    · -- r19
      first | omega | ((try simp only [List.length_take, List.take_length, List.take_take, Nat.min_self, List.length_drop, List.drop_zero, List.length_cons, List.length_nil]); first | done | omega | assumption | grind [getD_set, getD_rep, toNat_succ, cntN_yes, cntN_no])
    refine req_i ?_ ?_
    · -- r20
      first | assumption | exact rep_bd (by omega) (by omega) | exact set_bd (by assumption) (by omega) (by omega) | exact take_bd (by assumption) | ((try simp only [List.length_take, List.take_length, List.take_take, Nat.min_self, List.length_drop, List.drop_zero, List.length_cons, List.length_nil]); first | assumption | exact rep_bd (by omega) (by omega) | exact set_bd (by assumption) (by omega) (by omega) | exact take_bd (by assumption) | grind [getD_set, getD_rep, toNat_succ, cntN_yes, cntN_no])
    refine req_i ?_ ?_
    · -- r21
      first | omega | assumption | grind
    refine req_i ?_ ?_
    · -- r22
      first | omega | assumption | grind
    refine req_i ?_ ?_
    · -- r23
      first | omega | assumption | grind
    refine req_i ?_ ?_
    · -- r24
      first | omega | assumption | grind
    refine req_i ?_ ?_
    · -- r25
      first | omega | assumption | grind
    refine req_i ?_ ?_
    · -- r26
      first | omega | assumption | grind
    refine req_i ?_ ?_
    · -- r27
      first | omega | ((try simp only [Int.toNat_natCast, List.length_replicate, List.length_cons, List.length_nil, lenCols_i, lenCols_b]); first | done | omega | assumption | grind [getD_set, getD_rep, toNat_succ, cntN_yes, cntN_no])
    refine req_i ?_ ?_
    · -- r28
      first | omega | ((try simp only [Int.toNat_natCast, List.length_replicate, List.length_cons, List.length_nil, lenCols_i, lenCols_b]); first | done | omega | assumption | grind [getD_set, getD_rep, toNat_succ, cntN_yes, cntN_no])
    refine req_i ?_ ?_
    · -- r29
      first | assumption | exact rep_bd (by omega) (by omega) | exact set_bd (by assumption) (by omega) (by omega) | exact take_bd (by assumption) | ((try simp only [Int.toNat_natCast, List.length_replicate, List.length_cons, List.length_nil]); first | assumption | exact rep_bd (by omega) (by omega) | exact set_bd (by assumption) (by omega) (by omega) | exact take_bd (by assumption) | grind [getD_set, getD_rep, toNat_succ, cntN_yes, cntN_no])
    refine req_i ?_ ?_
    · -- r30
      first | omega | ((try simp only [Int.toNat_natCast, List.length_replicate, List.length_cons, List.length_nil, lenCols_i, lenCols_b]); first | done | omega | assumption | grind [getD_set, getD_rep, toNat_succ, cntN_yes, cntN_no])
    refine req_i ?_ ?_
    · -- r31
      first | assumption | exact rep_bd (by omega) (by omega) | exact set_bd (by assumption) (by omega) (by omega) | exact take_bd (by assumption) | ((try simp only [Int.toNat_natCast, List.length_replicate, List.length_cons, List.length_nil]); first | assumption | exact rep_bd (by omega) (by omega) | exact set_bd (by assumption) (by omega) (by omega) | exact take_bd (by assumption) | grind [getD_set, getD_rep, toNat_succ, cntN_yes, cntN_no])
    refine req_i ?_ ?_
    · -- r32
      first | omega | ((try simp only [rmapL, rmapInvR, mea0, List.cons.injEq, DV.b.injEq, and_true, Int.toNat_natCast, List.length_replicate, List.length_take, List.take_length, List.take_take, Nat.min_self, List.length_drop, List.drop_zero, List.length_cons, List.length_nil]); first | done | omega | assumption | grind [getD_set, getD_rep, toNat_succ, cntN_yes, cntN_no])
    refine all_i fun n6 => ?_
    refine imp_i fun h16 => ?_
    refine imp_i fun h17 => ?_
    refine all_i fun l7 => ?_
    refine imp_i fun h18 => ?_
    refine imp_i fun h19 => ?_
    refine all_i fun l8 => ?_
    refine imp_i fun h20 => ?_
    have tkl8 := take_eq h20
    try simp only [tkl8]
    refine imp_i fun h21 => ?_
    refine imp_i fun h22 => ?_
    try simp only [rmapL, rmapInvR, mea0, List.cons.injEq, DV.b.injEq, and_true, List.length_take, List.take_length, List.take_take, Nat.min_self, List.length_drop, List.drop_zero, List.length_cons, List.length_nil] at h22
    refine bR_dec (fun h23 => ?_) (fun h23 => ?_)
    ·
      refine req_i ?_ ?_
      · -- r33
        first | omega | ((try simp only [Int.toNat_natCast, List.length_cons, List.length_nil]); first | done | omega | assumption | grind [getD_set, getD_rep, toNat_succ, cntN_yes, cntN_no])
      refine req_i ?_ ?_
      · -- r34
        first | omega | ((try simp only [Int.toNat_natCast, List.length_cons, List.length_nil, Nat.add_eq, Nat.zero_add]); first | done | omega | assumption | grind [getD_set, getD_rep, toNat_succ, cntN_yes, cntN_no])
      refine bR_dec (fun h24 => ?_) (fun h24 => ?_)
      ·
        have er : errR n2 n3 l0 l1 = 2 := by rw [errR, if_pos (by omega), errL_2 (by omega) (fun g => by have := g n6.toNat (by omega); omega)]
        refine req_i ?_ ?_
        · -- r35
          first | omega | ((try simp only [sigRest, restPost, List.cons.injEq, DV.b.injEq, and_true, List.length_cons, List.length_nil]); first | done | omega | assumption | grind [getD_set, getD_rep, toNat_succ, cntN_yes, cntN_no])
        rfl
      ·
        refine req_i ?_ ?_
        · -- r36
          first | omega | ((try simp only [Int.toNat_natCast, List.length_cons, List.length_nil]); first | done | omega | assumption | grind [getD_set, getD_rep, toNat_succ, cntN_yes, cntN_no])
        refine req_i ?_ ?_
        · -- r37
          first | omega | ((try simp only [Int.toNat_natCast, List.length_cons, List.length_nil, Nat.add_eq, Nat.zero_add]); first | done | omega | assumption | grind [getD_set, getD_rep, toNat_succ, cntN_yes, cntN_no])
        refine bR_dec (fun h25 => ?_) (fun h25 => ?_)
        ·
          have er : errR n2 n3 l0 l1 = 2 := by rw [errR, if_pos (by omega), errL_2 (by omega) (fun g => by have := g n6.toNat (by omega); omega)]
          refine req_i ?_ ?_
          · -- r38
            first | omega | ((try simp only [sigRest, restPost, List.cons.injEq, DV.b.injEq, and_true, List.length_cons, List.length_nil]); first | done | omega | assumption | grind [getD_set, getD_rep, toNat_succ, cntN_yes, cntN_no])
          rfl
        ·
          refine req_i ?_ ?_
          · -- r39
            first | omega | ((try simp only [Int.toNat_natCast, List.length_cons, List.length_nil]); first | done | omega | assumption | grind [getD_set, getD_rep, toNat_succ, cntN_yes, cntN_no])
          refine req_i ?_ ?_
          · -- r40
            first | omega | ((try simp only [Int.toNat_natCast, List.length_cons, List.length_nil, Nat.add_eq, Nat.zero_add]); first | done | omega | assumption | grind [getD_set, getD_rep, toNat_succ, cntN_yes, cntN_no])
          refine bR_dec (fun h26 => ?_) (fun h26 => ?_)
          ·
            have er : errR n2 n3 l0 l1 = 2 := by rw [errR, if_pos (by omega), errL_2 (by omega) (fun g => by have := g n6.toNat (by omega); omega)]
            refine req_i ?_ ?_
            · -- r41
              first | omega | ((try simp only [sigRest, restPost, List.cons.injEq, DV.b.injEq, and_true, List.length_cons, List.length_nil]); first | done | omega | assumption | grind [getD_set, getD_rep, toNat_succ, cntN_yes, cntN_no])
            rfl
          ·
            refine req_i ?_ ?_
            · -- r42
              first | omega | ((try simp only [Int.toNat_natCast, List.length_cons, List.length_nil]); first | done | omega | assumption | grind [getD_set, getD_rep, toNat_succ, cntN_yes, cntN_no])
            refine req_i ?_ ?_
            · -- r43
              first | omega | ((try simp only [Int.toNat_natCast, List.length_cons, List.length_nil, Nat.add_eq, Nat.zero_add]); first | done | omega | assumption | grind [getD_set, getD_rep, toNat_succ, cntN_yes, cntN_no])
            refine bR_dec (fun h27 => ?_) (fun h27 => ?_)
            ·
              have er : errR n2 n3 l0 l1 = 2 := by rw [errR, if_pos (by omega), errL_2 (by omega) (fun g => by have := g n6.toNat (by omega); omega)]
              refine req_i ?_ ?_
              · -- r44
                first | omega | ((try simp only [sigRest, restPost, List.cons.injEq, DV.b.injEq, and_true, List.length_cons, List.length_nil]); first | done | omega | assumption | grind [getD_set, getD_rep, toNat_succ, cntN_yes, cntN_no])
              rfl
            ·
              have k1 := rest_bd (x := l0.getD n6.toNat 0) (n := n3) (by omega) (by omega) (by omega) (by omega)
              have k2 := rest_bd (x := l1.getD n6.toNat 0) (n := n3) (by omega) (by omega) (by omega) (by omega)
              simp only [k1.1, k2.1]
              refine req_i ?_ ?_
              · -- r45
                first | omega | ((try simp only [Int.toNat_natCast, List.length_cons, List.length_nil]); first | done | omega | assumption | grind [getD_set, getD_rep, toNat_succ, cntN_yes, cntN_no])
              refine req_i ?_ ?_
              · -- r46
                first | omega | ((try simp only [Int.toNat_natCast, List.length_cons, List.length_nil, Nat.add_eq, Nat.zero_add]); first | done | omega | assumption | grind [getD_set, getD_rep, toNat_succ, cntN_yes, cntN_no])
              refine req_i ?_ ?_
              · -- r47
                first | omega | assumption | grind
              refine req_i ?_ ?_
              · -- r48
                first | omega | ((try simp only [Int.toNat_natCast, List.length_cons, List.length_nil]); first | done | omega | assumption | grind [getD_set, getD_rep, toNat_succ, cntN_yes, cntN_no])
              refine req_i ?_ ?_
              · -- r49
                first | omega | ((try simp only [Int.toNat_natCast, List.length_cons, List.length_nil, Nat.add_eq, Nat.zero_add]); first | done | omega | assumption | grind [getD_set, getD_rep, toNat_succ, cntN_yes, cntN_no])
              refine req_i ?_ ?_
              · -- r50
                first | omega | assumption | grind
              refine req_i ?_ ?_
              · -- r51
                first | omega | ((try simp only [Int.toNat_natCast, List.length_cons, List.length_nil]); first | done | omega | assumption | grind [getD_set, getD_rep, toNat_succ, cntN_yes, cntN_no])
              refine req_i ?_ ?_
              · -- r52
                first | omega | ((try simp only [Int.toNat_natCast, List.length_cons, List.length_nil, Nat.add_eq, Nat.zero_add]); first | done | omega | assumption | grind [getD_set, getD_rep, toNat_succ, cntN_yes, cntN_no])
              refine req_i ?_ ?_
              · -- r53
                first | omega | ((try simp only [Int.toNat_natCast, List.length_cons, List.length_nil, Nat.add_eq, Nat.zero_add]); first | done | omega | assumption | grind [getD_set, getD_rep, toNat_succ, cntN_yes, cntN_no])
              refine bR_t ?_ ?_
              · -- g0
                first | rfl | (simp only [bR_iff, bR_iff_f, dec_iff, dec_f, beqB_iff', andB_iff', reduceCtorEq, imp_self, false_implies, and_true, true_and, implies_true, and_self]; done) | (simp [bR_iff, dec_iff, beqB_iff', andB_iff']; done) | (simp [bR_iff, dec_iff, beqB_iff', andB_iff']; omega)
              refine bR_t ?_ ?_
              · -- g1
                first | rfl | (simp only [bR_iff, bR_iff_f, dec_iff, dec_f, beqB_iff', andB_iff', reduceCtorEq, imp_self, false_implies, and_true, true_and, implies_true, and_self]; done) | (simp [bR_iff, dec_iff, beqB_iff', andB_iff']; done) | (simp [bR_iff, dec_iff, beqB_iff', andB_iff']; omega)
              refine req_i ?_ ?_
              · -- r54
                first | omega | assumption | grind
              refine req_i ?_ ?_
              · -- r55
                first | omega | assumption | grind
              refine req_i ?_ ?_
              · -- r56
                first | omega | ((try simp only [Int.toNat_natCast, List.length_set, List.length_cons, List.length_nil, lenCols_i, lenCols_b, Nat.add_eq, Nat.zero_add]); first | done | omega | assumption | grind [getD_set, getD_rep, toNat_succ, cntN_yes, cntN_no])
              refine req_i ?_ ?_
              · -- r57
                first | omega | ((try simp only [Int.toNat_natCast, List.length_set, List.length_cons, List.length_nil, lenCols_i, lenCols_b, Nat.add_eq, Nat.zero_add]); first | done | omega | assumption | grind [getD_set, getD_rep, toNat_succ, cntN_yes, cntN_no])
              refine req_i ?_ ?_
              · -- r58
                first | assumption | exact rep_bd (by omega) (by omega) | exact set_bd (by assumption) (by omega) (by omega) | exact take_bd (by assumption) | ((try simp only [Int.toNat_natCast, List.length_set, List.length_cons, List.length_nil, Nat.add_eq, Nat.zero_add]); first | assumption | exact rep_bd (by omega) (by omega) | exact set_bd (by assumption) (by omega) (by omega) | exact take_bd (by assumption) | grind [getD_set, getD_rep, toNat_succ, cntN_yes, cntN_no])
              refine req_i ?_ ?_
              · -- r59
                first | omega | ((try simp only [Int.toNat_natCast, List.length_set, List.length_cons, List.length_nil, lenCols_i, lenCols_b, Nat.add_eq, Nat.zero_add]); first | done | omega | assumption | grind [getD_set, getD_rep, toNat_succ, cntN_yes, cntN_no])
              refine req_i ?_ ?_
              · -- r60
                first | assumption | exact rep_bd (by omega) (by omega) | exact set_bd (by assumption) (by omega) (by omega) | exact take_bd (by assumption) | ((try simp only [Int.toNat_natCast, List.length_set, List.length_cons, List.length_nil, Nat.add_eq, Nat.zero_add]); first | assumption | exact rep_bd (by omega) (by omega) | exact set_bd (by assumption) (by omega) (by omega) | exact take_bd (by assumption) | grind [getD_set, getD_rep, toNat_succ, cntN_yes, cntN_no])
              refine req_i ?_ ?_
              · -- r61
                first | omega | ((try simp only [rmapL, rmapInvR, mea0, List.cons.injEq, DV.b.injEq, and_true, Int.toNat_natCast, List.length_set, List.length_take, List.take_length, List.take_take, Nat.min_self, List.length_drop, List.drop_zero, List.length_cons, List.length_nil, Nat.add_eq, Nat.zero_add]); first | done | omega | assumption | grind [getD_set, getD_rep, toNat_succ, cntN_yes, cntN_no])
              refine req_i ?_ ?_
              · -- r62
                first | omega | ((try simp only [rmapL, rmapInvR, mea0, List.cons.injEq, DV.b.injEq, and_true, Int.toNat_natCast, List.length_set, List.length_take, List.take_length, List.take_take, Nat.min_self, List.length_drop, List.drop_zero, List.length_cons, List.length_nil, Nat.add_eq, Nat.zero_add]); first | done | omega | assumption | grind [getD_set, getD_rep, toNat_succ, cntN_yes, cntN_no])
              rfl
    ·
      have er : errR n2 n3 l0 l1 = 0 := by rw [errR, if_pos (by omega), errL_0 (by omega) (fun j hj => by rw [← h15]; exact h22.2.2.2.2 j (by omega))]
      refine req_i ?_ ?_
      · -- r63
        first | omega | ((try simp only [Int.toNat_natCast, List.length_cons, List.length_nil, Nat.mul_eq]); first | done | omega | assumption | grind [getD_set, getD_rep, toNat_succ, cntN_yes, cntN_no])
      refine req_i ?_ ?_
      · -- r64
        first | omega | ((try simp only [Int.toNat_natCast, List.length_cons, List.length_nil]); first | done | omega | assumption | grind [getD_set, getD_rep, toNat_succ, cntN_yes, cntN_no])
      refine req_i ?_ ?_
      · -- r65
        first | omega | ((try simp only [Int.toNat_natCast, List.length_take, List.take_length, List.take_take, Nat.min_self, List.length_drop, List.drop_zero, List.length_cons, List.length_nil]); first | done | omega | assumption | grind [getD_set, getD_rep, toNat_succ, cntN_yes, cntN_no])
      refine req_i ?_ ?_
      · -- r66
        first | assumption | exact rep_bd (by omega) (by omega) | exact set_bd (by assumption) (by omega) (by omega) | exact take_bd (by assumption) | ((try simp only [Int.toNat_natCast, List.length_take, List.take_length, List.take_take, Nat.min_self, List.length_drop, List.drop_zero, List.length_cons, List.length_nil]); first | assumption | exact rep_bd (by omega) (by omega) | exact set_bd (by assumption) (by omega) (by omega) | exact take_bd (by assumption) | grind [getD_set, getD_rep, toNat_succ, cntN_yes, cntN_no])
      refine req_i ?_ ?_
      · -- r67
        first | omega | ((try simp only [Int.toNat_natCast, List.length_take, List.take_length, List.take_take, Nat.min_self, List.length_drop, List.drop_zero, List.length_cons, List.length_nil]); first | done | omega | assumption | grind [getD_set, getD_rep, toNat_succ, cntN_yes, cntN_no])
      refine req_i ?_ ?_
      · -- r68
        first | assumption | exact rep_bd (by omega) (by omega) | exact set_bd (by assumption) (by omega) (by omega) | exact take_bd (by assumption) | ((try simp only [Int.toNat_natCast, List.length_take, List.take_length, List.take_take, Nat.min_self, List.length_drop, List.drop_zero, List.length_cons, List.length_nil]); first | assumption | exact rep_bd (by omega) (by omega) | exact set_bd (by assumption) (by omega) (by omega) | exact take_bd (by assumption) | grind [getD_set, getD_rep, toNat_succ, cntN_yes, cntN_no])
      refine req_i ?_ ?_
      · -- r69
        first | omega | ((try simp only [sigRest, restPost, List.cons.injEq, DV.b.injEq, and_true, Int.toNat_natCast, List.length_take, List.take_length, List.take_take, Nat.min_self, List.length_drop, List.drop_zero, List.length_cons, List.length_nil]); first | done | omega | assumption | grind [getD_set, getD_rep, toNat_succ, cntN_yes, cntN_no])
      rfl
theorem ext_restR : ∀ p ∈ ([(22, Ext.ctr (ctOf sigChkG)), (45, Ext.ctr (ctOf sigGr))] : List (Nat × Ext)), ExtRow Try.prog p.1 p.2 := by
  intro p hp
  simp only [List.mem_cons, List.not_mem_nil, or_false] at hp
  rcases hp with rfl | rfl <;> trivial
theorem cts_restR : CtsOk Try.prog [(22, Ext.ctr (ctOf sigChkG)), (45, Ext.ctr (ctOf sigGr))] := ctsOk_of (cs := [(22, sigChkG), (45, sigGr)])
  (fun p hp => by
    simp only [List.mem_cons, List.not_mem_nil, or_false] at hp
    rcases hp with rfl | rfl
    · exact fn_chkGR
    · exact fn_grR
)
  (fun f c h => by
    simp only [List.lookup_cons] at h
    repeat' split at h
    all_goals first | (cases h; done) | (rename_i e; have e := beq_iff_eq.1 e; subst e; cases h; exact ⟨_, by simp, rfl⟩))
theorem fn_restR : FnOk Try.prog 25 sigRest [] := fn_sound (by kernel_rfl) ext_restR cts_restR names vt_restR
end Go.Proofs.Ytemcaojbhfgpgaa

namespace Go.Proofs.Ytemcaojbhfgpgaa
open Go.Ev Go.Sp
set_option maxRecDepth 100000
theorem vc_count : vcFn Try.prog [(31, Ext.ctr (ctOf sigChkA)), (35, Ext.ctr (ctOf sigGr)), (32, Ext.ctr (ctOf sigLev))] tabC [] 100 16 sigCount = (allB fun l0 : List Int => 
impB (l0.length ≤ (300 : Nat)) (
impB (∀ (y : Int), y ∈ l0 → (-9223372036854775808 : Int) ≤ y ∧ y ≤ (9223372036854775807 : Int)) (
allB fun l1 : List Int => 
impB (l1.length = l0.length) (
impB (∀ (y : Int), y ∈ l1 → (-9223372036854775808 : Int) ≤ y ∧ y ≤ (9223372036854775807 : Int)) (
allB fun n2 : Int => 
impB ((-9223372036854775808 : Int) ≤ n2) (
impB (n2 ≤ (9223372036854775807 : Int)) (
allB fun n3 : Int => 
impB ((-9223372036854775808 : Int) ≤ n3) (
impB (n3 ≤ (9223372036854775807 : Int)) (
impB (sigCount.pre [DV.l l0, DV.l l1, DV.n n2, DV.n n3]) (
reqB (((0 : Nat) + l0.length) * (2 : Nat) ≤ l0.length.mul (2 : Nat)) (
reqB (l0.length ≤ (9223372036854775807 : Nat)) (
reqB ((List.take l0.length (List.drop (0 : Nat) l0)).length = l0.length) (
reqB (∀ (y : Int),
  y ∈ List.take l0.length (List.drop (0 : Nat) l0) → (-9223372036854775808 : Int) ≤ y ∧ y ≤ (9223372036854775807 : Int)) (
reqB ((List.take l0.length (List.drop (0 : Nat) l1)).length = l0.length) (
reqB (∀ (y : Int),
  y ∈ List.take l0.length (List.drop (0 : Nat) l1) → (-9223372036854775808 : Int) ≤ y ∧ y ≤ (9223372036854775807 : Int)) (
reqB ((-9223372036854775808 : Int) ≤ n2) (
reqB (n2 ≤ (9223372036854775807 : Int)) (
reqB ((-9223372036854775808 : Int) ≤ n3) (
reqB (n3 ≤ (9223372036854775807 : Int)) (
reqB (sigChkA.pre
  [DV.l (List.take l0.length (List.drop (0 : Nat) l0)), DV.l (List.take l0.length (List.drop (0 : Nat) l1)),
    DV.n n2, DV.n n3]) (
allB fun n4 : Int => 
impB ((0 : Int) ≤ n4) (
impB (n4 ≤ (18 : Int)) (
impB (sigChkA.post
  [DV.l (List.take l0.length (List.drop (0 : Nat) l0)), DV.l (List.take l0.length (List.drop (0 : Nat) l1)),
    DV.n n2, DV.n n3]
  [DV.n n4]) (
bR (dec (n4 ≠ (0 : Int))) (
 reqB ((0 : Int) ≤ n4) (
 reqB (n4 ≤ (18 : Int)) (
 reqB (sigCount.post [DV.l l0, DV.l l1, DV.n n2, DV.n n3] [DV.l [], DV.n n4]) (
 true)))) (
 reqB ((2 : Int) ≤ n2) (
 reqB (n2 ≤ (8 : Int)) (
 reqB ((0 : Int) ≤ n3) (
 reqB (n3 ≤ (30 : Int)) (
 reqB (sigGr.pre [DV.n n2, DV.n n3]) (
 allB fun n5 : Int => 
 impB ((1 : Int) ≤ n5) (
 impB (n5 ≤ (127 : Int)) (
 impB (sigGr.post [DV.n n2, DV.n n3] [DV.n n5]) (
 reqB (((2 : Int) * n5 + (1 : Int)).toNat ≤ ((2 : Int) * n5 + (1 : Int)).toNat) (
 reqB (((2 : Int) * n5 + (1 : Int)).toNat ≤ (1000000 : Nat)) (
 reqB ((↑l0.length : Int).toNat ≤ (↑l0.length : Int).toNat) (
 reqB ((↑l0.length : Int).toNat ≤ (1000000 : Nat)) (
 reqB (((0 : Nat) + l0.length) * (2 : Nat) ≤ l0.length.mul (2 : Nat)) (
 reqB (l0.length ≤ (300 : Nat)) (
 reqB ((List.take l0.length (List.drop (0 : Nat) l0)).length = l0.length) (
 reqB (∀ (y : Int),
  y ∈ List.take l0.length (List.drop (0 : Nat) l0) → (-9223372036854775808 : Int) ≤ y ∧ y ≤ (9223372036854775807 : Int)) (
 reqB ((List.take l0.length (List.drop (0 : Nat) l1)).length = l0.length) (
 reqB (∀ (y : Int),
  y ∈ List.take l0.length (List.drop (0 : Nat) l1) → (-9223372036854775808 : Int) ≤ y ∧ y ≤ (9223372036854775807 : Int)) (
 reqB ((-9223372036854775808 : Int) ≤ n2) (
 reqB (n2 ≤ (9223372036854775807 : Int)) (
 reqB ((-9223372036854775808 : Int) ≤ n3) (
 reqB (n3 ≤ (9223372036854775807 : Int)) (
 reqB (lenCols
    [Col.i Go.IntKind.i64 (Int.negSucc (9223372036854775807 : Nat)) (Int.ofNat (9223372036854775807 : Nat))
        (List.replicate (↑l0.length : Int).toNat (0 : Int)),
      Col.i Go.IntKind.i64 (Int.negSucc (9223372036854775807 : Nat)) (Int.ofNat (9223372036854775807 : Nat))
        (List.replicate (↑l0.length : Int).toNat (0 : Int))] ≤
  (300 : Nat)) (
 reqB ((List.replicate (↑l0.length : Int).toNat (0 : Int)).length =
  lenCols
    [Col.i Go.IntKind.i64 (Int.negSucc (9223372036854775807 : Nat)) (Int.ofNat (9223372036854775807 : Nat))
        (List.replicate (↑l0.length : Int).toNat (0 : Int)),
      Col.i Go.IntKind.i64 (Int.negSucc (9223372036854775807 : Nat)) (Int.ofNat (9223372036854775807 : Nat))
        (List.replicate (↑l0.length : Int).toNat (0 : Int))]) (
 reqB (∀ (y : Int),
  y ∈ List.replicate (↑l0.length : Int).toNat (0 : Int) →
    (-9223372036854775808 : Int) ≤ y ∧ y ≤ (9223372036854775807 : Int)) (
 reqB ((List.replicate (↑l0.length : Int).toNat (0 : Int)).length =
  lenCols
    [Col.i Go.IntKind.i64 (Int.negSucc (9223372036854775807 : Nat)) (Int.ofNat (9223372036854775807 : Nat))
        (List.replicate (↑l0.length : Int).toNat (0 : Int)),
      Col.i Go.IntKind.i64 (Int.negSucc (9223372036854775807 : Nat)) (Int.ofNat (9223372036854775807 : Nat))
        (List.replicate (↑l0.length : Int).toNat (0 : Int))]) (
 reqB (∀ (y : Int),
  y ∈ List.replicate (↑l0.length : Int).toNat (0 : Int) →
    (-9223372036854775808 : Int) ≤ y ∧ y ≤ (9223372036854775807 : Int)) (
 reqB ((mapL (4 : Nat) (5 : Nat) mapInv).inv
  [DV.l (List.take l0.length (List.drop (0 : Nat) l0)), DV.l (List.take l0.length (List.drop (0 : Nat) l1)),
    DV.n n2, DV.n n3]
  [DV.n (0 : Int), DV.l (List.replicate (↑l0.length : Int).toNat (0 : Int)),
    DV.l (List.replicate (↑l0.length : Int).toNat (0 : Int))]) (
 allB fun n6 : Int => 
 impB ((0 : Int) ≤ n6) (
 impB (n6 ≤ (300 : Int)) (
 allB fun l7 : List Int => 
 impB (l7.length ≤ (300 : Nat)) (
 impB (∀ (y : Int), y ∈ l7 → (-9223372036854775808 : Int) ≤ y ∧ y ≤ (9223372036854775807 : Int)) (
 allB fun l8 : List Int => 
 impB (l8.length = l7.length) (
 impB (∀ (y : Int), y ∈ l8 → (-9223372036854775808 : Int) ≤ y ∧ y ≤ (9223372036854775807 : Int)) (
 impB ((mapL (4 : Nat) (5 : Nat) mapInv).inv
  [DV.l (List.take l0.length (List.drop (0 : Nat) l0)), DV.l (List.take l0.length (List.drop (0 : Nat) l1)),
    DV.n n2, DV.n n3]
  [DV.n n6, DV.l l7, DV.l l8]) (
 bR (dec (n6 < (↑l0.length : Int))) (
  reqB (n6.toNat < l0.length) (
  reqB (Nat.add (0 : Nat) n6.toNat < l0.length) (
  reqB (Nat.add (0 : Nat) n6.toNat < l1.length) (
  reqB ((2 : Int) ≤ n2) (
  reqB (n2 ≤ (8 : Int)) (
  reqB ((0 : Int) ≤ n3) (
  reqB (n3 ≤ (30 : Int)) (
  reqB ((-70368744177664 : Int) ≤ l0.getD (Nat.add (0 : Nat) n6.toNat) (0 : Int)) (
  reqB (l0.getD (Nat.add (0 : Nat) n6.toNat) (0 : Int) ≤ (70368744177664 : Int)) (
  reqB (sigLev.pre [DV.n n2, DV.n n3, DV.n (l0.getD (Nat.add (0 : Nat) n6.toNat) (0 : Int))]) (
  allB fun n9 : Int => 
  impB ((-127 : Int) ≤ n9) (
  impB (n9 ≤ (127 : Int)) (
  impB (sigLev.post [DV.n n2, DV.n n3, DV.n (l0.getD (Nat.add (0 : Nat) n6.toNat) (0 : Int))]
  [DV.n n9]) (
  reqB ((2 : Int) ≤ n2) (
  reqB (n2 ≤ (8 : Int)) (
  reqB ((0 : Int) ≤ n3) (
  reqB (n3 ≤ (30 : Int)) (
  reqB ((-70368744177664 : Int) ≤ l1.getD (Nat.add (0 : Nat) n6.toNat) (0 : Int)) (
  reqB (l1.getD (Nat.add (0 : Nat) n6.toNat) (0 : Int) ≤ (70368744177664 : Int)) (
  reqB (sigLev.pre [DV.n n2, DV.n n3, DV.n (l1.getD (Nat.add (0 : Nat) n6.toNat) (0 : Int))]) (
  allB fun n10 : Int => 
  impB ((-127 : Int) ≤ n10) (
  impB (n10 ≤ (127 : Int)) (
  impB (sigLev.post [DV.n n2, DV.n n3, DV.n (l1.getD (Nat.add (0 : Nat) n6.toNat) (0 : Int))]
  [DV.n n10]) (
  reqB (n6.toNat < (↑l0.length : Int).toNat) (
  reqB (Nat.add (0 : Nat) n6.toNat < l7.length) (
  reqB (Nat.add (0 : Nat) n6.toNat < l8.length) (
  bR (bR (bR (dec ((0 : Nat) = (0 : Nat))) (
   dec ((↑l0.length : Int).toNat = (↑l0.length : Int).toNat)) (
   false)) (
   bR (bR (dec ((0 : Nat) = (0 : Nat))) (
    dec (l0.length = l0.length)) (
    false)) (
    bR (dec ((↑l0.length : Int) = (↑l0.length : Int))) (
     true) (
     false)) (
    false)) (
   false)) (
   bR (bR (bR (dec (n2 = n2)) (
    bR (dec (n3 = n3)) (
     true) (
     false)) (
    false)) (
    bR (bR (dec (((2 : Int) * n5 + (1 : Int)).toNat.mul Go.Proofs.Try.prog.types[(3 : Nat)].size =
  ((2 : Int) * n5 + (1 : Int)).toNat.mul Go.Proofs.Try.prog.types[(3 : Nat)].size)) (
     dec ([Col.i Go.IntKind.i64 (Int.negSucc (9223372036854775807 : Nat)) (Int.ofNat (9223372036854775807 : Nat))
      (List.replicate ((2 : Int) * n5 + (1 : Int)).toNat (0 : Int))] =
  [Col.i Go.IntKind.i64 (Int.negSucc (9223372036854775807 : Nat)) (Int.ofNat (9223372036854775807 : Nat))
      (List.replicate ((2 : Int) * n5 + (1 : Int)).toNat (0 : Int))])) (
     false)) (
     bR (bR (dec (n2 = n2)) (
      bR (dec (n3 = n3)) (
       true) (
       false)) (
      false)) (
      true) (
      false)) (
     false)) (
    false)) (
    reqB ((0 : Int) ≤ n6 + (1 : Int)) (
    reqB (n6 + (1 : Int) ≤ (300 : Int)) (
    reqB (lenCols
    [Col.i Go.IntKind.i64 (-9223372036854775808 : Int) (9223372036854775807 : Int)
        (l7.set (Nat.add (0 : Nat) n6.toNat) n9),
      Col.i Go.IntKind.i64 (-9223372036854775808 : Int) (9223372036854775807 : Int)
        (l8.set (Nat.add (0 : Nat) n6.toNat) n10)] ≤
  (300 : Nat)) (
    reqB ((l7.set (Nat.add (0 : Nat) n6.toNat) n9).length =
  lenCols
    [Col.i Go.IntKind.i64 (-9223372036854775808 : Int) (9223372036854775807 : Int)
        (l7.set (Nat.add (0 : Nat) n6.toNat) n9),
      Col.i Go.IntKind.i64 (-9223372036854775808 : Int) (9223372036854775807 : Int)
        (l8.set (Nat.add (0 : Nat) n6.toNat) n10)]) (
    reqB (∀ (y : Int),
  y ∈ l7.set (Nat.add (0 : Nat) n6.toNat) n9 → (-9223372036854775808 : Int) ≤ y ∧ y ≤ (9223372036854775807 : Int)) (
    reqB ((l8.set (Nat.add (0 : Nat) n6.toNat) n10).length =
  lenCols
    [Col.i Go.IntKind.i64 (-9223372036854775808 : Int) (9223372036854775807 : Int)
        (l7.set (Nat.add (0 : Nat) n6.toNat) n9),
      Col.i Go.IntKind.i64 (-9223372036854775808 : Int) (9223372036854775807 : Int)
        (l8.set (Nat.add (0 : Nat) n6.toNat) n10)]) (
    reqB (∀ (y : Int),
  y ∈ l8.set (Nat.add (0 : Nat) n6.toNat) n10 → (-9223372036854775808 : Int) ≤ y ∧ y ≤ (9223372036854775807 : Int)) (
    reqB ((mapL (4 : Nat) (5 : Nat) mapInv).inv
  [DV.l (List.take l0.length (List.drop (0 : Nat) l0)), DV.l (List.take l0.length (List.drop (0 : Nat) l1)),
    DV.n n2, DV.n n3]
  [DV.n (n6 + (1 : Int)), DV.l (l7.set (Nat.add (0 : Nat) n6.toNat) n9),
    DV.l (l8.set (Nat.add (0 : Nat) n6.toNat) n10)]) (
    reqB ((mapL (4 : Nat) (5 : Nat) mapInv).mea
    [DV.l (List.take l0.length (List.drop (0 : Nat) l0)),
      DV.l (List.take l0.length (List.drop (0 : Nat) l1)), DV.n n2, DV.n n3]
    [DV.n (n6 + (1 : Int)), DV.l (l7.set (Nat.add (0 : Nat) n6.toNat) n9),
      DV.l (l8.set (Nat.add (0 : Nat) n6.toNat) n10)] <
  (mapL (4 : Nat) (5 : Nat) mapInv).mea
    [DV.l (List.take l0.length (List.drop (0 : Nat) l0)),
      DV.l (List.take l0.length (List.drop (0 : Nat) l1)), DV.n n2, DV.n n3]
    [DV.n n6, DV.l l7, DV.l l8]) (
    true)))))))))) (
    false)) (
   false)))))))))))))))))))))))))))) (
  reqB (((0 : Nat) + (↑l0.length : Int).toNat) * (2 : Nat) ≤ l7.length.mul (2 : Nat)) (
  reqB ((↑l0.length : Int).toNat ≤ (300 : Nat)) (
  reqB ((List.take (↑l0.length : Int).toNat (List.drop (0 : Nat) l7)).length = (↑l0.length : Int).toNat) (
  reqB (∀ (y : Int),
  y ∈ List.take (↑l0.length : Int).toNat (List.drop (0 : Nat) l7) →
    (-9223372036854775808 : Int) ≤ y ∧ y ≤ (9223372036854775807 : Int)) (
  reqB ((List.take (↑l0.length : Int).toNat (List.drop (0 : Nat) l8)).length = (↑l0.length : Int).toNat) (
  reqB (∀ (y : Int),
  y ∈ List.take (↑l0.length : Int).toNat (List.drop (0 : Nat) l8) →
    (-9223372036854775808 : Int) ≤ y ∧ y ≤ (9223372036854775807 : Int)) (
  reqB ((1 : Int) ≤ n5) (
  reqB (n5 ≤ (127 : Int)) (
  reqB (lenCols
    [Col.i Go.IntKind.i64 (Int.negSucc (9223372036854775807 : Nat)) (Int.ofNat (9223372036854775807 : Nat))
        (List.replicate ((2 : Int) * n5 + (1 : Int)).toNat (0 : Int))] ≤
  (255 : Nat)) (
  reqB ((List.replicate ((2 : Int) * n5 + (1 : Int)).toNat (0 : Int)).length =
  lenCols
    [Col.i Go.IntKind.i64 (Int.negSucc (9223372036854775807 : Nat)) (Int.ofNat (9223372036854775807 : Nat))
        (List.replicate ((2 : Int) * n5 + (1 : Int)).toNat (0 : Int))]) (
  reqB (∀ (y : Int), y ∈ List.replicate ((2 : Int) * n5 + (1 : Int)).toNat (0 : Int) → (0 : Int) ≤ y ∧ y ≤ (600 : Int)) (
  reqB (cntL.inv
  [DV.l (List.take (↑l0.length : Int).toNat (List.drop (0 : Nat) l7)),
    DV.l (List.take (↑l0.length : Int).toNat (List.drop (0 : Nat) l8)), DV.n n5]
  [DV.n (0 : Int), DV.l (List.replicate ((2 : Int) * n5 + (1 : Int)).toNat (0 : Int))]) (
  allB fun n11 : Int => 
  impB ((0 : Int) ≤ n11) (
  impB (n11 ≤ (300 : Int)) (
  allB fun l12 : List Int => 
  impB (l12.length ≤ (255 : Nat)) (
  impB (∀ (y : Int), y ∈ l12 → (0 : Int) ≤ y ∧ y ≤ (600 : Int)) (
  impB (cntL.inv
  [DV.l (List.take (↑l0.length : Int).toNat (List.drop (0 : Nat) l7)),
    DV.l (List.take (↑l0.length : Int).toNat (List.drop (0 : Nat) l8)), DV.n n5]
  [DV.n n11, DV.l l12]) (
  bR (dec (n11 < (↑(↑l0.length : Int).toNat : Int))) (
   reqB (n11.toNat < (↑l0.length : Int).toNat) (
   reqB (Nat.add (0 : Nat) n11.toNat < l7.length) (
   reqB (Nat.add (0 : Nat) n11.toNat < l8.length) (
   allB fun n13 : Int => 
   impB (n13 = Go.IntKind.i64.wrap (l7.getD (Nat.add (0 : Nat) n11.toNat) (0 : Int) + n5)) (
   impB (Int.negSucc (9223372036854775807 : Nat) ≤ n13) (
   impB (n13 ≤ Int.ofNat (9223372036854775807 : Nat)) (
   reqB ((0 : Int) ≤ n13) (
   reqB (n13.toNat < ((2 : Int) * n5 + (1 : Int)).toNat) (
   reqB (Nat.add (0 : Nat) n13.toNat < l12.length) (
   reqB ((0 : Int) ≤ n13) (
   reqB (n13.toNat < ((2 : Int) * n5 + (1 : Int)).toNat) (
   reqB ((0 : Int) ≤ l12.getD (Nat.add (0 : Nat) n13.toNat) (0 : Int) + (1 : Int) ∧
  l12.getD (Nat.add (0 : Nat) n13.toNat) (0 : Int) + (1 : Int) ≤ (600 : Int)) (
   reqB (Nat.add (0 : Nat) n13.toNat < l12.length) (
   allB fun n14 : Int => 
   impB (n14 = Go.IntKind.i64.wrap (l8.getD (Nat.add (0 : Nat) n11.toNat) (0 : Int) + n5)) (
   impB (Int.negSucc (9223372036854775807 : Nat) ≤ n14) (
   impB (n14 ≤ Int.ofNat (9223372036854775807 : Nat)) (
   reqB ((0 : Int) ≤ n14) (
   reqB (n14.toNat < ((2 : Int) * n5 + (1 : Int)).toNat) (
   reqB (Nat.add (0 : Nat) n14.toNat <
  (l12.set (Nat.add (0 : Nat) n13.toNat) (l12.getD (Nat.add (0 : Nat) n13.toNat) (0 : Int) + (1 : Int))).length) (
   reqB ((0 : Int) ≤ n14) (
   reqB (n14.toNat < ((2 : Int) * n5 + (1 : Int)).toNat) (
   reqB ((0 : Int) ≤
    (l12.set (Nat.add (0 : Nat) n13.toNat) (l12.getD (Nat.add (0 : Nat) n13.toNat) (0 : Int) + (1 : Int))).getD
        (Nat.add (0 : Nat) n14.toNat) (0 : Int) +
      (1 : Int) ∧
  (l12.set (Nat.add (0 : Nat) n13.toNat) (l12.getD (Nat.add (0 : Nat) n13.toNat) (0 : Int) + (1 : Int))).getD
        (Nat.add (0 : Nat) n14.toNat) (0 : Int) +
      (1 : Int) ≤
    (600 : Int)) (
   reqB (Nat.add (0 : Nat) n14.toNat <
  (l12.set (Nat.add (0 : Nat) n13.toNat) (l12.getD (Nat.add (0 : Nat) n13.toNat) (0 : Int) + (1 : Int))).length) (
   bR (bR (dec (n5 = n5)) (
    bR (bR (dec ((0 : Nat) = (0 : Nat))) (
     dec (((2 : Int) * n5 + (1 : Int)).toNat = ((2 : Int) * n5 + (1 : Int)).toNat)) (
     false)) (
     bR (bR (dec ((0 : Nat) = (0 : Nat))) (
      dec ((↑l0.length : Int).toNat = (↑l0.length : Int).toNat)) (
      false)) (
      bR (dec ((↑(↑l0.length : Int).toNat : Int) = (↑(↑l0.length : Int).toNat : Int))) (
       true) (
       false)) (
      false)) (
     false)) (
    false)) (
    bR (bR (bR (dec (n2 = n2)) (
     bR (dec (n3 = n3)) (
      true) (
      false)) (
     false)) (
     bR (bR (dec (n2 = n2)) (
      bR (dec (n3 = n3)) (
       true) (
       false)) (
      false)) (
      bR (bR (dec (l7.length.mul (2 : Nat) = l7.length.mul (2 : Nat))) (
       dec ([Col.i Go.IntKind.i64 (-9223372036854775808 : Int) (9223372036854775807 : Int) l7,
    Col.i Go.IntKind.i64 (-9223372036854775808 : Int) (9223372036854775807 : Int) l8] =
  [Col.i Go.IntKind.i64 (-9223372036854775808 : Int) (9223372036854775807 : Int) l7,
    Col.i Go.IntKind.i64 (-9223372036854775808 : Int) (9223372036854775807 : Int) l8])) (
       false)) (
       true) (
       false)) (
      false)) (
     false)) (
     reqB ((0 : Int) ≤ n11 + (1 : Int)) (
     reqB (n11 + (1 : Int) ≤ (300 : Int)) (
     reqB (lenCols
    [Col.i Go.IntKind.i64 (0 : Int) (600 : Int)
        ((l12.set (Nat.add (0 : Nat) n13.toNat) (l12.getD (Nat.add (0 : Nat) n13.toNat) (0 : Int) + (1 : Int))).set
          (Nat.add (0 : Nat) n14.toNat)
          ((l12.set (Nat.add (0 : Nat) n13.toNat) (l12.getD (Nat.add (0 : Nat) n13.toNat) (0 : Int) + (1 : Int))).getD
              (Nat.add (0 : Nat) n14.toNat) (0 : Int) +
            (1 : Int)))] ≤
  (255 : Nat)) (
     reqB (((l12.set (Nat.add (0 : Nat) n13.toNat) (l12.getD (Nat.add (0 : Nat) n13.toNat) (0 : Int) + (1 : Int))).set
      (Nat.add (0 : Nat) n14.toNat)
      ((l12.set (Nat.add (0 : Nat) n13.toNat) (l12.getD (Nat.add (0 : Nat) n13.toNat) (0 : Int) + (1 : Int))).getD
          (Nat.add (0 : Nat) n14.toNat) (0 : Int) +
        (1 : Int))).length =
  lenCols
    [Col.i Go.IntKind.i64 (0 : Int) (600 : Int)
        ((l12.set (Nat.add (0 : Nat) n13.toNat) (l12.getD (Nat.add (0 : Nat) n13.toNat) (0 : Int) + (1 : Int))).set
          (Nat.add (0 : Nat) n14.toNat)
          ((l12.set (Nat.add (0 : Nat) n13.toNat) (l12.getD (Nat.add (0 : Nat) n13.toNat) (0 : Int) + (1 : Int))).getD
              (Nat.add (0 : Nat) n14.toNat) (0 : Int) +
            (1 : Int)))]) (
     reqB (∀ (y : Int),
  y ∈
      (l12.set (Nat.add (0 : Nat) n13.toNat) (l12.getD (Nat.add (0 : Nat) n13.toNat) (0 : Int) + (1 : Int))).set
        (Nat.add (0 : Nat) n14.toNat)
        ((l12.set (Nat.add (0 : Nat) n13.toNat) (l12.getD (Nat.add (0 : Nat) n13.toNat) (0 : Int) + (1 : Int))).getD
            (Nat.add (0 : Nat) n14.toNat) (0 : Int) +
          (1 : Int)) →
    (0 : Int) ≤ y ∧ y ≤ (600 : Int)) (
     reqB (cntL.inv
  [DV.l (List.take (↑l0.length : Int).toNat (List.drop (0 : Nat) l7)),
    DV.l (List.take (↑l0.length : Int).toNat (List.drop (0 : Nat) l8)), DV.n n5]
  [DV.n (n11 + (1 : Int)),
    DV.l
      ((l12.set (Nat.add (0 : Nat) n13.toNat) (l12.getD (Nat.add (0 : Nat) n13.toNat) (0 : Int) + (1 : Int))).set
        (Nat.add (0 : Nat) n14.toNat)
        ((l12.set (Nat.add (0 : Nat) n13.toNat) (l12.getD (Nat.add (0 : Nat) n13.toNat) (0 : Int) + (1 : Int))).getD
            (Nat.add (0 : Nat) n14.toNat) (0 : Int) +
          (1 : Int)))]) (
     reqB (cntL.mea
    [DV.l (List.take (↑l0.length : Int).toNat (List.drop (0 : Nat) l7)),
      DV.l (List.take (↑l0.length : Int).toNat (List.drop (0 : Nat) l8)), DV.n n5]
    [DV.n (n11 + (1 : Int)),
      DV.l
        ((l12.set (Nat.add (0 : Nat) n13.toNat) (l12.getD (Nat.add (0 : Nat) n13.toNat) (0 : Int) + (1 : Int))).set
          (Nat.add (0 : Nat) n14.toNat)
          ((l12.set (Nat.add (0 : Nat) n13.toNat) (l12.getD (Nat.add (0 : Nat) n13.toNat) (0 : Int) + (1 : Int))).getD
              (Nat.add (0 : Nat) n14.toNat) (0 : Int) +
            (1 : Int)))] <
  cntL.mea
    [DV.l (List.take (↑l0.length : Int).toNat (List.drop (0 : Nat) l7)),
      DV.l (List.take (↑l0.length : Int).toNat (List.drop (0 : Nat) l8)), DV.n n5]
    [DV.n n11, DV.l l12]) (
     true)))))))) (
     false)) (
    false))))))))))))))))))))))))) (
   reqB (((0 : Nat) + ((2 : Int) * n5 + (1 : Int)).toNat) * (1 : Nat) ≤ l12.length.mul (1 : Nat)) (
   reqB (((2 : Int) * n5 + (1 : Int)).toNat ≤ (255 : Nat)) (
   reqB ((List.take ((2 : Int) * n5 + (1 : Int)).toNat (List.drop (0 : Nat) l12)).length = ((2 : Int) * n5 + (1 : Int)).toNat) (
   reqB (∀ (y : Int),
  y ∈ List.take ((2 : Int) * n5 + (1 : Int)).toNat (List.drop (0 : Nat) l12) → (0 : Int) ≤ y ∧ y ≤ (600 : Int)) (
   reqB (sigCount.post [DV.l l0, DV.l l1, DV.n n2, DV.n n3]
  [DV.l (List.take ((2 : Int) * n5 + (1 : Int)).toNat (List.drop (0 : Nat) l12)), DV.n (0 : Int)]) (
   true)))))))))))))))))))))))))))))))))))))))))))))))))))))))))))))))))))))))))))))))))))) := by kernel_rfl
set_option maxHeartbeats 8000000 in
theorem vt_count : vcFn Try.prog [(31, Ext.ctr (ctOf sigChkA)), (35, Ext.ctr (ctOf sigGr)), (32, Ext.ctr (ctOf sigLev))] tabC [] 100 16 sigCount = true := by
  rw [vc_count]
  try simp only [Int.toNat_natCast, List.length_set, List.length_replicate, List.length_take, List.length_drop, List.length_append, List.length_cons, List.length_nil, Nat.min_self, List.take_take, lenCols_i, lenCols_b, List.drop_zero, List.take_length, Nat.add_eq, Nat.mul_eq, Nat.sub_eq, Nat.zero_add, Nat.sub_zero, Nat.mul_one]
  refine all_i fun l0 => ?_
  refine imp_i fun h0 => ?_
  refine imp_i fun h1 => ?_
  refine all_i fun l1 => ?_
  refine imp_i fun h2 => ?_
  have tkl1 := take_eq h2
  try simp only [tkl1]
  refine imp_i fun h3 => ?_
  refine all_i fun n2 => ?_
  refine imp_i fun h4 => ?_
  refine imp_i fun h5 => ?_
  refine all_i fun n3 => ?_
  refine imp_i fun h6 => ?_
  refine imp_i fun h7 => ?_
  refine imp_i fun h8 => ?_
  try simp only [sigCount, countPost, List.cons.injEq, DV.b.injEq, and_true, List.length_cons, List.length_nil] at h8
  refine req_i ?_ ?_
  · -- r0
    first | omega | exact i2 | (simp only [Nat.mul_eq]; exact ⟨by omega, by omega, rfl⟩) | (simp only [Nat.mul_eq, incA_len]; omega) | ((try simp only [Nat.mul_eq]); first | done | omega | assumption | grind [getD_set, getD_rep, toNat_succ, cntN_yes, cntN_no])
  refine req_i ?_ ?_
  · -- r1
    first | omega | exact i2 | (simp only [Nat.zero_add]; exact ⟨by omega, by omega, rfl⟩) | (simp only [Nat.zero_add, incA_len]; omega) | ((try simp only [Nat.zero_add]); first | done | omega | assumption | grind [getD_set, getD_rep, toNat_succ, cntN_yes, cntN_no])
  refine req_i ?_ ?_
  · -- r2
    first | omega | exact i2 | (simp only [List.length_take, List.take_length, List.take_take, Nat.min_self, List.length_drop, List.drop_zero, List.length_cons, List.length_nil]; exact ⟨by omega, by omega, rfl⟩) | (simp only [List.length_take, List.take_length, List.take_take, Nat.min_self, List.length_drop, List.drop_zero, List.length_cons, List.length_nil, incA_len]; omega) | ((try simp only [List.length_take, List.take_length, List.take_take, Nat.min_self, List.length_drop, List.drop_zero, List.length_cons, List.length_nil]); first | done | omega | assumption | grind [getD_set, getD_rep, toNat_succ, cntN_yes, cntN_no])
  refine req_i ?_ ?_
  · -- r3
    first | assumption | exact rep_bd (by omega) (by omega) | exact set_bd (by assumption) (by omega) (by omega) | exact take_bd (by assumption) | exact i2 | (simp only [List.length_take, List.take_length, List.take_take, Nat.min_self, List.length_drop, List.drop_zero, List.length_cons, List.length_nil]; exact ⟨by omega, by omega, rfl⟩) | (simp only [List.length_take, List.take_length, List.take_take, Nat.min_self, List.length_drop, List.drop_zero, List.length_cons, List.length_nil, incA_len]; omega) | ((try simp only [List.length_take, List.take_length, List.take_take, Nat.min_self, List.length_drop, List.drop_zero, List.length_cons, List.length_nil]); first | assumption | exact rep_bd (by omega) (by omega) | exact set_bd (by assumption) (by omega) (by omega) | exact take_bd (by assumption) | grind [getD_set, getD_rep, toNat_succ, cntN_yes, cntN_no])
  refine req_i ?_ ?_
  · -- r4
    first | omega | exact i2 | (simp only [List.length_take, List.take_length, List.take_take, Nat.min_self, List.length_drop, List.drop_zero, List.length_cons, List.length_nil]; exact ⟨by omega, by omega, rfl⟩) | (simp only [List.length_take, List.take_length, List.take_take, Nat.min_self, List.length_drop, List.drop_zero, List.length_cons, List.length_nil, incA_len]; omega) | ((try simp only [List.length_take, List.take_length, List.take_take, Nat.min_self, List.length_drop, List.drop_zero, List.length_cons, List.length_nil]); first | done | omega | assumption | grind [getD_set, getD_rep, toNat_succ, cntN_yes, cntN_no])
  refine req_i ?_ ?_
  · -- r5
    first | assumption | exact rep_bd (by omega) (by omega) | exact set_bd (by assumption) (by omega) (by omega) | exact take_bd (by assumption) | exact i2 | (simp only [List.length_take, List.take_length, List.take_take, Nat.min_self, List.length_drop, List.drop_zero, List.length_cons, List.length_nil]; exact ⟨by omega, by omega, rfl⟩) | (simp only [List.length_take, List.take_length, List.take_take, Nat.min_self, List.length_drop, List.drop_zero, List.length_cons, List.length_nil, incA_len]; omega) | ((try simp only [List.length_take, List.take_length, List.take_take, Nat.min_self, List.length_drop, List.drop_zero, List.length_cons, List.length_nil]); first | assumption | exact rep_bd (by omega) (by omega) | exact set_bd (by assumption) (by omega) (by omega) | exact take_bd (by assumption) | grind [getD_set, getD_rep, toNat_succ, cntN_yes, cntN_no])
  refine req_i ?_ ?_
  · -- r6
    first | omega | assumption | exact i2 | (simp only [Nat.zero_add]; exact ⟨by omega, by omega, rfl⟩) | (simp only [Nat.zero_add, incA_len]; omega) | grind
  refine req_i ?_ ?_
  · -- r7
    first | omega | assumption | exact i2 | (simp only [Nat.zero_add]; exact ⟨by omega, by omega, rfl⟩) | (simp only [Nat.zero_add, incA_len]; omega) | grind
  refine req_i ?_ ?_
  · -- r8
    first | omega | assumption | exact i2 | (simp only [Nat.zero_add]; exact ⟨by omega, by omega, rfl⟩) | (simp only [Nat.zero_add, incA_len]; omega) | grind
  refine req_i ?_ ?_
  · -- r9
    first | omega | assumption | exact i2 | (simp only [Nat.zero_add]; exact ⟨by omega, by omega, rfl⟩) | (simp only [Nat.zero_add, incA_len]; omega) | grind
  refine req_i ?_ ?_
  · -- r10
    first | omega | exact i2 | (simp only [sigChkA, chkAPost, List.cons.injEq, DV.b.injEq, and_true, List.length_take, List.take_length, List.take_take, Nat.min_self, List.length_drop, List.drop_zero, List.length_cons, List.length_nil]; exact ⟨by omega, by omega, rfl⟩) | (simp only [sigChkA, chkAPost, List.cons.injEq, DV.b.injEq, and_true, List.length_take, List.take_length, List.take_take, Nat.min_self, List.length_drop, List.drop_zero, List.length_cons, List.length_nil, incA_len]; omega) | ((try simp only [sigChkA, chkAPost, List.cons.injEq, DV.b.injEq, and_true, List.length_take, List.take_length, List.take_take, Nat.min_self, List.length_drop, List.drop_zero, List.length_cons, List.length_nil]); first | done | omega | assumption | grind [getD_set, getD_rep, toNat_succ, cntN_yes, cntN_no])
  refine all_i fun n4 => ?_
  refine imp_i fun h9 => ?_
  refine imp_i fun h10 => ?_
  refine imp_i fun h11 => ?_
  try simp only [sigChkA, chkAPost, List.cons.injEq, DV.b.injEq, and_true, List.length_take, List.take_length, List.take_take, Nat.min_self, List.length_drop, List.drop_zero, List.length_cons, List.length_nil] at h11
  refine bR_dec (fun h12 => ?_) (fun h12 => ?_)
  ·
    refine req_i ?_ ?_
    · -- r11
      first | omega | assumption | exact i2 | (simp only [Nat.zero_add]; exact ⟨by omega, by omega, rfl⟩) | (simp only [Nat.zero_add, incA_len]; omega) | grind
    refine req_i ?_ ?_
    · -- r12
      first | omega | assumption | exact i2 | (simp only [Nat.zero_add]; exact ⟨by omega, by omega, rfl⟩) | (simp only [Nat.zero_add, incA_len]; omega) | grind
    refine req_i ?_ ?_
    · -- r13
      first | omega | exact i2 | (simp only [sigCount, countPost, List.cons.injEq, DV.b.injEq, and_true, List.length_cons, List.length_nil]; exact ⟨by omega, by omega, rfl⟩) | (simp only [sigCount, countPost, List.cons.injEq, DV.b.injEq, and_true, List.length_cons, List.length_nil, incA_len]; omega) | ((try simp only [sigCount, countPost, List.cons.injEq, DV.b.injEq, and_true, List.length_cons, List.length_nil]); first | done | omega | assumption | grind [getD_set, getD_rep, toNat_succ, cntN_yes, cntN_no])
    rfl
  ·
    obtain ⟨G, L, I⟩ := errS_ok (b := n2) (n := n3) (m := 70368744177664) (s := l0) (t := l1) (by omega)
    refine req_i ?_ ?_
    · -- r14
      first | omega | assumption | exact i2 | (simp only [Nat.zero_add]; exact ⟨by omega, by omega, rfl⟩) | (simp only [Nat.zero_add, incA_len]; omega) | grind
    refine req_i ?_ ?_
    · -- r15
      first | omega | assumption | exact i2 | (simp only [Nat.zero_add]; exact ⟨by omega, by omega, rfl⟩) | (simp only [Nat.zero_add, incA_len]; omega) | grind
    refine req_i ?_ ?_
    · -- r16
      first | omega | assumption | exact i2 | (simp only [Nat.zero_add]; exact ⟨by omega, by omega, rfl⟩) | (simp only [Nat.zero_add, incA_len]; omega) | grind
    refine req_i ?_ ?_
    · -- r17
      first | omega | assumption | exact i2 | (simp only [Nat.zero_add]; exact ⟨by omega, by omega, rfl⟩) | (simp only [Nat.zero_add, incA_len]; omega) | grind
    refine req_i ?_ ?_
    · -- r18
      first | trivial | assumption | exact i2 | (simp only [sigGr, grPost, List.cons.injEq, DV.b.injEq, and_true, List.length_cons, List.length_nil]; exact ⟨by omega, by omega, rfl⟩) | (simp only [sigGr, grPost, List.cons.injEq, DV.b.injEq, and_true, List.length_cons, List.length_nil, incA_len]; omega) | (simp only [sigGr, grPost, List.cons.injEq, DV.b.injEq, and_true, List.length_cons, List.length_nil]; done) | ((try simp only [sigGr, grPost, List.cons.injEq, DV.b.injEq, and_true, List.length_cons, List.length_nil]); first | omega | assumption | grind)
    refine all_i fun n5 => ?_
    refine imp_i fun h13 => ?_
    refine imp_i fun h14 => ?_
    refine imp_i fun h15 => ?_
    try simp only [sigGr, grPost, List.cons.injEq, DV.b.injEq, and_true, List.length_cons, List.length_nil] at h15
    have ql := qq_bd (b := n2) (by omega) (by omega)
    refine req_i ?_ ?_
    · -- r19
      first | omega | assumption | exact i2 | (simp only [Int.toNat_natCast, List.length_cons, List.length_nil]; exact ⟨by omega, by omega, rfl⟩) | (simp only [Int.toNat_natCast, List.length_cons, List.length_nil, incA_len]; omega) | grind
    refine req_i ?_ ?_
    · -- r20
      first | omega | assumption | exact i2 | (simp only [Int.toNat_natCast, List.length_cons, List.length_nil]; exact ⟨by omega, by omega, rfl⟩) | (simp only [Int.toNat_natCast, List.length_cons, List.length_nil, incA_len]; omega) | grind
    refine req_i ?_ ?_
    · -- r21
      first | omega | exact i2 | (simp only [Int.toNat_natCast, List.length_cons, List.length_nil]; exact ⟨by omega, by omega, rfl⟩) | (simp only [Int.toNat_natCast, List.length_cons, List.length_nil, incA_len]; omega) | ((try simp only [Int.toNat_natCast, List.length_cons, List.length_nil]); first | done | omega | assumption | grind [getD_set, getD_rep, toNat_succ, cntN_yes, cntN_no])
    refine req_i ?_ ?_
    · -- r22
      first | omega | exact i2 | (simp only [Int.toNat_natCast, List.length_cons, List.length_nil]; exact ⟨by omega, by omega, rfl⟩) | (simp only [Int.toNat_natCast, List.length_cons, List.length_nil, incA_len]; omega) | ((try simp only [Int.toNat_natCast, List.length_cons, List.length_nil]); first | done | omega | assumption | grind [getD_set, getD_rep, toNat_succ, cntN_yes, cntN_no])
    refine req_i ?_ ?_
    · -- r23
      first | omega | exact i2 | (simp only [Nat.mul_eq]; exact ⟨by omega, by omega, rfl⟩) | (simp only [Nat.mul_eq, incA_len]; omega) | ((try simp only [Nat.mul_eq]); first | done | omega | assumption | grind [getD_set, getD_rep, toNat_succ, cntN_yes, cntN_no])
    refine req_i ?_ ?_
    · -- r24
      first | omega | exact i2 | (simp only [Nat.zero_add]; exact ⟨by omega, by omega, rfl⟩) | (simp only [Nat.zero_add, incA_len]; omega) | ((try simp only [Nat.zero_add]); first | done | omega | assumption | grind [getD_set, getD_rep, toNat_succ, cntN_yes, cntN_no])
    refine req_i ?_ ?_
    · -- r25
      first | omega | exact i2 | (simp only [List.length_take, List.take_length, List.take_take, Nat.min_self, List.length_drop, List.drop_zero, List.length_cons, List.length_nil]; exact ⟨by omega, by omega, rfl⟩) | (simp only [List.length_take, List.take_length, List.take_take, Nat.min_self, List.length_drop, List.drop_zero, List.length_cons, List.length_nil, incA_len]; omega) | ((try simp only [List.length_take, List.take_length, List.take_take, Nat.min_self, List.length_drop, List.drop_zero, List.length_cons, List.length_nil]); first | done | omega | assumption | grind [getD_set, getD_rep, toNat_succ, cntN_yes, cntN_no])
    refine req_i ?_ ?_
    · -- r26
      first | assumption | exact rep_bd (by omega) (by omega) | exact set_bd (by assumption) (by omega) (by omega) | exact take_bd (by assumption) | exact i2 | (simp only [List.length_take, List.take_length, List.take_take, Nat.min_self, List.length_drop, List.drop_zero, List.length_cons, List.length_nil]; exact ⟨by omega, by omega, rfl⟩) | (simp only [List.length_take, List.take_length, List.take_take, Nat.min_self, List.length_drop, List.drop_zero, List.length_cons, List.length_nil, incA_len]; omega) | ((try simp only [List.length_take, List.take_length, List.take_take, Nat.min_self, List.length_drop, List.drop_zero, List.length_cons, List.length_nil]); first | assumption | exact rep_bd (by omega) (by omega) | exact set_bd (by assumption) (by omega) (by omega) | exact take_bd (by assumption) | grind [getD_set, getD_rep, toNat_succ, cntN_yes, cntN_no])
    refine req_i ?_ ?_
    · -- r27
      first | omega | exact i2 | (simp only [List.length_take, List.take_length, List.take_take, Nat.min_self, List.length_drop, List.drop_zero, List.length_cons, List.length_nil]; exact ⟨by omega, by omega, rfl⟩) | (simp only [List.length_take, List.take_length, List.take_take, Nat.min_self, List.length_drop, List.drop_zero, List.length_cons, List.length_nil, incA_len]; omega) | ((try simp only [List.length_take, List.take_length, List.take_take, Nat.min_self, List.length_drop, List.drop_zero, List.length_cons, List.length_nil]); first | done | omega | assumption | grind [getD_set, getD_rep, toNat_succ, cntN_yes, cntN_no])
    refine req_i ?_ ?_
    · -- r28
      first | assumption | exact rep_bd (by omega) (by omega) | exact set_bd (by assumption) (by omega) (by omega) | exact take_bd (by assumption) | exact i2 | (simp only [List.length_take, List.take_length, List.take_take, Nat.min_self, List.length_drop, List.drop_zero, List.length_cons, List.length_nil]; exact ⟨by omega, by omega, rfl⟩) | (simp only [List.length_take, List.take_length, List.take_take, Nat.min_self, List.length_drop, List.drop_zero, List.length_cons, List.length_nil, incA_len]; omega) | ((try simp only [List.length_take, List.take_length, List.take_take, Nat.min_self, List.length_drop, List.drop_zero, List.length_cons, List.length_nil]); first | assumption | exact rep_bd (by omega) (by omega) | exact set_bd (by assumption) (by omega) (by omega) | exact take_bd (by assumption) | grind [getD_set, getD_rep, toNat_succ, cntN_yes, cntN_no])
    refine req_i ?_ ?_
    · -- r29
      first | omega | assumption | exact i2 | (simp only [Nat.zero_add]; exact ⟨by omega, by omega, rfl⟩) | (simp only [Nat.zero_add, incA_len]; omega) | grind
    refine req_i ?_ ?_
    · -- r30
      first | omega | assumption | exact i2 | (simp only [Nat.zero_add]; exact ⟨by omega, by omega, rfl⟩) | (simp only [Nat.zero_add, incA_len]; omega) | grind
    refine req_i ?_ ?_
    · -- r31
      first | omega | assumption | exact i2 | (simp only [Nat.zero_add]; exact ⟨by omega, by omega, rfl⟩) | (simp only [Nat.zero_add, incA_len]; omega) | grind
    refine req_i ?_ ?_
    · -- r32
      first | omega | assumption | exact i2 | (simp only [Nat.zero_add]; exact ⟨by omega, by omega, rfl⟩) | (simp only [Nat.zero_add, incA_len]; omega) | grind
    refine req_i ?_ ?_
    · -- r33
      first | omega | exact i2 | (simp only [Int.toNat_natCast, List.length_replicate, List.length_cons, List.length_nil, lenCols_i, lenCols_b]; exact ⟨by omega, by omega, rfl⟩) | (simp only [Int.toNat_natCast, List.length_replicate, List.length_cons, List.length_nil, lenCols_i, lenCols_b, incA_len]; omega) | ((try simp only [Int.toNat_natCast, List.length_replicate, List.length_cons, List.length_nil, lenCols_i, lenCols_b]); first | done | omega | assumption | grind [getD_set, getD_rep, toNat_succ, cntN_yes, cntN_no])
    refine req_i ?_ ?_
    · -- r34
      first | omega | exact i2 | (simp only [Int.toNat_natCast, List.length_replicate, List.length_cons, List.length_nil, lenCols_i, lenCols_b]; exact ⟨by omega, by omega, rfl⟩) | (simp only [Int.toNat_natCast, List.length_replicate, List.length_cons, List.length_nil, lenCols_i, lenCols_b, incA_len]; omega) | ((try simp only [Int.toNat_natCast, List.length_replicate, List.length_cons, List.length_nil, lenCols_i, lenCols_b]); first | done | omega | assumption | grind [getD_set, getD_rep, toNat_succ, cntN_yes, cntN_no])
    refine req_i ?_ ?_
    · -- r35
      first | assumption | exact rep_bd (by omega) (by omega) | exact set_bd (by assumption) (by omega) (by omega) | exact take_bd (by assumption) | exact i2 | (simp only [Int.toNat_natCast, List.length_replicate, List.length_cons, List.length_nil]; exact ⟨by omega, by omega, rfl⟩) | (simp only [Int.toNat_natCast, List.length_replicate, List.length_cons, List.length_nil, incA_len]; omega) | ((try simp only [Int.toNat_natCast, List.length_replicate, List.length_cons, List.length_nil]); first | assumption | exact rep_bd (by omega) (by omega) | exact set_bd (by assumption) (by omega) (by omega) | exact take_bd (by assumption) | grind [getD_set, getD_rep, toNat_succ, cntN_yes, cntN_no])
    refine req_i ?_ ?_
    · -- r36
      first | omega | exact i2 | (simp only [Int.toNat_natCast, List.length_replicate, List.length_cons, List.length_nil, lenCols_i, lenCols_b]; exact ⟨by omega, by omega, rfl⟩) | (simp only [Int.toNat_natCast, List.length_replicate, List.length_cons, List.length_nil, lenCols_i, lenCols_b, incA_len]; omega) | ((try simp only [Int.toNat_natCast, List.length_replicate, List.length_cons, List.length_nil, lenCols_i, lenCols_b]); first | done | omega | assumption | grind [getD_set, getD_rep, toNat_succ, cntN_yes, cntN_no])
    refine req_i ?_ ?_
    · -- r37
      first | assumption | exact rep_bd (by omega) (by omega) | exact set_bd (by assumption) (by omega) (by omega) | exact take_bd (by assumption) | exact i2 | (simp only [Int.toNat_natCast, List.length_replicate, List.length_cons, List.length_nil]; exact ⟨by omega, by omega, rfl⟩) | (simp only [Int.toNat_natCast, List.length_replicate, List.length_cons, List.length_nil, incA_len]; omega) | ((try simp only [Int.toNat_natCast, List.length_replicate, List.length_cons, List.length_nil]); first | assumption | exact rep_bd (by omega) (by omega) | exact set_bd (by assumption) (by omega) (by omega) | exact take_bd (by assumption) | grind [getD_set, getD_rep, toNat_succ, cntN_yes, cntN_no])
    refine req_i ?_ ?_
    · -- r38
      first | omega | exact i2 | (simp only [mapL, mapInv, mea0, List.cons.injEq, DV.b.injEq, and_true, Int.toNat_natCast, List.length_replicate, List.length_take, List.take_length, List.take_take, Nat.min_self, List.length_drop, List.drop_zero, List.length_cons, List.length_nil]; exact ⟨by omega, by omega, rfl⟩) | (simp only [mapL, mapInv, mea0, List.cons.injEq, DV.b.injEq, and_true, Int.toNat_natCast, List.length_replicate, List.length_take, List.take_length, List.take_take, Nat.min_self, List.length_drop, List.drop_zero, List.length_cons, List.length_nil, incA_len]; omega) | ((try simp only [mapL, mapInv, mea0, List.cons.injEq, DV.b.injEq, and_true, Int.toNat_natCast, List.length_replicate, List.length_take, List.take_length, List.take_take, Nat.min_self, List.length_drop, List.drop_zero, List.length_cons, List.length_nil]); first | done | omega | assumption | grind [getD_set, getD_rep, toNat_succ, cntN_yes, cntN_no])
    refine all_i fun n6 => ?_
    refine imp_i fun h16 => ?_
    refine imp_i fun h17 => ?_
    refine all_i fun l7 => ?_
    refine imp_i fun h18 => ?_
    refine imp_i fun h19 => ?_
    refine all_i fun l8 => ?_
    refine imp_i fun h20 => ?_
    have tkl8 := take_eq h20
    try simp only [tkl8]
    refine imp_i fun h21 => ?_
    refine imp_i fun h22 => ?_
    try simp only [mapL, mapInv, mea0, List.cons.injEq, DV.b.injEq, and_true, List.length_take, List.take_length, List.take_take, Nat.min_self, List.length_drop, List.drop_zero, List.length_cons, List.length_nil] at h22
    refine bR_dec (fun h23 => ?_) (fun h23 => ?_)
    ·
      have ib := inS_bd I (i := n6) (by omega)
      refine req_i ?_ ?_
      · -- r39
        first | omega | exact i2 | (simp only [Int.toNat_natCast, List.length_cons, List.length_nil]; exact ⟨by omega, by omega, rfl⟩) | (simp only [Int.toNat_natCast, List.length_cons, List.length_nil, incA_len]; omega) | ((try simp only [Int.toNat_natCast, List.length_cons, List.length_nil]); first | done | omega | assumption | grind [getD_set, getD_rep, toNat_succ, cntN_yes, cntN_no])
      refine req_i ?_ ?_
      · -- r40
        first | omega | exact i2 | (simp only [Int.toNat_natCast, List.length_cons, List.length_nil, Nat.add_eq, Nat.zero_add]; exact ⟨by omega, by omega, rfl⟩) | (simp only [Int.toNat_natCast, List.length_cons, List.length_nil, Nat.add_eq, Nat.zero_add, incA_len]; omega) | ((try simp only [Int.toNat_natCast, List.length_cons, List.length_nil, Nat.add_eq, Nat.zero_add]); first | done | omega | assumption | grind [getD_set, getD_rep, toNat_succ, cntN_yes, cntN_no])
      refine req_i ?_ ?_
      · -- r41
        first | omega | exact i2 | (simp only [Int.toNat_natCast, List.length_cons, List.length_nil, Nat.add_eq, Nat.zero_add]; exact ⟨by omega, by omega, rfl⟩) | (simp only [Int.toNat_natCast, List.length_cons, List.length_nil, Nat.add_eq, Nat.zero_add, incA_len]; omega) | ((try simp only [Int.toNat_natCast, List.length_cons, List.length_nil, Nat.add_eq, Nat.zero_add]); first | done | omega | assumption | grind [getD_set, getD_rep, toNat_succ, cntN_yes, cntN_no])
      refine req_i ?_ ?_
      · -- r42
        first | omega | assumption | exact i2 | (simp only [Nat.zero_add]; exact ⟨by omega, by omega, rfl⟩) | (simp only [Nat.zero_add, incA_len]; omega) | grind
      refine req_i ?_ ?_
      · -- r43
        first | omega | assumption | exact i2 | (simp only [Nat.zero_add]; exact ⟨by omega, by omega, rfl⟩) | (simp only [Nat.zero_add, incA_len]; omega) | grind
      refine req_i ?_ ?_
      · -- r44
        first | omega | assumption | exact i2 | (simp only [Nat.zero_add]; exact ⟨by omega, by omega, rfl⟩) | (simp only [Nat.zero_add, incA_len]; omega) | grind
      refine req_i ?_ ?_
      · -- r45
        first | omega | assumption | exact i2 | (simp only [Nat.zero_add]; exact ⟨by omega, by omega, rfl⟩) | (simp only [Nat.zero_add, incA_len]; omega) | grind
      refine req_i ?_ ?_
      · -- r46
        first | omega | assumption | exact i2 | (simp only [Int.toNat_natCast, List.length_cons, List.length_nil, Nat.add_eq, Nat.zero_add]; exact ⟨by omega, by omega, rfl⟩) | (simp only [Int.toNat_natCast, List.length_cons, List.length_nil, Nat.add_eq, Nat.zero_add, incA_len]; omega) | grind
      refine req_i ?_ ?_
      · -- r47
        first | omega | assumption | exact i2 | (simp only [Int.toNat_natCast, List.length_cons, List.length_nil, Nat.add_eq, Nat.zero_add]; exact ⟨by omega, by omega, rfl⟩) | (simp only [Int.toNat_natCast, List.length_cons, List.length_nil, Nat.add_eq, Nat.zero_add, incA_len]; omega) | grind
      refine req_i ?_ ?_
      · -- r48
        first | trivial | assumption | exact i2 | (simp only [sigLev, levPost, List.cons.injEq, DV.b.injEq, and_true, Int.toNat_natCast, List.length_cons, List.length_nil, Nat.add_eq, Nat.zero_add]; exact ⟨by omega, by omega, rfl⟩) | (simp only [sigLev, levPost, List.cons.injEq, DV.b.injEq, and_true, Int.toNat_natCast, List.length_cons, List.length_nil, Nat.add_eq, Nat.zero_add, incA_len]; omega) | (simp only [sigLev, levPost, List.cons.injEq, DV.b.injEq, and_true, Int.toNat_natCast, List.length_cons, List.length_nil, Nat.add_eq, Nat.zero_add]; done) | ((try simp only [sigLev, levPost, List.cons.injEq, DV.b.injEq, and_true, Int.toNat_natCast, List.length_cons, List.length_nil, Nat.add_eq, Nat.zero_add]); first | omega | assumption | grind)
      refine all_i fun n9 => ?_
      refine imp_i fun h24 => ?_
      refine imp_i fun h25 => ?_
      refine imp_i fun h26 => ?_
      try simp only [sigLev, levPost, List.cons.injEq, DV.b.injEq, and_true, Int.toNat_natCast, List.length_cons, List.length_nil, Nat.add_eq, Nat.zero_add] at h26
      refine req_i ?_ ?_
      · -- r49
        first | omega | assumption | exact i2 | (simp only [Nat.zero_add]; exact ⟨by omega, by omega, rfl⟩) | (simp only [Nat.zero_add, incA_len]; omega) | grind
      refine req_i ?_ ?_
      · -- r50
        first | omega | assumption | exact i2 | (simp only [Nat.zero_add]; exact ⟨by omega, by omega, rfl⟩) | (simp only [Nat.zero_add, incA_len]; omega) | grind
      refine req_i ?_ ?_
      · -- r51
        first | omega | assumption | exact i2 | (simp only [Nat.zero_add]; exact ⟨by omega, by omega, rfl⟩) | (simp only [Nat.zero_add, incA_len]; omega) | grind
      refine req_i ?_ ?_
      · -- r52
        first | omega | assumption | exact i2 | (simp only [Nat.zero_add]; exact ⟨by omega, by omega, rfl⟩) | (simp only [Nat.zero_add, incA_len]; omega) | grind
      refine req_i ?_ ?_
      · -- r53
        first | omega | assumption | exact i2 | (simp only [Int.toNat_natCast, List.length_cons, List.length_nil, Nat.add_eq, Nat.zero_add]; exact ⟨by omega, by omega, rfl⟩) | (simp only [Int.toNat_natCast, List.length_cons, List.length_nil, Nat.add_eq, Nat.zero_add, incA_len]; omega) | grind
      refine req_i ?_ ?_
      · -- r54
        first | omega | assumption | exact i2 | (simp only [Int.toNat_natCast, List.length_cons, List.length_nil, Nat.add_eq, Nat.zero_add]; exact ⟨by omega, by omega, rfl⟩) | (simp only [Int.toNat_natCast, List.length_cons, List.length_nil, Nat.add_eq, Nat.zero_add, incA_len]; omega) | grind
      refine req_i ?_ ?_
      · -- r55
        first | trivial | assumption | exact i2 | (simp only [sigLev, levPost, List.cons.injEq, DV.b.injEq, and_true, Int.toNat_natCast, List.length_cons, List.length_nil, Nat.add_eq, Nat.zero_add]; exact ⟨by omega, by omega, rfl⟩) | (simp only [sigLev, levPost, List.cons.injEq, DV.b.injEq, and_true, Int.toNat_natCast, List.length_cons, List.length_nil, Nat.add_eq, Nat.zero_add, incA_len]; omega) | (simp only [sigLev, levPost, List.cons.injEq, DV.b.injEq, and_true, Int.toNat_natCast, List.length_cons, List.length_nil, Nat.add_eq, Nat.zero_add]; done) | ((try simp only [sigLev, levPost, List.cons.injEq, DV.b.injEq, and_true, Int.toNat_natCast, List.length_cons, List.length_nil, Nat.add_eq, Nat.zero_add]); first | omega | assumption | grind)
      refine all_i fun n10 => ?_
      refine imp_i fun h27 => ?_
      refine imp_i fun h28 => ?_
      refine imp_i fun h29 => ?_
      try simp only [sigLev, levPost, List.cons.injEq, DV.b.injEq, and_true, Int.toNat_natCast, List.length_cons, List.length_nil, Nat.add_eq, Nat.zero_add] at h29
      refine req_i ?_ ?_
      · -- r56
        first | omega | exact i2 | (simp only [Int.toNat_natCast, List.length_cons, List.length_nil]; exact ⟨by omega, by omega, rfl⟩) | (simp only [Int.toNat_natCast, List.length_cons, List.length_nil, incA_len]; omega) | ((try simp only [Int.toNat_natCast, List.length_cons, List.length_nil]); first | done | omega | assumption | grind [getD_set, getD_rep, toNat_succ, cntN_yes, cntN_no])
      refine req_i ?_ ?_
      · -- r57
        first | omega | exact i2 | (simp only [Int.toNat_natCast, List.length_cons, List.length_nil, Nat.add_eq, Nat.zero_add]; exact ⟨by omega, by omega, rfl⟩) | (simp only [Int.toNat_natCast, List.length_cons, List.length_nil, Nat.add_eq, Nat.zero_add, incA_len]; omega) | ((try simp only [Int.toNat_natCast, List.length_cons, List.length_nil, Nat.add_eq, Nat.zero_add]); first | done | omega | assumption | grind [getD_set, getD_rep, toNat_succ, cntN_yes, cntN_no])
      refine req_i ?_ ?_
      · -- r58
        first | omega | exact i2 | (simp only [Int.toNat_natCast, List.length_cons, List.length_nil, Nat.add_eq, Nat.zero_add]; exact ⟨by omega, by omega, rfl⟩) | (simp only [Int.toNat_natCast, List.length_cons, List.length_nil, Nat.add_eq, Nat.zero_add, incA_len]; omega) | ((try simp only [Int.toNat_natCast, List.length_cons, List.length_nil, Nat.add_eq, Nat.zero_add]); first | done | omega | assumption | grind [getD_set, getD_rep, toNat_succ, cntN_yes, cntN_no])
      refine bR_t ?_ ?_
      · -- g0
        first | rfl | (simp only [bR_iff, bR_iff_f, dec_iff, dec_f, beqB_iff', andB_iff', reduceCtorEq, imp_self, false_implies, and_true, true_and, implies_true, and_self]; done) | (simp [bR_iff, dec_iff, beqB_iff', andB_iff']; done) | (simp [bR_iff, dec_iff, beqB_iff', andB_iff']; omega)
      refine bR_t ?_ ?_
      · -- g1
        first | rfl | (simp only [bR_iff, bR_iff_f, dec_iff, dec_f, beqB_iff', andB_iff', reduceCtorEq, imp_self, false_implies, and_true, true_and, implies_true, and_self]; done) | (simp [bR_iff, dec_iff, beqB_iff', andB_iff']; done) | (simp [bR_iff, dec_iff, beqB_iff', andB_iff']; omega)
      refine req_i ?_ ?_
      · -- r59
        first | omega | assumption | exact i2 | (simp only [Nat.zero_add]; exact ⟨by omega, by omega, rfl⟩) | (simp only [Nat.zero_add, incA_len]; omega) | grind
      refine req_i ?_ ?_
      · -- r60
        first | omega | assumption | exact i2 | (simp only [Nat.zero_add]; exact ⟨by omega, by omega, rfl⟩) | (simp only [Nat.zero_add, incA_len]; omega) | grind
      refine req_i ?_ ?_
      · -- r61
        first | omega | exact i2 | (simp only [Int.toNat_natCast, List.length_set, List.length_cons, List.length_nil, lenCols_i, lenCols_b, Nat.add_eq, Nat.zero_add]; exact ⟨by omega, by omega, rfl⟩) | (simp only [Int.toNat_natCast, List.length_set, List.length_cons, List.length_nil, lenCols_i, lenCols_b, Nat.add_eq, Nat.zero_add, incA_len]; omega) | ((try simp only [Int.toNat_natCast, List.length_set, List.length_cons, List.length_nil, lenCols_i, lenCols_b, Nat.add_eq, Nat.zero_add]); first | done | omega | assumption | grind [getD_set, getD_rep, toNat_succ, cntN_yes, cntN_no])
      refine req_i ?_ ?_
      · -- r62
        first | omega | exact i2 | (simp only [Int.toNat_natCast, List.length_set, List.length_cons, List.length_nil, lenCols_i, lenCols_b, Nat.add_eq, Nat.zero_add]; exact ⟨by omega, by omega, rfl⟩) | (simp only [Int.toNat_natCast, List.length_set, List.length_cons, List.length_nil, lenCols_i, lenCols_b, Nat.add_eq, Nat.zero_add, incA_len]; omega) | ((try simp only [Int.toNat_natCast, List.length_set, List.length_cons, List.length_nil, lenCols_i, lenCols_b, Nat.add_eq, Nat.zero_add]); first | done | omega | assumption | grind [getD_set, getD_rep, toNat_succ, cntN_yes, cntN_no])
      refine req_i ?_ ?_
      · -- r63
        first | assumption | exact rep_bd (by omega) (by omega) | exact set_bd (by assumption) (by omega) (by omega) | exact take_bd (by assumption) | exact i2 | (simp only [Int.toNat_natCast, List.length_set, List.length_cons, List.length_nil, Nat.add_eq, Nat.zero_add]; exact ⟨by omega, by omega, rfl⟩) | (simp only [Int.toNat_natCast, List.length_set, List.length_cons, List.length_nil, Nat.add_eq, Nat.zero_add, incA_len]; omega) | ((try simp only [Int.toNat_natCast, List.length_set, List.length_cons, List.length_nil, Nat.add_eq, Nat.zero_add]); first | assumption | exact rep_bd (by omega) (by omega) | exact set_bd (by assumption) (by omega) (by omega) | exact take_bd (by assumption) | grind [getD_set, getD_rep, toNat_succ, cntN_yes, cntN_no])
      refine req_i ?_ ?_
      · -- r64
        first | omega | exact i2 | (simp only [Int.toNat_natCast, List.length_set, List.length_cons, List.length_nil, lenCols_i, lenCols_b, Nat.add_eq, Nat.zero_add]; exact ⟨by omega, by omega, rfl⟩) | (simp only [Int.toNat_natCast, List.length_set, List.length_cons, List.length_nil, lenCols_i, lenCols_b, Nat.add_eq, Nat.zero_add, incA_len]; omega) | ((try simp only [Int.toNat_natCast, List.length_set, List.length_cons, List.length_nil, lenCols_i, lenCols_b, Nat.add_eq, Nat.zero_add]); first | done | omega | assumption | grind [getD_set, getD_rep, toNat_succ, cntN_yes, cntN_no])
      refine req_i ?_ ?_
      · -- r65
        first | assumption | exact rep_bd (by omega) (by omega) | exact set_bd (by assumption) (by omega) (by omega) | exact take_bd (by assumption) | exact i2 | (simp only [Int.toNat_natCast, List.length_set, List.length_cons, List.length_nil, Nat.add_eq, Nat.zero_add]; exact ⟨by omega, by omega, rfl⟩) | (simp only [Int.toNat_natCast, List.length_set, List.length_cons, List.length_nil, Nat.add_eq, Nat.zero_add, incA_len]; omega) | ((try simp only [Int.toNat_natCast, List.length_set, List.length_cons, List.length_nil, Nat.add_eq, Nat.zero_add]); first | assumption | exact rep_bd (by omega) (by omega) | exact set_bd (by assumption) (by omega) (by omega) | exact take_bd (by assumption) | grind [getD_set, getD_rep, toNat_succ, cntN_yes, cntN_no])
      refine req_i ?_ ?_
      · -- r66
        first | omega | exact i2 | (simp only [mapL, mapInv, mea0, List.cons.injEq, DV.b.injEq, and_true, Int.toNat_natCast, List.length_set, List.length_take, List.take_length, List.take_take, Nat.min_self, List.length_drop, List.drop_zero, List.length_cons, List.length_nil, Nat.add_eq, Nat.zero_add]; exact ⟨by omega, by omega, rfl⟩) | (simp only [mapL, mapInv, mea0, List.cons.injEq, DV.b.injEq, and_true, Int.toNat_natCast, List.length_set, List.length_take, List.take_length, List.take_take, Nat.min_self, List.length_drop, List.drop_zero, List.length_cons, List.length_nil, Nat.add_eq, Nat.zero_add, incA_len]; omega) | ((try simp only [mapL, mapInv, mea0, List.cons.injEq, DV.b.injEq, and_true, Int.toNat_natCast, List.length_set, List.length_take, List.take_length, List.take_take, Nat.min_self, List.length_drop, List.drop_zero, List.length_cons, List.length_nil, Nat.add_eq, Nat.zero_add]); first | done | omega | assumption | grind [getD_set, getD_rep, toNat_succ, cntN_yes, cntN_no])
      refine req_i ?_ ?_
      · -- r67
        first | omega | exact i2 | (simp only [mapL, mapInv, mea0, List.cons.injEq, DV.b.injEq, and_true, Int.toNat_natCast, List.length_set, List.length_take, List.take_length, List.take_take, Nat.min_self, List.length_drop, List.drop_zero, List.length_cons, List.length_nil, Nat.add_eq, Nat.zero_add]; exact ⟨by omega, by omega, rfl⟩) | (simp only [mapL, mapInv, mea0, List.cons.injEq, DV.b.injEq, and_true, Int.toNat_natCast, List.length_set, List.length_take, List.take_length, List.take_take, Nat.min_self, List.length_drop, List.drop_zero, List.length_cons, List.length_nil, Nat.add_eq, Nat.zero_add, incA_len]; omega) | ((try simp only [mapL, mapInv, mea0, List.cons.injEq, DV.b.injEq, and_true, Int.toNat_natCast, List.length_set, List.length_take, List.take_length, List.take_take, Nat.min_self, List.length_drop, List.drop_zero, List.length_cons, List.length_nil, Nat.add_eq, Nat.zero_add]); first | done | omega | assumption | grind [getD_set, getD_rep, toNat_succ, cntN_yes, cntN_no])
      rfl
    ·
      have tq7 := take_eq' (l := l7) h22.2.2.1
      have tq8 := take_eq' (l := l8) (n := l0.length) (by omega)
      simp only [tq7, tq8]
      refine req_i ?_ ?_
      · -- r68
        first | omega | exact i2 | (simp only [Int.toNat_natCast, List.length_cons, List.length_nil, Nat.mul_eq]; exact ⟨by omega, by omega, rfl⟩) | (simp only [Int.toNat_natCast, List.length_cons, List.length_nil, Nat.mul_eq, incA_len]; omega) | ((try simp only [Int.toNat_natCast, List.length_cons, List.length_nil, Nat.mul_eq]); first | done | omega | assumption | grind [getD_set, getD_rep, toNat_succ, cntN_yes, cntN_no])
      refine req_i ?_ ?_
      · -- r69
        first | omega | exact i2 | (simp only [Int.toNat_natCast, List.length_cons, List.length_nil]; exact ⟨by omega, by omega, rfl⟩) | (simp only [Int.toNat_natCast, List.length_cons, List.length_nil, incA_len]; omega) | ((try simp only [Int.toNat_natCast, List.length_cons, List.length_nil]); first | done | omega | assumption | grind [getD_set, getD_rep, toNat_succ, cntN_yes, cntN_no])
      refine req_i ?_ ?_
      · -- r70
        first | omega | exact i2 | (simp only [Int.toNat_natCast, List.length_take, List.take_length, List.take_take, Nat.min_self, List.length_drop, List.drop_zero, List.length_cons, List.length_nil]; exact ⟨by omega, by omega, rfl⟩) | (simp only [Int.toNat_natCast, List.length_take, List.take_length, List.take_take, Nat.min_self, List.length_drop, List.drop_zero, List.length_cons, List.length_nil, incA_len]; omega) | ((try simp only [Int.toNat_natCast, List.length_take, List.take_length, List.take_take, Nat.min_self, List.length_drop, List.drop_zero, List.length_cons, List.length_nil]); first | done | omega | assumption | grind [getD_set, getD_rep, toNat_succ, cntN_yes, cntN_no])
      refine req_i ?_ ?_
      · -- r71
        first | assumption | exact rep_bd (by omega) (by omega) | exact set_bd (by assumption) (by omega) (by omega) | exact take_bd (by assumption) | exact i2 | (simp only [Int.toNat_natCast, List.length_take, List.take_length, List.take_take, Nat.min_self, List.length_drop, List.drop_zero, List.length_cons, List.length_nil]; exact ⟨by omega, by omega, rfl⟩) | (simp only [Int.toNat_natCast, List.length_take, List.take_length, List.take_take, Nat.min_self, List.length_drop, List.drop_zero, List.length_cons, List.length_nil, incA_len]; omega) | ((try simp only [Int.toNat_natCast, List.length_take, List.take_length, List.take_take, Nat.min_self, List.length_drop, List.drop_zero, List.length_cons, List.length_nil]); first | assumption | exact rep_bd (by omega) (by omega) | exact set_bd (by assumption) (by omega) (by omega) | exact take_bd (by assumption) | grind [getD_set, getD_rep, toNat_succ, cntN_yes, cntN_no])
      refine req_i ?_ ?_
      · -- r72
        first | omega | exact i2 | (simp only [Int.toNat_natCast, List.length_take, List.take_length, List.take_take, Nat.min_self, List.length_drop, List.drop_zero, List.length_cons, List.length_nil]; exact ⟨by omega, by omega, rfl⟩) | (simp only [Int.toNat_natCast, List.length_take, List.take_length, List.take_take, Nat.min_self, List.length_drop, List.drop_zero, List.length_cons, List.length_nil, incA_len]; omega) | ((try simp only [Int.toNat_natCast, List.length_take, List.take_length, List.take_take, Nat.min_self, List.length_drop, List.drop_zero, List.length_cons, List.length_nil]); first | done | omega | assumption | grind [getD_set, getD_rep, toNat_succ, cntN_yes, cntN_no])
      refine req_i ?_ ?_
      · -- r73
        first | assumption | exact rep_bd (by omega) (by omega) | exact set_bd (by assumption) (by omega) (by omega) | exact take_bd (by assumption) | exact i2 | (simp only [Int.toNat_natCast, List.length_take, List.take_length, List.take_take, Nat.min_self, List.length_drop, List.drop_zero, List.length_cons, List.length_nil]; exact ⟨by omega, by omega, rfl⟩) | (simp only [Int.toNat_natCast, List.length_take, List.take_length, List.take_take, Nat.min_self, List.length_drop, List.drop_zero, List.length_cons, List.length_nil, incA_len]; omega) | ((try simp only [Int.toNat_natCast, List.length_take, List.take_length, List.take_take, Nat.min_self, List.length_drop, List.drop_zero, List.length_cons, List.length_nil]); first | assumption | exact rep_bd (by omega) (by omega) | exact set_bd (by assumption) (by omega) (by omega) | exact take_bd (by assumption) | grind [getD_set, getD_rep, toNat_succ, cntN_yes, cntN_no])
      refine req_i ?_ ?_
      · -- r74
        first | omega | assumption | exact i2 | (simp only [Nat.zero_add]; exact ⟨by omega, by omega, rfl⟩) | (simp only [Nat.zero_add, incA_len]; omega) | grind
      refine req_i ?_ ?_
      · -- r75
        first | omega | assumption | exact i2 | (simp only [Nat.zero_add]; exact ⟨by omega, by omega, rfl⟩) | (simp only [Nat.zero_add, incA_len]; omega) | grind
      refine req_i ?_ ?_
      · -- r76
        first | omega | exact i2 | (simp only [Int.toNat_natCast, List.length_replicate, List.length_cons, List.length_nil, lenCols_i, lenCols_b]; exact ⟨by omega, by omega, rfl⟩) | (simp only [Int.toNat_natCast, List.length_replicate, List.length_cons, List.length_nil, lenCols_i, lenCols_b, incA_len]; omega) | ((try simp only [Int.toNat_natCast, List.length_replicate, List.length_cons, List.length_nil, lenCols_i, lenCols_b]); first | done | omega | assumption | grind [getD_set, getD_rep, toNat_succ, cntN_yes, cntN_no])
      refine req_i ?_ ?_
      · -- r77
        first | omega | exact i2 | (simp only [Int.toNat_natCast, List.length_replicate, List.length_cons, List.length_nil, lenCols_i, lenCols_b]; exact ⟨by omega, by omega, rfl⟩) | (simp only [Int.toNat_natCast, List.length_replicate, List.length_cons, List.length_nil, lenCols_i, lenCols_b, incA_len]; omega) | ((try simp only [Int.toNat_natCast, List.length_replicate, List.length_cons, List.length_nil, lenCols_i, lenCols_b]); first | done | omega | assumption | grind [getD_set, getD_rep, toNat_succ, cntN_yes, cntN_no])
      refine req_i ?_ ?_
      · -- r78
        first | assumption | exact rep_bd (by omega) (by omega) | exact set_bd (by assumption) (by omega) (by omega) | exact take_bd (by assumption) | exact i2 | (simp only [Int.toNat_natCast, List.length_replicate, List.length_cons, List.length_nil]; exact ⟨by omega, by omega, rfl⟩) | (simp only [Int.toNat_natCast, List.length_replicate, List.length_cons, List.length_nil, incA_len]; omega) | ((try simp only [Int.toNat_natCast, List.length_replicate, List.length_cons, List.length_nil]); first | assumption | exact rep_bd (by omega) (by omega) | exact set_bd (by assumption) (by omega) (by omega) | exact take_bd (by assumption) | grind [getD_set, getD_rep, toNat_succ, cntN_yes, cntN_no])
      refine req_i ?_ ?_
      · -- r79
        first | omega | exact i2 | (simp only [cntL, cntInv, mea0, List.cons.injEq, DV.b.injEq, and_true, Int.toNat_natCast, List.length_replicate, List.length_take, List.take_length, List.take_take, Nat.min_self, List.length_drop, List.drop_zero, List.length_cons, List.length_nil]; exact ⟨by omega, by omega, rfl⟩) | (simp only [cntL, cntInv, mea0, List.cons.injEq, DV.b.injEq, and_true, Int.toNat_natCast, List.length_replicate, List.length_take, List.take_length, List.take_take, Nat.min_self, List.length_drop, List.drop_zero, List.length_cons, List.length_nil, incA_len]; omega) | ((try simp only [cntL, cntInv, mea0, List.cons.injEq, DV.b.injEq, and_true, Int.toNat_natCast, List.length_replicate, List.length_take, List.take_length, List.take_take, Nat.min_self, List.length_drop, List.drop_zero, List.length_cons, List.length_nil]); first | done | omega | assumption | grind [getD_set, getD_rep, toNat_succ, cntN_yes, cntN_no])
      refine all_i fun n11 => ?_
      refine imp_i fun h30 => ?_
      refine imp_i fun h31 => ?_
      refine all_i fun l12 => ?_
      refine imp_i fun h32 => ?_
      refine imp_i fun h33 => ?_
      refine imp_i fun h34 => ?_
      try simp only [cntL, cntInv, mea0, List.cons.injEq, DV.b.injEq, and_true, Int.toNat_natCast, List.length_take, List.take_length, List.take_take, Nat.min_self, List.length_drop, List.drop_zero, List.length_cons, List.length_nil] at h34
      try simp only [tq7, tq8] at h34
      refine bR_dec (fun h35 => ?_) (fun h35 => ?_)
      ·
        have m1 := h22.2.2.2 n11.toNat (by omega)
        have b1 := lev_bd (b := n2) (n := n3) (x := l0.getD n11.toNat 0) (by omega) (by omega)
        have b2 := lev_bd (b := n2) (n := n3) (x := l1.getD n11.toNat 0) (by omega) (by omega)
        refine req_i ?_ ?_
        · -- r80
          first | omega | exact i2 | (simp only [Int.toNat_natCast, List.length_cons, List.length_nil]; exact ⟨by omega, by omega, rfl⟩) | (simp only [Int.toNat_natCast, List.length_cons, List.length_nil, incA_len]; omega) | ((try simp only [Int.toNat_natCast, List.length_cons, List.length_nil]); first | done | omega | assumption | grind [getD_set, getD_rep, toNat_succ, cntN_yes, cntN_no])
        refine req_i ?_ ?_
        · -- r81
          first | omega | exact i2 | (simp only [Int.toNat_natCast, List.length_cons, List.length_nil, Nat.add_eq, Nat.zero_add]; exact ⟨by omega, by omega, rfl⟩) | (simp only [Int.toNat_natCast, List.length_cons, List.length_nil, Nat.add_eq, Nat.zero_add, incA_len]; omega) | ((try simp only [Int.toNat_natCast, List.length_cons, List.length_nil, Nat.add_eq, Nat.zero_add]); first | done | omega | assumption | grind [getD_set, getD_rep, toNat_succ, cntN_yes, cntN_no])
        refine req_i ?_ ?_
        · -- r82
          first | omega | exact i2 | (simp only [Int.toNat_natCast, List.length_cons, List.length_nil, Nat.add_eq, Nat.zero_add]; exact ⟨by omega, by omega, rfl⟩) | (simp only [Int.toNat_natCast, List.length_cons, List.length_nil, Nat.add_eq, Nat.zero_add, incA_len]; omega) | ((try simp only [Int.toNat_natCast, List.length_cons, List.length_nil, Nat.add_eq, Nat.zero_add]); first | done | omega | assumption | grind [getD_set, getD_rep, toNat_succ, cntN_yes, cntN_no])
        refine all_i fun n13 => ?_
        refine imp_i fun h36 => ?_
        simp only [wrap_i64] at h36
        have hb := hist_bd n5 (fun j => l7.getD j 0) (fun j => l8.getD j 0) n11.toNat
        rw [← h34.2.2] at hb
        have hl := hist_len n5 (fun j => l7.getD j 0) (fun j => l8.getD j 0) n11.toNat
        rw [← h34.2.2] at hl
        have g1 := getD_bd (i := n13.toNat) hb (by omega) (by omega)
        have i1 := incA_bd (i := n13.toNat) hb (by omega)
        refine imp_i fun h37 => ?_
        refine imp_i fun h38 => ?_
        refine req_i ?_ ?_
        · -- r83
          first | omega | assumption | exact i2 | (simp only [Nat.zero_add]; exact ⟨by omega, by omega, rfl⟩) | (simp only [Nat.zero_add, incA_len]; omega) | grind
        refine req_i ?_ ?_
        · -- r84
          first | omega | assumption | exact i2 | (simp only [Int.toNat_natCast, List.length_cons, List.length_nil]; exact ⟨by omega, by omega, rfl⟩) | (simp only [Int.toNat_natCast, List.length_cons, List.length_nil, incA_len]; omega) | grind
        refine req_i ?_ ?_
        · -- r85
          first | omega | exact i2 | (simp only [Int.toNat_natCast, List.length_cons, List.length_nil, Nat.add_eq, Nat.zero_add]; exact ⟨by omega, by omega, rfl⟩) | (simp only [Int.toNat_natCast, List.length_cons, List.length_nil, Nat.add_eq, Nat.zero_add, incA_len]; omega) | ((try simp only [Int.toNat_natCast, List.length_cons, List.length_nil, Nat.add_eq, Nat.zero_add]); first | done | omega | assumption | grind [getD_set, getD_rep, toNat_succ, cntN_yes, cntN_no])
        refine req_i ?_ ?_
        · -- r86
          first | omega | assumption | exact i2 | (simp only [Nat.zero_add]; exact ⟨by omega, by omega, rfl⟩) | (simp only [Nat.zero_add, incA_len]; omega) | grind
        refine req_i ?_ ?_
        · -- r87
          first | omega | assumption | exact i2 | (simp only [Int.toNat_natCast, List.length_cons, List.length_nil]; exact ⟨by omega, by omega, rfl⟩) | (simp only [Int.toNat_natCast, List.length_cons, List.length_nil, incA_len]; omega) | grind
        refine req_i ?_ ?_
        · -- r88
          first | omega | assumption | exact i2 | (simp only [Int.toNat_natCast, List.length_cons, List.length_nil, Nat.add_eq, Nat.zero_add]; exact ⟨by omega, by omega, rfl⟩) | (simp only [Int.toNat_natCast, List.length_cons, List.length_nil, Nat.add_eq, Nat.zero_add, incA_len]; omega) | grind
        refine req_i ?_ ?_
        · -- r89
          first | omega | exact i2 | (simp only [Int.toNat_natCast, List.length_cons, List.length_nil, Nat.add_eq, Nat.zero_add]; exact ⟨by omega, by omega, rfl⟩) | (simp only [Int.toNat_natCast, List.length_cons, List.length_nil, Nat.add_eq, Nat.zero_add, incA_len]; omega) | ((try simp only [Int.toNat_natCast, List.length_cons, List.length_nil, Nat.add_eq, Nat.zero_add]); first | done | omega | assumption | grind [getD_set, getD_rep, toNat_succ, cntN_yes, cntN_no])
        refine all_i fun n14 => ?_
        refine imp_i fun h39 => ?_
        simp only [wrap_i64] at h39
        simp only [incA_fold]
        have g2 := getD_bd (i := n14.toNat) i1 (by omega) (by omega)
        have i2 := sub_bd (incA_bd (i := n14.toNat) i1 (by omega)) (show (0 : Int) ≤ 0 by omega) (show _ ≤ (600 : Int) by omega)
        have hn : incA (incA l12 n13.toNat) n14.toNat = hist n5 (fun j => l7.getD j 0) (fun j => l8.getD j 0) (n11 + 1).toNat := by
          rw [toNat_succ h34.1, hist, ← h34.2.2, show n13 = l7.getD n11.toNat 0 + n5 by omega, show n14 = l8.getD n11.toNat 0 + n5 by omega]
        refine imp_i fun h40 => ?_
        refine imp_i fun h41 => ?_
        refine req_i ?_ ?_
        · -- r90
          first | omega | assumption | exact i2 | (simp only [Nat.zero_add]; exact ⟨by omega, by omega, rfl⟩) | (simp only [Nat.zero_add, incA_len]; omega) | grind
        refine req_i ?_ ?_
        · -- r91
          first | omega | assumption | exact i2 | (simp only [Int.toNat_natCast, List.length_cons, List.length_nil]; exact ⟨by omega, by omega, rfl⟩) | (simp only [Int.toNat_natCast, List.length_cons, List.length_nil, incA_len]; omega) | grind
        refine req_i ?_ ?_
        · -- r92
          first | omega | exact i2 | (simp only [Int.toNat_natCast, List.length_set, List.length_cons, List.length_nil, Nat.add_eq, Nat.zero_add]; exact ⟨by omega, by omega, rfl⟩) | (simp only [Int.toNat_natCast, List.length_set, List.length_cons, List.length_nil, Nat.add_eq, Nat.zero_add, incA_len]; omega) | ((try simp only [Int.toNat_natCast, List.length_set, List.length_cons, List.length_nil, Nat.add_eq, Nat.zero_add]); first | done | omega | assumption | grind [getD_set, getD_rep, toNat_succ, cntN_yes, cntN_no])
        refine req_i ?_ ?_
        · -- r93
          first | omega | assumption | exact i2 | (simp only [Nat.zero_add]; exact ⟨by omega, by omega, rfl⟩) | (simp only [Nat.zero_add, incA_len]; omega) | grind
        refine req_i ?_ ?_
        · -- r94
          first | omega | assumption | exact i2 | (simp only [Int.toNat_natCast, List.length_cons, List.length_nil]; exact ⟨by omega, by omega, rfl⟩) | (simp only [Int.toNat_natCast, List.length_cons, List.length_nil, incA_len]; omega) | grind
        refine req_i ?_ ?_
        · -- r95
          first | omega | assumption | exact i2 | (simp only [Int.toNat_natCast, List.length_set, List.length_cons, List.length_nil, Nat.add_eq, Nat.zero_add]; exact ⟨by omega, by omega, rfl⟩) | (simp only [Int.toNat_natCast, List.length_set, List.length_cons, List.length_nil, Nat.add_eq, Nat.zero_add, incA_len]; omega) | grind
        refine req_i ?_ ?_
        · -- r96
          first | omega | exact i2 | (simp only [Int.toNat_natCast, List.length_set, List.length_cons, List.length_nil, Nat.add_eq, Nat.zero_add]; exact ⟨by omega, by omega, rfl⟩) | (simp only [Int.toNat_natCast, List.length_set, List.length_cons, List.length_nil, Nat.add_eq, Nat.zero_add, incA_len]; omega) | ((try simp only [Int.toNat_natCast, List.length_set, List.length_cons, List.length_nil, Nat.add_eq, Nat.zero_add]); first | done | omega | assumption | grind [getD_set, getD_rep, toNat_succ, cntN_yes, cntN_no])
        refine bR_t ?_ ?_
        · -- g2
          first | rfl | (simp only [bR_iff, bR_iff_f, dec_iff, dec_f, beqB_iff', andB_iff', reduceCtorEq, imp_self, false_implies, and_true, true_and, implies_true, and_self]; done) | (simp [bR_iff, dec_iff, beqB_iff', andB_iff']; done) | (simp [bR_iff, dec_iff, beqB_iff', andB_iff']; omega)
        refine bR_t ?_ ?_
        · -- g3
          first | rfl | (simp only [bR_iff, bR_iff_f, dec_iff, dec_f, beqB_iff', andB_iff', reduceCtorEq, imp_self, false_implies, and_true, true_and, implies_true, and_self]; done) | (simp [bR_iff, dec_iff, beqB_iff', andB_iff']; done) | (simp [bR_iff, dec_iff, beqB_iff', andB_iff']; omega)
        refine req_i ?_ ?_
        · -- r97
          first | omega | assumption | exact i2 | (simp only [Nat.zero_add]; exact ⟨by omega, by omega, rfl⟩) | (simp only [Nat.zero_add, incA_len]; omega) | grind
        refine req_i ?_ ?_
        · -- r98
          first | omega | assumption | exact i2 | (simp only [Nat.zero_add]; exact ⟨by omega, by omega, rfl⟩) | (simp only [Nat.zero_add, incA_len]; omega) | grind
        refine req_i ?_ ?_
        · -- r99
          first | omega | exact i2 | (simp only [Int.toNat_natCast, List.length_set, List.length_cons, List.length_nil, lenCols_i, lenCols_b, Nat.add_eq, Nat.zero_add]; exact ⟨by omega, by omega, rfl⟩) | (simp only [Int.toNat_natCast, List.length_set, List.length_cons, List.length_nil, lenCols_i, lenCols_b, Nat.add_eq, Nat.zero_add, incA_len]; omega) | ((try simp only [Int.toNat_natCast, List.length_set, List.length_cons, List.length_nil, lenCols_i, lenCols_b, Nat.add_eq, Nat.zero_add]); first | done | omega | assumption | grind [getD_set, getD_rep, toNat_succ, cntN_yes, cntN_no])
        refine req_i ?_ ?_
        · -- r100
          first | omega | exact i2 | (simp only [Int.toNat_natCast, List.length_set, List.length_cons, List.length_nil, lenCols_i, lenCols_b, Nat.add_eq, Nat.zero_add]; exact ⟨by omega, by omega, rfl⟩) | (simp only [Int.toNat_natCast, List.length_set, List.length_cons, List.length_nil, lenCols_i, lenCols_b, Nat.add_eq, Nat.zero_add, incA_len]; omega) | ((try simp only [Int.toNat_natCast, List.length_set, List.length_cons, List.length_nil, lenCols_i, lenCols_b, Nat.add_eq, Nat.zero_add]); first | done | omega | assumption | grind [getD_set, getD_rep, toNat_succ, cntN_yes, cntN_no])
        refine req_i ?_ ?_
        · -- r101
          first | assumption | exact rep_bd (by omega) (by omega) | exact set_bd (by assumption) (by omega) (by omega) | exact take_bd (by assumption) | exact i2 | (simp only [Int.toNat_natCast, List.length_set, List.length_cons, List.length_nil, Nat.add_eq, Nat.zero_add]; exact ⟨by omega, by omega, rfl⟩) | (simp only [Int.toNat_natCast, List.length_set, List.length_cons, List.length_nil, Nat.add_eq, Nat.zero_add, incA_len]; omega) | ((try simp only [Int.toNat_natCast, List.length_set, List.length_cons, List.length_nil, Nat.add_eq, Nat.zero_add]); first | assumption | exact rep_bd (by omega) (by omega) | exact set_bd (by assumption) (by omega) (by omega) | exact take_bd (by assumption) | grind [getD_set, getD_rep, toNat_succ, cntN_yes, cntN_no])
        refine req_i ?_ ?_
        · -- r102
          first | omega | exact i2 | (simp only [cntL, cntInv, mea0, List.cons.injEq, DV.b.injEq, and_true, Int.toNat_natCast, List.length_set, List.length_take, List.take_length, List.take_take, Nat.min_self, List.length_drop, List.drop_zero, List.length_cons, List.length_nil, Nat.add_eq, Nat.zero_add]; exact ⟨by omega, by omega, rfl⟩) | (simp only [cntL, cntInv, mea0, List.cons.injEq, DV.b.injEq, and_true, Int.toNat_natCast, List.length_set, List.length_take, List.take_length, List.take_take, Nat.min_self, List.length_drop, List.drop_zero, List.length_cons, List.length_nil, Nat.add_eq, Nat.zero_add, incA_len]; omega) | ((try simp only [cntL, cntInv, mea0, List.cons.injEq, DV.b.injEq, and_true, Int.toNat_natCast, List.length_set, List.length_take, List.take_length, List.take_take, Nat.min_self, List.length_drop, List.drop_zero, List.length_cons, List.length_nil, Nat.add_eq, Nat.zero_add]); first | done | omega | assumption | grind [getD_set, getD_rep, toNat_succ, cntN_yes, cntN_no])
        refine req_i ?_ ?_
        · -- r103
          first | omega | exact i2 | (simp only [cntL, cntInv, mea0, List.cons.injEq, DV.b.injEq, and_true, Int.toNat_natCast, List.length_set, List.length_take, List.take_length, List.take_take, Nat.min_self, List.length_drop, List.drop_zero, List.length_cons, List.length_nil, Nat.add_eq, Nat.zero_add]; exact ⟨by omega, by omega, rfl⟩) | (simp only [cntL, cntInv, mea0, List.cons.injEq, DV.b.injEq, and_true, Int.toNat_natCast, List.length_set, List.length_take, List.take_length, List.take_take, Nat.min_self, List.length_drop, List.drop_zero, List.length_cons, List.length_nil, Nat.add_eq, Nat.zero_add, incA_len]; omega) | ((try simp only [cntL, cntInv, mea0, List.cons.injEq, DV.b.injEq, and_true, Int.toNat_natCast, List.length_set, List.length_take, List.take_length, List.take_take, Nat.min_self, List.length_drop, List.drop_zero, List.length_cons, List.length_nil, Nat.add_eq, Nat.zero_add]); first | done | omega | assumption | grind [getD_set, getD_rep, toNat_succ, cntN_yes, cntN_no])
        rfl
      ·
        have hl := hist_len n5 (fun j => l7.getD j 0) (fun j => l8.getD j 0) n11.toNat
        rw [← h34.2.2] at hl
        have tq12 := take_eq' hl
        simp only [tq12]
        have hf : l12 = histP (qq n2) l0 l1 n2 n3 l0.length := by rw [h34.2.2, histP, ← h15, show n11.toNat = l0.length by omega]; exact hist_congr (fun j hj => h22.2.2.2 j (by omega))
        refine req_i ?_ ?_
        · -- r104
          first | omega | exact i2 | (simp only [Int.toNat_natCast, List.length_cons, List.length_nil, Nat.mul_eq]; exact ⟨by omega, by omega, rfl⟩) | (simp only [Int.toNat_natCast, List.length_cons, List.length_nil, Nat.mul_eq, incA_len]; omega) | ((try simp only [Int.toNat_natCast, List.length_cons, List.length_nil, Nat.mul_eq]); first | done | omega | assumption | grind [getD_set, getD_rep, toNat_succ, cntN_yes, cntN_no])
        refine req_i ?_ ?_
        · -- r105
          first | omega | assumption | exact i2 | (simp only [Int.toNat_natCast, List.length_cons, List.length_nil]; exact ⟨by omega, by omega, rfl⟩) | (simp only [Int.toNat_natCast, List.length_cons, List.length_nil, incA_len]; omega) | grind
        refine req_i ?_ ?_
        · -- r106
          first | omega | exact i2 | (simp only [Int.toNat_natCast, List.length_take, List.take_length, List.take_take, Nat.min_self, List.length_drop, List.drop_zero, List.length_cons, List.length_nil]; exact ⟨by omega, by omega, rfl⟩) | (simp only [Int.toNat_natCast, List.length_take, List.take_length, List.take_take, Nat.min_self, List.length_drop, List.drop_zero, List.length_cons, List.length_nil, incA_len]; omega) | ((try simp only [Int.toNat_natCast, List.length_take, List.take_length, List.take_take, Nat.min_self, List.length_drop, List.drop_zero, List.length_cons, List.length_nil]); first | done | omega | assumption | grind [getD_set, getD_rep, toNat_succ, cntN_yes, cntN_no])
        refine req_i ?_ ?_
        · -- r107
          first | assumption | exact rep_bd (by omega) (by omega) | exact set_bd (by assumption) (by omega) (by omega) | exact take_bd (by assumption) | exact i2 | (simp only [Int.toNat_natCast, List.length_take, List.take_length, List.take_take, Nat.min_self, List.length_drop, List.drop_zero, List.length_cons, List.length_nil]; exact ⟨by omega, by omega, rfl⟩) | (simp only [Int.toNat_natCast, List.length_take, List.take_length, List.take_take, Nat.min_self, List.length_drop, List.drop_zero, List.length_cons, List.length_nil, incA_len]; omega) | ((try simp only [Int.toNat_natCast, List.length_take, List.take_length, List.take_take, Nat.min_self, List.length_drop, List.drop_zero, List.length_cons, List.length_nil]); first | assumption | exact rep_bd (by omega) (by omega) | exact set_bd (by assumption) (by omega) (by omega) | exact take_bd (by assumption) | grind [getD_set, getD_rep, toNat_succ, cntN_yes, cntN_no])
        refine req_i ?_ ?_
        · -- r108
          first | omega | exact i2 | (simp only [sigCount, countPost, List.cons.injEq, DV.b.injEq, and_true, Int.toNat_natCast, List.length_take, List.take_length, List.take_take, Nat.min_self, List.length_drop, List.drop_zero, List.length_cons, List.length_nil]; exact ⟨by omega, by omega, rfl⟩) | (simp only [sigCount, countPost, List.cons.injEq, DV.b.injEq, and_true, Int.toNat_natCast, List.length_take, List.take_length, List.take_take, Nat.min_self, List.length_drop, List.drop_zero, List.length_cons, List.length_nil, incA_len]; omega) | ((try simp only [sigCount, countPost, List.cons.injEq, DV.b.injEq, and_true, Int.toNat_natCast, List.length_take, List.take_length, List.take_take, Nat.min_self, List.length_drop, List.drop_zero, List.length_cons, List.length_nil]); first | done | omega | assumption | grind [getD_set, getD_rep, toNat_succ, cntN_yes, cntN_no])
        rfl
theorem ext_count : ∀ p ∈ ([(31, Ext.ctr (ctOf sigChkA)), (35, Ext.ctr (ctOf sigGr)), (32, Ext.ctr (ctOf sigLev))] : List (Nat × Ext)), ExtRow Try.prog p.1 p.2 := by
  intro p hp
  simp only [List.mem_cons, List.not_mem_nil, or_false] at hp
  rcases hp with rfl | rfl | rfl <;> trivial
theorem cts_count : CtsOk Try.prog [(31, Ext.ctr (ctOf sigChkA)), (35, Ext.ctr (ctOf sigGr)), (32, Ext.ctr (ctOf sigLev))] := ctsOk_of (cs := [(31, sigChkA), (35, sigGr), (32, sigLev)])
  (fun p hp => by
    simp only [List.mem_cons, List.not_mem_nil, or_false] at hp
    rcases hp with rfl | rfl | rfl
    · exact fn_chkA
    · exact fn_gr
    · exact fn_lev
)
  (fun f c h => by
    simp only [List.lookup_cons] at h
    repeat' split at h
    all_goals first | (cases h; done) | (rename_i e; have e := beq_iff_eq.1 e; subst e; cases h; exact ⟨_, by simp, rfl⟩))
theorem fn_count : FnOk Try.prog 16 sigCount [] := fn_sound (by kernel_rfl) ext_count cts_count names vt_count
end Go.Proofs.Ytemcaojbhfgpgaa

namespace Go.Proofs.Ytemcaojbhfgpgaa
open Go.Ev Go.Sp
set_option maxRecDepth 100000
theorem vc_countR : vcFn Try.prog [(24, Ext.ctr (ctOf sigQuan)), (45, Ext.ctr (ctOf sigGr))] tabC [] 100 26 sigCount = (allB fun l0 : List Int => 
impB (l0.length ≤ (300 : Nat)) (
impB (∀ (y : Int), y ∈ l0 → (-9223372036854775808 : Int) ≤ y ∧ y ≤ (9223372036854775807 : Int)) (
allB fun l1 : List Int => 
impB (l1.length = l0.length) (
impB (∀ (y : Int), y ∈ l1 → (-9223372036854775808 : Int) ≤ y ∧ y ≤ (9223372036854775807 : Int)) (
allB fun n2 : Int => 
impB ((-9223372036854775808 : Int) ≤ n2) (
impB (n2 ≤ (9223372036854775807 : Int)) (
allB fun n3 : Int => 
impB ((-9223372036854775808 : Int) ≤ n3) (
impB (n3 ≤ (9223372036854775807 : Int)) (
impB (sigCount.pre [DV.l l0, DV.l l1, DV.n n2, DV.n n3]) (
reqB (((0 : Nat) + l0.length) * (2 : Nat) ≤ l0.length.mul (2 : Nat)) (
reqB (l0.length ≤ (300 : Nat)) (
reqB ((List.take l0.length (List.drop (0 : Nat) l0)).length = l0.length) (
reqB (∀ (y : Int),
  y ∈ List.take l0.length (List.drop (0 : Nat) l0) → (-9223372036854775808 : Int) ≤ y ∧ y ≤ (9223372036854775807 : Int)) (
reqB ((List.take l0.length (List.drop (0 : Nat) l1)).length = l0.length) (
reqB (∀ (y : Int),
  y ∈ List.take l0.length (List.drop (0 : Nat) l1) → (-9223372036854775808 : Int) ≤ y ∧ y ≤ (9223372036854775807 : Int)) (
reqB ((-9223372036854775808 : Int) ≤ n2) (
reqB (n2 ≤ (9223372036854775807 : Int)) (
reqB ((-9223372036854775808 : Int) ≤ n3) (
reqB (n3 ≤ (9223372036854775807 : Int)) (
reqB (sigQuan.pre
  [DV.l (List.take l0.length (List.drop (0 : Nat) l0)), DV.l (List.take l0.length (List.drop (0 : Nat) l1)),
    DV.n n2, DV.n n3]) (
allB fun l4 : List Int => 
impB (l4.length ≤ (300 : Nat)) (
impB (∀ (y : Int), y ∈ l4 → (-9223372036854775808 : Int) ≤ y ∧ y ≤ (9223372036854775807 : Int)) (
allB fun l5 : List Int => 
impB (l5.length = l4.length) (
impB (∀ (y : Int), y ∈ l5 → (-9223372036854775808 : Int) ≤ y ∧ y ≤ (9223372036854775807 : Int)) (
allB fun n6 : Int => 
impB ((0 : Int) ≤ n6) (
impB (n6 ≤ (300 : Int)) (
allB fun n7 : Int => 
impB ((0 : Int) ≤ n7) (
impB (n7 ≤ (18 : Int)) (
impB (sigQuan.post
  [DV.l (List.take l0.length (List.drop (0 : Nat) l0)), DV.l (List.take l0.length (List.drop (0 : Nat) l1)),
    DV.n n2, DV.n n3]
  [DV.l l4, DV.l l5, DV.n n6, DV.n n7]) (
bR (dec (n7 ≠ (0 : Int))) (
 reqB ((0 : Int) ≤ n7) (
 reqB (n7 ≤ (18 : Int)) (
 reqB (sigCount.post [DV.l l0, DV.l l1, DV.n n2, DV.n n3] [DV.l [], DV.n n7]) (
 true)))) (
 reqB ((2 : Int) ≤ n2) (
 reqB (n2 ≤ (8 : Int)) (
 reqB ((0 : Int) ≤ n3) (
 reqB (n3 ≤ (30 : Int)) (
 reqB (sigGr.pre [DV.n n2, DV.n n3]) (
 allB fun n8 : Int => 
 impB ((1 : Int) ≤ n8) (
 impB (n8 ≤ (127 : Int)) (
 impB (sigGr.post [DV.n n2, DV.n n3] [DV.n n8]) (
 reqB (((2 : Int) * n8 + (1 : Int)).toNat ≤ ((2 : Int) * n8 + (1 : Int)).toNat) (
 reqB (((2 : Int) * n8 + (1 : Int)).toNat ≤ (1000000 : Nat)) (
 reqB (((0 : Nat) + l4.length) * (2 : Nat) ≤ l4.length.mul (2 : Nat)) (
 reqB (l4.length ≤ (300 : Nat)) (
 reqB ((List.take l4.length (List.drop (0 : Nat) l4)).length = l4.length) (
 reqB (∀ (y : Int),
  y ∈ List.take l4.length (List.drop (0 : Nat) l4) → (-9223372036854775808 : Int) ≤ y ∧ y ≤ (9223372036854775807 : Int)) (
 reqB ((List.take l4.length (List.drop (0 : Nat) l5)).length = l4.length) (
 reqB (∀ (y : Int),
  y ∈ List.take l4.length (List.drop (0 : Nat) l5) → (-9223372036854775808 : Int) ≤ y ∧ y ≤ (9223372036854775807 : Int)) (
 reqB ((1 : Int) ≤ n8) (
 reqB (n8 ≤ (127 : Int)) (
 reqB (lenCols
    [Col.i Go.IntKind.i64 (Int.negSucc (9223372036854775807 : Nat)) (Int.ofNat (9223372036854775807 : Nat))
        (List.replicate ((2 : Int) * n8 + (1 : Int)).toNat (0 : Int))] ≤
  (255 : Nat)) (
 reqB ((List.replicate ((2 : Int) * n8 + (1 : Int)).toNat (0 : Int)).length =
  lenCols
    [Col.i Go.IntKind.i64 (Int.negSucc (9223372036854775807 : Nat)) (Int.ofNat (9223372036854775807 : Nat))
        (List.replicate ((2 : Int) * n8 + (1 : Int)).toNat (0 : Int))]) (
 reqB (∀ (y : Int), y ∈ List.replicate ((2 : Int) * n8 + (1 : Int)).toNat (0 : Int) → (0 : Int) ≤ y ∧ y ≤ (600 : Int)) (
 reqB (cntLR.inv
  [DV.l (List.take l4.length (List.drop (0 : Nat) l4)), DV.l (List.take l4.length (List.drop (0 : Nat) l5)),
    DV.n n8]
  [DV.n (0 : Int), DV.l (List.replicate ((2 : Int) * n8 + (1 : Int)).toNat (0 : Int))]) (
 allB fun n9 : Int => 
 impB ((0 : Int) ≤ n9) (
 impB (n9 ≤ (300 : Int)) (
 allB fun l10 : List Int => 
 impB (l10.length ≤ (255 : Nat)) (
 impB (∀ (y : Int), y ∈ l10 → (0 : Int) ≤ y ∧ y ≤ (600 : Int)) (
 impB (cntLR.inv
  [DV.l (List.take l4.length (List.drop (0 : Nat) l4)), DV.l (List.take l4.length (List.drop (0 : Nat) l5)),
    DV.n n8]
  [DV.n n9, DV.l l10]) (
 bR (dec (n9 < (↑l4.length : Int))) (
  reqB (n9.toNat < l4.length) (
  reqB (Nat.add (0 : Nat) n9.toNat < l4.length) (
  allB fun n11 : Int => 
  impB (n11 = Go.IntKind.i64.wrap (l4.getD (Nat.add (0 : Nat) n9.toNat) (0 : Int) + n8)) (
  impB (Int.negSucc (9223372036854775807 : Nat) ≤ n11) (
  impB (n11 ≤ Int.ofNat (9223372036854775807 : Nat)) (
  reqB ((0 : Int) ≤ n11) (
  reqB (n11.toNat < ((2 : Int) * n8 + (1 : Int)).toNat) (
  reqB (Nat.add (0 : Nat) n11.toNat < l10.length) (
  reqB ((0 : Int) ≤ n11) (
  reqB (n11.toNat < ((2 : Int) * n8 + (1 : Int)).toNat) (
  reqB ((0 : Int) ≤ l10.getD (Nat.add (0 : Nat) n11.toNat) (0 : Int) + (1 : Int) ∧
  l10.getD (Nat.add (0 : Nat) n11.toNat) (0 : Int) + (1 : Int) ≤ (600 : Int)) (
  reqB (Nat.add (0 : Nat) n11.toNat < l10.length) (
  reqB (n9.toNat < l4.length) (
  reqB (Nat.add (0 : Nat) n9.toNat < l5.length) (
  allB fun n12 : Int => 
  impB (n12 = Go.IntKind.i64.wrap (l5.getD (Nat.add (0 : Nat) n9.toNat) (0 : Int) + n8)) (
  impB (Int.negSucc (9223372036854775807 : Nat) ≤ n12) (
  impB (n12 ≤ Int.ofNat (9223372036854775807 : Nat)) (
  reqB ((0 : Int) ≤ n12) (
  reqB (n12.toNat < ((2 : Int) * n8 + (1 : Int)).toNat) (
  reqB (Nat.add (0 : Nat) n12.toNat <
  (l10.set (Nat.add (0 : Nat) n11.toNat) (l10.getD (Nat.add (0 : Nat) n11.toNat) (0 : Int) + (1 : Int))).length) (
  reqB ((0 : Int) ≤ n12) (
  reqB (n12.toNat < ((2 : Int) * n8 + (1 : Int)).toNat) (
  reqB ((0 : Int) ≤
    (l10.set (Nat.add (0 : Nat) n11.toNat) (l10.getD (Nat.add (0 : Nat) n11.toNat) (0 : Int) + (1 : Int))).getD
        (Nat.add (0 : Nat) n12.toNat) (0 : Int) +
      (1 : Int) ∧
  (l10.set (Nat.add (0 : Nat) n11.toNat) (l10.getD (Nat.add (0 : Nat) n11.toNat) (0 : Int) + (1 : Int))).getD
        (Nat.add (0 : Nat) n12.toNat) (0 : Int) +
      (1 : Int) ≤
    (600 : Int)) (
  reqB (Nat.add (0 : Nat) n12.toNat <
  (l10.set (Nat.add (0 : Nat) n11.toNat) (l10.getD (Nat.add (0 : Nat) n11.toNat) (0 : Int) + (1 : Int))).length) (
  bR (bR (dec (n8 = n8)) (
   bR (bR (dec ((0 : Nat) = (0 : Nat))) (
    dec (((2 : Int) * n8 + (1 : Int)).toNat = ((2 : Int) * n8 + (1 : Int)).toNat)) (
    false)) (
    true) (
    false)) (
   false)) (
   bR (bR (bR (dec (n2 = n2)) (
    bR (dec (n3 = n3)) (
     true) (
     false)) (
    false)) (
    bR (bR (dec (l4.length.mul (2 : Nat) = l4.length.mul (2 : Nat))) (
     dec ([Col.i Go.IntKind.i64 (-9223372036854775808 : Int) (9223372036854775807 : Int) l4,
    Col.i Go.IntKind.i64 (-9223372036854775808 : Int) (9223372036854775807 : Int) l5] =
  [Col.i Go.IntKind.i64 (-9223372036854775808 : Int) (9223372036854775807 : Int) l4,
    Col.i Go.IntKind.i64 (-9223372036854775808 : Int) (9223372036854775807 : Int) l5])) (
     false)) (
     bR (bR (bR (dec ((0 : Nat) = (0 : Nat))) (
      dec (l4.length = l4.length)) (
      false)) (
      bR (dec (n6 = n6)) (
       true) (
       false)) (
      false)) (
      true) (
      false)) (
     false)) (
    false)) (
    reqB ((0 : Int) ≤ n9 + (1 : Int)) (
    reqB (n9 + (1 : Int) ≤ (300 : Int)) (
    reqB (lenCols
    [Col.i Go.IntKind.i64 (0 : Int) (600 : Int)
        ((l10.set (Nat.add (0 : Nat) n11.toNat) (l10.getD (Nat.add (0 : Nat) n11.toNat) (0 : Int) + (1 : Int))).set
          (Nat.add (0 : Nat) n12.toNat)
          ((l10.set (Nat.add (0 : Nat) n11.toNat) (l10.getD (Nat.add (0 : Nat) n11.toNat) (0 : Int) + (1 : Int))).getD
              (Nat.add (0 : Nat) n12.toNat) (0 : Int) +
            (1 : Int)))] ≤
  (255 : Nat)) (
    reqB (((l10.set (Nat.add (0 : Nat) n11.toNat) (l10.getD (Nat.add (0 : Nat) n11.toNat) (0 : Int) + (1 : Int))).set
      (Nat.add (0 : Nat) n12.toNat)
      ((l10.set (Nat.add (0 : Nat) n11.toNat) (l10.getD (Nat.add (0 : Nat) n11.toNat) (0 : Int) + (1 : Int))).getD
          (Nat.add (0 : Nat) n12.toNat) (0 : Int) +
        (1 : Int))).length =
  lenCols
    [Col.i Go.IntKind.i64 (0 : Int) (600 : Int)
        ((l10.set (Nat.add (0 : Nat) n11.toNat) (l10.getD (Nat.add (0 : Nat) n11.toNat) (0 : Int) + (1 : Int))).set
          (Nat.add (0 : Nat) n12.toNat)
          ((l10.set (Nat.add (0 : Nat) n11.toNat) (l10.getD (Nat.add (0 : Nat) n11.toNat) (0 : Int) + (1 : Int))).getD
              (Nat.add (0 : Nat) n12.toNat) (0 : Int) +
            (1 : Int)))]) (
    reqB (∀ (y : Int),
  y ∈
      (l10.set (Nat.add (0 : Nat) n11.toNat) (l10.getD (Nat.add (0 : Nat) n11.toNat) (0 : Int) + (1 : Int))).set
        (Nat.add (0 : Nat) n12.toNat)
        ((l10.set (Nat.add (0 : Nat) n11.toNat) (l10.getD (Nat.add (0 : Nat) n11.toNat) (0 : Int) + (1 : Int))).getD
            (Nat.add (0 : Nat) n12.toNat) (0 : Int) +
          (1 : Int)) →
    (0 : Int) ≤ y ∧ y ≤ (600 : Int)) (
    reqB (cntLR.inv
  [DV.l (List.take l4.length (List.drop (0 : Nat) l4)), DV.l (List.take l4.length (List.drop (0 : Nat) l5)),
    DV.n n8]
  [DV.n (n9 + (1 : Int)),
    DV.l
      ((l10.set (Nat.add (0 : Nat) n11.toNat) (l10.getD (Nat.add (0 : Nat) n11.toNat) (0 : Int) + (1 : Int))).set
        (Nat.add (0 : Nat) n12.toNat)
        ((l10.set (Nat.add (0 : Nat) n11.toNat) (l10.getD (Nat.add (0 : Nat) n11.toNat) (0 : Int) + (1 : Int))).getD
            (Nat.add (0 : Nat) n12.toNat) (0 : Int) +
          (1 : Int)))]) (
    reqB (cntLR.mea
    [DV.l (List.take l4.length (List.drop (0 : Nat) l4)),
      DV.l (List.take l4.length (List.drop (0 : Nat) l5)), DV.n n8]
    [DV.n (n9 + (1 : Int)),
      DV.l
        ((l10.set (Nat.add (0 : Nat) n11.toNat) (l10.getD (Nat.add (0 : Nat) n11.toNat) (0 : Int) + (1 : Int))).set
          (Nat.add (0 : Nat) n12.toNat)
          ((l10.set (Nat.add (0 : Nat) n11.toNat) (l10.getD (Nat.add (0 : Nat) n11.toNat) (0 : Int) + (1 : Int))).getD
              (Nat.add (0 : Nat) n12.toNat) (0 : Int) +
            (1 : Int)))] <
  cntLR.mea
    [DV.l (List.take l4.length (List.drop (0 : Nat) l4)),
      DV.l (List.take l4.length (List.drop (0 : Nat) l5)), DV.n n8]
    [DV.n n9, DV.l l10]) (
    true)))))))) (
    false)) (
   false)))))))))))))))))))))))))) (
  reqB (((0 : Nat) + ((2 : Int) * n8 + (1 : Int)).toNat) * (1 : Nat) ≤ l10.length.mul (1 : Nat)) (
  reqB (((2 : Int) * n8 + (1 : Int)).toNat ≤ (255 : Nat)) (
  reqB ((List.take ((2 : Int) * n8 + (1 : Int)).toNat (List.drop (0 : Nat) l10)).length = ((2 : Int) * n8 + (1 : Int)).toNat) (
  reqB (∀ (y : Int),
  y ∈ List.take ((2 : Int) * n8 + (1 : Int)).toNat (List.drop (0 : Nat) l10) → (0 : Int) ≤ y ∧ y ≤ (600 : Int)) (
  reqB (sigCount.post [DV.l l0, DV.l l1, DV.n n2, DV.n n3]
  [DV.l (List.take ((2 : Int) * n8 + (1 : Int)).toNat (List.drop (0 : Nat) l10)), DV.n (0 : Int)]) (
  true)))))))))))))))))))))))))))))))))))))))))))))))))))))))))))))))) := by kernel_rfl
set_option maxHeartbeats 8000000 in
theorem vt_countR : vcFn Try.prog [(24, Ext.ctr (ctOf sigQuan)), (45, Ext.ctr (ctOf sigGr))] tabC [] 100 26 sigCount = true := by
  rw [vc_countR]
  try simp only [Int.toNat_natCast, List.length_set, List.length_replicate, List.length_take, List.length_drop, List.length_append, List.length_cons, List.length_nil, Nat.min_self, List.take_take, lenCols_i, lenCols_b, List.drop_zero, List.take_length, Nat.add_eq, Nat.mul_eq, Nat.sub_eq, Nat.zero_add, Nat.sub_zero, Nat.mul_one]
  refine all_i fun l0 => ?_
  refine imp_i fun h0 => ?_
  refine imp_i fun h1 => ?_
  refine all_i fun l1 => ?_
  refine imp_i fun h2 => ?_
  have tkl1 := take_eq h2
  try simp only [tkl1]
  refine imp_i fun h3 => ?_
  refine all_i fun n2 => ?_
  refine imp_i fun h4 => ?_
  refine imp_i fun h5 => ?_
  refine all_i fun n3 => ?_
  refine imp_i fun h6 => ?_
  refine imp_i fun h7 => ?_
  refine imp_i fun h8 => ?_
  try simp only [sigCount, countPost, List.cons.injEq, DV.b.injEq, and_true, List.length_cons, List.length_nil] at h8
  refine req_i ?_ ?_
  · -- r0
    first | omega | exact i2 | (simp only [Nat.mul_eq]; exact ⟨by omega, by omega, rfl⟩) | (simp only [Nat.mul_eq, incA_len]; omega) | ((try simp only [Nat.mul_eq]); first | done | omega | assumption | grind [getD_set, getD_rep, toNat_succ, cntN_yes, cntN_no])
  refine req_i ?_ ?_
  · -- r1
    first | omega | exact i2 | (simp only [Nat.zero_add]; exact ⟨by omega, by omega, rfl⟩) | (simp only [Nat.zero_add, incA_len]; omega) | ((try simp only [Nat.zero_add]); first | done | omega | assumption | grind [getD_set, getD_rep, toNat_succ, cntN_yes, cntN_no])
  refine req_i ?_ ?_
  · -- r2
    first | omega | exact i2 | (simp only [List.length_take, List.take_length, List.take_take, Nat.min_self, List.length_drop, List.drop_zero, List.length_cons, List.length_nil]; exact ⟨by omega, by omega, rfl⟩) | (simp only [List.length_take, List.take_length, List.take_take, Nat.min_self, List.length_drop, List.drop_zero, List.length_cons, List.length_nil, incA_len]; omega) | ((try simp only [List.length_take, List.take_length, List.take_take, Nat.min_self, List.length_drop, List.drop_zero, List.length_cons, List.length_nil]); first | done | omega | assumption | grind [getD_set, getD_rep, toNat_succ, cntN_yes, cntN_no])
  refine req_i ?_ ?_
  · -- r3
    first | assumption | exact rep_bd (by omega) (by omega) | exact set_bd (by assumption) (by omega) (by omega) | exact take_bd (by assumption) | exact i2 | (simp only [List.length_take, List.take_length, List.take_take, Nat.min_self, List.length_drop, List.drop_zero, List.length_cons, List.length_nil]; exact ⟨by omega, by omega, rfl⟩) | (simp only [List.length_take, List.take_length, List.take_take, Nat.min_self, List.length_drop, List.drop_zero, List.length_cons, List.length_nil, incA_len]; omega) | ((try simp only [List.length_take, List.take_length, List.take_take, Nat.min_self, List.length_drop, List.drop_zero, List.length_cons, List.length_nil]); first | assumption | exact rep_bd (by omega) (by omega) | exact set_bd (by assumption) (by omega) (by omega) | exact take_bd (by assumption) | grind [getD_set, getD_rep, toNat_succ, cntN_yes, cntN_no])
  refine req_i ?_ ?_
  · -- r4
    first | omega | exact i2 | (simp only [List.length_take, List.take_length, List.take_take, Nat.min_self, List.length_drop, List.drop_zero, List.length_cons, List.length_nil]; exact ⟨by omega, by omega, rfl⟩) | (simp only [List.length_take, List.take_length, List.take_take, Nat.min_self, List.length_drop, List.drop_zero, List.length_cons, List.length_nil, incA_len]; omega) | ((try simp only [List.length_take, List.take_length, List.take_take, Nat.min_self, List.length_drop, List.drop_zero, List.length_cons, List.length_nil]); first | done | omega | assumption | grind [getD_set, getD_rep, toNat_succ, cntN_yes, cntN_no])
  refine req_i ?_ ?_
  · -- r5
    first | assumption | exact rep_bd (by omega) (by omega) | exact set_bd (by assumption) (by omega) (by omega) | exact take_bd (by assumption) | exact i2 | (simp only [List.length_take, List.take_length, List.take_take, Nat.min_self, List.length_drop, List.drop_zero, List.length_cons, List.length_nil]; exact ⟨by omega, by omega, rfl⟩) | (simp only [List.length_take, List.take_length, List.take_take, Nat.min_self, List.length_drop, List.drop_zero, List.length_cons, List.length_nil, incA_len]; omega) | ((try simp only [List.length_take, List.take_length, List.take_take, Nat.min_self, List.length_drop, List.drop_zero, List.length_cons, List.length_nil]); first | assumption | exact rep_bd (by omega) (by omega) | exact set_bd (by assumption) (by omega) (by omega) | exact take_bd (by assumption) | grind [getD_set, getD_rep, toNat_succ, cntN_yes, cntN_no])
  refine req_i ?_ ?_
  · -- r6
    first | omega | assumption | exact i2 | (simp only [Nat.zero_add]; exact ⟨by omega, by omega, rfl⟩) | (simp only [Nat.zero_add, incA_len]; omega) | grind
  refine req_i ?_ ?_
  · -- r7
    first | omega | assumption | exact i2 | (simp only [Nat.zero_add]; exact ⟨by omega, by omega, rfl⟩) | (simp only [Nat.zero_add, incA_len]; omega) | grind
  refine req_i ?_ ?_
  · -- r8
    first | omega | assumption | exact i2 | (simp only [Nat.zero_add]; exact ⟨by omega, by omega, rfl⟩) | (simp only [Nat.zero_add, incA_len]; omega) | grind
  refine req_i ?_ ?_
  · -- r9
    first | omega | assumption | exact i2 | (simp only [Nat.zero_add]; exact ⟨by omega, by omega, rfl⟩) | (simp only [Nat.zero_add, incA_len]; omega) | grind
  refine req_i ?_ ?_
  · -- r10
    first | omega | exact i2 | (simp only [sigQuan, quanPost, List.cons.injEq, DV.b.injEq, and_true, List.length_take, List.take_length, List.take_take, Nat.min_self, List.length_drop, List.drop_zero, List.length_cons, List.length_nil]; exact ⟨by omega, by omega, rfl⟩) | (simp only [sigQuan, quanPost, List.cons.injEq, DV.b.injEq, and_true, List.length_take, List.take_length, List.take_take, Nat.min_self, List.length_drop, List.drop_zero, List.length_cons, List.length_nil, incA_len]; omega) | ((try simp only [sigQuan, quanPost, List.cons.injEq, DV.b.injEq, and_true, List.length_take, List.take_length, List.take_take, Nat.min_self, List.length_drop, List.drop_zero, List.length_cons, List.length_nil]); first | done | omega | assumption | grind [getD_set, getD_rep, toNat_succ, cntN_yes, cntN_no])
  refine all_i fun l4 => ?_
  refine imp_i fun h9 => ?_
  refine imp_i fun h10 => ?_
  refine all_i fun l5 => ?_
  refine imp_i fun h11 => ?_
  have tkl5 := take_eq h11
  try simp only [tkl5]
  refine imp_i fun h12 => ?_
  refine all_i fun n6 => ?_
  refine imp_i fun h13 => ?_
  refine imp_i fun h14 => ?_
  refine all_i fun n7 => ?_
  refine imp_i fun h15 => ?_
  refine imp_i fun h16 => ?_
  refine imp_i fun h17 => ?_
  try simp only [sigQuan, quanPost, List.cons.injEq, DV.b.injEq, and_true, List.length_take, List.take_length, List.take_take, Nat.min_self, List.length_drop, List.drop_zero, List.length_cons, List.length_nil] at h17
  refine bR_dec (fun h18 => ?_) (fun h18 => ?_)
  ·
    refine req_i ?_ ?_
    · -- r11
      first | omega | assumption | exact i2 | (simp only [Nat.zero_add]; exact ⟨by omega, by omega, rfl⟩) | (simp only [Nat.zero_add, incA_len]; omega) | grind
    refine req_i ?_ ?_
    · -- r12
      first | omega | assumption | exact i2 | (simp only [Nat.zero_add]; exact ⟨by omega, by omega, rfl⟩) | (simp only [Nat.zero_add, incA_len]; omega) | grind
    refine req_i ?_ ?_
    · -- r13
      first | omega | exact i2 | (simp only [sigCount, countPost, List.cons.injEq, DV.b.injEq, and_true, List.length_cons, List.length_nil]; exact ⟨by omega, by omega, rfl⟩) | (simp only [sigCount, countPost, List.cons.injEq, DV.b.injEq, and_true, List.length_cons, List.length_nil, incA_len]; omega) | ((try simp only [sigCount, countPost, List.cons.injEq, DV.b.injEq, and_true, List.length_cons, List.length_nil]); first | done | omega | assumption | grind [getD_set, getD_rep, toNat_succ, cntN_yes, cntN_no])
    rfl
  ·
    obtain ⟨G, L, I⟩ := errS_ok (b := n2) (n := n3) (m := 70368744177664) (s := l0) (t := l1) (by omega)
    obtain ⟨QL, QM, _⟩ := h17.2.2 (by omega)
    refine req_i ?_ ?_
    · -- r14
      first | omega | assumption | exact i2 | (simp only [Nat.zero_add]; exact ⟨by omega, by omega, rfl⟩) | (simp only [Nat.zero_add, incA_len]; omega) | grind
    refine req_i ?_ ?_
    · -- r15
      first | omega | assumption | exact i2 | (simp only [Nat.zero_add]; exact ⟨by omega, by omega, rfl⟩) | (simp only [Nat.zero_add, incA_len]; omega) | grind
    refine req_i ?_ ?_
    · -- r16
      first | omega | assumption | exact i2 | (simp only [Nat.zero_add]; exact ⟨by omega, by omega, rfl⟩) | (simp only [Nat.zero_add, incA_len]; omega) | grind
    refine req_i ?_ ?_
    · -- r17
      first | omega | assumption | exact i2 | (simp only [Nat.zero_add]; exact ⟨by omega, by omega, rfl⟩) | (simp only [Nat.zero_add, incA_len]; omega) | grind
    refine req_i ?_ ?_
    · -- r18
      first | trivial | assumption | exact i2 | (simp only [sigGr, grPost, List.cons.injEq, DV.b.injEq, and_true, List.length_cons, List.length_nil]; exact ⟨by omega, by omega, rfl⟩) | (simp only [sigGr, grPost, List.cons.injEq, DV.b.injEq, and_true, List.length_cons, List.length_nil, incA_len]; omega) | (simp only [sigGr, grPost, List.cons.injEq, DV.b.injEq, and_true, List.length_cons, List.length_nil]; done) | ((try simp only [sigGr, grPost, List.cons.injEq, DV.b.injEq, and_true, List.length_cons, List.length_nil]); first | omega | assumption | grind)
    refine all_i fun n8 => ?_
    refine imp_i fun h19 => ?_
    refine imp_i fun h20 => ?_
    refine imp_i fun h21 => ?_
    try simp only [sigGr, grPost, List.cons.injEq, DV.b.injEq, and_true, List.length_cons, List.length_nil] at h21
    have ql := qq_bd (b := n2) (by omega) (by omega)
    refine req_i ?_ ?_
    · -- r19
      first | omega | assumption | exact i2 | (simp only [Int.toNat_natCast, List.length_cons, List.length_nil]; exact ⟨by omega, by omega, rfl⟩) | (simp only [Int.toNat_natCast, List.length_cons, List.length_nil, incA_len]; omega) | grind
    refine req_i ?_ ?_
    · -- r20
      first | omega | assumption | exact i2 | (simp only [Int.toNat_natCast, List.length_cons, List.length_nil]; exact ⟨by omega, by omega, rfl⟩) | (simp only [Int.toNat_natCast, List.length_cons, List.length_nil, incA_len]; omega) | grind
    refine req_i ?_ ?_
    · -- r21
      first | omega | exact i2 | (simp only [Nat.mul_eq]; exact ⟨by omega, by omega, rfl⟩) | (simp only [Nat.mul_eq, incA_len]; omega) | ((try simp only [Nat.mul_eq]); first | done | omega | assumption | grind [getD_set, getD_rep, toNat_succ, cntN_yes, cntN_no])
    refine req_i ?_ ?_
    · -- r22
      first | omega | exact i2 | (simp only [Nat.zero_add]; exact ⟨by omega, by omega, rfl⟩) | (simp only [Nat.zero_add, incA_len]; omega) | ((try simp only [Nat.zero_add]); first | done | omega | assumption | grind [getD_set, getD_rep, toNat_succ, cntN_yes, cntN_no])
    refine req_i ?_ ?_
    · -- r23
      first | omega | exact i2 | (simp only [List.length_take, List.take_length, List.take_take, Nat.min_self, List.length_drop, List.drop_zero, List.length_cons, List.length_nil]; exact ⟨by omega, by omega, rfl⟩) | (simp only [List.length_take, List.take_length, List.take_take, Nat.min_self, List.length_drop, List.drop_zero, List.length_cons, List.length_nil, incA_len]; omega) | ((try simp only [List.length_take, List.take_length, List.take_take, Nat.min_self, List.length_drop, List.drop_zero, List.length_cons, List.length_nil]); first | done | omega | assumption | grind [getD_set, getD_rep, toNat_succ, cntN_yes, cntN_no])
    refine req_i ?_ ?_
    · -- r24
      first | assumption | exact rep_bd (by omega) (by omega) | exact set_bd (by assumption) (by omega) (by omega) | exact take_bd (by assumption) | exact i2 | (simp only [List.length_take, List.take_length, List.take_take, Nat.min_self, List.length_drop, List.drop_zero, List.length_cons, List.length_nil]; exact ⟨by omega, by omega, rfl⟩) | (simp only [List.length_take, List.take_length, List.take_take, Nat.min_self, List.length_drop, List.drop_zero, List.length_cons, List.length_nil, incA_len]; omega) | ((try simp only [List.length_take, List.take_length, List.take_take, Nat.min_self, List.length_drop, List.drop_zero, List.length_cons, List.length_nil]); first | assumption | exact rep_bd (by omega) (by omega) | exact set_bd (by assumption) (by omega) (by omega) | exact take_bd (by assumption) | grind [getD_set, getD_rep, toNat_succ, cntN_yes, cntN_no])
    refine req_i ?_ ?_
    · -- r25
      first | omega | exact i2 | (simp only [List.length_take, List.take_length, List.take_take, Nat.min_self, List.length_drop, List.drop_zero, List.length_cons, List.length_nil]; exact ⟨by omega, by omega, rfl⟩) | (simp only [List.length_take, List.take_length, List.take_take, Nat.min_self, List.length_drop, List.drop_zero, List.length_cons, List.length_nil, incA_len]; omega) | ((try simp only [List.length_take, List.take_length, List.take_take, Nat.min_self, List.length_drop, List.drop_zero, List.length_cons, List.length_nil]); first | done | omega | assumption | grind [getD_set, getD_rep, toNat_succ, cntN_yes, cntN_no])
    refine req_i ?_ ?_
    · -- r26
      first | assumption | exact rep_bd (by omega) (by omega) | exact set_bd (by assumption) (by omega) (by omega) | exact take_bd (by assumption) | exact i2 | (simp only [List.length_take, List.take_length, List.take_take, Nat.min_self, List.length_drop, List.drop_zero, List.length_cons, List.length_nil]; exact ⟨by omega, by omega, rfl⟩) | (simp only [List.length_take, List.take_length, List.take_take, Nat.min_self, List.length_drop, List.drop_zero, List.length_cons, List.length_nil, incA_len]; omega) | ((try simp only [List.length_take, List.take_length, List.take_take, Nat.min_self, List.length_drop, List.drop_zero, List.length_cons, List.length_nil]); first | assumption | exact rep_bd (by omega) (by omega) | exact set_bd (by assumption) (by omega) (by omega) | exact take_bd (by assumption) | grind [getD_set, getD_rep, toNat_succ, cntN_yes, cntN_no])
    refine req_i ?_ ?_
    · -- r27
      first | omega | assumption | exact i2 | (simp only [Nat.zero_add]; exact ⟨by omega, by omega, rfl⟩) | (simp only [Nat.zero_add, incA_len]; omega) | grind
    refine req_i ?_ ?_
    · -- r28
      first | omega | assumption | exact i2 | (simp only [Nat.zero_add]; exact ⟨by omega, by omega, rfl⟩) | (simp only [Nat.zero_add, incA_len]; omega) | grind
    refine req_i ?_ ?_
    · -- r29
      first | omega | exact i2 | (simp only [Int.toNat_natCast, List.length_replicate, List.length_cons, List.length_nil, lenCols_i, lenCols_b]; exact ⟨by omega, by omega, rfl⟩) | (simp only [Int.toNat_natCast, List.length_replicate, List.length_cons, List.length_nil, lenCols_i, lenCols_b, incA_len]; omega) | ((try simp only [Int.toNat_natCast, List.length_replicate, List.length_cons, List.length_nil, lenCols_i, lenCols_b]); first | done | omega | assumption | grind [getD_set, getD_rep, toNat_succ, cntN_yes, cntN_no])
    refine req_i ?_ ?_
    · -- r30
      first | omega | exact i2 | (simp only [Int.toNat_natCast, List.length_replicate, List.length_cons, List.length_nil, lenCols_i, lenCols_b]; exact ⟨by omega, by omega, rfl⟩) | (simp only [Int.toNat_natCast, List.length_replicate, List.length_cons, List.length_nil, lenCols_i, lenCols_b, incA_len]; omega) | ((try simp only [Int.toNat_natCast, List.length_replicate, List.length_cons, List.length_nil, lenCols_i, lenCols_b]); first | done | omega | assumption | grind [getD_set, getD_rep, toNat_succ, cntN_yes, cntN_no])
    refine req_i ?_ ?_
    · -- r31
      first | assumption | exact rep_bd (by omega) (by omega) | exact set_bd (by assumption) (by omega) (by omega) | exact take_bd (by assumption) | exact i2 | (simp only [Int.toNat_natCast, List.length_replicate, List.length_cons, List.length_nil]; exact ⟨by omega, by omega, rfl⟩) | (simp only [Int.toNat_natCast, List.length_replicate, List.length_cons, List.length_nil, incA_len]; omega) | ((try simp only [Int.toNat_natCast, List.length_replicate, List.length_cons, List.length_nil]); first | assumption | exact rep_bd (by omega) (by omega) | exact set_bd (by assumption) (by omega) (by omega) | exact take_bd (by assumption) | grind [getD_set, getD_rep, toNat_succ, cntN_yes, cntN_no])
    refine req_i ?_ ?_
    · -- r32
      first | omega | exact i2 | (simp only [cntLR, cntInv, mea0, List.cons.injEq, DV.b.injEq, and_true, Int.toNat_natCast, List.length_replicate, List.length_take, List.take_length, List.take_take, Nat.min_self, List.length_drop, List.drop_zero, List.length_cons, List.length_nil]; exact ⟨by omega, by omega, rfl⟩) | (simp only [cntLR, cntInv, mea0, List.cons.injEq, DV.b.injEq, and_true, Int.toNat_natCast, List.length_replicate, List.length_take, List.take_length, List.take_take, Nat.min_self, List.length_drop, List.drop_zero, List.length_cons, List.length_nil, incA_len]; omega) | ((try simp only [cntLR, cntInv, mea0, List.cons.injEq, DV.b.injEq, and_true, Int.toNat_natCast, List.length_replicate, List.length_take, List.take_length, List.take_take, Nat.min_self, List.length_drop, List.drop_zero, List.length_cons, List.length_nil]); first | done | omega | assumption | grind [getD_set, getD_rep, toNat_succ, cntN_yes, cntN_no])
    refine all_i fun n9 => ?_
    refine imp_i fun h22 => ?_
    refine imp_i fun h23 => ?_
    refine all_i fun l10 => ?_
    refine imp_i fun h24 => ?_
    refine imp_i fun h25 => ?_
    refine imp_i fun h26 => ?_
    try simp only [cntLR, cntInv, mea0, List.cons.injEq, DV.b.injEq, and_true, List.length_take, List.take_length, List.take_take, Nat.min_self, List.length_drop, List.drop_zero, List.length_cons, List.length_nil] at h26
    refine bR_dec (fun h27 => ?_) (fun h27 => ?_)
    ·
      have m1 := QM n9.toNat (by omega)
      have b1 := lev_bd (b := n2) (n := n3) (x := l0.getD n9.toNat 0) (by omega) (by omega)
      have b2 := lev_bd (b := n2) (n := n3) (x := l1.getD n9.toNat 0) (by omega) (by omega)
      refine req_i ?_ ?_
      · -- r33
        first | omega | exact i2 | (simp only [Int.toNat_natCast, List.length_cons, List.length_nil]; exact ⟨by omega, by omega, rfl⟩) | (simp only [Int.toNat_natCast, List.length_cons, List.length_nil, incA_len]; omega) | ((try simp only [Int.toNat_natCast, List.length_cons, List.length_nil]); first | done | omega | assumption | grind [getD_set, getD_rep, toNat_succ, cntN_yes, cntN_no])
      refine req_i ?_ ?_
      · -- r34
        first | omega | exact i2 | (simp only [Int.toNat_natCast, List.length_cons, List.length_nil, Nat.add_eq, Nat.zero_add]; exact ⟨by omega, by omega, rfl⟩) | (simp only [Int.toNat_natCast, List.length_cons, List.length_nil, Nat.add_eq, Nat.zero_add, incA_len]; omega) | ((try simp only [Int.toNat_natCast, List.length_cons, List.length_nil, Nat.add_eq, Nat.zero_add]); first | done | omega | assumption | grind [getD_set, getD_rep, toNat_succ, cntN_yes, cntN_no])
      refine all_i fun n11 => ?_
      refine imp_i fun h28 => ?_
      simp only [wrap_i64] at h28
      have hb := hist_bd n8 (fun j => l4.getD j 0) (fun j => l5.getD j 0) n9.toNat
      rw [← h26.2.2] at hb
      have hl := hist_len n8 (fun j => l4.getD j 0) (fun j => l5.getD j 0) n9.toNat
      rw [← h26.2.2] at hl
      have g1 := getD_bd (i := n11.toNat) hb (by omega) (by omega)
      have i1 := incA_bd (i := n11.toNat) hb (by omega)
      refine imp_i fun h29 => ?_
      refine imp_i fun h30 => ?_
      refine req_i ?_ ?_
      · -- r35
        first | omega | assumption | exact i2 | (simp only [Nat.zero_add]; exact ⟨by omega, by omega, rfl⟩) | (simp only [Nat.zero_add, incA_len]; omega) | grind
      refine req_i ?_ ?_
      · -- r36
        first | omega | assumption | exact i2 | (simp only [Int.toNat_natCast, List.length_cons, List.length_nil]; exact ⟨by omega, by omega, rfl⟩) | (simp only [Int.toNat_natCast, List.length_cons, List.length_nil, incA_len]; omega) | grind
      refine req_i ?_ ?_
      · -- r37
        first | omega | exact i2 | (simp only [Int.toNat_natCast, List.length_cons, List.length_nil, Nat.add_eq, Nat.zero_add]; exact ⟨by omega, by omega, rfl⟩) | (simp only [Int.toNat_natCast, List.length_cons, List.length_nil, Nat.add_eq, Nat.zero_add, incA_len]; omega) | ((try simp only [Int.toNat_natCast, List.length_cons, List.length_nil, Nat.add_eq, Nat.zero_add]); first | done | omega | assumption | grind [getD_set, getD_rep, toNat_succ, cntN_yes, cntN_no])
      refine req_i ?_ ?_
      · -- r38
        first | omega | assumption | exact i2 | (simp only [Nat.zero_add]; exact ⟨by omega, by omega, rfl⟩) | (simp only [Nat.zero_add, incA_len]; omega) | grind
      refine req_i ?_ ?_
      · -- r39
        first | omega | assumption | exact i2 | (simp only [Int.toNat_natCast, List.length_cons, List.length_nil]; exact ⟨by omega, by omega, rfl⟩) | (simp only [Int.toNat_natCast, List.length_cons, List.length_nil, incA_len]; omega) | grind
      refine req_i ?_ ?_
      · -- r40
        first | omega | assumption | exact i2 | (simp only [Int.toNat_natCast, List.length_cons, List.length_nil, Nat.add_eq, Nat.zero_add]; exact ⟨by omega, by omega, rfl⟩) | (simp only [Int.toNat_natCast, List.length_cons, List.length_nil, Nat.add_eq, Nat.zero_add, incA_len]; omega) | grind
      refine req_i ?_ ?_
      · -- r41
        first | omega | exact i2 | (simp only [Int.toNat_natCast, List.length_cons, List.length_nil, Nat.add_eq, Nat.zero_add]; exact ⟨by omega, by omega, rfl⟩) | (simp only [Int.toNat_natCast, List.length_cons, List.length_nil, Nat.add_eq, Nat.zero_add, incA_len]; omega) | ((try simp only [Int.toNat_natCast, List.length_cons, List.length_nil, Nat.add_eq, Nat.zero_add]); first | done | omega | assumption | grind [getD_set, getD_rep, toNat_succ, cntN_yes, cntN_no])
      refine req_i ?_ ?_
      · -- r42
        first | omega | exact i2 | (simp only [Int.toNat_natCast, List.length_cons, List.length_nil]; exact ⟨by omega, by omega, rfl⟩) | (simp only [Int.toNat_natCast, List.length_cons, List.length_nil, incA_len]; omega) | ((try simp only [Int.toNat_natCast, List.length_cons, List.length_nil]); first | done | omega | assumption | grind [getD_set, getD_rep, toNat_succ, cntN_yes, cntN_no])
      refine req_i ?_ ?_
      · -- r43
        first | omega | exact i2 | (simp only [Int.toNat_natCast, List.length_cons, List.length_nil, Nat.add_eq, Nat.zero_add]; exact ⟨by omega, by omega, rfl⟩) | (simp only [Int.toNat_natCast, List.length_cons, List.length_nil, Nat.add_eq, Nat.zero_add, incA_len]; omega) | ((try simp only [Int.toNat_natCast, List.length_cons, List.length_nil, Nat.add_eq, Nat.zero_add]); first | done | omega | assumption | grind [getD_set, getD_rep, toNat_succ, cntN_yes, cntN_no])
      refine all_i fun n12 => ?_
      refine imp_i fun h31 => ?_
      simp only [wrap_i64] at h31
      simp only [incA_fold]
      have g2 := getD_bd (i := n12.toNat) i1 (by omega) (by omega)
      have i2 := sub_bd (incA_bd (i := n12.toNat) i1 (by omega)) (show (0 : Int) ≤ 0 by omega) (show _ ≤ (600 : Int) by omega)
      have hn : incA (incA l10 n11.toNat) n12.toNat = hist n8 (fun j => l4.getD j 0) (fun j => l5.getD j 0) (n9 + 1).toNat := by
        rw [toNat_succ h26.1, hist, ← h26.2.2, show n11 = l4.getD n9.toNat 0 + n8 by omega, show n12 = l5.getD n9.toNat 0 + n8 by omega]
      refine imp_i fun h32 => ?_
      refine imp_i fun h33 => ?_
      refine req_i ?_ ?_
      · -- r44
        first | omega | assumption | exact i2 | (simp only [Nat.zero_add]; exact ⟨by omega, by omega, rfl⟩) | (simp only [Nat.zero_add, incA_len]; omega) | grind
      refine req_i ?_ ?_
      · -- r45
        first | omega | assumption | exact i2 | (simp only [Int.toNat_natCast, List.length_cons, List.length_nil]; exact ⟨by omega, by omega, rfl⟩) | (simp only [Int.toNat_natCast, List.length_cons, List.length_nil, incA_len]; omega) | grind
      refine req_i ?_ ?_
      · -- r46
        first | omega | exact i2 | (simp only [Int.toNat_natCast, List.length_set, List.length_cons, List.length_nil, Nat.add_eq, Nat.zero_add]; exact ⟨by omega, by omega, rfl⟩) | (simp only [Int.toNat_natCast, List.length_set, List.length_cons, List.length_nil, Nat.add_eq, Nat.zero_add, incA_len]; omega) | ((try simp only [Int.toNat_natCast, List.length_set, List.length_cons, List.length_nil, Nat.add_eq, Nat.zero_add]); first | done | omega | assumption | grind [getD_set, getD_rep, toNat_succ, cntN_yes, cntN_no])
      refine req_i ?_ ?_
      · -- r47
        first | omega | assumption | exact i2 | (simp only [Nat.zero_add]; exact ⟨by omega, by omega, rfl⟩) | (simp only [Nat.zero_add, incA_len]; omega) | grind
      refine req_i ?_ ?_
      · -- r48
        first | omega | assumption | exact i2 | (simp only [Int.toNat_natCast, List.length_cons, List.length_nil]; exact ⟨by omega, by omega, rfl⟩) | (simp only [Int.toNat_natCast, List.length_cons, List.length_nil, incA_len]; omega) | grind
      refine req_i ?_ ?_
      · -- r49
        first | omega | assumption | exact i2 | (simp only [Int.toNat_natCast, List.length_set, List.length_cons, List.length_nil, Nat.add_eq, Nat.zero_add]; exact ⟨by omega, by omega, rfl⟩) | (simp only [Int.toNat_natCast, List.length_set, List.length_cons, List.length_nil, Nat.add_eq, Nat.zero_add, incA_len]; omega) | grind
      refine req_i ?_ ?_
      · -- r50
        first | omega | exact i2 | (simp only [Int.toNat_natCast, List.length_set, List.length_cons, List.length_nil, Nat.add_eq, Nat.zero_add]; exact ⟨by omega, by omega, rfl⟩) | (simp only [Int.toNat_natCast, List.length_set, List.length_cons, List.length_nil, Nat.add_eq, Nat.zero_add, incA_len]; omega) | ((try simp only [Int.toNat_natCast, List.length_set, List.length_cons, List.length_nil, Nat.add_eq, Nat.zero_add]); first | done | omega | assumption | grind [getD_set, getD_rep, toNat_succ, cntN_yes, cntN_no])
      refine bR_t ?_ ?_
      · -- g0
        first | rfl | (simp only [bR_iff, bR_iff_f, dec_iff, dec_f, beqB_iff', andB_iff', reduceCtorEq, imp_self, false_implies, and_true, true_and, implies_true, and_self]; done) | (simp [bR_iff, dec_iff, beqB_iff', andB_iff']; done) | (simp [bR_iff, dec_iff, beqB_iff', andB_iff']; omega)
      refine bR_t ?_ ?_
      · -- g1
        first | rfl | (simp only [bR_iff, bR_iff_f, dec_iff, dec_f, beqB_iff', andB_iff', reduceCtorEq, imp_self, false_implies, and_true, true_and, implies_true, and_self]; done) | (simp [bR_iff, dec_iff, beqB_iff', andB_iff']; done) | (simp [bR_iff, dec_iff, beqB_iff', andB_iff']; omega)
      refine req_i ?_ ?_
      · -- r51
        first | omega | assumption | exact i2 | (simp only [Nat.zero_add]; exact ⟨by omega, by omega, rfl⟩) | (simp only [Nat.zero_add, incA_len]; omega) | grind
      refine req_i ?_ ?_
      · -- r52
        first | omega | assumption | exact i2 | (simp only [Nat.zero_add]; exact ⟨by omega, by omega, rfl⟩) | (simp only [Nat.zero_add, incA_len]; omega) | grind
      refine req_i ?_ ?_
      · -- r53
        first | omega | exact i2 | (simp only [Int.toNat_natCast, List.length_set, List.length_cons, List.length_nil, lenCols_i, lenCols_b, Nat.add_eq, Nat.zero_add]; exact ⟨by omega, by omega, rfl⟩) | (simp only [Int.toNat_natCast, List.length_set, List.length_cons, List.length_nil, lenCols_i, lenCols_b, Nat.add_eq, Nat.zero_add, incA_len]; omega) | ((try simp only [Int.toNat_natCast, List.length_set, List.length_cons, List.length_nil, lenCols_i, lenCols_b, Nat.add_eq, Nat.zero_add]); first | done | omega | assumption | grind [getD_set, getD_rep, toNat_succ, cntN_yes, cntN_no])
      refine req_i ?_ ?_
      · -- r54
        first | omega | exact i2 | (simp only [Int.toNat_natCast, List.length_set, List.length_cons, List.length_nil, lenCols_i, lenCols_b, Nat.add_eq, Nat.zero_add]; exact ⟨by omega, by omega, rfl⟩) | (simp only [Int.toNat_natCast, List.length_set, List.length_cons, List.length_nil, lenCols_i, lenCols_b, Nat.add_eq, Nat.zero_add, incA_len]; omega) | ((try simp only [Int.toNat_natCast, List.length_set, List.length_cons, List.length_nil, lenCols_i, lenCols_b, Nat.add_eq, Nat.zero_add]); first | done | omega | assumption | grind [getD_set, getD_rep, toNat_succ, cntN_yes, cntN_no])
      refine req_i ?_ ?_
      · -- r55
        first | assumption | exact rep_bd (by omega) (by omega) | exact set_bd (by assumption) (by omega) (by omega) | exact take_bd (by assumption) | exact i2 | (simp only [Int.toNat_natCast, List.length_set, List.length_cons, List.length_nil, Nat.add_eq, Nat.zero_add]; exact ⟨by omega, by omega, rfl⟩) | (simp only [Int.toNat_natCast, List.length_set, List.length_cons, List.length_nil, Nat.add_eq, Nat.zero_add, incA_len]; omega) | ((try simp only [Int.toNat_natCast, List.length_set, List.length_cons, List.length_nil, Nat.add_eq, Nat.zero_add]); first | assumption | exact rep_bd (by omega) (by omega) | exact set_bd (by assumption) (by omega) (by omega) | exact take_bd (by assumption) | grind [getD_set, getD_rep, toNat_succ, cntN_yes, cntN_no])
      refine req_i ?_ ?_
      · -- r56
        first | omega | exact i2 | (simp only [cntLR, cntInv, mea0, List.cons.injEq, DV.b.injEq, and_true, Int.toNat_natCast, List.length_set, List.length_take, List.take_length, List.take_take, Nat.min_self, List.length_drop, List.drop_zero, List.length_cons, List.length_nil, Nat.add_eq, Nat.zero_add]; exact ⟨by omega, by omega, rfl⟩) | (simp only [cntLR, cntInv, mea0, List.cons.injEq, DV.b.injEq, and_true, Int.toNat_natCast, List.length_set, List.length_take, List.take_length, List.take_take, Nat.min_self, List.length_drop, List.drop_zero, List.length_cons, List.length_nil, Nat.add_eq, Nat.zero_add, incA_len]; omega) | ((try simp only [cntLR, cntInv, mea0, List.cons.injEq, DV.b.injEq, and_true, Int.toNat_natCast, List.length_set, List.length_take, List.take_length, List.take_take, Nat.min_self, List.length_drop, List.drop_zero, List.length_cons, List.length_nil, Nat.add_eq, Nat.zero_add]); first | done | omega | assumption | grind [getD_set, getD_rep, toNat_succ, cntN_yes, cntN_no])
      refine req_i ?_ ?_
      · -- r57
        first | omega | exact i2 | (simp only [cntLR, cntInv, mea0, List.cons.injEq, DV.b.injEq, and_true, Int.toNat_natCast, List.length_set, List.length_take, List.take_length, List.take_take, Nat.min_self, List.length_drop, List.drop_zero, List.length_cons, List.length_nil, Nat.add_eq, Nat.zero_add]; exact ⟨by omega, by omega, rfl⟩) | (simp only [cntLR, cntInv, mea0, List.cons.injEq, DV.b.injEq, and_true, Int.toNat_natCast, List.length_set, List.length_take, List.take_length, List.take_take, Nat.min_self, List.length_drop, List.drop_zero, List.length_cons, List.length_nil, Nat.add_eq, Nat.zero_add, incA_len]; omega) | ((try simp only [cntLR, cntInv, mea0, List.cons.injEq, DV.b.injEq, and_true, Int.toNat_natCast, List.length_set, List.length_take, List.take_length, List.take_take, Nat.min_self, List.length_drop, List.drop_zero, List.length_cons, List.length_nil, Nat.add_eq, Nat.zero_add]); first | done | omega | assumption | grind [getD_set, getD_rep, toNat_succ, cntN_yes, cntN_no])
      rfl
    ·
      have hl := hist_len n8 (fun j => l4.getD j 0) (fun j => l5.getD j 0) n9.toNat
      rw [← h26.2.2] at hl
      have tq12 := take_eq' hl
      simp only [tq12]
      have hf : l10 = histP (qq n2) l0 l1 n2 n3 l0.length := by rw [h26.2.2, histP, ← h21, show n9.toNat = l0.length by omega]; exact hist_congr (fun j hj => QM j (by omega))
      refine req_i ?_ ?_
      · -- r58
        first | omega | exact i2 | (simp only [Int.toNat_natCast, List.length_cons, List.length_nil, Nat.mul_eq]; exact ⟨by omega, by omega, rfl⟩) | (simp only [Int.toNat_natCast, List.length_cons, List.length_nil, Nat.mul_eq, incA_len]; omega) | ((try simp only [Int.toNat_natCast, List.length_cons, List.length_nil, Nat.mul_eq]); first | done | omega | assumption | grind [getD_set, getD_rep, toNat_succ, cntN_yes, cntN_no])
      refine req_i ?_ ?_
      · -- r59
        first | omega | assumption | exact i2 | (simp only [Int.toNat_natCast, List.length_cons, List.length_nil]; exact ⟨by omega, by omega, rfl⟩) | (simp only [Int.toNat_natCast, List.length_cons, List.length_nil, incA_len]; omega) | grind
      refine req_i ?_ ?_
      · -- r60
        first | omega | exact i2 | (simp only [Int.toNat_natCast, List.length_take, List.take_length, List.take_take, Nat.min_self, List.length_drop, List.drop_zero, List.length_cons, List.length_nil]; exact ⟨by omega, by omega, rfl⟩) | (simp only [Int.toNat_natCast, List.length_take, List.take_length, List.take_take, Nat.min_self, List.length_drop, List.drop_zero, List.length_cons, List.length_nil, incA_len]; omega) | ((try simp only [Int.toNat_natCast, List.length_take, List.take_length, List.take_take, Nat.min_self, List.length_drop, List.drop_zero, List.length_cons, List.length_nil]); first | done | omega | assumption | grind [getD_set, getD_rep, toNat_succ, cntN_yes, cntN_no])
      refine req_i ?_ ?_
      · -- r61
        first | assumption | exact rep_bd (by omega) (by omega) | exact set_bd (by assumption) (by omega) (by omega) | exact take_bd (by assumption) | exact i2 | (simp only [Int.toNat_natCast, List.length_take, List.take_length, List.take_take, Nat.min_self, List.length_drop, List.drop_zero, List.length_cons, List.length_nil]; exact ⟨by omega, by omega, rfl⟩) | (simp only [Int.toNat_natCast, List.length_take, List.take_length, List.take_take, Nat.min_self, List.length_drop, List.drop_zero, List.length_cons, List.length_nil, incA_len]; omega) | ((try simp only [Int.toNat_natCast, List.length_take, List.take_length, List.take_take, Nat.min_self, List.length_drop, List.drop_zero, List.length_cons, List.length_nil]); first | assumption | exact rep_bd (by omega) (by omega) | exact set_bd (by assumption) (by omega) (by omega) | exact take_bd (by assumption) | grind [getD_set, getD_rep, toNat_succ, cntN_yes, cntN_no])
      refine req_i ?_ ?_
      · -- r62
        first | omega | exact i2 | (simp only [sigCount, countPost, List.cons.injEq, DV.b.injEq, and_true, Int.toNat_natCast, List.length_take, List.take_length, List.take_take, Nat.min_self, List.length_drop, List.drop_zero, List.length_cons, List.length_nil]; exact ⟨by omega, by omega, rfl⟩) | (simp only [sigCount, countPost, List.cons.injEq, DV.b.injEq, and_true, Int.toNat_natCast, List.length_take, List.take_length, List.take_take, Nat.min_self, List.length_drop, List.drop_zero, List.length_cons, List.length_nil, incA_len]; omega) | ((try simp only [sigCount, countPost, List.cons.injEq, DV.b.injEq, and_true, Int.toNat_natCast, List.length_take, List.take_length, List.take_take, Nat.min_self, List.length_drop, List.drop_zero, List.length_cons, List.length_nil]); first | done | omega | assumption | grind [getD_set, getD_rep, toNat_succ, cntN_yes, cntN_no])
      rfl
theorem ext_countR : ∀ p ∈ ([(24, Ext.ctr (ctOf sigQuan)), (45, Ext.ctr (ctOf sigGr))] : List (Nat × Ext)), ExtRow Try.prog p.1 p.2 := by
  intro p hp
  simp only [List.mem_cons, List.not_mem_nil, or_false] at hp
  rcases hp with rfl | rfl <;> trivial
theorem cts_countR : CtsOk Try.prog [(24, Ext.ctr (ctOf sigQuan)), (45, Ext.ctr (ctOf sigGr))] := ctsOk_of (cs := [(24, sigQuan), (45, sigGr)])
  (fun p hp => by
    simp only [List.mem_cons, List.not_mem_nil, or_false] at hp
    rcases hp with rfl | rfl
    · exact fn_quanR
    · exact fn_grR
)
  (fun f c h => by
    simp only [List.lookup_cons] at h
    repeat' split at h
    all_goals first | (cases h; done) | (rename_i e; have e := beq_iff_eq.1 e; subst e; cases h; exact ⟨_, by simp, rfl⟩))
theorem fn_countR : FnOk Try.prog 26 sigCount [] := fn_sound (by kernel_rfl) ext_countR cts_countR names vt_countR
end Go.Proofs.Ytemcaojbhfgpgaa

namespace Go.Proofs.Ytemcaojbhfgpgaa
open Go.Ev Go.Sp
set_option maxRecDepth 100000
theorem vc_samp : vcFn Try.prog [] tab [] 100 13 sigSamP = (allB fun l0 : List Int => 
impB (l0.length ≤ (9223372036854775807 : Nat)) (
impB (∀ (y : Int), y ∈ l0 → (-9223372036854775808 : Int) ≤ y ∧ y ≤ (9223372036854775807 : Int)) (
allB fun l1 : List Int => 
impB (l1.length = l0.length) (
impB (∀ (y : Int), y ∈ l1 → (-9223372036854775808 : Int) ≤ y ∧ y ≤ (9223372036854775807 : Int)) (
allB fun l2 : List Int => 
impB (l2.length ≤ (9223372036854775807 : Nat)) (
impB (∀ (y : Int), y ∈ l2 → (-9223372036854775808 : Int) ≤ y ∧ y ≤ (9223372036854775807 : Int)) (
allB fun l3 : List Int => 
impB (l3.length = l2.length) (
impB (∀ (y : Int), y ∈ l3 → (-9223372036854775808 : Int) ≤ y ∧ y ≤ (9223372036854775807 : Int)) (
impB (sigSamP.pre [DV.l l0, DV.l l1, DV.l l2, DV.l l3]) (
bR (dec ((↑l0.length : Int) ≠ (↑l2.length : Int))) (
 reqB (sigSamP.post [DV.l l0, DV.l l1, DV.l l2, DV.l l3] [DV.b Bool.false]) (
 true)) (
 reqB (((0 : Nat) + l0.length) * (2 : Nat) ≤ l0.length.mul (2 : Nat)) (
 reqB (l0.length ≤ (9223372036854775807 : Nat)) (
 reqB ((List.take l0.length (List.drop (0 : Nat) l0)).length = l0.length) (
 reqB (∀ (y : Int),
  y ∈ List.take l0.length (List.drop (0 : Nat) l0) → (-9223372036854775808 : Int) ≤ y ∧ y ≤ (9223372036854775807 : Int)) (
 reqB ((List.take l0.length (List.drop (0 : Nat) l1)).length = l0.length) (
 reqB (∀ (y : Int),
  y ∈ List.take l0.length (List.drop (0 : Nat) l1) → (-9223372036854775808 : Int) ≤ y ∧ y ≤ (9223372036854775807 : Int)) (
 reqB (((0 : Nat) + l2.length) * (2 : Nat) ≤ l2.length.mul (2 : Nat)) (
 reqB (l2.length ≤ (9223372036854775807 : Nat)) (
 reqB ((List.take l2.length (List.drop (0 : Nat) l2)).length = l2.length) (
 reqB (∀ (y : Int),
  y ∈ List.take l2.length (List.drop (0 : Nat) l2) → (-9223372036854775808 : Int) ≤ y ∧ y ≤ (9223372036854775807 : Int)) (
 reqB ((List.take l2.length (List.drop (0 : Nat) l3)).length = l2.length) (
 reqB (∀ (y : Int),
  y ∈ List.take l2.length (List.drop (0 : Nat) l3) → (-9223372036854775808 : Int) ≤ y ∧ y ≤ (9223372036854775807 : Int)) (
 reqB (samPL.inv
  [DV.l (List.take l0.length (List.drop (0 : Nat) l0)), DV.l (List.take l0.length (List.drop (0 : Nat) l1)),
    DV.l (List.take l2.length (List.drop (0 : Nat) l2)),
    DV.l (List.take l2.length (List.drop (0 : Nat) l3))]
  [DV.n (0 : Int)]) (
 allB fun n4 : Int => 
 impB ((0 : Int) ≤ n4) (
 impB (n4 ≤ (9223372036854775807 : Int)) (
 impB (samPL.inv
  [DV.l (List.take l0.length (List.drop (0 : Nat) l0)), DV.l (List.take l0.length (List.drop (0 : Nat) l1)),
    DV.l (List.take l2.length (List.drop (0 : Nat) l2)),
    DV.l (List.take l2.length (List.drop (0 : Nat) l3))]
  [DV.n n4]) (
 bR (dec (n4 < (↑l0.length : Int))) (
  reqB (n4.toNat < l0.length) (
  reqB (Nat.add (0 : Nat) n4.toNat < l0.length) (
  reqB (Nat.add (0 : Nat) n4.toNat < l1.length) (
  reqB (n4.toNat < l2.length) (
  reqB (Nat.add (0 : Nat) n4.toNat < l2.length) (
  reqB (Nat.add (0 : Nat) n4.toNat < l3.length) (
  bR (bR (bR (dec (l0.getD (Nat.add (0 : Nat) n4.toNat) (0 : Int) = l2.getD (Nat.add (0 : Nat) n4.toNat) (0 : Int))) (
   bR (dec (l1.getD (Nat.add (0 : Nat) n4.toNat) (0 : Int) = l3.getD (Nat.add (0 : Nat) n4.toNat) (0 : Int))) (
    true) (
    false)) (
   false)) (
   false) (
   true)) (
   reqB (sigSamP.post [DV.l l0, DV.l l1, DV.l l2, DV.l l3] [DV.b Bool.false]) (
   true)) (
   allB fun n5 : Int => 
   impB (n5 = Go.IntKind.i64.wrap (n4 + (1 : Int))) (
   impB (Int.negSucc (9223372036854775807 : Nat) ≤ n5) (
   impB (n5 ≤ Int.ofNat (9223372036854775807 : Nat)) (
   bR (bR (bR (dec ((0 : Nat) = (0 : Nat))) (
    dec (l0.length = l0.length)) (
    false)) (
    bR (bR (dec ((0 : Nat) = (0 : Nat))) (
     dec (l2.length = l2.length)) (
     false)) (
     true) (
     false)) (
    false)) (
    reqB ((0 : Int) ≤ n5) (
    reqB (n5 ≤ (9223372036854775807 : Int)) (
    reqB (samPL.inv
  [DV.l (List.take l0.length (List.drop (0 : Nat) l0)), DV.l (List.take l0.length (List.drop (0 : Nat) l1)),
    DV.l (List.take l2.length (List.drop (0 : Nat) l2)),
    DV.l (List.take l2.length (List.drop (0 : Nat) l3))]
  [DV.n n5]) (
    reqB (samPL.mea
    [DV.l (List.take l0.length (List.drop (0 : Nat) l0)),
      DV.l (List.take l0.length (List.drop (0 : Nat) l1)),
      DV.l (List.take l2.length (List.drop (0 : Nat) l2)),
      DV.l (List.take l2.length (List.drop (0 : Nat) l3))]
    [DV.n n5] <
  samPL.mea
    [DV.l (List.take l0.length (List.drop (0 : Nat) l0)),
      DV.l (List.take l0.length (List.drop (0 : Nat) l1)),
      DV.l (List.take l2.length (List.drop (0 : Nat) l2)),
      DV.l (List.take l2.length (List.drop (0 : Nat) l3))]
    [DV.n n4]) (
    true))))) (
    false)))))))))))) (
  reqB (sigSamP.post [DV.l l0, DV.l l1, DV.l l2, DV.l l3] [DV.b Bool.true]) (
  true))))))))))))))))))))))))))))) := by kernel_rfl
set_option maxHeartbeats 8000000 in
theorem vt_samp : vcFn Try.prog [] tab [] 100 13 sigSamP = true := by
  rw [vc_samp]
  try simp only [Int.toNat_natCast, List.length_set, List.length_replicate, List.length_take, List.length_drop, List.length_append, List.length_cons, List.length_nil, Nat.min_self, List.take_take, lenCols_i, lenCols_b, List.drop_zero, List.take_length, Nat.add_eq, Nat.mul_eq, Nat.sub_eq, Nat.zero_add, Nat.sub_zero, Nat.mul_one]
  refine all_i fun l0 => ?_
  refine imp_i fun h0 => ?_
  refine imp_i fun h1 => ?_
  refine all_i fun l1 => ?_
  refine imp_i fun h2 => ?_
  have tkl1 := take_eq h2
  try simp only [tkl1]
  refine imp_i fun h3 => ?_
  refine all_i fun l2 => ?_
  refine imp_i fun h4 => ?_
  refine imp_i fun h5 => ?_
  refine all_i fun l3 => ?_
  refine imp_i fun h6 => ?_
  have tkl3 := take_eq h6
  try simp only [tkl3]
  refine imp_i fun h7 => ?_
  refine imp_i fun h8 => ?_
  try simp only [sigSamP, samP, List.cons.injEq, DV.b.injEq, and_true, List.length_cons, List.length_nil] at h8
  refine bR_dec (fun h9 => ?_) (fun h9 => ?_)
  ·
    refine req_i ?_ ?_
    · -- r0
      first | omega | ((try simp only [sigSamP, samP, List.cons.injEq, DV.b.injEq, and_true, List.length_cons, List.length_nil]); first | done | omega | assumption | grind [getD_set, getD_rep, toNat_succ, cntN_yes, cntN_no])
    rfl
  ·
    refine req_i ?_ ?_
    · -- r1
      first | omega | ((try simp only [Nat.mul_eq]); first | done | omega | assumption | grind [getD_set, getD_rep, toNat_succ, cntN_yes, cntN_no])
    refine req_i ?_ ?_
    · -- r2
      first | omega | ((try simp only [Nat.zero_add]); first | done | omega | assumption | grind [getD_set, getD_rep, toNat_succ, cntN_yes, cntN_no])
    refine req_i ?_ ?_
    · -- r3
      first | omega | ((try simp only [List.length_take, List.take_length, List.take_take, Nat.min_self, List.length_drop, List.drop_zero, List.length_cons, List.length_nil]); first | done | omega | assumption | grind [getD_set, getD_rep, toNat_succ, cntN_yes, cntN_no])
    refine req_i ?_ ?_
    · -- r4
      first | assumption | exact rep_bd (by omega) (by omega) | exact set_bd (by assumption) (by omega) (by omega) | exact take_bd (by assumption) | ((try simp only [List.length_take, List.take_length, List.take_take, Nat.min_self, List.length_drop, List.drop_zero, List.length_cons, List.length_nil]); first | assumption | exact rep_bd (by omega) (by omega) | exact set_bd (by assumption) (by omega) (by omega) | exact take_bd (by assumption) | grind [getD_set, getD_rep, toNat_succ, cntN_yes, cntN_no])
    refine req_i ?_ ?_
    · -- r5
      first | omega | ((try simp only [List.length_take, List.take_length, List.take_take, Nat.min_self, List.length_drop, List.drop_zero, List.length_cons, List.length_nil]); first | done | omega | assumption | grind [getD_set, getD_rep, toNat_succ, cntN_yes, cntN_no])
    refine req_i ?_ ?_
    · -- r6
      first | assumption | exact rep_bd (by omega) (by omega) | exact set_bd (by assumption) (by omega) (by omega) | exact take_bd (by assumption) | ((try simp only [List.length_take, List.take_length, List.take_take, Nat.min_self, List.length_drop, List.drop_zero, List.length_cons, List.length_nil]); first | assumption | exact rep_bd (by omega) (by omega) | exact set_bd (by assumption) (by omega) (by omega) | exact take_bd (by assumption) | grind [getD_set, getD_rep, toNat_succ, cntN_yes, cntN_no])
    refine req_i ?_ ?_
    · -- r7
      first | omega | ((try simp only [Nat.mul_eq]); first | done | omega | assumption | grind [getD_set, getD_rep, toNat_succ, cntN_yes, cntN_no])
    refine req_i ?_ ?_
    · -- r8
      first | omega | ((try simp only [Nat.zero_add]); first | done | omega | assumption | grind [getD_set, getD_rep, toNat_succ, cntN_yes, cntN_no])
    refine req_i ?_ ?_
    · -- r9
      first | omega | ((try simp only [List.length_take, List.take_length, List.take_take, Nat.min_self, List.length_drop, List.drop_zero, List.length_cons, List.length_nil]); first | done | omega | assumption | grind [getD_set, getD_rep, toNat_succ, cntN_yes, cntN_no])
    refine req_i ?_ ?_
    · -- r10
      first | assumption | exact rep_bd (by omega) (by omega) | exact set_bd (by assumption) (by omega) (by omega) | exact take_bd (by assumption) | ((try simp only [List.length_take, List.take_length, List.take_take, Nat.min_self, List.length_drop, List.drop_zero, List.length_cons, List.length_nil]); first | assumption | exact rep_bd (by omega) (by omega) | exact set_bd (by assumption) (by omega) (by omega) | exact take_bd (by assumption) | grind [getD_set, getD_rep, toNat_succ, cntN_yes, cntN_no])
    refine req_i ?_ ?_
    · -- r11
      first | omega | ((try simp only [List.length_take, List.take_length, List.take_take, Nat.min_self, List.length_drop, List.drop_zero, List.length_cons, List.length_nil]); first | done | omega | assumption | grind [getD_set, getD_rep, toNat_succ, cntN_yes, cntN_no])
    refine req_i ?_ ?_
    · -- r12
      first | assumption | exact rep_bd (by omega) (by omega) | exact set_bd (by assumption) (by omega) (by omega) | exact take_bd (by assumption) | ((try simp only [List.length_take, List.take_length, List.take_take, Nat.min_self, List.length_drop, List.drop_zero, List.length_cons, List.length_nil]); first | assumption | exact rep_bd (by omega) (by omega) | exact set_bd (by assumption) (by omega) (by omega) | exact take_bd (by assumption) | grind [getD_set, getD_rep, toNat_succ, cntN_yes, cntN_no])
    refine req_i ?_ ?_
    · -- r13
      first | omega | ((try simp only [samPL, samPInv, mea0, List.cons.injEq, DV.b.injEq, and_true, List.length_take, List.take_length, List.take_take, Nat.min_self, List.length_drop, List.drop_zero, List.length_cons, List.length_nil]); first | done | omega | assumption | grind [getD_set, getD_rep, toNat_succ, cntN_yes, cntN_no])
    refine all_i fun n4 => ?_
    refine imp_i fun h10 => ?_
    refine imp_i fun h11 => ?_
    refine imp_i fun h12 => ?_
    try simp only [samPL, samPInv, mea0, List.cons.injEq, DV.b.injEq, and_true, List.length_take, List.take_length, List.take_take, Nat.min_self, List.length_drop, List.drop_zero, List.length_cons, List.length_nil] at h12
    refine bR_dec (fun h13 => ?_) (fun h13 => ?_)
    ·
      refine req_i ?_ ?_
      · -- r14
        first | omega | ((try simp only [Int.toNat_natCast, List.length_cons, List.length_nil]); first | done | omega | assumption | grind [getD_set, getD_rep, toNat_succ, cntN_yes, cntN_no])
      refine req_i ?_ ?_
      · -- r15
        first | omega | ((try simp only [Int.toNat_natCast, List.length_cons, List.length_nil, Nat.add_eq, Nat.zero_add]); first | done | omega | assumption | grind [getD_set, getD_rep, toNat_succ, cntN_yes, cntN_no])
      refine req_i ?_ ?_
      · -- r16
        first | omega | ((try simp only [Int.toNat_natCast, List.length_cons, List.length_nil, Nat.add_eq, Nat.zero_add]); first | done | omega | assumption | grind [getD_set, getD_rep, toNat_succ, cntN_yes, cntN_no])
      refine req_i ?_ ?_
      · -- r17
        first | omega | ((try simp only [Int.toNat_natCast, List.length_cons, List.length_nil]); first | done | omega | assumption | grind [getD_set, getD_rep, toNat_succ, cntN_yes, cntN_no])
      refine req_i ?_ ?_
      · -- r18
        first | omega | ((try simp only [Int.toNat_natCast, List.length_cons, List.length_nil, Nat.add_eq, Nat.zero_add]); first | done | omega | assumption | grind [getD_set, getD_rep, toNat_succ, cntN_yes, cntN_no])
      refine req_i ?_ ?_
      · -- r19
        first | omega | ((try simp only [Int.toNat_natCast, List.length_cons, List.length_nil, Nat.add_eq, Nat.zero_add]); first | done | omega | assumption | grind [getD_set, getD_rep, toNat_succ, cntN_yes, cntN_no])
      refine bR_i (fun h14 => ?_) (fun h14 => ?_)
      ·
        simp only [bR_iff, bR_iff_f, dec_iff, dec_f, Bool.false_eq_true, Bool.true_eq_false, false_implies, imp_false, and_true, true_and, implies_true, Classical.not_not] at h14
        refine req_i ?_ ?_
        · -- r20
          first | omega | ((try simp only [sigSamP, samP, List.cons.injEq, DV.b.injEq, and_true, List.length_cons, List.length_nil]); first | done | omega | assumption | grind [getD_set, getD_rep, toNat_succ, cntN_yes, cntN_no])
        rfl
      ·
        simp only [bR_iff, bR_iff_f, dec_iff, dec_f, Bool.false_eq_true, Bool.true_eq_false, false_implies, imp_false, and_true, true_and, implies_true, Classical.not_not] at h14
        refine all_i fun n5 => ?_
        refine imp_i fun h15 => ?_
        simp only [wrap_i64] at h15
        refine imp_i fun h16 => ?_
        refine imp_i fun h17 => ?_
        refine bR_t ?_ ?_
        · -- g0
          first | rfl | (simp only [bR_iff, bR_iff_f, dec_iff, dec_f, beqB_iff', andB_iff', reduceCtorEq, imp_self, false_implies, and_true, true_and, implies_true, and_self]; done) | (simp [bR_iff, dec_iff, beqB_iff', andB_iff']; done) | (simp [bR_iff, dec_iff, beqB_iff', andB_iff']; omega)
        refine req_i ?_ ?_
        · -- r21
          first | omega | assumption | grind
        refine req_i ?_ ?_
        · -- r22
          first | omega | assumption | grind
        refine req_i ?_ ?_
        · -- r23
          first | omega | ((try simp only [samPL, samPInv, mea0, List.cons.injEq, DV.b.injEq, and_true, List.length_take, List.take_length, List.take_take, Nat.min_self, List.length_drop, List.drop_zero, List.length_cons, List.length_nil]); first | done | omega | assumption | grind [getD_set, getD_rep, toNat_succ, cntN_yes, cntN_no])
        refine req_i ?_ ?_
        · -- r24
          first | omega | ((try simp only [samPL, samPInv, mea0, List.cons.injEq, DV.b.injEq, and_true, List.length_take, List.take_length, List.take_take, Nat.min_self, List.length_drop, List.drop_zero, List.length_cons, List.length_nil]); first | done | omega | assumption | grind [getD_set, getD_rep, toNat_succ, cntN_yes, cntN_no])
        rfl
    ·
      have e1 := equ_of (a := l0) (c := l2) h12.2.2.1 h13 (fun j hj => (h12.2.2.2 j hj).1)
      have e2 := equ_of (a := l1) (c := l3) (i := n4) (by omega) (by omega) (fun j hj => (h12.2.2.2 j hj).2)
      refine req_i ?_ ?_
      · -- r25
        first | omega | ((try simp only [sigSamP, samP, List.cons.injEq, DV.b.injEq, and_true, List.length_cons, List.length_nil]); first | done | omega | assumption | grind [getD_set, getD_rep, toNat_succ, cntN_yes, cntN_no])
      rfl
theorem ext_samp : ∀ p ∈ ([] : List (Nat × Ext)), ExtRow Try.prog p.1 p.2 := by
  intro p hp
  cases hp
theorem cts_samp : CtsOk Try.prog [] := fun f c h => by cases h
theorem fn_samp : FnOk Try.prog 13 sigSamP [] := fn_sound (by kernel_rfl) ext_samp cts_samp names vt_samp
end Go.Proofs.Ytemcaojbhfgpgaa

namespace Go.Proofs.Ytemcaojbhfgpgaa
open Go.Ev Go.Sp
set_option maxRecDepth 100000
theorem vc_equ : vcFn Try.prog [] tab [] 100 18 sigEqu = (allB fun l0 : List Int => 
impB (l0.length ≤ (9223372036854775807 : Nat)) (
impB (∀ (y : Int), y ∈ l0 → (-9223372036854775808 : Int) ≤ y ∧ y ≤ (9223372036854775807 : Int)) (
allB fun l1 : List Int => 
impB (l1.length ≤ (9223372036854775807 : Nat)) (
impB (∀ (y : Int), y ∈ l1 → (-9223372036854775808 : Int) ≤ y ∧ y ≤ (9223372036854775807 : Int)) (
impB (sigEqu.pre [DV.l l0, DV.l l1]) (
bR (dec ((↑l0.length : Int) ≠ (↑l1.length : Int))) (
 reqB (sigEqu.post [DV.l l0, DV.l l1] [DV.b Bool.false]) (
 true)) (
 reqB (((0 : Nat) + l0.length) * (1 : Nat) ≤ l0.length.mul (1 : Nat)) (
 reqB (l0.length ≤ (9223372036854775807 : Nat)) (
 reqB ((List.take l0.length (List.drop (0 : Nat) l0)).length = l0.length) (
 reqB (∀ (y : Int),
  y ∈ List.take l0.length (List.drop (0 : Nat) l0) → (-9223372036854775808 : Int) ≤ y ∧ y ≤ (9223372036854775807 : Int)) (
 reqB (((0 : Nat) + l1.length) * (1 : Nat) ≤ l1.length.mul (1 : Nat)) (
 reqB (l1.length ≤ (9223372036854775807 : Nat)) (
 reqB ((List.take l1.length (List.drop (0 : Nat) l1)).length = l1.length) (
 reqB (∀ (y : Int),
  y ∈ List.take l1.length (List.drop (0 : Nat) l1) → (-9223372036854775808 : Int) ≤ y ∧ y ≤ (9223372036854775807 : Int)) (
 reqB (equL.inv
  [DV.l (List.take l0.length (List.drop (0 : Nat) l0)), DV.l (List.take l1.length (List.drop (0 : Nat) l1))]
  [DV.n (0 : Int)]) (
 allB fun n2 : Int => 
 impB ((0 : Int) ≤ n2) (
 impB (n2 ≤ (9223372036854775807 : Int)) (
 impB (equL.inv
  [DV.l (List.take l0.length (List.drop (0 : Nat) l0)), DV.l (List.take l1.length (List.drop (0 : Nat) l1))]
  [DV.n n2]) (
 bR (dec (n2 < (↑l0.length : Int))) (
  reqB (n2.toNat < l0.length) (
  reqB (Nat.add (0 : Nat) n2.toNat < l0.length) (
  reqB (n2.toNat < l1.length) (
  reqB (Nat.add (0 : Nat) n2.toNat < l1.length) (
  bR (dec (l0.getD (Nat.add (0 : Nat) n2.toNat) (0 : Int) ≠ l1.getD (Nat.add (0 : Nat) n2.toNat) (0 : Int))) (
   reqB (sigEqu.post [DV.l l0, DV.l l1] [DV.b Bool.false]) (
   true)) (
   allB fun n3 : Int => 
   impB (n3 = Go.IntKind.i64.wrap (n2 + (1 : Int))) (
   impB (Int.negSucc (9223372036854775807 : Nat) ≤ n3) (
   impB (n3 ≤ Int.ofNat (9223372036854775807 : Nat)) (
   bR (bR (bR (dec ((0 : Nat) = (0 : Nat))) (
    dec (l0.length = l0.length)) (
    false)) (
    bR (bR (dec ((0 : Nat) = (0 : Nat))) (
     dec (l1.length = l1.length)) (
     false)) (
     true) (
     false)) (
    false)) (
    reqB ((0 : Int) ≤ n3) (
    reqB (n3 ≤ (9223372036854775807 : Int)) (
    reqB (equL.inv
  [DV.l (List.take l0.length (List.drop (0 : Nat) l0)), DV.l (List.take l1.length (List.drop (0 : Nat) l1))]
  [DV.n n3]) (
    reqB (equL.mea
    [DV.l (List.take l0.length (List.drop (0 : Nat) l0)),
      DV.l (List.take l1.length (List.drop (0 : Nat) l1))]
    [DV.n n3] <
  equL.mea
    [DV.l (List.take l0.length (List.drop (0 : Nat) l0)),
      DV.l (List.take l1.length (List.drop (0 : Nat) l1))]
    [DV.n n2]) (
    true))))) (
    false)))))))))) (
  reqB (sigEqu.post [DV.l l0, DV.l l1] [DV.b Bool.true]) (
  true))))))))))))))))))))) := by kernel_rfl
set_option maxHeartbeats 8000000 in
theorem vt_equ : vcFn Try.prog [] tab [] 100 18 sigEqu = true := by
  rw [vc_equ]
  try simp only [Int.toNat_natCast, List.length_set, List.length_replicate, List.length_take, List.length_drop, List.length_append, List.length_cons, List.length_nil, Nat.min_self, List.take_take, lenCols_i, lenCols_b, List.drop_zero, List.take_length, Nat.add_eq, Nat.mul_eq, Nat.sub_eq, Nat.zero_add, Nat.sub_zero, Nat.mul_one]
  refine all_i fun l0 => ?_
  refine imp_i fun h0 => ?_
  refine imp_i fun h1 => ?_
  refine all_i fun l1 => ?_
  refine imp_i fun h2 => ?_
  refine imp_i fun h3 => ?_
  refine imp_i fun h4 => ?_
  try simp only [sigEqu, equP, List.cons.injEq, DV.b.injEq, and_true, List.length_cons, List.length_nil] at h4
  refine bR_dec (fun h5 => ?_) (fun h5 => ?_)
  ·
    refine req_i ?_ ?_
    · -- r0
      first | omega | ((try simp only [sigEqu, equP, List.cons.injEq, DV.b.injEq, and_true, List.length_cons, List.length_nil]); first | done | omega | assumption | grind [getD_set, getD_rep, toNat_succ, cntN_yes, cntN_no])
    rfl
  ·
    refine req_i ?_ ?_
    · -- r1
      first | omega | ((try simp only [Nat.mul_eq]); first | done | omega | assumption | grind [getD_set, getD_rep, toNat_succ, cntN_yes, cntN_no])
    refine req_i ?_ ?_
    · -- r2
      first | omega | ((try simp only [Nat.zero_add]); first | done | omega | assumption | grind [getD_set, getD_rep, toNat_succ, cntN_yes, cntN_no])
    refine req_i ?_ ?_
    · -- r3
      first | omega | ((try simp only [List.length_take, List.take_length, List.take_take, Nat.min_self, List.length_drop, List.drop_zero, List.length_cons, List.length_nil]); first | done | omega | assumption | grind [getD_set, getD_rep, toNat_succ, cntN_yes, cntN_no])
    refine req_i ?_ ?_
    · -- r4
      first | assumption | exact rep_bd (by omega) (by omega) | exact set_bd (by assumption) (by omega) (by omega) | exact take_bd (by assumption) | ((try simp only [List.length_take, List.take_length, List.take_take, Nat.min_self, List.length_drop, List.drop_zero, List.length_cons, List.length_nil]); first | assumption | exact rep_bd (by omega) (by omega) | exact set_bd (by assumption) (by omega) (by omega) | exact take_bd (by assumption) | grind [getD_set, getD_rep, toNat_succ, cntN_yes, cntN_no])
    refine req_i ?_ ?_
    · -- r5
      first | omega | ((try simp only [Nat.mul_eq]); first | done | omega | assumption | grind [getD_set, getD_rep, toNat_succ, cntN_yes, cntN_no])
    refine req_i ?_ ?_
    · -- r6
      first | omega | ((try simp only [Nat.zero_add]); first | done | omega | assumption | grind [getD_set, getD_rep, toNat_succ, cntN_yes, cntN_no])
    refine req_i ?_ ?_
    · -- r7
      first | omega | ((try simp only [List.length_take, List.take_length, List.take_take, Nat.min_self, List.length_drop, List.drop_zero, List.length_cons, List.length_nil]); first | done | omega | assumption | grind [getD_set, getD_rep, toNat_succ, cntN_yes, cntN_no])
    refine req_i ?_ ?_
    · -- r8
      first | assumption | exact rep_bd (by omega) (by omega) | exact set_bd (by assumption) (by omega) (by omega) | exact take_bd (by assumption) | ((try simp only [List.length_take, List.take_length, List.take_take, Nat.min_self, List.length_drop, List.drop_zero, List.length_cons, List.length_nil]); first | assumption | exact rep_bd (by omega) (by omega) | exact set_bd (by assumption) (by omega) (by omega) | exact take_bd (by assumption) | grind [getD_set, getD_rep, toNat_succ, cntN_yes, cntN_no])
    refine req_i ?_ ?_
    · -- r9
      first | omega | ((try simp only [equL, equInv, mea0, List.cons.injEq, DV.b.injEq, and_true, List.length_take, List.take_length, List.take_take, Nat.min_self, List.length_drop, List.drop_zero, List.length_cons, List.length_nil]); first | done | omega | assumption | grind [getD_set, getD_rep, toNat_succ, cntN_yes, cntN_no])
    refine all_i fun n2 => ?_
    refine imp_i fun h6 => ?_
    refine imp_i fun h7 => ?_
    refine imp_i fun h8 => ?_
    try simp only [equL, equInv, mea0, List.cons.injEq, DV.b.injEq, and_true, List.length_take, List.take_length, List.take_take, Nat.min_self, List.length_drop, List.drop_zero, List.length_cons, List.length_nil] at h8
    refine bR_dec (fun h9 => ?_) (fun h9 => ?_)
    ·
      refine req_i ?_ ?_
      · -- r10
        first | omega | ((try simp only [Int.toNat_natCast, List.length_cons, List.length_nil]); first | done | omega | assumption | grind [getD_set, getD_rep, toNat_succ, cntN_yes, cntN_no])
      refine req_i ?_ ?_
      · -- r11
        first | omega | ((try simp only [Int.toNat_natCast, List.length_cons, List.length_nil, Nat.add_eq, Nat.zero_add]); first | done | omega | assumption | grind [getD_set, getD_rep, toNat_succ, cntN_yes, cntN_no])
      refine req_i ?_ ?_
      · -- r12
        first | omega | ((try simp only [Int.toNat_natCast, List.length_cons, List.length_nil]); first | done | omega | assumption | grind [getD_set, getD_rep, toNat_succ, cntN_yes, cntN_no])
      refine req_i ?_ ?_
      · -- r13
        first | omega | ((try simp only [Int.toNat_natCast, List.length_cons, List.length_nil, Nat.add_eq, Nat.zero_add]); first | done | omega | assumption | grind [getD_set, getD_rep, toNat_succ, cntN_yes, cntN_no])
      refine bR_dec (fun h10 => ?_) (fun h10 => ?_)
      ·
        refine req_i ?_ ?_
        · -- r14
          first | omega | ((try simp only [sigEqu, equP, List.cons.injEq, DV.b.injEq, and_true, List.length_cons, List.length_nil]); first | done | omega | assumption | grind [getD_set, getD_rep, toNat_succ, cntN_yes, cntN_no])
        rfl
      ·
        refine all_i fun n3 => ?_
        refine imp_i fun h11 => ?_
        simp only [wrap_i64] at h11
        refine imp_i fun h12 => ?_
        refine imp_i fun h13 => ?_
        refine bR_t ?_ ?_
        · -- g0
          first | rfl | (simp only [bR_iff, bR_iff_f, dec_iff, dec_f, beqB_iff', andB_iff', reduceCtorEq, imp_self, false_implies, and_true, true_and, implies_true, and_self]; done) | (simp [bR_iff, dec_iff, beqB_iff', andB_iff']; done) | (simp [bR_iff, dec_iff, beqB_iff', andB_iff']; omega)
        refine req_i ?_ ?_
        · -- r15
          first | omega | assumption | grind
        refine req_i ?_ ?_
        · -- r16
          first | omega | assumption | grind
        refine req_i ?_ ?_
        · -- r17
          first | omega | ((try simp only [equL, equInv, mea0, List.cons.injEq, DV.b.injEq, and_true, List.length_take, List.take_length, List.take_take, Nat.min_self, List.length_drop, List.drop_zero, List.length_cons, List.length_nil]); first | done | omega | assumption | grind [getD_set, getD_rep, toNat_succ, cntN_yes, cntN_no])
        refine req_i ?_ ?_
        · -- r18
          first | omega | ((try simp only [equL, equInv, mea0, List.cons.injEq, DV.b.injEq, and_true, List.length_take, List.take_length, List.take_take, Nat.min_self, List.length_drop, List.drop_zero, List.length_cons, List.length_nil]); first | done | omega | assumption | grind [getD_set, getD_rep, toNat_succ, cntN_yes, cntN_no])
        rfl
    ·
      have e1 := equ_of (a := l0) (c := l1) h8.2.2.1 h9 h8.2.2.2
      refine req_i ?_ ?_
      · -- r19
        first | omega | ((try simp only [sigEqu, equP, List.cons.injEq, DV.b.injEq, and_true, List.length_cons, List.length_nil]); first | done | omega | assumption | grind [getD_set, getD_rep, toNat_succ, cntN_yes, cntN_no])
      rfl
theorem ext_equ : ∀ p ∈ ([] : List (Nat × Ext)), ExtRow Try.prog p.1 p.2 := by
  intro p hp
  cases hp
theorem cts_equ : CtsOk Try.prog [] := fun f c h => by cases h
theorem fn_equ : FnOk Try.prog 18 sigEqu [] := fn_sound (by kernel_rfl) ext_equ cts_equ names vt_equ
end Go.Proofs.Ytemcaojbhfgpgaa

