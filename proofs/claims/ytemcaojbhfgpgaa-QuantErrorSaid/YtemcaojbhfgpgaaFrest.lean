import Derived.Test.YtemcaojbhfgpgaaSpec13e
import Derived.Test.YtemcaojbhfgpgaaRows
import Derived.Test.YtemcaojbhfgpgaaFnames
import Derived.Test.YtemcaojbhfgpgaaFchkG
import Derived.Test.YtemcaojbhfgpgaaFchkS
import Derived.Test.YtemcaojbhfgpgaaFgr
namespace Go.Proofs.Ytemcaojbhfgpgaa
open Go.Ev Go.Sp
set_option maxRecDepth 100000
theorem vc_rest : vcFn Try.prog [(21, Ext.ctr (ctOf sigChkG)), (34, Ext.ctr (ctOf sigChkS)), (35, Ext.ctr (ctOf sigGr))] tabR [] 100 11 sigRest = (allB fun l0 : List Int => 
impB (l0.length ≤ (300 : Nat)) (
impB (∀ (y : Int), y ∈ l0 → (-9223372036854775808 : Int) ≤ y ∧ y ≤ (9223372036854775807 : Int)) (
allB fun l1 : List Int => 
impB (l1.length = l0.length) (
impB (∀ (y : Int), y ∈ l1 → (-9223372036854775808 : Int) ≤ y ∧ y ≤ (9223372036854775807 : Int)) (
allB fun n2 : Int => 
impB ((-9223372036854775808 : Int) ≤ n2) (
impB (n2 ≤ (9223372036854775807 : Int)) (
allB fun n3 : Int => 
impB ((-9223372036854775808 : Int) ≤ n3) (
impB (n3 ≤ (9223372036854775807 : Int)) (
impB (sigRest.pre [DV.l l0, DV.l l1, DV.n n2, DV.n n3]) (
reqB ((-9223372036854775808 : Int) ≤ n2) (
reqB (n2 ≤ (9223372036854775807 : Int)) (
reqB ((-9223372036854775808 : Int) ≤ n3) (
reqB (n3 ≤ (9223372036854775807 : Int)) (
reqB (sigChkG.pre [DV.n n2, DV.n n3]) (
allB fun n4 : Int => 
impB ((0 : Int) ≤ n4) (
impB (n4 ≤ (18 : Int)) (
impB (sigChkG.post [DV.n n2, DV.n n3] [DV.n n4]) (
bR (dec (n4 ≠ (0 : Int))) (
 reqB ((0 : Int) ≤ n4) (
 reqB (n4 ≤ (18 : Int)) (
 reqB (sigRest.post [DV.l l0, DV.l l1, DV.n n2, DV.n n3]
  [DV.l [], DV.l [], DV.n n4]) (
 true)))) (
 reqB ((2 : Int) ≤ n2) (
 reqB (n2 ≤ (8 : Int)) (
 reqB ((0 : Int) ≤ n3) (
 reqB (n3 ≤ (30 : Int)) (
 reqB (sigGr.pre [DV.n n2, DV.n n3]) (
 allB fun n5 : Int => 
 impB ((1 : Int) ≤ n5) (
 impB (n5 ≤ (127 : Int)) (
 impB (sigGr.post [DV.n n2, DV.n n3] [DV.n n5]) (
 reqB (((0 : Nat) + l0.length) * (2 : Nat) ≤ l0.length.mul (2 : Nat)) (
 reqB (l0.length ≤ (9223372036854775807 : Nat)) (
 reqB ((List.take l0.length (List.drop (0 : Nat) l0)).length = l0.length) (
 reqB (∀ (y : Int),
  y ∈ List.take l0.length (List.drop (0 : Nat) l0) → (-9223372036854775808 : Int) ≤ y ∧ y ≤ (9223372036854775807 : Int)) (
 reqB ((List.take l0.length (List.drop (0 : Nat) l1)).length = l0.length) (
 reqB (∀ (y : Int),
  y ∈ List.take l0.length (List.drop (0 : Nat) l1) → (-9223372036854775808 : Int) ≤ y ∧ y ≤ (9223372036854775807 : Int)) (
 reqB ((0 : Int) ≤ n5) (
 reqB (n5 ≤ (70368744177664 : Int)) (
 reqB (sigChkS.pre
  [DV.l (List.take l0.length (List.drop (0 : Nat) l0)), DV.l (List.take l0.length (List.drop (0 : Nat) l1)),
    DV.n n5]) (
 allB fun n6 : Int => 
 impB ((0 : Int) ≤ n6) (
 impB (n6 ≤ (18 : Int)) (
 impB (sigChkS.post
  [DV.l (List.take l0.length (List.drop (0 : Nat) l0)), DV.l (List.take l0.length (List.drop (0 : Nat) l1)),
    DV.n n5]
  [DV.n n6]) (
 bR (dec (n6 ≠ (0 : Int))) (
  reqB ((0 : Int) ≤ n6) (
  reqB (n6 ≤ (18 : Int)) (
  reqB (sigRest.post [DV.l l0, DV.l l1, DV.n n2, DV.n n3]
  [DV.l [], DV.l [], DV.n n6]) (
  true)))) (
  reqB ((↑l0.length : Int).toNat ≤ (↑l0.length : Int).toNat) (
  reqB ((↑l0.length : Int).toNat ≤ (1000000 : Nat)) (
  reqB (((0 : Nat) + l0.length) * (2 : Nat) ≤ l0.length.mul (2 : Nat)) (
  reqB (l0.length ≤ (300 : Nat)) (
  reqB ((List.take l0.length (List.drop (0 : Nat) l0)).length = l0.length) (
  reqB (∀ (y : Int),
  y ∈ List.take l0.length (List.drop (0 : Nat) l0) → (-9223372036854775808 : Int) ≤ y ∧ y ≤ (9223372036854775807 : Int)) (
  reqB ((List.take l0.length (List.drop (0 : Nat) l1)).length = l0.length) (
  reqB (∀ (y : Int),
  y ∈ List.take l0.length (List.drop (0 : Nat) l1) → (-9223372036854775808 : Int) ≤ y ∧ y ≤ (9223372036854775807 : Int)) (
  reqB ((-9223372036854775808 : Int) ≤ n2) (
  reqB (n2 ≤ (9223372036854775807 : Int)) (
  reqB ((-9223372036854775808 : Int) ≤ n3) (
  reqB (n3 ≤ (9223372036854775807 : Int)) (
  reqB (lenCols
    [Col.i Go.IntKind.i64 (Int.negSucc (9223372036854775807 : Nat)) (Int.ofNat (9223372036854775807 : Nat))
        (List.replicate (↑l0.length : Int).toNat (0 : Int)),
      Col.i Go.IntKind.i64 (Int.negSucc (9223372036854775807 : Nat)) (Int.ofNat (9223372036854775807 : Nat))
        (List.replicate (↑l0.length : Int).toNat (0 : Int))] ≤
  (300 : Nat)) (
  reqB ((List.replicate (↑l0.length : Int).toNat (0 : Int)).length =
  lenCols
    [Col.i Go.IntKind.i64 (Int.negSucc (9223372036854775807 : Nat)) (Int.ofNat (9223372036854775807 : Nat))
        (List.replicate (↑l0.length : Int).toNat (0 : Int)),
      Col.i Go.IntKind.i64 (Int.negSucc (9223372036854775807 : Nat)) (Int.ofNat (9223372036854775807 : Nat))
        (List.replicate (↑l0.length : Int).toNat (0 : Int))]) (
  reqB (∀ (y : Int),
  y ∈ List.replicate (↑l0.length : Int).toNat (0 : Int) →
    (-9223372036854775808 : Int) ≤ y ∧ y ≤ (9223372036854775807 : Int)) (
  reqB ((List.replicate (↑l0.length : Int).toNat (0 : Int)).length =
  lenCols
    [Col.i Go.IntKind.i64 (Int.negSucc (9223372036854775807 : Nat)) (Int.ofNat (9223372036854775807 : Nat))
        (List.replicate (↑l0.length : Int).toNat (0 : Int)),
      Col.i Go.IntKind.i64 (Int.negSucc (9223372036854775807 : Nat)) (Int.ofNat (9223372036854775807 : Nat))
        (List.replicate (↑l0.length : Int).toNat (0 : Int))]) (
  reqB (∀ (y : Int),
  y ∈ List.replicate (↑l0.length : Int).toNat (0 : Int) →
    (-9223372036854775808 : Int) ≤ y ∧ y ≤ (9223372036854775807 : Int)) (
  reqB ((mapL (3 : Nat) (4 : Nat) rmapInv).inv
  [DV.l (List.take l0.length (List.drop (0 : Nat) l0)), DV.l (List.take l0.length (List.drop (0 : Nat) l1)),
    DV.n n2, DV.n n3]
  [DV.n (0 : Int), DV.l (List.replicate (↑l0.length : Int).toNat (0 : Int)),
    DV.l (List.replicate (↑l0.length : Int).toNat (0 : Int))]) (
  allB fun n7 : Int => 
  impB ((0 : Int) ≤ n7) (
  impB (n7 ≤ (300 : Int)) (
  allB fun l8 : List Int => 
  impB (l8.length ≤ (300 : Nat)) (
  impB (∀ (y : Int), y ∈ l8 → (-9223372036854775808 : Int) ≤ y ∧ y ≤ (9223372036854775807 : Int)) (
  allB fun l9 : List Int => 
  impB (l9.length = l8.length) (
  impB (∀ (y : Int), y ∈ l9 → (-9223372036854775808 : Int) ≤ y ∧ y ≤ (9223372036854775807 : Int)) (
  impB ((mapL (3 : Nat) (4 : Nat) rmapInv).inv
  [DV.l (List.take l0.length (List.drop (0 : Nat) l0)), DV.l (List.take l0.length (List.drop (0 : Nat) l1)),
    DV.n n2, DV.n n3]
  [DV.n n7, DV.l l8, DV.l l9]) (
  bR (dec (n7 < (↑l0.length : Int))) (
   reqB (n7.toNat < l0.length) (
   reqB (Nat.add (0 : Nat) n7.toNat < l0.length) (
   reqB (Nat.add (0 : Nat) n7.toNat < l1.length) (
   reqB ((0 : Int) ≤ n3) (
   reqB ((0 : Int) ≤ n3) (
   reqB (n7.toNat < (↑l0.length : Int).toNat) (
   reqB (Nat.add (0 : Nat) n7.toNat < l8.length) (
   reqB (Nat.add (0 : Nat) n7.toNat < l9.length) (
   bR (bR (bR (dec ((0 : Nat) = (0 : Nat))) (
    dec ((↑l0.length : Int).toNat = (↑l0.length : Int).toNat)) (
    false)) (
    bR (bR (dec ((0 : Nat) = (0 : Nat))) (
     dec (l0.length = l0.length)) (
     false)) (
     bR (dec ((↑l0.length : Int) = (↑l0.length : Int))) (
      true) (
      false)) (
     false)) (
    false)) (
    bR (bR (bR (dec (n2 = n2)) (
     bR (dec (n3 = n3)) (
      true) (
      false)) (
     false)) (
     bR (bR (dec (n2 = n2)) (
      bR (dec (n3 = n3)) (
       true) (
       false)) (
      false)) (
      true) (
      false)) (
     false)) (
     reqB ((0 : Int) ≤ n7 + (1 : Int)) (
     reqB (n7 + (1 : Int) ≤ (300 : Int)) (
     reqB (lenCols
    [Col.i Go.IntKind.i64 (-9223372036854775808 : Int) (9223372036854775807 : Int)
        (l8.set (Nat.add (0 : Nat) n7.toNat)
          (opI (SO.shl Go.IntKind.i64) (l0.getD (Nat.add (0 : Nat) n7.toNat) (0 : Int)) n3)),
      Col.i Go.IntKind.i64 (-9223372036854775808 : Int) (9223372036854775807 : Int)
        (l9.set (Nat.add (0 : Nat) n7.toNat)
          (opI (SO.shl Go.IntKind.i64) (l1.getD (Nat.add (0 : Nat) n7.toNat) (0 : Int)) n3))] ≤
  (300 : Nat)) (
     reqB ((l8.set (Nat.add (0 : Nat) n7.toNat)
      (opI (SO.shl Go.IntKind.i64) (l0.getD (Nat.add (0 : Nat) n7.toNat) (0 : Int)) n3)).length =
  lenCols
    [Col.i Go.IntKind.i64 (-9223372036854775808 : Int) (9223372036854775807 : Int)
        (l8.set (Nat.add (0 : Nat) n7.toNat)
          (opI (SO.shl Go.IntKind.i64) (l0.getD (Nat.add (0 : Nat) n7.toNat) (0 : Int)) n3)),
      Col.i Go.IntKind.i64 (-9223372036854775808 : Int) (9223372036854775807 : Int)
        (l9.set (Nat.add (0 : Nat) n7.toNat)
          (opI (SO.shl Go.IntKind.i64) (l1.getD (Nat.add (0 : Nat) n7.toNat) (0 : Int)) n3))]) (
     reqB (∀ (y : Int),
  y ∈
      l8.set (Nat.add (0 : Nat) n7.toNat)
        (opI (SO.shl Go.IntKind.i64) (l0.getD (Nat.add (0 : Nat) n7.toNat) (0 : Int)) n3) →
    (-9223372036854775808 : Int) ≤ y ∧ y ≤ (9223372036854775807 : Int)) (
     reqB ((l9.set (Nat.add (0 : Nat) n7.toNat)
      (opI (SO.shl Go.IntKind.i64) (l1.getD (Nat.add (0 : Nat) n7.toNat) (0 : Int)) n3)).length =
  lenCols
    [Col.i Go.IntKind.i64 (-9223372036854775808 : Int) (9223372036854775807 : Int)
        (l8.set (Nat.add (0 : Nat) n7.toNat)
          (opI (SO.shl Go.IntKind.i64) (l0.getD (Nat.add (0 : Nat) n7.toNat) (0 : Int)) n3)),
      Col.i Go.IntKind.i64 (-9223372036854775808 : Int) (9223372036854775807 : Int)
        (l9.set (Nat.add (0 : Nat) n7.toNat)
          (opI (SO.shl Go.IntKind.i64) (l1.getD (Nat.add (0 : Nat) n7.toNat) (0 : Int)) n3))]) (
     reqB (∀ (y : Int),
  y ∈
      l9.set (Nat.add (0 : Nat) n7.toNat)
        (opI (SO.shl Go.IntKind.i64) (l1.getD (Nat.add (0 : Nat) n7.toNat) (0 : Int)) n3) →
    (-9223372036854775808 : Int) ≤ y ∧ y ≤ (9223372036854775807 : Int)) (
     reqB ((mapL (3 : Nat) (4 : Nat) rmapInv).inv
  [DV.l (List.take l0.length (List.drop (0 : Nat) l0)), DV.l (List.take l0.length (List.drop (0 : Nat) l1)),
    DV.n n2, DV.n n3]
  [DV.n (n7 + (1 : Int)),
    DV.l
      (l8.set (Nat.add (0 : Nat) n7.toNat)
        (opI (SO.shl Go.IntKind.i64) (l0.getD (Nat.add (0 : Nat) n7.toNat) (0 : Int)) n3)),
    DV.l
      (l9.set (Nat.add (0 : Nat) n7.toNat)
        (opI (SO.shl Go.IntKind.i64) (l1.getD (Nat.add (0 : Nat) n7.toNat) (0 : Int)) n3))]) (
     reqB ((mapL (3 : Nat) (4 : Nat) rmapInv).mea
    [DV.l (List.take l0.length (List.drop (0 : Nat) l0)),
      DV.l (List.take l0.length (List.drop (0 : Nat) l1)), DV.n n2, DV.n n3]
    [DV.n (n7 + (1 : Int)),
      DV.l
        (l8.set (Nat.add (0 : Nat) n7.toNat)
          (opI (SO.shl Go.IntKind.i64) (l0.getD (Nat.add (0 : Nat) n7.toNat) (0 : Int)) n3)),
      DV.l
        (l9.set (Nat.add (0 : Nat) n7.toNat)
          (opI (SO.shl Go.IntKind.i64) (l1.getD (Nat.add (0 : Nat) n7.toNat) (0 : Int)) n3))] <
  (mapL (3 : Nat) (4 : Nat) rmapInv).mea
    [DV.l (List.take l0.length (List.drop (0 : Nat) l0)),
      DV.l (List.take l0.length (List.drop (0 : Nat) l1)), DV.n n2, DV.n n3]
    [DV.n n7, DV.l l8, DV.l l9]) (
     true)))))))))) (
     false)) (
    false)))))))))) (
   reqB (((0 : Nat) + (↑l0.length : Int).toNat) * (2 : Nat) ≤ l8.length.mul (2 : Nat)) (
   reqB ((↑l0.length : Int).toNat ≤ (300 : Nat)) (
   reqB ((List.take (↑l0.length : Int).toNat (List.drop (0 : Nat) l8)).length = (↑l0.length : Int).toNat) (
   reqB (∀ (y : Int),
  y ∈ List.take (↑l0.length : Int).toNat (List.drop (0 : Nat) l8) →
    (-9223372036854775808 : Int) ≤ y ∧ y ≤ (9223372036854775807 : Int)) (
   reqB ((List.take (↑l0.length : Int).toNat (List.drop (0 : Nat) l9)).length = (↑l0.length : Int).toNat) (
   reqB (∀ (y : Int),
  y ∈ List.take (↑l0.length : Int).toNat (List.drop (0 : Nat) l9) →
    (-9223372036854775808 : Int) ≤ y ∧ y ≤ (9223372036854775807 : Int)) (
   reqB (sigRest.post [DV.l l0, DV.l l1, DV.n n2, DV.n n3]
  [DV.l (List.take (↑l0.length : Int).toNat (List.drop (0 : Nat) l8)),
    DV.l (List.take (↑l0.length : Int).toNat (List.drop (0 : Nat) l9)), DV.n (0 : Int)]) (
   true))))))))))))))))))))))))))))))))))))))))))))))))))))))))))))))))))))))))) := by kernel_rfl
set_option maxHeartbeats 8000000 in
theorem vt_rest : vcFn Try.prog [(21, Ext.ctr (ctOf sigChkG)), (34, Ext.ctr (ctOf sigChkS)), (35, Ext.ctr (ctOf sigGr))] tabR [] 100 11 sigRest = true := by
  rw [vc_rest]
  try simp only [Int.toNat_natCast, List.length_set, List.length_replicate, List.length_take, List.length_drop, List.length_append, List.length_cons, List.length_nil, Nat.min_self, List.take_take, lenCols_i, lenCols_b, List.drop_zero, List.take_length, Nat.add_eq, Nat.mul_eq, Nat.sub_eq, Nat.zero_add, Nat.sub_zero, Nat.mul_one]
  refine all_i fun l0 => ?_
  refine imp_i fun h0 => ?_
  refine imp_i fun h1 => ?_
  refine all_i fun l1 => ?_
  refine imp_i fun h2 => ?_
  have tkl1 := take_eq h2
  try simp only [tkl1]
  refine imp_i fun h3 => ?_
  refine all_i fun n2 => ?_
  refine imp_i fun h4 => ?_
  refine imp_i fun h5 => ?_
  refine all_i fun n3 => ?_
  refine imp_i fun h6 => ?_
  refine imp_i fun h7 => ?_
  refine imp_i fun h8 => ?_
  try simp only [sigRest, restPost, List.cons.injEq, DV.b.injEq, and_true, List.length_cons, List.length_nil] at h8
  refine req_i ?_ ?_
  · -- r0
    first | omega | assumption | grind
  refine req_i ?_ ?_
  · -- r1
    first | omega | assumption | grind
  refine req_i ?_ ?_
  · -- r2
    first | omega | assumption | grind
  refine req_i ?_ ?_
  · -- r3
    first | omega | assumption | grind
  refine req_i ?_ ?_
  · -- r4
    first | trivial | assumption | (simp only [sigChkG, chkGPost, List.cons.injEq, DV.b.injEq, and_true, List.length_cons, List.length_nil]; done) | ((try simp only [sigChkG, chkGPost, List.cons.injEq, DV.b.injEq, and_true, List.length_cons, List.length_nil]); first | omega | assumption | grind)
  refine all_i fun n4 => ?_
  refine imp_i fun h9 => ?_
  refine imp_i fun h10 => ?_
  refine imp_i fun h11 => ?_
  try simp only [sigChkG, chkGPost, List.cons.injEq, DV.b.injEq, and_true, List.length_cons, List.length_nil] at h11
  refine bR_dec (fun h12 => ?_) (fun h12 => ?_)
  ·
    have er : errR n2 n3 l0 l1 = n4 := by rw [errR, if_neg (by omega)]; exact h11.symm
    refine req_i ?_ ?_
    · -- r5
      first | omega | assumption | grind
    refine req_i ?_ ?_
    · -- r6
      first | omega | assumption | grind
    refine req_i ?_ ?_
    · -- r7
      first | omega | ((try simp only [sigRest, restPost, List.cons.injEq, DV.b.injEq, and_true, List.length_cons, List.length_nil]); first | done | omega | assumption | grind [getD_set, getD_rep, toNat_succ, cntN_yes, cntN_no])
    rfl
  ·
    have G := errG_ok (b := n2) (n := n3) (by omega)
    refine req_i ?_ ?_
    · -- r8
      first | omega | assumption | grind
    refine req_i ?_ ?_
    · -- r9
      first | omega | assumption | grind
    refine req_i ?_ ?_
    · -- r10
      first | omega | assumption | grind
    refine req_i ?_ ?_
    · -- r11
      first | omega | assumption | grind
    refine req_i ?_ ?_
    · -- r12
      first | trivial | assumption | (simp only [sigGr, grPost, List.cons.injEq, DV.b.injEq, and_true, List.length_cons, List.length_nil]; done) | ((try simp only [sigGr, grPost, List.cons.injEq, DV.b.injEq, and_true, List.length_cons, List.length_nil]); first | omega | assumption | grind)
    refine all_i fun n5 => ?_
    refine imp_i fun h13 => ?_
    refine imp_i fun h14 => ?_
    refine imp_i fun h15 => ?_
    try simp only [sigGr, grPost, List.cons.injEq, DV.b.injEq, and_true, List.length_cons, List.length_nil] at h15
    have ql := qq_bd (b := n2) (by omega) (by omega)
    refine req_i ?_ ?_
    · -- r13
      first | omega | ((try simp only [Nat.mul_eq]); first | done | omega | assumption | grind [getD_set, getD_rep, toNat_succ, cntN_yes, cntN_no])
    refine req_i ?_ ?_
    · -- r14
      first | omega | ((try simp only [Nat.zero_add]); first | done | omega | assumption | grind [getD_set, getD_rep, toNat_succ, cntN_yes, cntN_no])
    refine req_i ?_ ?_
    · -- r15
      first | omega | ((try simp only [List.length_take, List.take_length, List.take_take, Nat.min_self, List.length_drop, List.drop_zero, List.length_cons, List.length_nil]); first | done | omega | assumption | grind [getD_set, getD_rep, toNat_succ, cntN_yes, cntN_no])
    refine req_i ?_ ?_
    · -- r16
      first | assumption | exact rep_bd (by omega) (by omega) | exact set_bd (by assumption) (by omega) (by omega) | exact take_bd (by assumption) | ((try simp only [List.length_take, List.take_length, List.take_take, Nat.min_self, List.length_drop, List.drop_zero, List.length_cons, List.length_nil]); first | assumption | exact rep_bd (by omega) (by omega) | exact set_bd (by assumption) (by omega) (by omega) | exact take_bd (by assumption) | grind [getD_set, getD_rep, toNat_succ, cntN_yes, cntN_no])
    refine req_i ?_ ?_
    · -- r17
      first | omega | ((try simp only [List.length_take, List.take_length, List.take_take, Nat.min_self, List.length_drop, List.drop_zero, List.length_cons, List.length_nil]); first | done | omega | assumption | grind [getD_set, getD_rep, toNat_succ, cntN_yes, cntN_no])
    refine req_i ?_ ?_
    · -- r18
      first | assumption | exact rep_bd (by omega) (by omega) | exact set_bd (by assumption) (by omega) (by omega) | exact take_bd (by assumption) | ((try simp only [List.length_take, List.take_length, List.take_take, Nat.min_self, List.length_drop, List.drop_zero, List.length_cons, List.length_nil]); first | assumption | exact rep_bd (by omega) (by omega) | exact set_bd (by assumption) (by omega) (by omega) | exact take_bd (by assumption) | grind [getD_set, getD_rep, toNat_succ, cntN_yes, cntN_no])
    refine req_i ?_ ?_
    · -- r19
      first | omega | assumption | grind
    refine req_i ?_ ?_
    · -- r20
      first | omega | assumption | grind
    refine req_i ?_ ?_
    · -- r21
      first | omega | ((try simp only [sigChkS, chkSPost, List.cons.injEq, DV.b.injEq, and_true, List.length_take, List.take_length, List.take_take, Nat.min_self, List.length_drop, List.drop_zero, List.length_cons, List.length_nil]); first | done | omega | assumption | grind [getD_set, getD_rep, toNat_succ, cntN_yes, cntN_no])
    refine all_i fun n6 => ?_
    refine imp_i fun h16 => ?_
    refine imp_i fun h17 => ?_
    refine imp_i fun h18 => ?_
    try simp only [sigChkS, chkSPost, List.cons.injEq, DV.b.injEq, and_true, List.length_take, List.take_length, List.take_take, Nat.min_self, List.length_drop, List.drop_zero, List.length_cons, List.length_nil] at h18
    have er : errR n2 n3 l0 l1 = n6 := by rw [errR, if_pos (by omega), ← h15]; exact h18.symm
    refine bR_dec (fun h19 => ?_) (fun h19 => ?_)
    ·
      refine req_i ?_ ?_
      · -- r22
        first | omega | assumption | grind
      refine req_i ?_ ?_
      · -- r23
        first | omega | assumption | grind
      refine req_i ?_ ?_
      · -- r24
        first | omega | ((try simp only [sigRest, restPost, List.cons.injEq, DV.b.injEq, and_true, List.length_cons, List.length_nil]); first | done | omega | assumption | grind [getD_set, getD_rep, toNat_succ, cntN_yes, cntN_no])
      rfl
    ·
      have L := errL_ok (m := n5) (a := l0) (b := l1) (by omega)
      refine req_i ?_ ?_
      · -- r25
        first | omega | ((try simp only [Int.toNat_natCast, List.length_cons, List.length_nil]); first | done | omega | assumption | grind [getD_set, getD_rep, toNat_succ, cntN_yes, cntN_no])
      refine req_i ?_ ?_
      · -- r26
        first | omega | ((try simp only [Int.toNat_natCast, List.length_cons, List.length_nil]); first | done | omega | assumption | grind [getD_set, getD_rep, toNat_succ, cntN_yes, cntN_no])
      refine req_i ?_ ?_
      · -- r27
        first | omega | ((try simp only [Nat.mul_eq]); first | done | omega | assumption | grind [getD_set, getD_rep, toNat_succ, cntN_yes, cntN_no])
      refine req_i ?_ ?_
      · -- r28
        first | omega | ((try simp only [Nat.zero_add]); first | done | omega | assumption | grind [getD_set, getD_rep, toNat_succ, cntN_yes, cntN_no])
      refine req_i ?_ ?_
      · -- r29
        first | omega | ((try simp only [List.length_take, List.take_length, List.take_take, Nat.min_self, List.length_drop, List.drop_zero, List.length_cons, List.length_nil]); first | done | omega | assumption | grind [getD_set, getD_rep, toNat_succ, cntN_yes, cntN_no])
      refine req_i ?_ ?_
      · -- r30
        first | assumption | exact rep_bd (by omega) (by omega) | exact set_bd (by assumption) (by omega) (by omega) | exact take_bd (by assumption) | ((try simp only [List.length_take, List.take_length, List.take_take, Nat.min_self, List.length_drop, List.drop_zero, List.length_cons, List.length_nil]); first | assumption | exact rep_bd (by omega) (by omega) | exact set_bd (by assumption) (by omega) (by omega) | exact take_bd (by assumption) | grind [getD_set, getD_rep, toNat_succ, cntN_yes, cntN_no])
      refine req_i ?_ ?_
      · -- r31
        first | omega | ((try simp only [List.length_take, List.take_length, List.take_take, Nat.min_self, List.length_drop, List.drop_zero, List.length_cons, List.length_nil]); first | done | omega | assumption | grind [getD_set, getD_rep, toNat_succ, cntN_yes, cntN_no])
      refine req_i ?_ ?_
      · -- r32
        first | assumption | exact rep_bd (by omega) (by omega) | exact set_bd (by assumption) (by omega) (by omega) | exact take_bd (by assumption) | ((try simp only [List.length_take, List.take_length, List.take_take, Nat.min_self, List.length_drop, List.drop_zero, List.length_cons, List.length_nil]); first | assumption | exact rep_bd (by omega) (by omega) | exact set_bd (by assumption) (by omega) (by omega) | exact take_bd (by assumption) | grind [getD_set, getD_rep, toNat_succ, cntN_yes, cntN_no])
      refine req_i ?_ ?_
      · -- r33
        first | omega | assumption | grind
      refine req_i ?_ ?_
      · -- r34
        first | omega | assumption | grind
      refine req_i ?_ ?_
      · -- r35
        first | omega | assumption | grind
      refine req_i ?_ ?_
      · -- r36
        first | omega | assumption | grind
      refine req_i ?_ ?_
      · -- r37
        first | omega | ((try simp only [Int.toNat_natCast, List.length_replicate, List.length_cons, List.length_nil, lenCols_i, lenCols_b]); first | done | omega | assumption | grind [getD_set, getD_rep, toNat_succ, cntN_yes, cntN_no])
      refine req_i ?_ ?_
      · -- r38
        first | omega | ((try simp only [Int.toNat_natCast, List.length_replicate, List.length_cons, List.length_nil, lenCols_i, lenCols_b]); first | done | omega | assumption | grind [getD_set, getD_rep, toNat_succ, cntN_yes, cntN_no])
      refine req_i ?_ ?_
      · -- r39
        first | assumption | exact rep_bd (by omega) (by omega) | exact set_bd (by assumption) (by omega) (by omega) | exact take_bd (by assumption) | ((try simp only [Int.toNat_natCast, List.length_replicate, List.length_cons, List.length_nil]); first | assumption | exact rep_bd (by omega) (by omega) | exact set_bd (by assumption) (by omega) (by omega) | exact take_bd (by assumption) | grind [getD_set, getD_rep, toNat_succ, cntN_yes, cntN_no])
      refine req_i ?_ ?_
      · -- r40
        first | omega | ((try simp only [Int.toNat_natCast, List.length_replicate, List.length_cons, List.length_nil, lenCols_i, lenCols_b]); first | done | omega | assumption | grind [getD_set, getD_rep, toNat_succ, cntN_yes, cntN_no])
      refine req_i ?_ ?_
      · -- r41
        first | assumption | exact rep_bd (by omega) (by omega) | exact set_bd (by assumption) (by omega) (by omega) | exact take_bd (by assumption) | ((try simp only [Int.toNat_natCast, List.length_replicate, List.length_cons, List.length_nil]); first | assumption | exact rep_bd (by omega) (by omega) | exact set_bd (by assumption) (by omega) (by omega) | exact take_bd (by assumption) | grind [getD_set, getD_rep, toNat_succ, cntN_yes, cntN_no])
      refine req_i ?_ ?_
      · -- r42
        first | omega | ((try simp only [mapL, rmapInv, mea0, List.cons.injEq, DV.b.injEq, and_true, Int.toNat_natCast, List.length_replicate, List.length_take, List.take_length, List.take_take, Nat.min_self, List.length_drop, List.drop_zero, List.length_cons, List.length_nil]); first | done | omega | assumption | grind [getD_set, getD_rep, toNat_succ, cntN_yes, cntN_no])
      refine all_i fun n7 => ?_
      refine imp_i fun h20 => ?_
      refine imp_i fun h21 => ?_
      refine all_i fun l8 => ?_
      refine imp_i fun h22 => ?_
      refine imp_i fun h23 => ?_
      refine all_i fun l9 => ?_
      refine imp_i fun h24 => ?_
      have tkl9 := take_eq h24
      try simp only [tkl9]
      refine imp_i fun h25 => ?_
      refine imp_i fun h26 => ?_
      try simp only [mapL, rmapInv, mea0, List.cons.injEq, DV.b.injEq, and_true, List.length_take, List.take_length, List.take_take, Nat.min_self, List.length_drop, List.drop_zero, List.length_cons, List.length_nil] at h26
      refine bR_dec (fun h27 => ?_) (fun h27 => ?_)
      ·
        have ib := inS_bd L.2 (i := n7) (by omega)
        have k1 := rest_bd (x := l0.getD n7.toNat 0) (n := n3) (by omega) (by omega) (by omega) (by omega)
        have k2 := rest_bd (x := l1.getD n7.toNat 0) (n := n3) (by omega) (by omega) (by omega) (by omega)
        simp only [k1.1, k2.1]
        refine req_i ?_ ?_
        · -- r43
          first | omega | ((try simp only [Int.toNat_natCast, List.length_cons, List.length_nil]); first | done | omega | assumption | grind [getD_set, getD_rep, toNat_succ, cntN_yes, cntN_no])
        refine req_i ?_ ?_
        · -- r44
          first | omega | ((try simp only [Int.toNat_natCast, List.length_cons, List.length_nil, Nat.add_eq, Nat.zero_add]); first | done | omega | assumption | grind [getD_set, getD_rep, toNat_succ, cntN_yes, cntN_no])
        refine req_i ?_ ?_
        · -- r45
          first | omega | ((try simp only [Int.toNat_natCast, List.length_cons, List.length_nil, Nat.add_eq, Nat.zero_add]); first | done | omega | assumption | grind [getD_set, getD_rep, toNat_succ, cntN_yes, cntN_no])
        refine req_i ?_ ?_
        · -- r46
          first | omega | assumption | grind
        refine req_i ?_ ?_
        · -- r47
          first | omega | assumption | grind
        refine req_i ?_ ?_
        · -- r48
          first | omega | ((try simp only [Int.toNat_natCast, List.length_cons, List.length_nil]); first | done | omega | assumption | grind [getD_set, getD_rep, toNat_succ, cntN_yes, cntN_no])
        refine req_i ?_ ?_
        · -- r49
          first | omega | ((try simp only [Int.toNat_natCast, List.length_cons, List.length_nil, Nat.add_eq, Nat.zero_add]); first | done | omega | assumption | grind [getD_set, getD_rep, toNat_succ, cntN_yes, cntN_no])
        refine req_i ?_ ?_
        · -- r50
          first | omega | ((try simp only [Int.toNat_natCast, List.length_cons, List.length_nil, Nat.add_eq, Nat.zero_add]); first | done | omega | assumption | grind [getD_set, getD_rep, toNat_succ, cntN_yes, cntN_no])
        refine bR_t ?_ ?_
        · -- g0
          first | rfl | (simp only [bR_iff, bR_iff_f, dec_iff, dec_f, beqB_iff', andB_iff', reduceCtorEq, imp_self, false_implies, and_true, true_and, implies_true, and_self]; done) | (simp [bR_iff, dec_iff, beqB_iff', andB_iff']; done) | (simp [bR_iff, dec_iff, beqB_iff', andB_iff']; omega)
        refine bR_t ?_ ?_
        · -- g1
          first | rfl | (simp only [bR_iff, bR_iff_f, dec_iff, dec_f, beqB_iff', andB_iff', reduceCtorEq, imp_self, false_implies, and_true, true_and, implies_true, and_self]; done) | (simp [bR_iff, dec_iff, beqB_iff', andB_iff']; done) | (simp [bR_iff, dec_iff, beqB_iff', andB_iff']; omega)
        refine req_i ?_ ?_
        · -- r51
          first | omega | assumption | grind
        refine req_i ?_ ?_
        · -- r52
          first | omega | assumption | grind
        refine req_i ?_ ?_
        · -- r53
          first | omega | ((try simp only [Int.toNat_natCast, List.length_set, List.length_cons, List.length_nil, lenCols_i, lenCols_b, Nat.add_eq, Nat.zero_add]); first | done | omega | assumption | grind [getD_set, getD_rep, toNat_succ, cntN_yes, cntN_no])
        refine req_i ?_ ?_
        · -- r54
          first | omega | ((try simp only [Int.toNat_natCast, List.length_set, List.length_cons, List.length_nil, lenCols_i, lenCols_b, Nat.add_eq, Nat.zero_add]); first | done | omega | assumption | grind [getD_set, getD_rep, toNat_succ, cntN_yes, cntN_no])
        refine req_i ?_ ?_
        · -- r55
          first | assumption | exact rep_bd (by omega) (by omega) | exact set_bd (by assumption) (by omega) (by omega) | exact take_bd (by assumption) | ((try simp only [Int.toNat_natCast, List.length_set, List.length_cons, List.length_nil, Nat.add_eq, Nat.zero_add]); first | assumption | exact rep_bd (by omega) (by omega) | exact set_bd (by assumption) (by omega) (by omega) | exact take_bd (by assumption) | grind [getD_set, getD_rep, toNat_succ, cntN_yes, cntN_no])
        refine req_i ?_ ?_
        · -- r56
          first | omega | ((try simp only [Int.toNat_natCast, List.length_set, List.length_cons, List.length_nil, lenCols_i, lenCols_b, Nat.add_eq, Nat.zero_add]); first | done | omega | assumption | grind [getD_set, getD_rep, toNat_succ, cntN_yes, cntN_no])
        refine req_i ?_ ?_
        · -- r57
          first | assumption | exact rep_bd (by omega) (by omega) | exact set_bd (by assumption) (by omega) (by omega) | exact take_bd (by assumption) | ((try simp only [Int.toNat_natCast, List.length_set, List.length_cons, List.length_nil, Nat.add_eq, Nat.zero_add]); first | assumption | exact rep_bd (by omega) (by omega) | exact set_bd (by assumption) (by omega) (by omega) | exact take_bd (by assumption) | grind [getD_set, getD_rep, toNat_succ, cntN_yes, cntN_no])
        refine req_i ?_ ?_
        · -- r58
          first | omega | ((try simp only [mapL, rmapInv, mea0, List.cons.injEq, DV.b.injEq, and_true, Int.toNat_natCast, List.length_set, List.length_take, List.take_length, List.take_take, Nat.min_self, List.length_drop, List.drop_zero, List.length_cons, List.length_nil, Nat.add_eq, Nat.zero_add]); first | done | omega | assumption | grind [getD_set, getD_rep, toNat_succ, cntN_yes, cntN_no])
        refine req_i ?_ ?_
        · -- r59
          first | omega | ((try simp only [mapL, rmapInv, mea0, List.cons.injEq, DV.b.injEq, and_true, Int.toNat_natCast, List.length_set, List.length_take, List.take_length, List.take_take, Nat.min_self, List.length_drop, List.drop_zero, List.length_cons, List.length_nil, Nat.add_eq, Nat.zero_add]); first | done | omega | assumption | grind [getD_set, getD_rep, toNat_succ, cntN_yes, cntN_no])
        rfl
      ·
        refine req_i ?_ ?_
        · -- r60
          first | omega | ((try simp only [Int.toNat_natCast, List.length_cons, List.length_nil, Nat.mul_eq]); first | done | omega | assumption | grind [getD_set, getD_rep, toNat_succ, cntN_yes, cntN_no])
        refine req_i ?_ ?_
        · -- r61
          first | omega | ((try simp only [Int.toNat_natCast, List.length_cons, List.length_nil]); first | done | omega | assumption | grind [getD_set, getD_rep, toNat_succ, cntN_yes, cntN_no])
        refine req_i ?_ ?_
        · -- r62
          first | omega | ((try simp only [Int.toNat_natCast, List.length_take, List.take_length, List.take_take, Nat.min_self, List.length_drop, List.drop_zero, List.length_cons, List.length_nil]); first | done | omega | assumption | grind [getD_set, getD_rep, toNat_succ, cntN_yes, cntN_no])
        refine req_i ?_ ?_
        · -- r63
          first | assumption | exact rep_bd (by omega) (by omega) | exact set_bd (by assumption) (by omega) (by omega) | exact take_bd (by assumption) | ((try simp only [Int.toNat_natCast, List.length_take, List.take_length, List.take_take, Nat.min_self, List.length_drop, List.drop_zero, List.length_cons, List.length_nil]); first | assumption | exact rep_bd (by omega) (by omega) | exact set_bd (by assumption) (by omega) (by omega) | exact take_bd (by assumption) | grind [getD_set, getD_rep, toNat_succ, cntN_yes, cntN_no])
        refine req_i ?_ ?_
        · -- r64
          first | omega | ((try simp only [Int.toNat_natCast, List.length_take, List.take_length, List.take_take, Nat.min_self, List.length_drop, List.drop_zero, List.length_cons, List.length_nil]); first | done | omega | assumption | grind [getD_set, getD_rep, toNat_succ, cntN_yes, cntN_no])
        refine req_i ?_ ?_
        · -- r65
          first | assumption | exact rep_bd (by omega) (by omega) | exact set_bd (by assumption) (by omega) (by omega) | exact take_bd (by assumption) | ((try simp only [Int.toNat_natCast, List.length_take, List.take_length, List.take_take, Nat.min_self, List.length_drop, List.drop_zero, List.length_cons, List.length_nil]); first | assumption | exact rep_bd (by omega) (by omega) | exact set_bd (by assumption) (by omega) (by omega) | exact take_bd (by assumption) | grind [getD_set, getD_rep, toNat_succ, cntN_yes, cntN_no])
        refine req_i ?_ ?_
        · -- r66
          first | omega | ((try simp only [sigRest, restPost, List.cons.injEq, DV.b.injEq, and_true, Int.toNat_natCast, List.length_take, List.take_length, List.take_take, Nat.min_self, List.length_drop, List.drop_zero, List.length_cons, List.length_nil]); first | done | omega | assumption | grind [getD_set, getD_rep, toNat_succ, cntN_yes, cntN_no])
        rfl
theorem ext_rest : ∀ p ∈ ([(21, Ext.ctr (ctOf sigChkG)), (34, Ext.ctr (ctOf sigChkS)), (35, Ext.ctr (ctOf sigGr))] : List (Nat × Ext)), ExtRow Try.prog p.1 p.2 := by
  intro p hp
  simp only [List.mem_cons, List.not_mem_nil, or_false] at hp
  rcases hp with rfl | rfl | rfl <;> trivial
theorem cts_rest : CtsOk Try.prog [(21, Ext.ctr (ctOf sigChkG)), (34, Ext.ctr (ctOf sigChkS)), (35, Ext.ctr (ctOf sigGr))] := ctsOk_of (cs := [(21, sigChkG), (34, sigChkS), (35, sigGr)])
  (fun p hp => by
    simp only [List.mem_cons, List.not_mem_nil, or_false] at hp
    rcases hp with rfl | rfl | rfl
    · exact fn_chkG
    · exact fn_chkS
    · exact fn_gr
)
  (fun f c h => by
    simp only [List.lookup_cons] at h
    repeat' split at h
    all_goals first | (cases h; done) | (rename_i e; have e := beq_iff_eq.1 e; subst e; cases h; exact ⟨_, by simp, rfl⟩))
theorem fn_rest : FnOk Try.prog 11 sigRest [] := fn_sound (by kernel_rfl) ext_rest cts_rest names vt_rest
end Go.Proofs.Ytemcaojbhfgpgaa
