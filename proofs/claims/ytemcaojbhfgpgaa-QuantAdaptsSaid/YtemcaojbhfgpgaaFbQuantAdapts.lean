import Derived.Test.YtemcaojbhfgpgaaSpec13e
import Derived.Test.YtemcaojbhfgpgaaRows
import Derived.Test.YtemcaojbhfgpgaaFaQuantAdapts
namespace Go.Proofs.Ytemcaojbhfgpgaa
open Go.Ev Go.Sp
set_option maxRecDepth 100000
theorem vc_QuantAdapts : vcFn Try.prog [(3, Ext.ctr (ctOf sigTrue0)), (29, Ext.ctr (ctOf (sigPickN 4398046511104))), (30, Ext.ctr (ctOf sigSms)), (15, Ext.ctr (ctOf sigAdapt)), (16, Ext.ctr (ctOf sigCount))] tab [] 100 9 sigQA = (allB fun l0 : List Int => 
impB (l0.length ≤ (9223372036854775807 : Nat)) (
impB (∀ (y : Int), y ∈ l0 → (-9223372036854775808 : Int) ≤ y ∧ y ≤ (9223372036854775807 : Int)) (
allB fun n1 : Int => 
impB ((-9223372036854775808 : Int) ≤ n1) (
impB (n1 ≤ (9223372036854775807 : Int)) (
allB fun n2 : Int => 
impB ((-9223372036854775808 : Int) ≤ n2) (
impB (n2 ≤ (9223372036854775807 : Int)) (
impB (sigQA.pre [DV.l l0, DV.n n1, DV.n n2]) (
reqB (sigTrue0.pre []) (
allB fun b3 : Bool => 
impB (sigTrue0.post [] [DV.b b3]) (
bR (dec ((40 : Int) < (↑l0.length : Int))) (
 reqB (sigQA.post [DV.l l0, DV.n n1, DV.n n2] [DV.b b3]) (
 true)) (
 reqB (((0 : Nat) + l0.length) * (1 : Nat) ≤ l0.length.mul (1 : Nat)) (
 reqB (l0.length ≤ (40 : Nat)) (
 reqB ((List.take l0.length (List.drop (0 : Nat) l0)).length = l0.length) (
 reqB (∀ (y : Int),
  y ∈ List.take l0.length (List.drop (0 : Nat) l0) → (-9223372036854775808 : Int) ≤ y ∧ y ≤ (9223372036854775807 : Int)) (
 reqB (sigSms.pre [DV.l (List.take l0.length (List.drop (0 : Nat) l0))]) (
 allB fun l4 : List Int => 
 impB (l4.length ≤ (40 : Nat)) (
 impB (∀ (y : Int), y ∈ l4 → (-9223372036854775808 : Int) ≤ y ∧ y ≤ (9223372036854775807 : Int)) (
 allB fun l5 : List Int => 
 impB (l5.length = l4.length) (
 impB (∀ (y : Int), y ∈ l5 → (-9223372036854775808 : Int) ≤ y ∧ y ≤ (9223372036854775807 : Int)) (
 impB (sigSms.post [DV.l (List.take l0.length (List.drop (0 : Nat) l0))] [DV.l l4, DV.l l5]) (
 reqB ((-9223372036854775808 : Int) ≤ n1) (
 reqB (n1 ≤ (9223372036854775807 : Int)) (
 reqB ((sigPickN (4398046511104 : Int)).pre [DV.n n1, DV.n (7 : Int)]) (
 allB fun n6 : Int => 
 impB ((0 : Int) ≤ n6) (
 impB (n6 ≤ (4398046511104 : Int)) (
 impB ((sigPickN (4398046511104 : Int)).post [DV.n n1, DV.n (7 : Int)] [DV.n n6]) (
 reqB ((-9223372036854775808 : Int) ≤ n2) (
 reqB (n2 ≤ (9223372036854775807 : Int)) (
 reqB ((sigPickN (4398046511104 : Int)).pre [DV.n n2, DV.n (31 : Int)]) (
 allB fun n7 : Int => 
 impB ((0 : Int) ≤ n7) (
 impB (n7 ≤ (4398046511104 : Int)) (
 impB ((sigPickN (4398046511104 : Int)).post [DV.n n2, DV.n (31 : Int)] [DV.n n7]) (
 reqB (((0 : Nat) + l4.length) * (2 : Nat) ≤ l4.length.mul (2 : Nat)) (
 reqB (l4.length ≤ (40 : Nat)) (
 reqB ((List.take l4.length (List.drop (0 : Nat) l4)).length = l4.length) (
 reqB (∀ (y : Int),
  y ∈ List.take l4.length (List.drop (0 : Nat) l4) → (-9223372036854775808 : Int) ≤ y ∧ y ≤ (9223372036854775807 : Int)) (
 reqB ((List.take l4.length (List.drop (0 : Nat) l5)).length = l4.length) (
 reqB (∀ (y : Int),
  y ∈ List.take l4.length (List.drop (0 : Nat) l5) → (-9223372036854775808 : Int) ≤ y ∧ y ≤ (9223372036854775807 : Int)) (
 reqB ((2 : Int) ≤ (2 : Int) + n6) (
 reqB ((2 : Int) + n6 ≤ (8 : Int)) (
 reqB ((2 : Int) ≤ (2 : Int) + n6) (
 reqB ((2 : Int) + n6 ≤ (8 : Int)) (
 reqB ((0 : Int) ≤ n7) (
 reqB (n7 ≤ (30 : Int)) (
 reqB (adL.inv
  [DV.l (List.take l4.length (List.drop (0 : Nat) l4)), DV.l (List.take l4.length (List.drop (0 : Nat) l5)),
    DV.n ((2 : Int) + n6)]
  [DV.n (0 : Int), DV.n ((2 : Int) + n6), DV.n n7]) (
 allB fun n8 : Int => 
 impB ((0 : Int) ≤ n8) (
 impB (n8 ≤ (31 : Int)) (
 allB fun n9 : Int => 
 impB ((2 : Int) ≤ n9) (
 impB (n9 ≤ (8 : Int)) (
 allB fun n10 : Int => 
 impB ((0 : Int) ≤ n10) (
 impB (n10 ≤ (30 : Int)) (
 impB (adL.inv
  [DV.l (List.take l4.length (List.drop (0 : Nat) l4)), DV.l (List.take l4.length (List.drop (0 : Nat) l5)),
    DV.n ((2 : Int) + n6)]
  [DV.n n8, DV.n n9, DV.n n10]) (
 bR (dec (n8 < (31 : Int))) (
  reqB (((0 : Nat) + l4.length) * (2 : Nat) ≤ l4.length.mul (2 : Nat)) (
  reqB (l4.length ≤ (300 : Nat)) (
  reqB ((List.take l4.length (List.drop (0 : Nat) l4)).length = l4.length) (
  reqB (∀ (y : Int),
  y ∈ List.take l4.length (List.drop (0 : Nat) l4) → (-9223372036854775808 : Int) ≤ y ∧ y ≤ (9223372036854775807 : Int)) (
  reqB ((List.take l4.length (List.drop (0 : Nat) l5)).length = l4.length) (
  reqB (∀ (y : Int),
  y ∈ List.take l4.length (List.drop (0 : Nat) l5) → (-9223372036854775808 : Int) ≤ y ∧ y ≤ (9223372036854775807 : Int)) (
  reqB ((-9223372036854775808 : Int) ≤ n9) (
  reqB (n9 ≤ (9223372036854775807 : Int)) (
  reqB ((-9223372036854775808 : Int) ≤ n10) (
  reqB (n10 ≤ (9223372036854775807 : Int)) (
  reqB (sigAdapt.pre
  [DV.l (List.take l4.length (List.drop (0 : Nat) l4)), DV.l (List.take l4.length (List.drop (0 : Nat) l5)),
    DV.n n9, DV.n n10]) (
  allB fun n11 : Int => 
  impB ((0 : Int) ≤ n11) (
  impB (n11 ≤ (8 : Int)) (
  allB fun n12 : Int => 
  impB ((0 : Int) ≤ n12) (
  impB (n12 ≤ (30 : Int)) (
  allB fun n13 : Int => 
  impB ((0 : Int) ≤ n13) (
  impB (n13 ≤ (18 : Int)) (
  impB (sigAdapt.post
  [DV.l (List.take l4.length (List.drop (0 : Nat) l4)), DV.l (List.take l4.length (List.drop (0 : Nat) l5)),
    DV.n n9, DV.n n10]
  [DV.n n11, DV.n n12, DV.n n13]) (
  bR (dec (n13 ≠ (0 : Int))) (
   reqB (sigQA.post [DV.l l0, DV.n n1, DV.n n2] [DV.b Bool.false]) (
   true)) (
   bR (dec (n11 ≠ n9)) (
    reqB (sigQA.post [DV.l l0, DV.n n1, DV.n n2] [DV.b Bool.false]) (
    true)) (
    bR (dec (n12 - n10 < (-1 : Int))) (
     reqB (sigQA.post [DV.l l0, DV.n n1, DV.n n2] [DV.b Bool.false]) (
     true)) (
     bR (dec ((1 : Int) < n12 - n10)) (
      reqB (sigQA.post [DV.l l0, DV.n n1, DV.n n2] [DV.b Bool.false]) (
      true)) (
      bR (bR (bR (b3) (
       b3) (
       bR (b3) (
        false) (
        true))) (
       bR (bR (dec ((0 : Nat) = (0 : Nat))) (
        dec (l4.length = l4.length)) (
        false)) (
        true) (
        false)) (
       false)) (
       bR (bR (bR (dec (l4.length.mul (2 : Nat) = l4.length.mul (2 : Nat))) (
        dec ([Col.i Go.IntKind.i64 (-9223372036854775808 : Int) (9223372036854775807 : Int) l4,
    Col.i Go.IntKind.i64 (-9223372036854775808 : Int) (9223372036854775807 : Int) l5] =
  [Col.i Go.IntKind.i64 (-9223372036854775808 : Int) (9223372036854775807 : Int) l4,
    Col.i Go.IntKind.i64 (-9223372036854775808 : Int) (9223372036854775807 : Int) l5])) (
        false)) (
        true) (
        false)) (
        reqB ((0 : Int) ≤ n8 + (1 : Int)) (
        reqB (n8 + (1 : Int) ≤ (31 : Int)) (
        reqB ((2 : Int) ≤ n11) (
        reqB (n11 ≤ (8 : Int)) (
        reqB ((0 : Int) ≤ n12) (
        reqB (n12 ≤ (30 : Int)) (
        reqB (adL.inv
  [DV.l (List.take l4.length (List.drop (0 : Nat) l4)), DV.l (List.take l4.length (List.drop (0 : Nat) l5)),
    DV.n ((2 : Int) + n6)]
  [DV.n (n8 + (1 : Int)), DV.n n11, DV.n n12]) (
        reqB (adL.mea
    [DV.l (List.take l4.length (List.drop (0 : Nat) l4)),
      DV.l (List.take l4.length (List.drop (0 : Nat) l5)), DV.n ((2 : Int) + n6)]
    [DV.n (n8 + (1 : Int)), DV.n n11, DV.n n12] <
  adL.mea
    [DV.l (List.take l4.length (List.drop (0 : Nat) l4)),
      DV.l (List.take l4.length (List.drop (0 : Nat) l5)), DV.n ((2 : Int) + n6)]
    [DV.n n8, DV.n n9, DV.n n10]) (
        true))))))))) (
        false)) (
       false)))))))))))))))))))))))) (
  reqB (((0 : Nat) + l4.length) * (2 : Nat) ≤ l4.length.mul (2 : Nat)) (
  reqB (l4.length ≤ (300 : Nat)) (
  reqB ((List.take l4.length (List.drop (0 : Nat) l4)).length = l4.length) (
  reqB (∀ (y : Int),
  y ∈ List.take l4.length (List.drop (0 : Nat) l4) → (-9223372036854775808 : Int) ≤ y ∧ y ≤ (9223372036854775807 : Int)) (
  reqB ((List.take l4.length (List.drop (0 : Nat) l5)).length = l4.length) (
  reqB (∀ (y : Int),
  y ∈ List.take l4.length (List.drop (0 : Nat) l5) → (-9223372036854775808 : Int) ≤ y ∧ y ≤ (9223372036854775807 : Int)) (
  reqB ((-9223372036854775808 : Int) ≤ n9) (
  reqB (n9 ≤ (9223372036854775807 : Int)) (
  reqB ((-9223372036854775808 : Int) ≤ n10) (
  reqB (n10 ≤ (9223372036854775807 : Int)) (
  reqB (sigAdapt.pre
  [DV.l (List.take l4.length (List.drop (0 : Nat) l4)), DV.l (List.take l4.length (List.drop (0 : Nat) l5)),
    DV.n n9, DV.n n10]) (
  allB fun n14 : Int => 
  impB ((0 : Int) ≤ n14) (
  impB (n14 ≤ (8 : Int)) (
  allB fun n15 : Int => 
  impB ((0 : Int) ≤ n15) (
  impB (n15 ≤ (30 : Int)) (
  allB fun n16 : Int => 
  impB ((0 : Int) ≤ n16) (
  impB (n16 ≤ (18 : Int)) (
  impB (sigAdapt.post
  [DV.l (List.take l4.length (List.drop (0 : Nat) l4)), DV.l (List.take l4.length (List.drop (0 : Nat) l5)),
    DV.n n9, DV.n n10]
  [DV.n n14, DV.n n15, DV.n n16]) (
  reqB (((0 : Nat) + l4.length) * (2 : Nat) ≤ l4.length.mul (2 : Nat)) (
  reqB (l4.length ≤ (300 : Nat)) (
  reqB ((List.take l4.length (List.drop (0 : Nat) l4)).length = l4.length) (
  reqB (∀ (y : Int),
  y ∈ List.take l4.length (List.drop (0 : Nat) l4) → (-9223372036854775808 : Int) ≤ y ∧ y ≤ (9223372036854775807 : Int)) (
  reqB ((List.take l4.length (List.drop (0 : Nat) l5)).length = l4.length) (
  reqB (∀ (y : Int),
  y ∈ List.take l4.length (List.drop (0 : Nat) l5) → (-9223372036854775808 : Int) ≤ y ∧ y ≤ (9223372036854775807 : Int)) (
  reqB ((-9223372036854775808 : Int) ≤ n9) (
  reqB (n9 ≤ (9223372036854775807 : Int)) (
  reqB ((-9223372036854775808 : Int) ≤ n10) (
  reqB (n10 ≤ (9223372036854775807 : Int)) (
  reqB (sigCount.pre
  [DV.l (List.take l4.length (List.drop (0 : Nat) l4)), DV.l (List.take l4.length (List.drop (0 : Nat) l5)),
    DV.n n9, DV.n n10]) (
  allB fun l17 : List Int => 
  impB (l17.length ≤ (255 : Nat)) (
  impB (∀ (y : Int), y ∈ l17 → (0 : Int) ≤ y ∧ y ≤ (600 : Int)) (
  allB fun n18 : Int => 
  impB ((0 : Int) ≤ n18) (
  impB (n18 ≤ (18 : Int)) (
  impB (sigCount.post
  [DV.l (List.take l4.length (List.drop (0 : Nat) l4)), DV.l (List.take l4.length (List.drop (0 : Nat) l5)),
    DV.n n9, DV.n n10]
  [DV.l l17, DV.n n18]) (
  reqB (((0 : Nat) + l17.length) * (1 : Nat) ≤ l17.length.mul (1 : Nat)) (
  reqB (l17.length ≤ (255 : Nat)) (
  reqB ((List.take l17.length (List.drop (0 : Nat) l17)).length = l17.length) (
  reqB (∀ (y : Int), y ∈ List.take l17.length (List.drop (0 : Nat) l17) → (0 : Int) ≤ y ∧ y ≤ (600 : Int)) (
  reqB (sumL.inv [DV.l (List.take l17.length (List.drop (0 : Nat) l17))]
  [DV.n (0 : Int), DV.n (0 : Int)]) (
  allB fun n19 : Int => 
  impB ((0 : Int) ≤ n19) (
  impB (n19 ≤ (255 : Int)) (
  allB fun n20 : Int => 
  impB ((0 : Int) ≤ n20) (
  impB (n20 ≤ (153000 : Int)) (
  impB (sumL.inv [DV.l (List.take l17.length (List.drop (0 : Nat) l17))] [DV.n n19, DV.n n20]) (
  bR (dec (n19 < (↑l17.length : Int))) (
   reqB (n19.toNat < l17.length) (
   reqB (Nat.add (0 : Nat) n19.toNat < l17.length) (
   bR (bR (bR (b3) (
    b3) (
    bR (b3) (
     false) (
     true))) (
    bR (bR (dec ((0 : Nat) = (0 : Nat))) (
     dec (l4.length = l4.length)) (
     false)) (
     bR (bR (bR (bR (false) (
      false) (
      true)) (
      true) (
      false)) (
      true) (
      false)) (
      bR (dec (n16 = n16)) (
       bR (bR (true) (
        bR (dec ((0 : Nat) = (0 : Nat))) (
         dec (l17.length = l17.length)) (
         false)) (
        false)) (
        bR (dec (n18 = n18)) (
         true) (
         false)) (
        false)) (
       false)) (
      false)) (
     false)) (
    false)) (
    bR (bR (bR (dec (l4.length.mul (2 : Nat) = l4.length.mul (2 : Nat))) (
     dec ([Col.i Go.IntKind.i64 (-9223372036854775808 : Int) (9223372036854775807 : Int) l4,
    Col.i Go.IntKind.i64 (-9223372036854775808 : Int) (9223372036854775807 : Int) l5] =
  [Col.i Go.IntKind.i64 (-9223372036854775808 : Int) (9223372036854775807 : Int) l4,
    Col.i Go.IntKind.i64 (-9223372036854775808 : Int) (9223372036854775807 : Int) l5])) (
     false)) (
     bR (bR (dec (n9 = n9)) (
      bR (dec (n10 = n10)) (
       true) (
       false)) (
      false)) (
      bR (bR (dec (n14 = n14)) (
       bR (dec (n15 = n15)) (
        true) (
        false)) (
       false)) (
       bR (bR (dec (l17.length.mul (1 : Nat) = l17.length.mul (1 : Nat))) (
        dec ([Col.i Go.IntKind.i64 (0 : Int) (600 : Int) l17] = [Col.i Go.IntKind.i64 (0 : Int) (600 : Int) l17])) (
        false)) (
        true) (
        false)) (
       false)) (
      false)) (
     false)) (
     reqB ((0 : Int) ≤ n19 + (1 : Int)) (
     reqB (n19 + (1 : Int) ≤ (255 : Int)) (
     reqB ((0 : Int) ≤ n20 + l17.getD (Nat.add (0 : Nat) n19.toNat) (0 : Int)) (
     reqB (n20 + l17.getD (Nat.add (0 : Nat) n19.toNat) (0 : Int) ≤ (153000 : Int)) (
     reqB (sumL.inv [DV.l (List.take l17.length (List.drop (0 : Nat) l17))]
  [DV.n (n19 + (1 : Int)), DV.n (n20 + l17.getD (Nat.add (0 : Nat) n19.toNat) (0 : Int))]) (
     reqB (sumL.mea [DV.l (List.take l17.length (List.drop (0 : Nat) l17))]
    [DV.n (n19 + (1 : Int)), DV.n (n20 + l17.getD (Nat.add (0 : Nat) n19.toNat) (0 : Int))] <
  sumL.mea [DV.l (List.take l17.length (List.drop (0 : Nat) l17))] [DV.n n19, DV.n n20]) (
     true))))))) (
     false)) (
    false)))) (
   bR (b3) (
    bR (dec (n16 = (0 : Int))) (
     bR (bR (dec (n14 = n9)) (
      bR (dec (n15 = n10)) (
       true) (
       false)) (
      false)) (
      bR (dec (n18 = (0 : Int))) (
       bR (dec (n20 = (2 : Int) * (↑l4.length : Int))) (
        reqB (sigQA.post [DV.l l0, DV.n n1, DV.n n2]
  [DV.b (dec ((↑l17.length : Int) = opI (SO.shl Go.IntKind.i64) (1 : Int) n9 - (1 : Int)))]) (
        true)) (
        reqB (sigQA.post [DV.l l0, DV.n n1, DV.n n2] [DV.b Bool.false]) (
        true))) (
       reqB (sigQA.post [DV.l l0, DV.n n1, DV.n n2] [DV.b Bool.false]) (
       true))) (
      reqB (sigQA.post [DV.l l0, DV.n n1, DV.n n2] [DV.b Bool.false]) (
      true))) (
     reqB (sigQA.post [DV.l l0, DV.n n1, DV.n n2] [DV.b Bool.false]) (
     true))) (
    reqB (sigQA.post [DV.l l0, DV.n n1, DV.n n2] [DV.b Bool.false]) (
    true))))))))))))))))))))))))))))))))))))))))))))))))))))))))))))))))))))))))))))))))))))))))))))))))))))) := by kernel_rfl
set_option maxHeartbeats 8000000 in
theorem vt_QuantAdapts : vcFn Try.prog [(3, Ext.ctr (ctOf sigTrue0)), (29, Ext.ctr (ctOf (sigPickN 4398046511104))), (30, Ext.ctr (ctOf sigSms)), (15, Ext.ctr (ctOf sigAdapt)), (16, Ext.ctr (ctOf sigCount))] tab [] 100 9 sigQA = true := by
  rw [vc_QuantAdapts]
  try simp only [Int.toNat_natCast, List.length_set, List.length_replicate, List.length_take, List.length_drop, List.length_append, List.length_cons, List.length_nil, Nat.min_self, List.take_take, lenCols_i, lenCols_b, List.drop_zero, List.take_length, Nat.add_eq, Nat.mul_eq, Nat.sub_eq, Nat.zero_add, Nat.sub_zero, Nat.mul_one]
  refine all_i fun l0 => ?_
  refine imp_i fun h0 => ?_
  refine imp_i fun h1 => ?_
  refine all_i fun n1 => ?_
  refine imp_i fun h2 => ?_
  refine imp_i fun h3 => ?_
  refine all_i fun n2 => ?_
  refine imp_i fun h4 => ?_
  refine imp_i fun h5 => ?_
  refine imp_i fun h6 => ?_
  try simp only [sigQA, List.cons.injEq, DV.b.injEq, and_true, List.length_cons, List.length_nil] at h6
  refine req_i ?_ ?_
  · -- r0
    first | omega | assumption | (simp only [sigTrue0, List.cons.injEq, DV.b.injEq, and_true, List.length_cons, List.length_nil]; refine ⟨?_, ?_, ?_, adI_start (by omega) (by omega)⟩ <;> first | omega | trivial | rfl) | (simp only [sigTrue0, List.cons.injEq, DV.b.injEq, and_true, List.length_cons, List.length_nil]; exact ⟨by omega, by omega, by omega, St2⟩) | grind
  refine all_i fun b3 => ?_
  refine imp_i fun h7 => ?_
  try simp only [sigTrue0, List.cons.injEq, DV.b.injEq, and_true, List.length_cons, List.length_nil] at h7
  refine bR_dec (fun h8 => ?_) (fun h8 => ?_)
  ·
    refine req_i ?_ ?_
    · -- r1
      first | omega | (simp only [sigQA, List.cons.injEq, DV.b.injEq, and_true, List.length_cons, List.length_nil]; refine ⟨?_, ?_, ?_, adI_start (by omega) (by omega)⟩ <;> first | omega | trivial | rfl) | (simp only [sigQA, List.cons.injEq, DV.b.injEq, and_true, List.length_cons, List.length_nil]; exact ⟨by omega, by omega, by omega, St2⟩) | ((try simp only [sigQA, List.cons.injEq, DV.b.injEq, and_true, List.length_cons, List.length_nil]); first | done | omega | assumption | grind [getD_set, getD_rep, toNat_succ, cntN_yes, cntN_no])
    rfl
  ·
    refine req_i ?_ ?_
    · -- r2
      first | omega | (simp only [Nat.mul_eq]; refine ⟨?_, ?_, ?_, adI_start (by omega) (by omega)⟩ <;> first | omega | trivial | rfl) | (simp only [Nat.mul_eq]; exact ⟨by omega, by omega, by omega, St2⟩) | ((try simp only [Nat.mul_eq]); first | done | omega | assumption | grind [getD_set, getD_rep, toNat_succ, cntN_yes, cntN_no])
    refine req_i ?_ ?_
    · -- r3
      first | omega | (simp only [Nat.zero_add]; refine ⟨?_, ?_, ?_, adI_start (by omega) (by omega)⟩ <;> first | omega | trivial | rfl) | (simp only [Nat.zero_add]; exact ⟨by omega, by omega, by omega, St2⟩) | ((try simp only [Nat.zero_add]); first | done | omega | assumption | grind [getD_set, getD_rep, toNat_succ, cntN_yes, cntN_no])
    refine req_i ?_ ?_
    · -- r4
      first | omega | (simp only [List.length_take, List.take_length, List.take_take, Nat.min_self, List.length_drop, List.drop_zero, List.length_cons, List.length_nil]; refine ⟨?_, ?_, ?_, adI_start (by omega) (by omega)⟩ <;> first | omega | trivial | rfl) | (simp only [List.length_take, List.take_length, List.take_take, Nat.min_self, List.length_drop, List.drop_zero, List.length_cons, List.length_nil]; exact ⟨by omega, by omega, by omega, St2⟩) | ((try simp only [List.length_take, List.take_length, List.take_take, Nat.min_self, List.length_drop, List.drop_zero, List.length_cons, List.length_nil]); first | done | omega | assumption | grind [getD_set, getD_rep, toNat_succ, cntN_yes, cntN_no])
    refine req_i ?_ ?_
    · -- r5
      first | assumption | exact rep_bd (by omega) (by omega) | exact set_bd (by assumption) (by omega) (by omega) | exact take_bd (by assumption) | (simp only [List.length_take, List.take_length, List.take_take, Nat.min_self, List.length_drop, List.drop_zero, List.length_cons, List.length_nil]; refine ⟨?_, ?_, ?_, adI_start (by omega) (by omega)⟩ <;> first | omega | trivial | rfl) | (simp only [List.length_take, List.take_length, List.take_take, Nat.min_self, List.length_drop, List.drop_zero, List.length_cons, List.length_nil]; exact ⟨by omega, by omega, by omega, St2⟩) | ((try simp only [List.length_take, List.take_length, List.take_take, Nat.min_self, List.length_drop, List.drop_zero, List.length_cons, List.length_nil]); first | assumption | exact rep_bd (by omega) (by omega) | exact set_bd (by assumption) (by omega) (by omega) | exact take_bd (by assumption) | grind [getD_set, getD_rep, toNat_succ, cntN_yes, cntN_no])
    refine req_i ?_ ?_
    · -- r6
      first | trivial | assumption | (simp only [sigSms, smsPost, inS, List.cons.injEq, DV.b.injEq, and_true, List.length_take, List.take_length, List.take_take, Nat.min_self, List.length_drop, List.drop_zero, List.length_cons, List.length_nil]; refine ⟨?_, ?_, ?_, adI_start (by omega) (by omega)⟩ <;> first | omega | trivial | rfl) | (simp only [sigSms, smsPost, inS, List.cons.injEq, DV.b.injEq, and_true, List.length_take, List.take_length, List.take_take, Nat.min_self, List.length_drop, List.drop_zero, List.length_cons, List.length_nil]; exact ⟨by omega, by omega, by omega, St2⟩) | (simp only [sigSms, smsPost, inS, List.cons.injEq, DV.b.injEq, and_true, List.length_take, List.take_length, List.take_take, Nat.min_self, List.length_drop, List.drop_zero, List.length_cons, List.length_nil]; done) | ((try simp only [sigSms, smsPost, inS, List.cons.injEq, DV.b.injEq, and_true, List.length_take, List.take_length, List.take_take, Nat.min_self, List.length_drop, List.drop_zero, List.length_cons, List.length_nil]); first | omega | assumption | grind)
    refine all_i fun l4 => ?_
    refine imp_i fun h9 => ?_
    refine imp_i fun h10 => ?_
    refine all_i fun l5 => ?_
    refine imp_i fun h11 => ?_
    have tkl5 := take_eq h11
    try simp only [tkl5]
    refine imp_i fun h12 => ?_
    refine imp_i fun h13 => ?_
    try simp only [Int.toNat_natCast, List.length_set, List.length_replicate, List.length_take, List.length_drop, List.length_append, List.length_cons, List.length_nil, Nat.min_self, List.take_take, lenCols_i, lenCols_b, List.drop_zero, List.take_length, Nat.add_eq, Nat.mul_eq, Nat.sub_eq, Nat.zero_add, Nat.sub_zero, Nat.mul_one] at h13
    refine req_i ?_ ?_
    · -- r7
      first | omega | assumption | (simp only [Nat.zero_add]; refine ⟨?_, ?_, ?_, adI_start (by omega) (by omega)⟩ <;> first | omega | trivial | rfl) | (simp only [Nat.zero_add]; exact ⟨by omega, by omega, by omega, St2⟩) | grind
    refine req_i ?_ ?_
    · -- r8
      first | omega | assumption | (simp only [Nat.zero_add]; refine ⟨?_, ?_, ?_, adI_start (by omega) (by omega)⟩ <;> first | omega | trivial | rfl) | (simp only [Nat.zero_add]; exact ⟨by omega, by omega, by omega, St2⟩) | grind
    refine req_i ?_ ?_
    · -- r9
      first | trivial | assumption | (simp only [sigPickN, pickPost, List.cons.injEq, DV.b.injEq, and_true, List.length_cons, List.length_nil]; refine ⟨?_, ?_, ?_, adI_start (by omega) (by omega)⟩ <;> first | omega | trivial | rfl) | (simp only [sigPickN, pickPost, List.cons.injEq, DV.b.injEq, and_true, List.length_cons, List.length_nil]; exact ⟨by omega, by omega, by omega, St2⟩) | (simp only [sigPickN, pickPost, List.cons.injEq, DV.b.injEq, and_true, List.length_cons, List.length_nil]; done) | ((try simp only [sigPickN, pickPost, List.cons.injEq, DV.b.injEq, and_true, List.length_cons, List.length_nil]); first | omega | assumption | grind)
    refine all_i fun n6 => ?_
    refine imp_i fun h14 => ?_
    refine imp_i fun h15 => ?_
    refine imp_i fun h16 => ?_
    try simp only [sigPickN, pickPost, List.cons.injEq, DV.b.injEq, and_true, List.length_cons, List.length_nil] at h16
    refine req_i ?_ ?_
    · -- r10
      first | omega | assumption | (simp only [Nat.zero_add]; refine ⟨?_, ?_, ?_, adI_start (by omega) (by omega)⟩ <;> first | omega | trivial | rfl) | (simp only [Nat.zero_add]; exact ⟨by omega, by omega, by omega, St2⟩) | grind
    refine req_i ?_ ?_
    · -- r11
      first | omega | assumption | (simp only [Nat.zero_add]; refine ⟨?_, ?_, ?_, adI_start (by omega) (by omega)⟩ <;> first | omega | trivial | rfl) | (simp only [Nat.zero_add]; exact ⟨by omega, by omega, by omega, St2⟩) | grind
    refine req_i ?_ ?_
    · -- r12
      first | trivial | assumption | (simp only [sigPickN, pickPost, List.cons.injEq, DV.b.injEq, and_true, List.length_cons, List.length_nil]; refine ⟨?_, ?_, ?_, adI_start (by omega) (by omega)⟩ <;> first | omega | trivial | rfl) | (simp only [sigPickN, pickPost, List.cons.injEq, DV.b.injEq, and_true, List.length_cons, List.length_nil]; exact ⟨by omega, by omega, by omega, St2⟩) | (simp only [sigPickN, pickPost, List.cons.injEq, DV.b.injEq, and_true, List.length_cons, List.length_nil]; done) | ((try simp only [sigPickN, pickPost, List.cons.injEq, DV.b.injEq, and_true, List.length_cons, List.length_nil]); first | omega | assumption | grind)
    refine all_i fun n7 => ?_
    refine imp_i fun h17 => ?_
    refine imp_i fun h18 => ?_
    refine imp_i fun h19 => ?_
    try simp only [sigPickN, pickPost, List.cons.injEq, DV.b.injEq, and_true, List.length_cons, List.length_nil] at h19
    refine req_i ?_ ?_
    · -- r13
      first | omega | (simp only [Nat.mul_eq]; refine ⟨?_, ?_, ?_, adI_start (by omega) (by omega)⟩ <;> first | omega | trivial | rfl) | (simp only [Nat.mul_eq]; exact ⟨by omega, by omega, by omega, St2⟩) | ((try simp only [Nat.mul_eq]); first | done | omega | assumption | grind [getD_set, getD_rep, toNat_succ, cntN_yes, cntN_no])
    refine req_i ?_ ?_
    · -- r14
      first | omega | (simp only [Nat.zero_add]; refine ⟨?_, ?_, ?_, adI_start (by omega) (by omega)⟩ <;> first | omega | trivial | rfl) | (simp only [Nat.zero_add]; exact ⟨by omega, by omega, by omega, St2⟩) | ((try simp only [Nat.zero_add]); first | done | omega | assumption | grind [getD_set, getD_rep, toNat_succ, cntN_yes, cntN_no])
    refine req_i ?_ ?_
    · -- r15
      first | omega | (simp only [List.length_take, List.take_length, List.take_take, Nat.min_self, List.length_drop, List.drop_zero, List.length_cons, List.length_nil]; refine ⟨?_, ?_, ?_, adI_start (by omega) (by omega)⟩ <;> first | omega | trivial | rfl) | (simp only [List.length_take, List.take_length, List.take_take, Nat.min_self, List.length_drop, List.drop_zero, List.length_cons, List.length_nil]; exact ⟨by omega, by omega, by omega, St2⟩) | ((try simp only [List.length_take, List.take_length, List.take_take, Nat.min_self, List.length_drop, List.drop_zero, List.length_cons, List.length_nil]); first | done | omega | assumption | grind [getD_set, getD_rep, toNat_succ, cntN_yes, cntN_no])
    refine req_i ?_ ?_
    · -- r16
      first | assumption | exact rep_bd (by omega) (by omega) | exact set_bd (by assumption) (by omega) (by omega) | exact take_bd (by assumption) | (simp only [List.length_take, List.take_length, List.take_take, Nat.min_self, List.length_drop, List.drop_zero, List.length_cons, List.length_nil]; refine ⟨?_, ?_, ?_, adI_start (by omega) (by omega)⟩ <;> first | omega | trivial | rfl) | (simp only [List.length_take, List.take_length, List.take_take, Nat.min_self, List.length_drop, List.drop_zero, List.length_cons, List.length_nil]; exact ⟨by omega, by omega, by omega, St2⟩) | ((try simp only [List.length_take, List.take_length, List.take_take, Nat.min_self, List.length_drop, List.drop_zero, List.length_cons, List.length_nil]); first | assumption | exact rep_bd (by omega) (by omega) | exact set_bd (by assumption) (by omega) (by omega) | exact take_bd (by assumption) | grind [getD_set, getD_rep, toNat_succ, cntN_yes, cntN_no])
    refine req_i ?_ ?_
    · -- r17
      first | omega | (simp only [List.length_take, List.take_length, List.take_take, Nat.min_self, List.length_drop, List.drop_zero, List.length_cons, List.length_nil]; refine ⟨?_, ?_, ?_, adI_start (by omega) (by omega)⟩ <;> first | omega | trivial | rfl) | (simp only [List.length_take, List.take_length, List.take_take, Nat.min_self, List.length_drop, List.drop_zero, List.length_cons, List.length_nil]; exact ⟨by omega, by omega, by omega, St2⟩) | ((try simp only [List.length_take, List.take_length, List.take_take, Nat.min_self, List.length_drop, List.drop_zero, List.length_cons, List.length_nil]); first | done | omega | assumption | grind [getD_set, getD_rep, toNat_succ, cntN_yes, cntN_no])
    refine req_i ?_ ?_
    · -- r18
      first | assumption | exact rep_bd (by omega) (by omega) | exact set_bd (by assumption) (by omega) (by omega) | exact take_bd (by assumption) | (simp only [List.length_take, List.take_length, List.take_take, Nat.min_self, List.length_drop, List.drop_zero, List.length_cons, List.length_nil]; refine ⟨?_, ?_, ?_, adI_start (by omega) (by omega)⟩ <;> first | omega | trivial | rfl) | (simp only [List.length_take, List.take_length, List.take_take, Nat.min_self, List.length_drop, List.drop_zero, List.length_cons, List.length_nil]; exact ⟨by omega, by omega, by omega, St2⟩) | ((try simp only [List.length_take, List.take_length, List.take_take, Nat.min_self, List.length_drop, List.drop_zero, List.length_cons, List.length_nil]); first | assumption | exact rep_bd (by omega) (by omega) | exact set_bd (by assumption) (by omega) (by omega) | exact take_bd (by assumption) | grind [getD_set, getD_rep, toNat_succ, cntN_yes, cntN_no])
    refine req_i ?_ ?_
    · -- r19
      first | omega | assumption | (simp only [Nat.zero_add]; refine ⟨?_, ?_, ?_, adI_start (by omega) (by omega)⟩ <;> first | omega | trivial | rfl) | (simp only [Nat.zero_add]; exact ⟨by omega, by omega, by omega, St2⟩) | grind
    refine req_i ?_ ?_
    · -- r20
      first | omega | assumption | (simp only [Nat.zero_add]; refine ⟨?_, ?_, ?_, adI_start (by omega) (by omega)⟩ <;> first | omega | trivial | rfl) | (simp only [Nat.zero_add]; exact ⟨by omega, by omega, by omega, St2⟩) | grind
    refine req_i ?_ ?_
    · -- r21
      first | omega | assumption | (simp only [Nat.zero_add]; refine ⟨?_, ?_, ?_, adI_start (by omega) (by omega)⟩ <;> first | omega | trivial | rfl) | (simp only [Nat.zero_add]; exact ⟨by omega, by omega, by omega, St2⟩) | grind
    refine req_i ?_ ?_
    · -- r22
      first | omega | assumption | (simp only [Nat.zero_add]; refine ⟨?_, ?_, ?_, adI_start (by omega) (by omega)⟩ <;> first | omega | trivial | rfl) | (simp only [Nat.zero_add]; exact ⟨by omega, by omega, by omega, St2⟩) | grind
    refine req_i ?_ ?_
    · -- r23
      first | omega | assumption | (simp only [Nat.zero_add]; refine ⟨?_, ?_, ?_, adI_start (by omega) (by omega)⟩ <;> first | omega | trivial | rfl) | (simp only [Nat.zero_add]; exact ⟨by omega, by omega, by omega, St2⟩) | grind
    refine req_i ?_ ?_
    · -- r24
      first | omega | assumption | (simp only [Nat.zero_add]; refine ⟨?_, ?_, ?_, adI_start (by omega) (by omega)⟩ <;> first | omega | trivial | rfl) | (simp only [Nat.zero_add]; exact ⟨by omega, by omega, by omega, St2⟩) | grind
    refine req_i ?_ ?_
    · -- r25
      first | omega | (simp only [adL, adInv, adMea, List.cons.injEq, DV.b.injEq, and_true, List.length_take, List.take_length, List.take_take, Nat.min_self, List.length_drop, List.drop_zero, List.length_cons, List.length_nil]; refine ⟨?_, ?_, ?_, adI_start (by omega) (by omega)⟩ <;> first | omega | trivial | rfl) | (simp only [adL, adInv, adMea, List.cons.injEq, DV.b.injEq, and_true, List.length_take, List.take_length, List.take_take, Nat.min_self, List.length_drop, List.drop_zero, List.length_cons, List.length_nil]; exact ⟨by omega, by omega, by omega, St2⟩) | ((try simp only [adL, adInv, adMea, List.cons.injEq, DV.b.injEq, and_true, List.length_take, List.take_length, List.take_take, Nat.min_self, List.length_drop, List.drop_zero, List.length_cons, List.length_nil]); first | done | omega | assumption | grind [getD_set, getD_rep, toNat_succ, cntN_yes, cntN_no])
    refine all_i fun n8 => ?_
    refine imp_i fun h20 => ?_
    refine imp_i fun h21 => ?_
    refine all_i fun n9 => ?_
    refine imp_i fun h22 => ?_
    refine imp_i fun h23 => ?_
    refine all_i fun n10 => ?_
    refine imp_i fun h24 => ?_
    refine imp_i fun h25 => ?_
    refine imp_i fun h26 => ?_
    try simp only [adL, adInv, adMea, List.cons.injEq, DV.b.injEq, and_true, List.length_take, List.take_length, List.take_take, Nat.min_self, List.length_drop, List.drop_zero, List.length_cons, List.length_nil] at h26
    refine bR_dec (fun h27 => ?_) (fun h27 => ?_)
    ·
      obtain ⟨i1, i2, i3, i4⟩ := h26
      rw [← i1] at i4
      refine req_i ?_ ?_
      · -- r26
        first | omega | (simp only [Nat.mul_eq]; refine ⟨?_, ?_, ?_, adI_start (by omega) (by omega)⟩ <;> first | omega | trivial | rfl) | (simp only [Nat.mul_eq]; exact ⟨by omega, by omega, by omega, St2⟩) | ((try simp only [Nat.mul_eq]); first | done | omega | assumption | grind [getD_set, getD_rep, toNat_succ, cntN_yes, cntN_no])
      refine req_i ?_ ?_
      · -- r27
        first | omega | (simp only [Nat.zero_add]; refine ⟨?_, ?_, ?_, adI_start (by omega) (by omega)⟩ <;> first | omega | trivial | rfl) | (simp only [Nat.zero_add]; exact ⟨by omega, by omega, by omega, St2⟩) | ((try simp only [Nat.zero_add]); first | done | omega | assumption | grind [getD_set, getD_rep, toNat_succ, cntN_yes, cntN_no])
      refine req_i ?_ ?_
      · -- r28
        first | omega | (simp only [List.length_take, List.take_length, List.take_take, Nat.min_self, List.length_drop, List.drop_zero, List.length_cons, List.length_nil]; refine ⟨?_, ?_, ?_, adI_start (by omega) (by omega)⟩ <;> first | omega | trivial | rfl) | (simp only [List.length_take, List.take_length, List.take_take, Nat.min_self, List.length_drop, List.drop_zero, List.length_cons, List.length_nil]; exact ⟨by omega, by omega, by omega, St2⟩) | ((try simp only [List.length_take, List.take_length, List.take_take, Nat.min_self, List.length_drop, List.drop_zero, List.length_cons, List.length_nil]); first | done | omega | assumption | grind [getD_set, getD_rep, toNat_succ, cntN_yes, cntN_no])
      refine req_i ?_ ?_
      · -- r29
        first | assumption | exact rep_bd (by omega) (by omega) | exact set_bd (by assumption) (by omega) (by omega) | exact take_bd (by assumption) | (simp only [List.length_take, List.take_length, List.take_take, Nat.min_self, List.length_drop, List.drop_zero, List.length_cons, List.length_nil]; refine ⟨?_, ?_, ?_, adI_start (by omega) (by omega)⟩ <;> first | omega | trivial | rfl) | (simp only [List.length_take, List.take_length, List.take_take, Nat.min_self, List.length_drop, List.drop_zero, List.length_cons, List.length_nil]; exact ⟨by omega, by omega, by omega, St2⟩) | ((try simp only [List.length_take, List.take_length, List.take_take, Nat.min_self, List.length_drop, List.drop_zero, List.length_cons, List.length_nil]); first | assumption | exact rep_bd (by omega) (by omega) | exact set_bd (by assumption) (by omega) (by omega) | exact take_bd (by assumption) | grind [getD_set, getD_rep, toNat_succ, cntN_yes, cntN_no])
      refine req_i ?_ ?_
      · -- r30
        first | omega | (simp only [List.length_take, List.take_length, List.take_take, Nat.min_self, List.length_drop, List.drop_zero, List.length_cons, List.length_nil]; refine ⟨?_, ?_, ?_, adI_start (by omega) (by omega)⟩ <;> first | omega | trivial | rfl) | (simp only [List.length_take, List.take_length, List.take_take, Nat.min_self, List.length_drop, List.drop_zero, List.length_cons, List.length_nil]; exact ⟨by omega, by omega, by omega, St2⟩) | ((try simp only [List.length_take, List.take_length, List.take_take, Nat.min_self, List.length_drop, List.drop_zero, List.length_cons, List.length_nil]); first | done | omega | assumption | grind [getD_set, getD_rep, toNat_succ, cntN_yes, cntN_no])
      refine req_i ?_ ?_
      · -- r31
        first | assumption | exact rep_bd (by omega) (by omega) | exact set_bd (by assumption) (by omega) (by omega) | exact take_bd (by assumption) | (simp only [List.length_take, List.take_length, List.take_take, Nat.min_self, List.length_drop, List.drop_zero, List.length_cons, List.length_nil]; refine ⟨?_, ?_, ?_, adI_start (by omega) (by omega)⟩ <;> first | omega | trivial | rfl) | (simp only [List.length_take, List.take_length, List.take_take, Nat.min_self, List.length_drop, List.drop_zero, List.length_cons, List.length_nil]; exact ⟨by omega, by omega, by omega, St2⟩) | ((try simp only [List.length_take, List.take_length, List.take_take, Nat.min_self, List.length_drop, List.drop_zero, List.length_cons, List.length_nil]); first | assumption | exact rep_bd (by omega) (by omega) | exact set_bd (by assumption) (by omega) (by omega) | exact take_bd (by assumption) | grind [getD_set, getD_rep, toNat_succ, cntN_yes, cntN_no])
      refine req_i ?_ ?_
      · -- r32
        first | omega | assumption | (simp only [Nat.zero_add]; refine ⟨?_, ?_, ?_, adI_start (by omega) (by omega)⟩ <;> first | omega | trivial | rfl) | (simp only [Nat.zero_add]; exact ⟨by omega, by omega, by omega, St2⟩) | grind
      refine req_i ?_ ?_
      · -- r33
        first | omega | assumption | (simp only [Nat.zero_add]; refine ⟨?_, ?_, ?_, adI_start (by omega) (by omega)⟩ <;> first | omega | trivial | rfl) | (simp only [Nat.zero_add]; exact ⟨by omega, by omega, by omega, St2⟩) | grind
      refine req_i ?_ ?_
      · -- r34
        first | omega | assumption | (simp only [Nat.zero_add]; refine ⟨?_, ?_, ?_, adI_start (by omega) (by omega)⟩ <;> first | omega | trivial | rfl) | (simp only [Nat.zero_add]; exact ⟨by omega, by omega, by omega, St2⟩) | grind
      refine req_i ?_ ?_
      · -- r35
        first | omega | assumption | (simp only [Nat.zero_add]; refine ⟨?_, ?_, ?_, adI_start (by omega) (by omega)⟩ <;> first | omega | trivial | rfl) | (simp only [Nat.zero_add]; exact ⟨by omega, by omega, by omega, St2⟩) | grind
      refine req_i ?_ ?_
      · -- r36
        first | omega | (simp only [sigAdapt, adaptPost, List.cons.injEq, DV.b.injEq, and_true, List.length_take, List.take_length, List.take_take, Nat.min_self, List.length_drop, List.drop_zero, List.length_cons, List.length_nil]; refine ⟨?_, ?_, ?_, adI_start (by omega) (by omega)⟩ <;> first | omega | trivial | rfl) | (simp only [sigAdapt, adaptPost, List.cons.injEq, DV.b.injEq, and_true, List.length_take, List.take_length, List.take_take, Nat.min_self, List.length_drop, List.drop_zero, List.length_cons, List.length_nil]; exact ⟨by omega, by omega, by omega, St2⟩) | ((try simp only [sigAdapt, adaptPost, List.cons.injEq, DV.b.injEq, and_true, List.length_take, List.take_length, List.take_take, Nat.min_self, List.length_drop, List.drop_zero, List.length_cons, List.length_nil]); first | done | omega | assumption | grind [getD_set, getD_rep, toNat_succ, cntN_yes, cntN_no])
      refine all_i fun n11 => ?_
      refine imp_i fun h28 => ?_
      refine imp_i fun h29 => ?_
      refine all_i fun n12 => ?_
      refine imp_i fun h30 => ?_
      refine imp_i fun h31 => ?_
      refine all_i fun n13 => ?_
      refine imp_i fun h32 => ?_
      refine imp_i fun h33 => ?_
      refine imp_i fun h34 => ?_
      try simp only [Int.toNat_natCast, List.length_set, List.length_replicate, List.length_take, List.length_drop, List.length_append, List.length_cons, List.length_nil, Nat.min_self, List.take_take, lenCols_i, lenCols_b, List.drop_zero, List.take_length, Nat.add_eq, Nat.mul_eq, Nat.sub_eq, Nat.zero_add, Nat.sub_zero, Nat.mul_one] at h34
      have Q := adapt_in (by omega) h13.1 (by have := h13.2; omega) h34
      have St := adI_step (b := n9) (i := n8) (n := n10) (s := l4) (t := l5) (by omega) (by omega) (by omega) (by omega) i4
      rw [← Q.2.2] at St
      have St2 := St.1
      rw [i1] at St2
      refine bR_dec (fun h35 => ?_) (fun h35 => ?_)
      ·
        refine req_i ?_ ?_
        · -- r37
          first | omega | (simp only [sigQA, List.cons.injEq, DV.b.injEq, and_true, List.length_cons, List.length_nil]; refine ⟨?_, ?_, ?_, adI_start (by omega) (by omega)⟩ <;> first | omega | trivial | rfl) | (simp only [sigQA, List.cons.injEq, DV.b.injEq, and_true, List.length_cons, List.length_nil]; exact ⟨by omega, by omega, by omega, St2⟩) | ((try simp only [sigQA, List.cons.injEq, DV.b.injEq, and_true, List.length_cons, List.length_nil]); first | done | omega | assumption | grind [getD_set, getD_rep, toNat_succ, cntN_yes, cntN_no])
        rfl
      ·
        refine bR_dec (fun h36 => ?_) (fun h36 => ?_)
        ·
          refine req_i ?_ ?_
          · -- r38
            first | omega | (simp only [sigQA, List.cons.injEq, DV.b.injEq, and_true, List.length_cons, List.length_nil]; refine ⟨?_, ?_, ?_, adI_start (by omega) (by omega)⟩ <;> first | omega | trivial | rfl) | (simp only [sigQA, List.cons.injEq, DV.b.injEq, and_true, List.length_cons, List.length_nil]; exact ⟨by omega, by omega, by omega, St2⟩) | ((try simp only [sigQA, List.cons.injEq, DV.b.injEq, and_true, List.length_cons, List.length_nil]); first | done | omega | assumption | grind [getD_set, getD_rep, toNat_succ, cntN_yes, cntN_no])
          rfl
        ·
          refine bR_dec (fun h37 => ?_) (fun h37 => ?_)
          ·
            refine req_i ?_ ?_
            · -- r39
              first | omega | (simp only [sigQA, List.cons.injEq, DV.b.injEq, and_true, List.length_cons, List.length_nil]; refine ⟨?_, ?_, ?_, adI_start (by omega) (by omega)⟩ <;> first | omega | trivial | rfl) | (simp only [sigQA, List.cons.injEq, DV.b.injEq, and_true, List.length_cons, List.length_nil]; exact ⟨by omega, by omega, by omega, St2⟩) | ((try simp only [sigQA, List.cons.injEq, DV.b.injEq, and_true, List.length_cons, List.length_nil]); first | done | omega | assumption | grind [getD_set, getD_rep, toNat_succ, cntN_yes, cntN_no])
            rfl
          ·
            refine bR_dec (fun h38 => ?_) (fun h38 => ?_)
            ·
              refine req_i ?_ ?_
              · -- r40
                first | omega | (simp only [sigQA, List.cons.injEq, DV.b.injEq, and_true, List.length_cons, List.length_nil]; refine ⟨?_, ?_, ?_, adI_start (by omega) (by omega)⟩ <;> first | omega | trivial | rfl) | (simp only [sigQA, List.cons.injEq, DV.b.injEq, and_true, List.length_cons, List.length_nil]; exact ⟨by omega, by omega, by omega, St2⟩) | ((try simp only [sigQA, List.cons.injEq, DV.b.injEq, and_true, List.length_cons, List.length_nil]); first | done | omega | assumption | grind [getD_set, getD_rep, toNat_succ, cntN_yes, cntN_no])
              rfl
            ·
              refine bR_t ?_ ?_
              · -- g0
                first | rfl | (simp only [bR_iff, bR_iff_f, dec_iff, dec_f, beqB_iff', andB_iff', reduceCtorEq, imp_self, false_implies, and_true, true_and, implies_true, and_self]; done) | (simp [bR_iff, dec_iff, beqB_iff', andB_iff']; done) | (simp [bR_iff, dec_iff, beqB_iff', andB_iff']; omega)
              refine bR_t ?_ ?_
              · -- g1
                first | rfl | (simp only [bR_iff, bR_iff_f, dec_iff, dec_f, beqB_iff', andB_iff', reduceCtorEq, imp_self, false_implies, and_true, true_and, implies_true, and_self]; done) | (simp [bR_iff, dec_iff, beqB_iff', andB_iff']; done) | (simp [bR_iff, dec_iff, beqB_iff', andB_iff']; omega)
              refine req_i ?_ ?_
              · -- r41
                first | omega | assumption | (simp only [Nat.zero_add]; refine ⟨?_, ?_, ?_, adI_start (by omega) (by omega)⟩ <;> first | omega | trivial | rfl) | (simp only [Nat.zero_add]; exact ⟨by omega, by omega, by omega, St2⟩) | grind
              refine req_i ?_ ?_
              · -- r42
                first | omega | assumption | (simp only [Nat.zero_add]; refine ⟨?_, ?_, ?_, adI_start (by omega) (by omega)⟩ <;> first | omega | trivial | rfl) | (simp only [Nat.zero_add]; exact ⟨by omega, by omega, by omega, St2⟩) | grind
              refine req_i ?_ ?_
              · -- r43
                first | omega | assumption | (simp only [Nat.zero_add]; refine ⟨?_, ?_, ?_, adI_start (by omega) (by omega)⟩ <;> first | omega | trivial | rfl) | (simp only [Nat.zero_add]; exact ⟨by omega, by omega, by omega, St2⟩) | grind
              refine req_i ?_ ?_
              · -- r44
                first | omega | assumption | (simp only [Nat.zero_add]; refine ⟨?_, ?_, ?_, adI_start (by omega) (by omega)⟩ <;> first | omega | trivial | rfl) | (simp only [Nat.zero_add]; exact ⟨by omega, by omega, by omega, St2⟩) | grind
              refine req_i ?_ ?_
              · -- r45
                first | omega | assumption | (simp only [Nat.zero_add]; refine ⟨?_, ?_, ?_, adI_start (by omega) (by omega)⟩ <;> first | omega | trivial | rfl) | (simp only [Nat.zero_add]; exact ⟨by omega, by omega, by omega, St2⟩) | grind
              refine req_i ?_ ?_
              · -- r46
                first | omega | assumption | (simp only [Nat.zero_add]; refine ⟨?_, ?_, ?_, adI_start (by omega) (by omega)⟩ <;> first | omega | trivial | rfl) | (simp only [Nat.zero_add]; exact ⟨by omega, by omega, by omega, St2⟩) | grind
              refine req_i ?_ ?_
              · -- r47
                first | omega | (simp only [adL, adInv, adMea, List.cons.injEq, DV.b.injEq, and_true, List.length_take, List.take_length, List.take_take, Nat.min_self, List.length_drop, List.drop_zero, List.length_cons, List.length_nil]; refine ⟨?_, ?_, ?_, adI_start (by omega) (by omega)⟩ <;> first | omega | trivial | rfl) | (simp only [adL, adInv, adMea, List.cons.injEq, DV.b.injEq, and_true, List.length_take, List.take_length, List.take_take, Nat.min_self, List.length_drop, List.drop_zero, List.length_cons, List.length_nil]; exact ⟨by omega, by omega, by omega, St2⟩) | ((try simp only [adL, adInv, adMea, List.cons.injEq, DV.b.injEq, and_true, List.length_take, List.take_length, List.take_take, Nat.min_self, List.length_drop, List.drop_zero, List.length_cons, List.length_nil]); first | done | omega | assumption | grind [getD_set, getD_rep, toNat_succ, cntN_yes, cntN_no])
              refine req_i ?_ ?_
              · -- r48
                first | omega | (simp only [adL, adInv, adMea, List.cons.injEq, DV.b.injEq, and_true, List.length_take, List.take_length, List.take_take, Nat.min_self, List.length_drop, List.drop_zero, List.length_cons, List.length_nil]; refine ⟨?_, ?_, ?_, adI_start (by omega) (by omega)⟩ <;> first | omega | trivial | rfl) | (simp only [adL, adInv, adMea, List.cons.injEq, DV.b.injEq, and_true, List.length_take, List.take_length, List.take_take, Nat.min_self, List.length_drop, List.drop_zero, List.length_cons, List.length_nil]; exact ⟨by omega, by omega, by omega, St2⟩) | ((try simp only [adL, adInv, adMea, List.cons.injEq, DV.b.injEq, and_true, List.length_take, List.take_length, List.take_take, Nat.min_self, List.length_drop, List.drop_zero, List.length_cons, List.length_nil]); first | done | omega | assumption | grind [getD_set, getD_rep, toNat_succ, cntN_yes, cntN_no])
              rfl
    ·
      obtain ⟨i1, i2, i3, i4⟩ := h26
      rw [← i1, show n8 = 31 by omega] at i4
      have en := adI_end (by omega) (by omega) (by omega) (by omega) i4
      refine req_i ?_ ?_
      · -- r49
        first | omega | (simp only [Nat.mul_eq]; refine ⟨?_, ?_, ?_, adI_start (by omega) (by omega)⟩ <;> first | omega | trivial | rfl) | (simp only [Nat.mul_eq]; exact ⟨by omega, by omega, by omega, St2⟩) | ((try simp only [Nat.mul_eq]); first | done | omega | assumption | grind [getD_set, getD_rep, toNat_succ, cntN_yes, cntN_no])
      refine req_i ?_ ?_
      · -- r50
        first | omega | (simp only [Nat.zero_add]; refine ⟨?_, ?_, ?_, adI_start (by omega) (by omega)⟩ <;> first | omega | trivial | rfl) | (simp only [Nat.zero_add]; exact ⟨by omega, by omega, by omega, St2⟩) | ((try simp only [Nat.zero_add]); first | done | omega | assumption | grind [getD_set, getD_rep, toNat_succ, cntN_yes, cntN_no])
      refine req_i ?_ ?_
      · -- r51
        first | omega | (simp only [List.length_take, List.take_length, List.take_take, Nat.min_self, List.length_drop, List.drop_zero, List.length_cons, List.length_nil]; refine ⟨?_, ?_, ?_, adI_start (by omega) (by omega)⟩ <;> first | omega | trivial | rfl) | (simp only [List.length_take, List.take_length, List.take_take, Nat.min_self, List.length_drop, List.drop_zero, List.length_cons, List.length_nil]; exact ⟨by omega, by omega, by omega, St2⟩) | ((try simp only [List.length_take, List.take_length, List.take_take, Nat.min_self, List.length_drop, List.drop_zero, List.length_cons, List.length_nil]); first | done | omega | assumption | grind [getD_set, getD_rep, toNat_succ, cntN_yes, cntN_no])
      refine req_i ?_ ?_
      · -- r52
        first | assumption | exact rep_bd (by omega) (by omega) | exact set_bd (by assumption) (by omega) (by omega) | exact take_bd (by assumption) | (simp only [List.length_take, List.take_length, List.take_take, Nat.min_self, List.length_drop, List.drop_zero, List.length_cons, List.length_nil]; refine ⟨?_, ?_, ?_, adI_start (by omega) (by omega)⟩ <;> first | omega | trivial | rfl) | (simp only [List.length_take, List.take_length, List.take_take, Nat.min_self, List.length_drop, List.drop_zero, List.length_cons, List.length_nil]; exact ⟨by omega, by omega, by omega, St2⟩) | ((try simp only [List.length_take, List.take_length, List.take_take, Nat.min_self, List.length_drop, List.drop_zero, List.length_cons, List.length_nil]); first | assumption | exact rep_bd (by omega) (by omega) | exact set_bd (by assumption) (by omega) (by omega) | exact take_bd (by assumption) | grind [getD_set, getD_rep, toNat_succ, cntN_yes, cntN_no])
      refine req_i ?_ ?_
      · -- r53
        first | omega | (simp only [List.length_take, List.take_length, List.take_take, Nat.min_self, List.length_drop, List.drop_zero, List.length_cons, List.length_nil]; refine ⟨?_, ?_, ?_, adI_start (by omega) (by omega)⟩ <;> first | omega | trivial | rfl) | (simp only [List.length_take, List.take_length, List.take_take, Nat.min_self, List.length_drop, List.drop_zero, List.length_cons, List.length_nil]; exact ⟨by omega, by omega, by omega, St2⟩) | ((try simp only [List.length_take, List.take_length, List.take_take, Nat.min_self, List.length_drop, List.drop_zero, List.length_cons, List.length_nil]); first | done | omega | assumption | grind [getD_set, getD_rep, toNat_succ, cntN_yes, cntN_no])
      refine req_i ?_ ?_
      · -- r54
        first | assumption | exact rep_bd (by omega) (by omega) | exact set_bd (by assumption) (by omega) (by omega) | exact take_bd (by assumption) | (simp only [List.length_take, List.take_length, List.take_take, Nat.min_self, List.length_drop, List.drop_zero, List.length_cons, List.length_nil]; refine ⟨?_, ?_, ?_, adI_start (by omega) (by omega)⟩ <;> first | omega | trivial | rfl) | (simp only [List.length_take, List.take_length, List.take_take, Nat.min_self, List.length_drop, List.drop_zero, List.length_cons, List.length_nil]; exact ⟨by omega, by omega, by omega, St2⟩) | ((try simp only [List.length_take, List.take_length, List.take_take, Nat.min_self, List.length_drop, List.drop_zero, List.length_cons, List.length_nil]); first | assumption | exact rep_bd (by omega) (by omega) | exact set_bd (by assumption) (by omega) (by omega) | exact take_bd (by assumption) | grind [getD_set, getD_rep, toNat_succ, cntN_yes, cntN_no])
      refine req_i ?_ ?_
      · -- r55
        first | omega | assumption | (simp only [Nat.zero_add]; refine ⟨?_, ?_, ?_, adI_start (by omega) (by omega)⟩ <;> first | omega | trivial | rfl) | (simp only [Nat.zero_add]; exact ⟨by omega, by omega, by omega, St2⟩) | grind
      refine req_i ?_ ?_
      · -- r56
        first | omega | assumption | (simp only [Nat.zero_add]; refine ⟨?_, ?_, ?_, adI_start (by omega) (by omega)⟩ <;> first | omega | trivial | rfl) | (simp only [Nat.zero_add]; exact ⟨by omega, by omega, by omega, St2⟩) | grind
      refine req_i ?_ ?_
      · -- r57
        first | omega | assumption | (simp only [Nat.zero_add]; refine ⟨?_, ?_, ?_, adI_start (by omega) (by omega)⟩ <;> first | omega | trivial | rfl) | (simp only [Nat.zero_add]; exact ⟨by omega, by omega, by omega, St2⟩) | grind
      refine req_i ?_ ?_
      · -- r58
        first | omega | assumption | (simp only [Nat.zero_add]; refine ⟨?_, ?_, ?_, adI_start (by omega) (by omega)⟩ <;> first | omega | trivial | rfl) | (simp only [Nat.zero_add]; exact ⟨by omega, by omega, by omega, St2⟩) | grind
      refine req_i ?_ ?_
      · -- r59
        first | omega | (simp only [sigAdapt, adaptPost, List.cons.injEq, DV.b.injEq, and_true, List.length_take, List.take_length, List.take_take, Nat.min_self, List.length_drop, List.drop_zero, List.length_cons, List.length_nil]; refine ⟨?_, ?_, ?_, adI_start (by omega) (by omega)⟩ <;> first | omega | trivial | rfl) | (simp only [sigAdapt, adaptPost, List.cons.injEq, DV.b.injEq, and_true, List.length_take, List.take_length, List.take_take, Nat.min_self, List.length_drop, List.drop_zero, List.length_cons, List.length_nil]; exact ⟨by omega, by omega, by omega, St2⟩) | ((try simp only [sigAdapt, adaptPost, List.cons.injEq, DV.b.injEq, and_true, List.length_take, List.take_length, List.take_take, Nat.min_self, List.length_drop, List.drop_zero, List.length_cons, List.length_nil]); first | done | omega | assumption | grind [getD_set, getD_rep, toNat_succ, cntN_yes, cntN_no])
      refine all_i fun n14 => ?_
      refine imp_i fun h39 => ?_
      refine imp_i fun h40 => ?_
      refine all_i fun n15 => ?_
      refine imp_i fun h41 => ?_
      refine imp_i fun h42 => ?_
      refine all_i fun n16 => ?_
      refine imp_i fun h43 => ?_
      refine imp_i fun h44 => ?_
      refine imp_i fun h45 => ?_
      try simp only [Int.toNat_natCast, List.length_set, List.length_replicate, List.length_take, List.length_drop, List.length_append, List.length_cons, List.length_nil, Nat.min_self, List.take_take, lenCols_i, lenCols_b, List.drop_zero, List.take_length, Nat.add_eq, Nat.mul_eq, Nat.sub_eq, Nat.zero_add, Nat.sub_zero, Nat.mul_one] at h45
      have Q2 := adapt_in (by omega) h13.1 (by have := h13.2; omega) h45
      rw [en] at Q2
      refine req_i ?_ ?_
      · -- r60
        first | omega | (simp only [Nat.mul_eq]; refine ⟨?_, ?_, ?_, adI_start (by omega) (by omega)⟩ <;> first | omega | trivial | rfl) | (simp only [Nat.mul_eq]; exact ⟨by omega, by omega, by omega, St2⟩) | ((try simp only [Nat.mul_eq]); first | done | omega | assumption | grind [getD_set, getD_rep, toNat_succ, cntN_yes, cntN_no])
      refine req_i ?_ ?_
      · -- r61
        first | omega | (simp only [Nat.zero_add]; refine ⟨?_, ?_, ?_, adI_start (by omega) (by omega)⟩ <;> first | omega | trivial | rfl) | (simp only [Nat.zero_add]; exact ⟨by omega, by omega, by omega, St2⟩) | ((try simp only [Nat.zero_add]); first | done | omega | assumption | grind [getD_set, getD_rep, toNat_succ, cntN_yes, cntN_no])
      refine req_i ?_ ?_
      · -- r62
        first | omega | (simp only [List.length_take, List.take_length, List.take_take, Nat.min_self, List.length_drop, List.drop_zero, List.length_cons, List.length_nil]; refine ⟨?_, ?_, ?_, adI_start (by omega) (by omega)⟩ <;> first | omega | trivial | rfl) | (simp only [List.length_take, List.take_length, List.take_take, Nat.min_self, List.length_drop, List.drop_zero, List.length_cons, List.length_nil]; exact ⟨by omega, by omega, by omega, St2⟩) | ((try simp only [List.length_take, List.take_length, List.take_take, Nat.min_self, List.length_drop, List.drop_zero, List.length_cons, List.length_nil]); first | done | omega | assumption | grind [getD_set, getD_rep, toNat_succ, cntN_yes, cntN_no])
      refine req_i ?_ ?_
      · -- r63
        first | assumption | exact rep_bd (by omega) (by omega) | exact set_bd (by assumption) (by omega) (by omega) | exact take_bd (by assumption) | (simp only [List.length_take, List.take_length, List.take_take, Nat.min_self, List.length_drop, List.drop_zero, List.length_cons, List.length_nil]; refine ⟨?_, ?_, ?_, adI_start (by omega) (by omega)⟩ <;> first | omega | trivial | rfl) | (simp only [List.length_take, List.take_length, List.take_take, Nat.min_self, List.length_drop, List.drop_zero, List.length_cons, List.length_nil]; exact ⟨by omega, by omega, by omega, St2⟩) | ((try simp only [List.length_take, List.take_length, List.take_take, Nat.min_self, List.length_drop, List.drop_zero, List.length_cons, List.length_nil]); first | assumption | exact rep_bd (by omega) (by omega) | exact set_bd (by assumption) (by omega) (by omega) | exact take_bd (by assumption) | grind [getD_set, getD_rep, toNat_succ, cntN_yes, cntN_no])
      refine req_i ?_ ?_
      · -- r64
        first | omega | (simp only [List.length_take, List.take_length, List.take_take, Nat.min_self, List.length_drop, List.drop_zero, List.length_cons, List.length_nil]; refine ⟨?_, ?_, ?_, adI_start (by omega) (by omega)⟩ <;> first | omega | trivial | rfl) | (simp only [List.length_take, List.take_length, List.take_take, Nat.min_self, List.length_drop, List.drop_zero, List.length_cons, List.length_nil]; exact ⟨by omega, by omega, by omega, St2⟩) | ((try simp only [List.length_take, List.take_length, List.take_take, Nat.min_self, List.length_drop, List.drop_zero, List.length_cons, List.length_nil]); first | done | omega | assumption | grind [getD_set, getD_rep, toNat_succ, cntN_yes, cntN_no])
      refine req_i ?_ ?_
      · -- r65
        first | assumption | exact rep_bd (by omega) (by omega) | exact set_bd (by assumption) (by omega) (by omega) | exact take_bd (by assumption) | (simp only [List.length_take, List.take_length, List.take_take, Nat.min_self, List.length_drop, List.drop_zero, List.length_cons, List.length_nil]; refine ⟨?_, ?_, ?_, adI_start (by omega) (by omega)⟩ <;> first | omega | trivial | rfl) | (simp only [List.length_take, List.take_length, List.take_take, Nat.min_self, List.length_drop, List.drop_zero, List.length_cons, List.length_nil]; exact ⟨by omega, by omega, by omega, St2⟩) | ((try simp only [List.length_take, List.take_length, List.take_take, Nat.min_self, List.length_drop, List.drop_zero, List.length_cons, List.length_nil]); first | assumption | exact rep_bd (by omega) (by omega) | exact set_bd (by assumption) (by omega) (by omega) | exact take_bd (by assumption) | grind [getD_set, getD_rep, toNat_succ, cntN_yes, cntN_no])
      refine req_i ?_ ?_
      · -- r66
        first | omega | assumption | (simp only [Nat.zero_add]; refine ⟨?_, ?_, ?_, adI_start (by omega) (by omega)⟩ <;> first | omega | trivial | rfl) | (simp only [Nat.zero_add]; exact ⟨by omega, by omega, by omega, St2⟩) | grind
      refine req_i ?_ ?_
      · -- r67
        first | omega | assumption | (simp only [Nat.zero_add]; refine ⟨?_, ?_, ?_, adI_start (by omega) (by omega)⟩ <;> first | omega | trivial | rfl) | (simp only [Nat.zero_add]; exact ⟨by omega, by omega, by omega, St2⟩) | grind
      refine req_i ?_ ?_
      · -- r68
        first | omega | assumption | (simp only [Nat.zero_add]; refine ⟨?_, ?_, ?_, adI_start (by omega) (by omega)⟩ <;> first | omega | trivial | rfl) | (simp only [Nat.zero_add]; exact ⟨by omega, by omega, by omega, St2⟩) | grind
      refine req_i ?_ ?_
      · -- r69
        first | omega | assumption | (simp only [Nat.zero_add]; refine ⟨?_, ?_, ?_, adI_start (by omega) (by omega)⟩ <;> first | omega | trivial | rfl) | (simp only [Nat.zero_add]; exact ⟨by omega, by omega, by omega, St2⟩) | grind
      refine req_i ?_ ?_
      · -- r70
        first | omega | (simp only [sigCount, countPost, List.cons.injEq, DV.b.injEq, and_true, List.length_take, List.take_length, List.take_take, Nat.min_self, List.length_drop, List.drop_zero, List.length_cons, List.length_nil]; refine ⟨?_, ?_, ?_, adI_start (by omega) (by omega)⟩ <;> first | omega | trivial | rfl) | (simp only [sigCount, countPost, List.cons.injEq, DV.b.injEq, and_true, List.length_take, List.take_length, List.take_take, Nat.min_self, List.length_drop, List.drop_zero, List.length_cons, List.length_nil]; exact ⟨by omega, by omega, by omega, St2⟩) | ((try simp only [sigCount, countPost, List.cons.injEq, DV.b.injEq, and_true, List.length_take, List.take_length, List.take_take, Nat.min_self, List.length_drop, List.drop_zero, List.length_cons, List.length_nil]); first | done | omega | assumption | grind [getD_set, getD_rep, toNat_succ, cntN_yes, cntN_no])
      refine all_i fun l17 => ?_
      refine imp_i fun h46 => ?_
      refine imp_i fun h47 => ?_
      refine all_i fun n18 => ?_
      refine imp_i fun h48 => ?_
      refine imp_i fun h49 => ?_
      refine imp_i fun h50 => ?_
      try simp only [Int.toNat_natCast, List.length_set, List.length_replicate, List.length_take, List.length_drop, List.length_append, List.length_cons, List.length_nil, Nat.min_self, List.take_take, lenCols_i, lenCols_b, List.drop_zero, List.take_length, Nat.add_eq, Nat.mul_eq, Nat.sub_eq, Nat.zero_add, Nat.sub_zero, Nat.mul_one] at h50
      have Q3 := count_in (by omega) h13.1 (by have := h13.2; omega) h50
      have sz : sumN l17 0 = 0 := rfl
      have sh := shl_one (n := n9) (by omega) (by omega)
      simp only [sh]
      refine req_i ?_ ?_
      · -- r71
        first | omega | (simp only [Nat.mul_eq]; refine ⟨?_, ?_, ?_, adI_start (by omega) (by omega)⟩ <;> first | omega | trivial | rfl) | (simp only [Nat.mul_eq]; exact ⟨by omega, by omega, by omega, St2⟩) | ((try simp only [Nat.mul_eq]); first | done | omega | assumption | grind [getD_set, getD_rep, toNat_succ, cntN_yes, cntN_no])
      refine req_i ?_ ?_
      · -- r72
        first | omega | (simp only [Nat.zero_add]; refine ⟨?_, ?_, ?_, adI_start (by omega) (by omega)⟩ <;> first | omega | trivial | rfl) | (simp only [Nat.zero_add]; exact ⟨by omega, by omega, by omega, St2⟩) | ((try simp only [Nat.zero_add]); first | done | omega | assumption | grind [getD_set, getD_rep, toNat_succ, cntN_yes, cntN_no])
      refine req_i ?_ ?_
      · -- r73
        first | omega | (simp only [List.length_take, List.take_length, List.take_take, Nat.min_self, List.length_drop, List.drop_zero, List.length_cons, List.length_nil]; refine ⟨?_, ?_, ?_, adI_start (by omega) (by omega)⟩ <;> first | omega | trivial | rfl) | (simp only [List.length_take, List.take_length, List.take_take, Nat.min_self, List.length_drop, List.drop_zero, List.length_cons, List.length_nil]; exact ⟨by omega, by omega, by omega, St2⟩) | ((try simp only [List.length_take, List.take_length, List.take_take, Nat.min_self, List.length_drop, List.drop_zero, List.length_cons, List.length_nil]); first | done | omega | assumption | grind [getD_set, getD_rep, toNat_succ, cntN_yes, cntN_no])
      refine req_i ?_ ?_
      · -- r74
        first | assumption | exact rep_bd (by omega) (by omega) | exact set_bd (by assumption) (by omega) (by omega) | exact take_bd (by assumption) | (simp only [List.length_take, List.take_length, List.take_take, Nat.min_self, List.length_drop, List.drop_zero, List.length_cons, List.length_nil]; refine ⟨?_, ?_, ?_, adI_start (by omega) (by omega)⟩ <;> first | omega | trivial | rfl) | (simp only [List.length_take, List.take_length, List.take_take, Nat.min_self, List.length_drop, List.drop_zero, List.length_cons, List.length_nil]; exact ⟨by omega, by omega, by omega, St2⟩) | ((try simp only [List.length_take, List.take_length, List.take_take, Nat.min_self, List.length_drop, List.drop_zero, List.length_cons, List.length_nil]); first | assumption | exact rep_bd (by omega) (by omega) | exact set_bd (by assumption) (by omega) (by omega) | exact take_bd (by assumption) | grind [getD_set, getD_rep, toNat_succ, cntN_yes, cntN_no])
      refine req_i ?_ ?_
      · -- r75
        first | omega | (simp only [sumL, sumInv, mea0, List.cons.injEq, DV.b.injEq, and_true, List.length_take, List.take_length, List.take_take, Nat.min_self, List.length_drop, List.drop_zero, List.length_cons, List.length_nil]; refine ⟨?_, ?_, ?_, adI_start (by omega) (by omega)⟩ <;> first | omega | trivial | rfl) | (simp only [sumL, sumInv, mea0, List.cons.injEq, DV.b.injEq, and_true, List.length_take, List.take_length, List.take_take, Nat.min_self, List.length_drop, List.drop_zero, List.length_cons, List.length_nil]; exact ⟨by omega, by omega, by omega, St2⟩) | ((try simp only [sumL, sumInv, mea0, List.cons.injEq, DV.b.injEq, and_true, List.length_take, List.take_length, List.take_take, Nat.min_self, List.length_drop, List.drop_zero, List.length_cons, List.length_nil]); first | done | omega | assumption | grind [getD_set, getD_rep, toNat_succ, cntN_yes, cntN_no])
      refine all_i fun n19 => ?_
      refine imp_i fun h51 => ?_
      refine imp_i fun h52 => ?_
      refine all_i fun n20 => ?_
      refine imp_i fun h53 => ?_
      refine imp_i fun h54 => ?_
      refine imp_i fun h55 => ?_
      try simp only [sumL, sumInv, mea0, List.cons.injEq, DV.b.injEq, and_true, List.length_take, List.take_length, List.take_take, Nat.min_self, List.length_drop, List.drop_zero, List.length_cons, List.length_nil] at h55
      refine bR_dec (fun h56 => ?_) (fun h56 => ?_)
      ·
        have sb := sumN_bd h47 n19.toNat
        have sb1 := sumN_bd h47 (n19.toNat + 1)
        have ts := toNat_succ h55.1
        have ss : sumN l17 (n19.toNat + 1) = sumN l17 n19.toNat + l17.getD n19.toNat 0 := rfl
        have gd := getD_bd (i := n19.toNat) h47 (by omega) (by omega)
        refine req_i ?_ ?_
        · -- r76
          first | omega | (simp only [Int.toNat_natCast, List.length_cons, List.length_nil]; refine ⟨?_, ?_, ?_, adI_start (by omega) (by omega)⟩ <;> first | omega | trivial | rfl) | (simp only [Int.toNat_natCast, List.length_cons, List.length_nil]; exact ⟨by omega, by omega, by omega, St2⟩) | ((try simp only [Int.toNat_natCast, List.length_cons, List.length_nil]); first | done | omega | assumption | grind [getD_set, getD_rep, toNat_succ, cntN_yes, cntN_no])
        refine req_i ?_ ?_
        · -- r77
          first | omega | (simp only [Int.toNat_natCast, List.length_cons, List.length_nil, Nat.add_eq, Nat.zero_add]; refine ⟨?_, ?_, ?_, adI_start (by omega) (by omega)⟩ <;> first | omega | trivial | rfl) | (simp only [Int.toNat_natCast, List.length_cons, List.length_nil, Nat.add_eq, Nat.zero_add]; exact ⟨by omega, by omega, by omega, St2⟩) | ((try simp only [Int.toNat_natCast, List.length_cons, List.length_nil, Nat.add_eq, Nat.zero_add]); first | done | omega | assumption | grind [getD_set, getD_rep, toNat_succ, cntN_yes, cntN_no])
        refine bR_t ?_ ?_
        · -- g2
          first | rfl | (simp only [bR_iff, bR_iff_f, dec_iff, dec_f, beqB_iff', andB_iff', reduceCtorEq, imp_self, false_implies, and_true, true_and, implies_true, and_self]; done) | (simp [bR_iff, dec_iff, beqB_iff', andB_iff']; done) | (simp [bR_iff, dec_iff, beqB_iff', andB_iff']; omega)
        refine bR_t ?_ ?_
        · -- g3
          first | rfl | (simp only [bR_iff, bR_iff_f, dec_iff, dec_f, beqB_iff', andB_iff', reduceCtorEq, imp_self, false_implies, and_true, true_and, implies_true, and_self]; done) | (simp [bR_iff, dec_iff, beqB_iff', andB_iff']; done) | (simp [bR_iff, dec_iff, beqB_iff', andB_iff']; omega)
        refine req_i ?_ ?_
        · -- r78
          first | omega | assumption | (simp only [Nat.zero_add]; refine ⟨?_, ?_, ?_, adI_start (by omega) (by omega)⟩ <;> first | omega | trivial | rfl) | (simp only [Nat.zero_add]; exact ⟨by omega, by omega, by omega, St2⟩) | grind
        refine req_i ?_ ?_
        · -- r79
          first | omega | assumption | (simp only [Nat.zero_add]; refine ⟨?_, ?_, ?_, adI_start (by omega) (by omega)⟩ <;> first | omega | trivial | rfl) | (simp only [Nat.zero_add]; exact ⟨by omega, by omega, by omega, St2⟩) | grind
        refine req_i ?_ ?_
        · -- r80
          first | omega | assumption | (simp only [Int.toNat_natCast, List.length_cons, List.length_nil, Nat.add_eq, Nat.zero_add]; refine ⟨?_, ?_, ?_, adI_start (by omega) (by omega)⟩ <;> first | omega | trivial | rfl) | (simp only [Int.toNat_natCast, List.length_cons, List.length_nil, Nat.add_eq, Nat.zero_add]; exact ⟨by omega, by omega, by omega, St2⟩) | grind
        refine req_i ?_ ?_
        · -- r81
          first | omega | assumption | (simp only [Int.toNat_natCast, List.length_cons, List.length_nil, Nat.add_eq, Nat.zero_add]; refine ⟨?_, ?_, ?_, adI_start (by omega) (by omega)⟩ <;> first | omega | trivial | rfl) | (simp only [Int.toNat_natCast, List.length_cons, List.length_nil, Nat.add_eq, Nat.zero_add]; exact ⟨by omega, by omega, by omega, St2⟩) | grind
        refine req_i ?_ ?_
        · -- r82
          first | omega | (simp only [sumL, sumInv, mea0, List.cons.injEq, DV.b.injEq, and_true, Int.toNat_natCast, List.length_take, List.take_length, List.take_take, Nat.min_self, List.length_drop, List.drop_zero, List.length_cons, List.length_nil, Nat.add_eq, Nat.zero_add]; refine ⟨?_, ?_, ?_, adI_start (by omega) (by omega)⟩ <;> first | omega | trivial | rfl) | (simp only [sumL, sumInv, mea0, List.cons.injEq, DV.b.injEq, and_true, Int.toNat_natCast, List.length_take, List.take_length, List.take_take, Nat.min_self, List.length_drop, List.drop_zero, List.length_cons, List.length_nil, Nat.add_eq, Nat.zero_add]; exact ⟨by omega, by omega, by omega, St2⟩) | ((try simp only [sumL, sumInv, mea0, List.cons.injEq, DV.b.injEq, and_true, Int.toNat_natCast, List.length_take, List.take_length, List.take_take, Nat.min_self, List.length_drop, List.drop_zero, List.length_cons, List.length_nil, Nat.add_eq, Nat.zero_add]); first | done | omega | assumption | grind [getD_set, getD_rep, toNat_succ, cntN_yes, cntN_no])
        refine req_i ?_ ?_
        · -- r83
          first | omega | (simp only [sumL, sumInv, mea0, List.cons.injEq, DV.b.injEq, and_true, Int.toNat_natCast, List.length_take, List.take_length, List.take_take, Nat.min_self, List.length_drop, List.drop_zero, List.length_cons, List.length_nil, Nat.add_eq, Nat.zero_add]; refine ⟨?_, ?_, ?_, adI_start (by omega) (by omega)⟩ <;> first | omega | trivial | rfl) | (simp only [sumL, sumInv, mea0, List.cons.injEq, DV.b.injEq, and_true, Int.toNat_natCast, List.length_take, List.take_length, List.take_take, Nat.min_self, List.length_drop, List.drop_zero, List.length_cons, List.length_nil, Nat.add_eq, Nat.zero_add]; exact ⟨by omega, by omega, by omega, St2⟩) | ((try simp only [sumL, sumInv, mea0, List.cons.injEq, DV.b.injEq, and_true, Int.toNat_natCast, List.length_take, List.take_length, List.take_take, Nat.min_self, List.length_drop, List.drop_zero, List.length_cons, List.length_nil, Nat.add_eq, Nat.zero_add]); first | done | omega | assumption | grind [getD_set, getD_rep, toNat_succ, cntN_yes, cntN_no])
        rfl
      ·
        have et : n19.toNat = l17.length := by omega
        rw [et] at h55
        refine bR_i (fun h57 => ?_) (fun h57 => ?_)
        ·
          refine bR_dec (fun h58 => ?_) (fun h58 => ?_)
          ·
            refine bR_i (fun h59 => ?_) (fun h59 => ?_)
            ·
              simp only [bR_iff, bR_iff_f, dec_iff, dec_f, Bool.false_eq_true, Bool.true_eq_false, false_implies, imp_false, and_true, true_and, implies_true, Classical.not_not] at h59
              refine bR_dec (fun h60 => ?_) (fun h60 => ?_)
              ·
                refine bR_dec (fun h61 => ?_) (fun h61 => ?_)
                ·
                  refine req_i ?_ ?_
                  · -- r84
                    first | omega | (simp only [sigQA, List.cons.injEq, DV.b.injEq, and_true, List.length_cons, List.length_nil, dec_iff]; refine ⟨?_, ?_, ?_, adI_start (by omega) (by omega)⟩ <;> first | omega | trivial | rfl) | (simp only [sigQA, List.cons.injEq, DV.b.injEq, and_true, List.length_cons, List.length_nil, dec_iff]; exact ⟨by omega, by omega, by omega, St2⟩) | ((try simp only [sigQA, List.cons.injEq, DV.b.injEq, and_true, List.length_cons, List.length_nil, dec_iff]); first | done | omega | assumption | grind [getD_set, getD_rep, toNat_succ, cntN_yes, cntN_no])
                  rfl
                ·
                  refine req_i ?_ ?_
                  · -- r85
                    first | omega | (simp only [sigQA, List.cons.injEq, DV.b.injEq, and_true, List.length_cons, List.length_nil]; refine ⟨?_, ?_, ?_, adI_start (by omega) (by omega)⟩ <;> first | omega | trivial | rfl) | (simp only [sigQA, List.cons.injEq, DV.b.injEq, and_true, List.length_cons, List.length_nil]; exact ⟨by omega, by omega, by omega, St2⟩) | ((try simp only [sigQA, List.cons.injEq, DV.b.injEq, and_true, List.length_cons, List.length_nil]); first | done | omega | assumption | grind [getD_set, getD_rep, toNat_succ, cntN_yes, cntN_no])
                  rfl
              ·
                refine req_i ?_ ?_
                · -- r86
                  first | omega | (simp only [sigQA, List.cons.injEq, DV.b.injEq, and_true, List.length_cons, List.length_nil]; refine ⟨?_, ?_, ?_, adI_start (by omega) (by omega)⟩ <;> first | omega | trivial | rfl) | (simp only [sigQA, List.cons.injEq, DV.b.injEq, and_true, List.length_cons, List.length_nil]; exact ⟨by omega, by omega, by omega, St2⟩) | ((try simp only [sigQA, List.cons.injEq, DV.b.injEq, and_true, List.length_cons, List.length_nil]); first | done | omega | assumption | grind [getD_set, getD_rep, toNat_succ, cntN_yes, cntN_no])
                rfl
            ·
              simp only [bR_iff, bR_iff_f, dec_iff, dec_f, Bool.false_eq_true, Bool.true_eq_false, false_implies, imp_false, and_true, true_and, implies_true, Classical.not_not] at h59
              refine req_i ?_ ?_
              · -- r87
                first | omega | (simp only [sigQA, List.cons.injEq, DV.b.injEq, and_true, List.length_cons, List.length_nil]; refine ⟨?_, ?_, ?_, adI_start (by omega) (by omega)⟩ <;> first | omega | trivial | rfl) | (simp only [sigQA, List.cons.injEq, DV.b.injEq, and_true, List.length_cons, List.length_nil]; exact ⟨by omega, by omega, by omega, St2⟩) | ((try simp only [sigQA, List.cons.injEq, DV.b.injEq, and_true, List.length_cons, List.length_nil]); first | done | omega | assumption | grind [getD_set, getD_rep, toNat_succ, cntN_yes, cntN_no])
              rfl
          ·
            refine req_i ?_ ?_
            · -- r88
              first | omega | (simp only [sigQA, List.cons.injEq, DV.b.injEq, and_true, List.length_cons, List.length_nil]; refine ⟨?_, ?_, ?_, adI_start (by omega) (by omega)⟩ <;> first | omega | trivial | rfl) | (simp only [sigQA, List.cons.injEq, DV.b.injEq, and_true, List.length_cons, List.length_nil]; exact ⟨by omega, by omega, by omega, St2⟩) | ((try simp only [sigQA, List.cons.injEq, DV.b.injEq, and_true, List.length_cons, List.length_nil]); first | done | omega | assumption | grind [getD_set, getD_rep, toNat_succ, cntN_yes, cntN_no])
            rfl
        ·
          refine req_i ?_ ?_
          · -- r89
            first | omega | (simp only [sigQA, List.cons.injEq, DV.b.injEq, and_true, List.length_cons, List.length_nil]; refine ⟨?_, ?_, ?_, adI_start (by omega) (by omega)⟩ <;> first | omega | trivial | rfl) | (simp only [sigQA, List.cons.injEq, DV.b.injEq, and_true, List.length_cons, List.length_nil]; exact ⟨by omega, by omega, by omega, St2⟩) | ((try simp only [sigQA, List.cons.injEq, DV.b.injEq, and_true, List.length_cons, List.length_nil]); first | done | omega | assumption | grind [getD_set, getD_rep, toNat_succ, cntN_yes, cntN_no])
          rfl
theorem ext_QuantAdapts : ∀ p ∈ ([(3, Ext.ctr (ctOf sigTrue0)), (29, Ext.ctr (ctOf (sigPickN 4398046511104))), (30, Ext.ctr (ctOf sigSms)), (15, Ext.ctr (ctOf sigAdapt)), (16, Ext.ctr (ctOf sigCount))] : List (Nat × Ext)), ExtRow Try.prog p.1 p.2 := by
  intro p hp
  simp only [List.mem_cons, List.not_mem_nil, or_false] at hp
  rcases hp with rfl | rfl | rfl | rfl | rfl
  · trivial
  · trivial
  · trivial
  · trivial
  · trivial
theorem cts_QuantAdapts : CtsOk Try.prog [(3, Ext.ctr (ctOf sigTrue0)), (29, Ext.ctr (ctOf (sigPickN 4398046511104))), (30, Ext.ctr (ctOf sigSms)), (15, Ext.ctr (ctOf sigAdapt)), (16, Ext.ctr (ctOf sigCount))] := ctsOk_of (cs := [(3, sigTrue0), (29, (sigPickN 4398046511104)), (30, sigSms), (15, sigAdapt), (16, sigCount)])
  (fun p hp => by
    simp only [List.mem_cons, List.not_mem_nil, or_false] at hp
    rcases hp with rfl | rfl | rfl | rfl | rfl
    · exact fn_known
    · exact fn_turn
    · exact fn_sms
    · exact fn_adapt
    · exact fn_count
)
  (fun f c h => by
    simp only [List.lookup_cons] at h
    repeat' split at h
    all_goals first | (cases h; done) | (rename_i e; have e := beq_iff_eq.1 e; subst e; cases h; exact ⟨_, by simp, rfl⟩))
theorem fn_QuantAdapts : FnOk Try.prog 9 sigQA [] := fn_sound (by kernel_rfl) ext_QuantAdapts cts_QuantAdapts names vt_QuantAdapts
end Go.Proofs.Ytemcaojbhfgpgaa

