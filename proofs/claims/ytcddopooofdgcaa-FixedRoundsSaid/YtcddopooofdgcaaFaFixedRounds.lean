import Derived.Test.YtcddopooofdgcaaSpec01e
import Derived.Test.YtcddopooofdgcaaRows
import Derived.Test.YtcddopooofdgcaaEvSU
import Derived.Test.YtcddopooofdgcaaFnames
namespace Go.Proofs.Ytcddopooofdgcaa
open Go.Ev Go.Sp
set_option maxRecDepth 100000
theorem vc_lives : vcFn Try.prog [(54, Ext.add64), (55, Ext.sub64)] noA [] 1000 10 sigTrue0 = (impB (sigTrue0.pre []) (
reqB (sigTrue0.post []
 [DV.b
 (andB (eqI (Int.negSucc (0 : Nat)) (-1 : Int))
 (andB (eqI (Int.ofNat (18446744073709551615 : Nat)) (18446744073709551615 : Int)) Bool.true))]) (
true))) := by kernel_rfl
set_option maxHeartbeats 8000000 in
theorem vt_lives : vcFn Try.prog [(54, Ext.add64), (55, Ext.sub64)] noA [] 1000 10 sigTrue0 = true := by
  rw [vc_lives]
  try simp only [bR_same, dec_same, bR_true, bR_false]
  simp only [allB_iff, impB_iff, reqB_iff, bR_iff, bR_iff_f, dec_iff, dec_f, reduceCtorEq, imp_false, Classical.not_not, implies_true, true_and, and_true]
  intro _
  first | rfl | trivial | simp [sigTrue0]
theorem ext_lives : ∀ p ∈ ([(54, Ext.add64), (55, Ext.sub64)] : List (Nat × Ext)), ExtRow Try.prog p.1 p.2 := by
  intro p hp
  simp only [List.mem_cons, List.not_mem_nil, or_false] at hp
  rcases hp with rfl | rfl
  · exact ⟨Try.f54, Try.func54, by kernel_rfl, by kernel_rfl, by kernel_rfl, by kernel_rfl⟩
  · exact ⟨Try.f55, Try.func55, by kernel_rfl, by kernel_rfl, by kernel_rfl, by kernel_rfl⟩
theorem cts_lives : CtsOk Try.prog [(54, Ext.add64), (55, Ext.sub64)] := fun f c h => by
  simp only [List.lookup_cons, List.lookup_nil] at h
  repeat' split at h
  all_goals cases h
theorem fn_lives : FnOk Try.prog 10 sigTrue0 [] := fn_sound (by kernel_rfl) ext_lives cts_lives names vt_lives
end Go.Proofs.Ytcddopooofdgcaa

namespace Go.Proofs.Ytcddopooofdgcaa
open Go.Ev Go.Sp
set_option maxRecDepth 100000
theorem vc_pick : vcFn Try.prog [] tab [] 100 42 (sigPickN 4611686018427387904) = (allB fun n0 : Int => 
impB ((-9223372036854775808 : Int) ≤ n0) (
impB (n0 ≤ (9223372036854775807 : Int)) (
allB fun n1 : Int => 
impB ((1 : Int) ≤ n1) (
impB (n1 ≤ (4611686018427387904 : Int)) (
impB ((sigPickN (4611686018427387904 : Int)).pre [DV.n n0, DV.n n1]) (
bR (dec (n0.tmod n1 < (0 : Int))) (
 reqB ((0 : Int) ≤ n0.tmod n1 + n1) (
 reqB (n0.tmod n1 + n1 ≤ (4611686018427387904 : Int)) (
 reqB ((sigPickN (4611686018427387904 : Int)).post [DV.n n0, DV.n n1] [DV.n (n0.tmod n1 + n1)]) (
 true)))) (
 reqB ((0 : Int) ≤ n0.tmod n1) (
 reqB (n0.tmod n1 ≤ (4611686018427387904 : Int)) (
 reqB ((sigPickN (4611686018427387904 : Int)).post [DV.n n0, DV.n n1] [DV.n (n0.tmod n1)]) (
 true)))))))))) := by kernel_rfl
set_option maxHeartbeats 8000000 in
theorem vt_pick : vcFn Try.prog [] tab [] 100 42 (sigPickN 4611686018427387904) = true := by
  rw [vc_pick]
  try simp only [Int.toNat_natCast, List.length_set, List.length_replicate, List.length_take, List.length_drop, List.length_append, List.length_cons, List.length_nil, Nat.min_self, List.take_take, lenCols_i, lenCols_b, List.drop_zero, List.take_length, Nat.add_eq, Nat.mul_eq, Nat.sub_eq, Nat.zero_add, Nat.sub_zero, Nat.mul_one]
  refine all_i fun n0 => ?_
  refine imp_i fun h0 => ?_
  refine imp_i fun h1 => ?_
  refine all_i fun n1 => ?_
  refine imp_i fun h2 => ?_
  refine imp_i fun h3 => ?_
  refine imp_i fun h4 => ?_
  try simp only [sigPickN, pickPost, List.cons.injEq, DV.b.injEq, and_true, List.length_cons, List.length_nil] at h4
  have t := tmod_of (x := n0) (n := n1) (by omega)
  refine bR_dec (fun h5 => ?_) (fun h5 => ?_)
  ·
   refine req_i ?_ ?_
   · -- r0
    first | omega | assumption | grind
   refine req_i ?_ ?_
   · -- r1
    first | omega | assumption | grind
   refine req_i ?_ ?_
   · -- r2
    first | omega | ((try simp only [sigPickN, pickPost, List.cons.injEq, DV.b.injEq, and_true, List.length_cons, List.length_nil]); first | done | omega | assumption | grind [getD_set, getD_rep, toNat_succ, cntN_yes, cntN_no])
   rfl
  ·
   refine req_i ?_ ?_
   · -- r3
    first | omega | assumption | grind
   refine req_i ?_ ?_
   · -- r4
    first | omega | assumption | grind
   refine req_i ?_ ?_
   · -- r5
    first | omega | ((try simp only [sigPickN, pickPost, List.cons.injEq, DV.b.injEq, and_true, List.length_cons, List.length_nil]); first | done | omega | assumption | grind [getD_set, getD_rep, toNat_succ, cntN_yes, cntN_no])
   rfl
theorem ext_pick : ∀ p ∈ ([] : List (Nat × Ext)), ExtRow Try.prog p.1 p.2 := by
  intro p hp
  cases hp
theorem cts_pick : CtsOk Try.prog [] := fun f c h => by cases h
theorem fn_pick : FnOk Try.prog 42 (sigPickN 4611686018427387904) [] := fn_sound (by kernel_rfl) ext_pick cts_pick names vt_pick
end Go.Proofs.Ytcddopooofdgcaa

namespace Go.Proofs.Ytcddopooofdgcaa
open Go.Ev Go.Sp
set_option maxRecDepth 100000
theorem vc_small : vcFn Try.prog [(42, Ext.ctr (ctOf (sigPickN 4611686018427387904)))] tab [] 100 41 sigSmall = (allB fun n0 : Int => 
impB ((-9223372036854775808 : Int) ≤ n0) (
impB (n0 ≤ (9223372036854775807 : Int)) (
allB fun n1 : Int => 
impB ((0 : Int) ≤ n1) (
impB (n1 ≤ (1000000 : Int)) (
impB (sigSmall.pre [DV.n n0, DV.n n1]) (
reqB ((-9223372036854775808 : Int) ≤ n0) (
reqB (n0 ≤ (9223372036854775807 : Int)) (
reqB ((1 : Int) ≤ (2 : Int) * n1 + (1 : Int)) (
reqB ((2 : Int) * n1 + (1 : Int) ≤ (4611686018427387904 : Int)) (
reqB ((sigPickN (4611686018427387904 : Int)).pre [DV.n n0, DV.n ((2 : Int) * n1 + (1 : Int))]) (
allB fun n2 : Int => 
impB ((0 : Int) ≤ n2) (
impB (n2 ≤ (4611686018427387904 : Int)) (
impB ((sigPickN (4611686018427387904 : Int)).post [DV.n n0, DV.n ((2 : Int) * n1 + (1 : Int))]
 [DV.n n2]) (
reqB ((-1000000 : Int) ≤ n2 - n1) (
reqB (n2 - n1 ≤ (1000000 : Int)) (
reqB (sigSmall.post [DV.n n0, DV.n n1] [DV.n (n2 - n1)]) (
true))))))))))))))))) := by kernel_rfl
set_option maxHeartbeats 8000000 in
theorem vt_small : vcFn Try.prog [(42, Ext.ctr (ctOf (sigPickN 4611686018427387904)))] tab [] 100 41 sigSmall = true := by
  rw [vc_small]
  try simp only [Int.toNat_natCast, List.length_set, List.length_replicate, List.length_take, List.length_drop, List.length_append, List.length_cons, List.length_nil, Nat.min_self, List.take_take, lenCols_i, lenCols_b, List.drop_zero, List.take_length, Nat.add_eq, Nat.mul_eq, Nat.sub_eq, Nat.zero_add, Nat.sub_zero, Nat.mul_one]
  refine all_i fun n0 => ?_
  refine imp_i fun h0 => ?_
  refine imp_i fun h1 => ?_
  refine all_i fun n1 => ?_
  refine imp_i fun h2 => ?_
  refine imp_i fun h3 => ?_
  refine imp_i fun h4 => ?_
  try simp only [sigSmall, smallPost, List.cons.injEq, DV.b.injEq, and_true, List.length_cons, List.length_nil] at h4
  refine req_i ?_ ?_
  · -- r0
   first | omega | assumption | grind
  refine req_i ?_ ?_
  · -- r1
   first | omega | assumption | grind
  refine req_i ?_ ?_
  · -- r2
   first | omega | assumption | grind
  refine req_i ?_ ?_
  · -- r3
   first | omega | assumption | grind
  refine req_i ?_ ?_
  · -- r4
   first | trivial | assumption | (simp only [sigPickN, pickPost, List.cons.injEq, DV.b.injEq, and_true, List.length_cons, List.length_nil]; done) | ((try simp only [sigPickN, pickPost, List.cons.injEq, DV.b.injEq, and_true, List.length_cons, List.length_nil]); first | omega | assumption | grind)
  refine all_i fun n2 => ?_
  refine imp_i fun h5 => ?_
  refine imp_i fun h6 => ?_
  refine imp_i fun h7 => ?_
  try simp only [sigPickN, pickPost, List.cons.injEq, DV.b.injEq, and_true, List.length_cons, List.length_nil] at h7
  refine req_i ?_ ?_
  · -- r5
   first | omega | assumption | grind
  refine req_i ?_ ?_
  · -- r6
   first | omega | assumption | grind
  refine req_i ?_ ?_
  · -- r7
   first | omega | ((try simp only [sigSmall, smallPost, List.cons.injEq, DV.b.injEq, and_true, List.length_cons, List.length_nil]); first | done | omega | assumption | grind [getD_set, getD_rep, toNat_succ, cntN_yes, cntN_no])
  rfl
theorem ext_small : ∀ p ∈ ([(42, Ext.ctr (ctOf (sigPickN 4611686018427387904)))] : List (Nat × Ext)), ExtRow Try.prog p.1 p.2 := by
  intro p hp
  simp only [List.mem_cons, List.not_mem_nil, or_false] at hp
  rcases hp with rfl
  · trivial
theorem cts_small : CtsOk Try.prog [(42, Ext.ctr (ctOf (sigPickN 4611686018427387904)))] := ctsOk_of (cs := [(42, (sigPickN 4611686018427387904))])
  (fun p hp => by
    simp only [List.mem_cons, List.not_mem_nil, or_false] at hp
    rcases hp with rfl
    · exact fn_pick
)
  (fun f c h => by
    simp only [List.lookup_cons] at h
    repeat' split at h
    all_goals first | (cases h; done) | (rename_i e; have e := beq_iff_eq.1 e; subst e; cases h; refine ⟨_, ?_, rfl⟩; simp))
theorem fn_small : FnOk Try.prog 41 sigSmall [] := fn_sound (by kernel_rfl) ext_small cts_small names vt_small
end Go.Proofs.Ytcddopooofdgcaa

namespace Go.Proofs.Ytcddopooofdgcaa
open Go.Ev Go.Sp
set_option maxRecDepth 100000
theorem vc_near : vcFn Try.prog [] tab [] 100 43 sigNear = (allB fun n0 : Int => 
impB ((-4398046511104 : Int) ≤ n0) (
impB (n0 ≤ (4398046511104 : Int)) (
allB fun n1 : Int => 
impB ((-9223372036854775808 : Int) ≤ n1) (
impB (n1 ≤ (9223372036854775807 : Int)) (
allB fun n2 : Int => 
impB ((-9223372036854775808 : Int) ≤ n2) (
impB (n2 ≤ (9223372036854775807 : Int)) (
impB (sigNear.pre [DV.n n0, DV.n n1, DV.n n2]) (
bR (dec (n2 < (0 : Int))) (
 allB fun n3 : Int => 
 impB (n3 = Go.IntKind.i64.wrap ((0 : Int) - n1)) (
 impB (Int.negSucc (9223372036854775807 : Nat) ≤ n3) (
 impB (n3 ≤ Int.ofNat (9223372036854775807 : Nat)) (
 allB fun n4 : Int => 
 impB (n4 = Go.IntKind.i64.wrap ((0 : Int) - n2)) (
 impB (Int.negSucc (9223372036854775807 : Nat) ≤ n4) (
 impB (n4 ≤ Int.ofNat (9223372036854775807 : Nat)) (
 bR (dec (n3 < (0 : Int))) (
 allB fun n5 : Int => 
 impB (n5 = Go.IntKind.i64.wrap ((0 : Int) - n3)) (
 impB (Int.negSucc (9223372036854775807 : Nat) ≤ n5) (
 impB (n5 ≤ Int.ofNat (9223372036854775807 : Nat)) (
 allB fun n6 : Int => 
 impB (n6 = Go.IntKind.i64.wrap (((0 : Int) - n0) * n4)) (
 impB (Int.negSucc (9223372036854775807 : Nat) ≤ n6) (
 impB (n6 ≤ Int.ofNat (9223372036854775807 : Nat)) (
 allB fun n7 : Int => 
 impB (n7 = Go.IntKind.i64.wrap (n6 - n5)) (
 impB (Int.negSucc (9223372036854775807 : Nat) ≤ n7) (
 impB (n7 ≤ Int.ofNat (9223372036854775807 : Nat)) (
 allB fun n8 : Int => 
 impB (n8 = Go.IntKind.i64.wrap ((2 : Int) * n7)) (
 impB (Int.negSucc (9223372036854775807 : Nat) ≤ n8) (
 impB (n8 ≤ Int.ofNat (9223372036854775807 : Nat)) (
 allB fun n9 : Int => 
 impB (n9 = Go.IntKind.i64.wrap ((0 : Int) - n4)) (
 impB (Int.negSucc (9223372036854775807 : Nat) ≤ n9) (
 impB (n9 ≤ Int.ofNat (9223372036854775807 : Nat)) (
 bR (dec (n9 < n8)) (
 reqB (sigNear.post [DV.n n0, DV.n n1, DV.n n2] [DV.b (dec (n8 ≤ n4))]) (
 true)) (
 reqB (sigNear.post [DV.n n0, DV.n n1, DV.n n2] [DV.b Bool.false]) (
 true)))))))))))))))))) (
 allB fun n10 : Int => 
 impB (n10 = Go.IntKind.i64.wrap (n0 * n4)) (
 impB (Int.negSucc (9223372036854775807 : Nat) ≤ n10) (
 impB (n10 ≤ Int.ofNat (9223372036854775807 : Nat)) (
 allB fun n11 : Int => 
 impB (n11 = Go.IntKind.i64.wrap (n10 - n3)) (
 impB (Int.negSucc (9223372036854775807 : Nat) ≤ n11) (
 impB (n11 ≤ Int.ofNat (9223372036854775807 : Nat)) (
 allB fun n12 : Int => 
 impB (n12 = Go.IntKind.i64.wrap ((2 : Int) * n11)) (
 impB (Int.negSucc (9223372036854775807 : Nat) ≤ n12) (
 impB (n12 ≤ Int.ofNat (9223372036854775807 : Nat)) (
 allB fun n13 : Int => 
 impB (n13 = Go.IntKind.i64.wrap ((0 : Int) - n4)) (
 impB (Int.negSucc (9223372036854775807 : Nat) ≤ n13) (
 impB (n13 ≤ Int.ofNat (9223372036854775807 : Nat)) (
 bR (dec (n13 < n12)) (
 reqB (sigNear.post [DV.n n0, DV.n n1, DV.n n2] [DV.b (dec (n12 ≤ n4))]) (
 true)) (
 reqB (sigNear.post [DV.n n0, DV.n n1, DV.n n2] [DV.b Bool.false]) (
 true)))))))))))))))))))))) (
 bR (dec (n1 < (0 : Int))) (
 allB fun n14 : Int => 
 impB (n14 = Go.IntKind.i64.wrap ((0 : Int) - n1)) (
 impB (Int.negSucc (9223372036854775807 : Nat) ≤ n14) (
 impB (n14 ≤ Int.ofNat (9223372036854775807 : Nat)) (
 allB fun n15 : Int => 
 impB (n15 = Go.IntKind.i64.wrap (((0 : Int) - n0) * n2)) (
 impB (Int.negSucc (9223372036854775807 : Nat) ≤ n15) (
 impB (n15 ≤ Int.ofNat (9223372036854775807 : Nat)) (
 allB fun n16 : Int => 
 impB (n16 = Go.IntKind.i64.wrap (n15 - n14)) (
 impB (Int.negSucc (9223372036854775807 : Nat) ≤ n16) (
 impB (n16 ≤ Int.ofNat (9223372036854775807 : Nat)) (
 allB fun n17 : Int => 
 impB (n17 = Go.IntKind.i64.wrap ((2 : Int) * n16)) (
 impB (Int.negSucc (9223372036854775807 : Nat) ≤ n17) (
 impB (n17 ≤ Int.ofNat (9223372036854775807 : Nat)) (
 allB fun n18 : Int => 
 impB (n18 = Go.IntKind.i64.wrap ((0 : Int) - n2)) (
 impB (Int.negSucc (9223372036854775807 : Nat) ≤ n18) (
 impB (n18 ≤ Int.ofNat (9223372036854775807 : Nat)) (
 bR (dec (n18 < n17)) (
 reqB (sigNear.post [DV.n n0, DV.n n1, DV.n n2] [DV.b (dec (n17 ≤ n2))]) (
 true)) (
 reqB (sigNear.post [DV.n n0, DV.n n1, DV.n n2] [DV.b Bool.false]) (
 true)))))))))))))))))) (
 allB fun n19 : Int => 
 impB (n19 = Go.IntKind.i64.wrap (n0 * n2)) (
 impB (Int.negSucc (9223372036854775807 : Nat) ≤ n19) (
 impB (n19 ≤ Int.ofNat (9223372036854775807 : Nat)) (
 allB fun n20 : Int => 
 impB (n20 = Go.IntKind.i64.wrap (n19 - n1)) (
 impB (Int.negSucc (9223372036854775807 : Nat) ≤ n20) (
 impB (n20 ≤ Int.ofNat (9223372036854775807 : Nat)) (
 allB fun n21 : Int => 
 impB (n21 = Go.IntKind.i64.wrap ((2 : Int) * n20)) (
 impB (Int.negSucc (9223372036854775807 : Nat) ≤ n21) (
 impB (n21 ≤ Int.ofNat (9223372036854775807 : Nat)) (
 allB fun n22 : Int => 
 impB (n22 = Go.IntKind.i64.wrap ((0 : Int) - n2)) (
 impB (Int.negSucc (9223372036854775807 : Nat) ≤ n22) (
 impB (n22 ≤ Int.ofNat (9223372036854775807 : Nat)) (
 bR (dec (n22 < n21)) (
 reqB (sigNear.post [DV.n n0, DV.n n1, DV.n n2] [DV.b (dec (n21 ≤ n2))]) (
 true)) (
 reqB (sigNear.post [DV.n n0, DV.n n1, DV.n n2] [DV.b Bool.false]) (
 true)))))))))))))))))))))))) := by kernel_rfl
set_option maxHeartbeats 8000000 in
theorem vt_near : vcFn Try.prog [] tab [] 100 43 sigNear = true := by
  rw [vc_near]
  try simp only [Int.toNat_natCast, List.length_set, List.length_replicate, List.length_take, List.length_drop, List.length_append, List.length_cons, List.length_nil, Nat.min_self, List.take_take, lenCols_i, lenCols_b, List.drop_zero, List.take_length, Nat.add_eq, Nat.mul_eq, Nat.sub_eq, Nat.zero_add, Nat.sub_zero, Nat.mul_one]
  refine all_i fun n0 => ?_
  refine imp_i fun h0 => ?_
  refine imp_i fun h1 => ?_
  refine all_i fun n1 => ?_
  refine imp_i fun h2 => ?_
  refine imp_i fun h3 => ?_
  refine all_i fun n2 => ?_
  refine imp_i fun h4 => ?_
  refine imp_i fun h5 => ?_
  refine imp_i fun h6 => ?_
  try simp only [sigNear, nearPre, List.cons.injEq, DV.b.injEq, and_true, List.length_cons, List.length_nil] at h6
  obtain ⟨u0, oA, uA, c1, c2⟩ := h6
  have o1 : -4398046511104 ≤ n1 ∧ n1 ≤ 4398046511104 := by unfold absI at oA; omega
  refine bR_dec (fun h7 => ?_) (fun h7 => ?_)
  ·
   have d2 : absI n2 = -n2 := by unfold absI; omega
   rw [d2] at c1 c2 uA
   refine all_i fun n3 => ?_
   refine imp_i fun h8 => ?_
   simp only [wrap_i64] at h8
   replace h8 : n3 = -n1 := by omega
   refine imp_i fun h9 => ?_
   refine imp_i fun h10 => ?_
   refine all_i fun n4 => ?_
   refine imp_i fun h11 => ?_
   simp only [wrap_i64] at h11
   replace h11 : n4 = -n2 := by omega
   refine imp_i fun h12 => ?_
   refine imp_i fun h13 => ?_
   refine bR_dec (fun h14 => ?_) (fun h14 => ?_)
   ·
    refine all_i fun n5 => ?_
    refine imp_i fun h15 => ?_
    simp only [wrap_i64] at h15
    replace h15 : n5 = n1 := by omega
    refine imp_i fun h16 => ?_
    refine imp_i fun h17 => ?_
    refine all_i fun n6 => ?_
    refine imp_i fun h18 => ?_
    simp only [wrap_i64] at h18
    have e : (0 - n0) * n4 = n0 * n2 := by rw [h11]; grind
    rw [e] at h18
    replace h18 : n6 = n0 * n2 := by omega
    refine imp_i fun h19 => ?_
    refine imp_i fun h20 => ?_
    refine all_i fun n7 => ?_
    refine imp_i fun h21 => ?_
    simp only [wrap_i64] at h21
    replace h21 : n7 = n0 * n2 - n1 := by omega
    refine imp_i fun h22 => ?_
    refine imp_i fun h23 => ?_
    refine all_i fun n8 => ?_
    refine imp_i fun h24 => ?_
    simp only [wrap_i64] at h24
    replace h24 : n8 = 2 * (n0 * n2 - n1) := by omega
    refine imp_i fun h25 => ?_
    refine imp_i fun h26 => ?_
    refine all_i fun n9 => ?_
    refine imp_i fun h27 => ?_
    simp only [wrap_i64] at h27
    replace h27 : n9 = n2 := by omega
    refine imp_i fun h28 => ?_
    refine imp_i fun h29 => ?_
    refine bR_dec (fun h30 => ?_) (fun h30 => ?_)
    ·
     refine req_i ?_ ?_
     · -- r0
      simp only [sigNear]; rw [dec_iff.2 (by omega)]
     rfl
    ·
     refine req_i ?_ ?_
     · -- r1
      exfalso; omega
     rfl
   ·
    refine all_i fun n10 => ?_
    refine imp_i fun h31 => ?_
    simp only [wrap_i64] at h31
    have e : n0 * n4 = -(n0 * n2) := by rw [h11]; grind
    rw [e] at h31
    replace h31 : n10 = -(n0 * n2) := by omega
    refine imp_i fun h32 => ?_
    refine imp_i fun h33 => ?_
    refine all_i fun n11 => ?_
    refine imp_i fun h34 => ?_
    simp only [wrap_i64] at h34
    replace h34 : n11 = n1 - n0 * n2 := by omega
    refine imp_i fun h35 => ?_
    refine imp_i fun h36 => ?_
    refine all_i fun n12 => ?_
    refine imp_i fun h37 => ?_
    simp only [wrap_i64] at h37
    replace h37 : n12 = 2 * (n1 - n0 * n2) := by omega
    refine imp_i fun h38 => ?_
    refine imp_i fun h39 => ?_
    refine all_i fun n13 => ?_
    refine imp_i fun h40 => ?_
    simp only [wrap_i64] at h40
    replace h40 : n13 = n2 := by omega
    refine imp_i fun h41 => ?_
    refine imp_i fun h42 => ?_
    refine bR_dec (fun h43 => ?_) (fun h43 => ?_)
    ·
     refine req_i ?_ ?_
     · -- r2
      simp only [sigNear]; rw [dec_iff.2 (by omega)]
     rfl
    ·
     refine req_i ?_ ?_
     · -- r3
      exfalso; omega
     rfl
  ·
   have d2 : absI n2 = n2 := by unfold absI; omega
   rw [d2] at c1 c2 uA
   refine bR_dec (fun h44 => ?_) (fun h44 => ?_)
   ·
    refine all_i fun n14 => ?_
    refine imp_i fun h45 => ?_
    simp only [wrap_i64] at h45
    replace h45 : n14 = -n1 := by omega
    refine imp_i fun h46 => ?_
    refine imp_i fun h47 => ?_
    refine all_i fun n15 => ?_
    refine imp_i fun h48 => ?_
    simp only [wrap_i64] at h48
    have e : (0 - n0) * n2 = -(n0 * n2) := by grind
    rw [e] at h48
    replace h48 : n15 = -(n0 * n2) := by omega
    refine imp_i fun h49 => ?_
    refine imp_i fun h50 => ?_
    refine all_i fun n16 => ?_
    refine imp_i fun h51 => ?_
    simp only [wrap_i64] at h51
    replace h51 : n16 = n1 - n0 * n2 := by omega
    refine imp_i fun h52 => ?_
    refine imp_i fun h53 => ?_
    refine all_i fun n17 => ?_
    refine imp_i fun h54 => ?_
    simp only [wrap_i64] at h54
    replace h54 : n17 = 2 * (n1 - n0 * n2) := by omega
    refine imp_i fun h55 => ?_
    refine imp_i fun h56 => ?_
    refine all_i fun n18 => ?_
    refine imp_i fun h57 => ?_
    simp only [wrap_i64] at h57
    replace h57 : n18 = -n2 := by omega
    refine imp_i fun h58 => ?_
    refine imp_i fun h59 => ?_
    refine bR_dec (fun h60 => ?_) (fun h60 => ?_)
    ·
     refine req_i ?_ ?_
     · -- r4
      simp only [sigNear]; rw [dec_iff.2 (by omega)]
     rfl
    ·
     refine req_i ?_ ?_
     · -- r5
      exfalso; omega
     rfl
   ·
    refine all_i fun n19 => ?_
    refine imp_i fun h61 => ?_
    simp only [wrap_i64] at h61
    replace h61 : n19 = n0 * n2 := by omega
    refine imp_i fun h62 => ?_
    refine imp_i fun h63 => ?_
    refine all_i fun n20 => ?_
    refine imp_i fun h64 => ?_
    simp only [wrap_i64] at h64
    replace h64 : n20 = n0 * n2 - n1 := by omega
    refine imp_i fun h65 => ?_
    refine imp_i fun h66 => ?_
    refine all_i fun n21 => ?_
    refine imp_i fun h67 => ?_
    simp only [wrap_i64] at h67
    replace h67 : n21 = 2 * (n0 * n2 - n1) := by omega
    refine imp_i fun h68 => ?_
    refine imp_i fun h69 => ?_
    refine all_i fun n22 => ?_
    refine imp_i fun h70 => ?_
    simp only [wrap_i64] at h70
    replace h70 : n22 = -n2 := by omega
    refine imp_i fun h71 => ?_
    refine imp_i fun h72 => ?_
    refine bR_dec (fun h73 => ?_) (fun h73 => ?_)
    ·
     refine req_i ?_ ?_
     · -- r6
      simp only [sigNear]; rw [dec_iff.2 (by omega)]
     rfl
    ·
     refine req_i ?_ ?_
     · -- r7
      exfalso; omega
     rfl
theorem ext_near : ∀ p ∈ ([] : List (Nat × Ext)), ExtRow Try.prog p.1 p.2 := by
  intro p hp
  cases hp
theorem cts_near : CtsOk Try.prog [] := fun f c h => by cases h
theorem fn_near : FnOk Try.prog 43 sigNear [] := fn_sound (by kernel_rfl) ext_near cts_near names vt_near
end Go.Proofs.Ytcddopooofdgcaa

namespace Go.Proofs.Ytcddopooofdgcaa
open Go.Ev Go.Sp
set_option maxRecDepth 100000
theorem vc_size : vcFn Try.prog [] tab [] 100 46 sigSize = (allB fun n0 : Int => 
impB ((-9223372036854775808 : Int) ≤ n0) (
impB (n0 ≤ (9223372036854775807 : Int)) (
impB (sigSize.pre [DV.n n0]) (
bR (dec (n0 < (0 : Int))) (
 allB fun n1 : Int => 
 impB (n1 = Go.IntKind.u64.wrap n0) (
 impB (Int.ofNat (0 : Nat) ≤ n1) (
 impB (n1 ≤ Int.ofNat (18446744073709551615 : Nat)) (
 allB fun n2 : Int => 
 impB (n2 = Go.IntKind.u64.wrap ((0 : Int) - n1)) (
 impB (Int.ofNat (0 : Nat) ≤ n2) (
 impB (n2 ≤ Int.ofNat (18446744073709551615 : Nat)) (
 reqB ((0 : Int) ≤ n2) (
 reqB (n2 ≤ (9223372036854775808 : Int)) (
 reqB (sigSize.post [DV.n n0] [DV.n n2]) (
 true)))))))))) (
 allB fun n3 : Int => 
 impB (n3 = Go.IntKind.u64.wrap n0) (
 impB (Int.ofNat (0 : Nat) ≤ n3) (
 impB (n3 ≤ Int.ofNat (18446744073709551615 : Nat)) (
 reqB ((0 : Int) ≤ n3) (
 reqB (n3 ≤ (9223372036854775808 : Int)) (
 reqB (sigSize.post [DV.n n0] [DV.n n3]) (
 true))))))))))) := by kernel_rfl
set_option maxHeartbeats 8000000 in
theorem vt_size : vcFn Try.prog [] tab [] 100 46 sigSize = true := by
  rw [vc_size]
  try simp only [Int.toNat_natCast, List.length_set, List.length_replicate, List.length_take, List.length_drop, List.length_append, List.length_cons, List.length_nil, Nat.min_self, List.take_take, lenCols_i, lenCols_b, List.drop_zero, List.take_length, Nat.add_eq, Nat.mul_eq, Nat.sub_eq, Nat.zero_add, Nat.sub_zero, Nat.mul_one]
  refine all_i fun n0 => ?_
  refine imp_i fun h0 => ?_
  refine imp_i fun h1 => ?_
  refine imp_i fun h2 => ?_
  try simp only [sigSize, sizePost, absI, List.cons.injEq, DV.b.injEq, and_true, List.length_cons, List.length_nil] at h2
  refine bR_dec (fun h3 => ?_) (fun h3 => ?_)
  ·
   refine all_i fun n1 => ?_
   refine imp_i fun h4 => ?_
   simp only [wrap_u64] at h4
   refine imp_i fun h5 => ?_
   refine imp_i fun h6 => ?_
   refine all_i fun n2 => ?_
   refine imp_i fun h7 => ?_
   simp only [wrap_u64] at h7
   refine imp_i fun h8 => ?_
   refine imp_i fun h9 => ?_
   refine req_i ?_ ?_
   · -- r0
    first | omega | assumption | grind
   refine req_i ?_ ?_
   · -- r1
    first | omega | assumption | grind
   refine req_i ?_ ?_
   · -- r2
    first | omega | ((try simp only [sigSize, sizePost, absI, List.cons.injEq, DV.b.injEq, and_true, List.length_cons, List.length_nil]); first | done | omega | assumption | grind [getD_set, getD_rep, toNat_succ, cntN_yes, cntN_no])
   rfl
  ·
   refine all_i fun n3 => ?_
   refine imp_i fun h10 => ?_
   simp only [wrap_u64] at h10
   refine imp_i fun h11 => ?_
   refine imp_i fun h12 => ?_
   refine req_i ?_ ?_
   · -- r3
    first | omega | assumption | grind
   refine req_i ?_ ?_
   · -- r4
    first | omega | assumption | grind
   refine req_i ?_ ?_
   · -- r5
    first | omega | ((try simp only [sigSize, sizePost, absI, List.cons.injEq, DV.b.injEq, and_true, List.length_cons, List.length_nil]); first | done | omega | assumption | grind [getD_set, getD_rep, toNat_succ, cntN_yes, cntN_no])
   rfl
theorem ext_size : ∀ p ∈ ([] : List (Nat × Ext)), ExtRow Try.prog p.1 p.2 := by
  intro p hp
  cases hp
theorem cts_size : CtsOk Try.prog [] := fun f c h => by cases h
theorem fn_size : FnOk Try.prog 46 sigSize [] := fn_sound (by kernel_rfl) ext_size cts_size names vt_size
end Go.Proofs.Ytcddopooofdgcaa

namespace Go.Proofs.Ytcddopooofdgcaa
open Go.Ev Go.Sp
set_option maxRecDepth 100000
theorem vc_mul64 : vcFn Try.prog [] tab [] 100 62 sigMul = (allB fun n0 : Int => 
impB ((0 : Int) ≤ n0) (
impB (n0 ≤ (18446744073709551615 : Int)) (
allB fun n1 : Int => 
impB ((0 : Int) ≤ n1) (
impB (n1 ≤ (18446744073709551615 : Int)) (
impB (sigMul.pre [DV.n n0, DV.n n1]) (
allB fun n2 : Int => 
impB (n2 = Go.IntKind.u64.wrap (n0 * n1)) (
impB (Int.ofNat (0 : Nat) ≤ n2) (
impB (n2 ≤ Int.ofNat (18446744073709551615 : Nat)) (
reqB ((0 : Int) ≤
 n0 / Int.ofNat (4294967296 : Nat) * (n1 / Int.ofNat (4294967296 : Nat)) +
 (n0 / Int.ofNat (4294967296 : Nat) * (n1 % Int.ofNat (4294967296 : Nat)) +
 n0 % Int.ofNat (4294967296 : Nat) * (n1 % Int.ofNat (4294967296 : Nat)) / Int.ofNat (4294967296 : Nat)) /
 Int.ofNat (4294967296 : Nat) +
 ((n0 / Int.ofNat (4294967296 : Nat) * (n1 % Int.ofNat (4294967296 : Nat)) +
 n0 % Int.ofNat (4294967296 : Nat) * (n1 % Int.ofNat (4294967296 : Nat)) / Int.ofNat (4294967296 : Nat)) %
 Int.ofNat (4294967296 : Nat) +
 n0 % Int.ofNat (4294967296 : Nat) * (n1 / Int.ofNat (4294967296 : Nat))) /
 Int.ofNat (4294967296 : Nat)) (
reqB (n0 / Int.ofNat (4294967296 : Nat) * (n1 / Int.ofNat (4294967296 : Nat)) +
 (n0 / Int.ofNat (4294967296 : Nat) * (n1 % Int.ofNat (4294967296 : Nat)) +
 n0 % Int.ofNat (4294967296 : Nat) * (n1 % Int.ofNat (4294967296 : Nat)) / Int.ofNat (4294967296 : Nat)) /
 Int.ofNat (4294967296 : Nat) +
 ((n0 / Int.ofNat (4294967296 : Nat) * (n1 % Int.ofNat (4294967296 : Nat)) +
 n0 % Int.ofNat (4294967296 : Nat) * (n1 % Int.ofNat (4294967296 : Nat)) / Int.ofNat (4294967296 : Nat)) %
 Int.ofNat (4294967296 : Nat) +
 n0 % Int.ofNat (4294967296 : Nat) * (n1 / Int.ofNat (4294967296 : Nat))) /
 Int.ofNat (4294967296 : Nat) ≤
 (18446744073709551615 : Int)) (
reqB ((0 : Int) ≤ n2) (
reqB (n2 ≤ (18446744073709551615 : Int)) (
reqB (sigMul.post [DV.n n0, DV.n n1]
 [DV.n
 (n0 / Int.ofNat (4294967296 : Nat) * (n1 / Int.ofNat (4294967296 : Nat)) +
 (n0 / Int.ofNat (4294967296 : Nat) * (n1 % Int.ofNat (4294967296 : Nat)) +
 n0 % Int.ofNat (4294967296 : Nat) * (n1 % Int.ofNat (4294967296 : Nat)) / Int.ofNat (4294967296 : Nat)) /
 Int.ofNat (4294967296 : Nat) +
 ((n0 / Int.ofNat (4294967296 : Nat) * (n1 % Int.ofNat (4294967296 : Nat)) +
 n0 % Int.ofNat (4294967296 : Nat) * (n1 % Int.ofNat (4294967296 : Nat)) /
 Int.ofNat (4294967296 : Nat)) %
 Int.ofNat (4294967296 : Nat) +
 n0 % Int.ofNat (4294967296 : Nat) * (n1 / Int.ofNat (4294967296 : Nat))) /
 Int.ofNat (4294967296 : Nat)),
 DV.n n2]) (
true)))))))))))))) := by kernel_rfl
set_option maxHeartbeats 8000000 in
theorem vt_mul64 : vcFn Try.prog [] tab [] 100 62 sigMul = true := by
  rw [vc_mul64]
  try simp only [Int.toNat_natCast, List.length_set, List.length_replicate, List.length_take, List.length_drop, List.length_append, List.length_cons, List.length_nil, Nat.min_self, List.take_take, lenCols_i, lenCols_b, List.drop_zero, List.take_length, Nat.add_eq, Nat.mul_eq, Nat.sub_eq, Nat.zero_add, Nat.sub_zero, Nat.mul_one]
  refine all_i fun n0 => ?_
  refine imp_i fun h0 => ?_
  refine imp_i fun h1 => ?_
  refine all_i fun n1 => ?_
  refine imp_i fun h2 => ?_
  refine imp_i fun h3 => ?_
  refine imp_i fun h4 => ?_
  try simp only [sigMul, mulPost, List.cons.injEq, DV.b.injEq, and_true, List.length_cons, List.length_nil] at h4
  have m := mul64_eq (x := n0) (y := n1) (by omega) (by omega) (by omega) (by omega)
  refine all_i fun n2 => ?_
  refine imp_i fun h5 => ?_
  simp only [wrap_u64] at h5
  simp only [show Int.ofNat 4294967296 = 4294967296 from rfl]
  rw [m.2.2]
  refine imp_i fun h6 => ?_
  refine imp_i fun h7 => ?_
  refine req_i ?_ ?_
  · -- r0
   first | omega | assumption | grind
  refine req_i ?_ ?_
  · -- r1
   first | omega | assumption | grind
  refine req_i ?_ ?_
  · -- r2
   first | omega | assumption | grind
  refine req_i ?_ ?_
  · -- r3
   first | omega | assumption | grind
  refine req_i ?_ ?_
  · -- r4
   first | omega | ((try simp only [sigMul, mulPost, List.cons.injEq, DV.b.injEq, and_true, List.length_cons, List.length_nil]); first | done | omega | assumption | grind [getD_set, getD_rep, toNat_succ, cntN_yes, cntN_no])
  rfl
theorem ext_mul64 : ∀ p ∈ ([] : List (Nat × Ext)), ExtRow Try.prog p.1 p.2 := by
  intro p hp
  cases hp
theorem cts_mul64 : CtsOk Try.prog [] := fun f c h => by cases h
theorem fn_mul64 : FnOk Try.prog 62 sigMul [] := fn_sound (by kernel_rfl) ext_mul64 cts_mul64 names vt_mul64
end Go.Proofs.Ytcddopooofdgcaa

namespace Go.Proofs.Ytcddopooofdgcaa
open Go.Ev Go.Sp
set_option maxRecDepth 100000
theorem vc_times : vcFn Try.prog [(46, Ext.ctr (ctOf sigSize)), (62, Ext.ctr (ctOf sigMul))] tab [] 100 51 sigTimes = (allB fun n0 : Int => 
impB ((-9223372036854775808 : Int) ≤ n0) (
impB (n0 ≤ (9223372036854775807 : Int)) (
allB fun n1 : Int => 
impB ((-9223372036854775808 : Int) ≤ n1) (
impB (n1 ≤ (9223372036854775807 : Int)) (
impB (sigTimes.pre [DV.n n0, DV.n n1]) (
reqB ((-9223372036854775808 : Int) ≤ n0) (
reqB (n0 ≤ (9223372036854775807 : Int)) (
reqB (sigSize.pre [DV.n n0]) (
allB fun n2 : Int => 
impB ((0 : Int) ≤ n2) (
impB (n2 ≤ (9223372036854775808 : Int)) (
impB (sigSize.post [DV.n n0] [DV.n n2]) (
reqB ((-9223372036854775808 : Int) ≤ n1) (
reqB (n1 ≤ (9223372036854775807 : Int)) (
reqB (sigSize.pre [DV.n n1]) (
allB fun n3 : Int => 
impB ((0 : Int) ≤ n3) (
impB (n3 ≤ (9223372036854775808 : Int)) (
impB (sigSize.post [DV.n n1] [DV.n n3]) (
reqB ((0 : Int) ≤ n2) (
reqB (n2 ≤ (18446744073709551615 : Int)) (
reqB ((0 : Int) ≤ n3) (
reqB (n3 ≤ (18446744073709551615 : Int)) (
reqB (sigMul.pre [DV.n n2, DV.n n3]) (
allB fun n4 : Int => 
impB ((0 : Int) ≤ n4) (
impB (n4 ≤ (18446744073709551615 : Int)) (
allB fun n5 : Int => 
impB ((0 : Int) ≤ n5) (
impB (n5 ≤ (18446744073709551615 : Int)) (
impB (sigMul.post [DV.n n2, DV.n n3] [DV.n n4, DV.n n5]) (
reqB ((0 : Int) ≤ n4) (
reqB (n4 ≤ (18446744073709551615 : Int)) (
reqB ((0 : Int) ≤ n5) (
reqB (n5 ≤ (18446744073709551615 : Int)) (
reqB (sigTimes.post [DV.n n0, DV.n n1] [DV.n n4, DV.n n5]) (
true))))))))))))))))))))))))))))))))) := by kernel_rfl
set_option maxHeartbeats 8000000 in
theorem vt_times : vcFn Try.prog [(46, Ext.ctr (ctOf sigSize)), (62, Ext.ctr (ctOf sigMul))] tab [] 100 51 sigTimes = true := by
  rw [vc_times]
  try simp only [Int.toNat_natCast, List.length_set, List.length_replicate, List.length_take, List.length_drop, List.length_append, List.length_cons, List.length_nil, Nat.min_self, List.take_take, lenCols_i, lenCols_b, List.drop_zero, List.take_length, Nat.add_eq, Nat.mul_eq, Nat.sub_eq, Nat.zero_add, Nat.sub_zero, Nat.mul_one]
  refine all_i fun n0 => ?_
  refine imp_i fun h0 => ?_
  refine imp_i fun h1 => ?_
  refine all_i fun n1 => ?_
  refine imp_i fun h2 => ?_
  refine imp_i fun h3 => ?_
  refine imp_i fun h4 => ?_
  try simp only [sigTimes, timesPost, List.cons.injEq, DV.b.injEq, and_true, List.length_cons, List.length_nil] at h4
  refine req_i ?_ ?_
  · -- r0
   first | omega | assumption | grind
  refine req_i ?_ ?_
  · -- r1
   first | omega | assumption | grind
  refine req_i ?_ ?_
  · -- r2
   first | trivial | assumption | (simp only [sigSize, sizePost, List.cons.injEq, DV.b.injEq, and_true, List.length_cons, List.length_nil]; done) | ((try simp only [sigSize, sizePost, List.cons.injEq, DV.b.injEq, and_true, List.length_cons, List.length_nil]); first | omega | assumption | grind)
  refine all_i fun n2 => ?_
  refine imp_i fun h5 => ?_
  refine imp_i fun h6 => ?_
  refine imp_i fun h7 => ?_
  try simp only [sigSize, sizePost, List.cons.injEq, DV.b.injEq, and_true, List.length_cons, List.length_nil] at h7
  refine req_i ?_ ?_
  · -- r3
   first | omega | assumption | grind
  refine req_i ?_ ?_
  · -- r4
   first | omega | assumption | grind
  refine req_i ?_ ?_
  · -- r5
   first | trivial | assumption | (simp only [sigSize, sizePost, List.cons.injEq, DV.b.injEq, and_true, List.length_cons, List.length_nil]; done) | ((try simp only [sigSize, sizePost, List.cons.injEq, DV.b.injEq, and_true, List.length_cons, List.length_nil]); first | omega | assumption | grind)
  refine all_i fun n3 => ?_
  refine imp_i fun h8 => ?_
  refine imp_i fun h9 => ?_
  refine imp_i fun h10 => ?_
  try simp only [sigSize, sizePost, List.cons.injEq, DV.b.injEq, and_true, List.length_cons, List.length_nil] at h10
  refine req_i ?_ ?_
  · -- r6
   first | omega | assumption | grind
  refine req_i ?_ ?_
  · -- r7
   first | omega | assumption | grind
  refine req_i ?_ ?_
  · -- r8
   first | omega | assumption | grind
  refine req_i ?_ ?_
  · -- r9
   first | omega | assumption | grind
  refine req_i ?_ ?_
  · -- r10
   first | trivial | assumption | (simp only [sigMul, mulPost, List.cons.injEq, DV.b.injEq, and_true, List.length_cons, List.length_nil]; done) | ((try simp only [sigMul, mulPost, List.cons.injEq, DV.b.injEq, and_true, List.length_cons, List.length_nil]); first | omega | assumption | grind)
  refine all_i fun n4 => ?_
  refine imp_i fun h11 => ?_
  refine imp_i fun h12 => ?_
  refine all_i fun n5 => ?_
  refine imp_i fun h13 => ?_
  refine imp_i fun h14 => ?_
  refine imp_i fun h15 => ?_
  try simp only [sigMul, mulPost, List.cons.injEq, DV.b.injEq, and_true, List.length_cons, List.length_nil] at h15
  refine req_i ?_ ?_
  · -- r11
   first | omega | assumption | grind
  refine req_i ?_ ?_
  · -- r12
   first | omega | assumption | grind
  refine req_i ?_ ?_
  · -- r13
   first | omega | assumption | grind
  refine req_i ?_ ?_
  · -- r14
   first | omega | assumption | grind
  refine req_i ?_ ?_
  · -- r15
   first | omega | ((try simp only [sigTimes, timesPost, List.cons.injEq, DV.b.injEq, and_true, List.length_cons, List.length_nil]); first | done | omega | assumption | grind [getD_set, getD_rep, toNat_succ, cntN_yes, cntN_no])
  rfl
theorem ext_times : ∀ p ∈ ([(46, Ext.ctr (ctOf sigSize)), (62, Ext.ctr (ctOf sigMul))] : List (Nat × Ext)), ExtRow Try.prog p.1 p.2 := by
  intro p hp
  simp only [List.mem_cons, List.not_mem_nil, or_false] at hp
  rcases hp with rfl | rfl
  · trivial
  · trivial
theorem cts_times : CtsOk Try.prog [(46, Ext.ctr (ctOf sigSize)), (62, Ext.ctr (ctOf sigMul))] := ctsOk_of (cs := [(46, sigSize), (62, sigMul)])
  (fun p hp => by
    simp only [List.mem_cons, List.not_mem_nil, or_false] at hp
    rcases hp with rfl | rfl
    · exact fn_size
    · exact fn_mul64
)
  (fun f c h => by
    simp only [List.lookup_cons] at h
    repeat' split at h
    all_goals first | (cases h; done) | (rename_i e; have e := beq_iff_eq.1 e; subst e; cases h; refine ⟨_, ?_, rfl⟩; simp))
theorem fn_times : FnOk Try.prog 51 sigTimes [] := fn_sound (by kernel_rfl) ext_times cts_times names vt_times
end Go.Proofs.Ytcddopooofdgcaa

namespace Go.Proofs.Ytcddopooofdgcaa
open Go.Ev Go.Sp
theorem fn_add64 : FnOk Try.prog 54 sigAdd64 [] := Go.Ev.fn_add64 ⟨Try.f54, Try.func54, by kernel_rfl, by kernel_rfl, by kernel_rfl, by kernel_rfl⟩
end Go.Proofs.Ytcddopooofdgcaa

namespace Go.Proofs.Ytcddopooofdgcaa
open Go.Ev Go.Sp
set_option maxRecDepth 100000
theorem vc_down : vcFn Try.prog [(54, Ext.ctr (ctOf sigAdd64))] tab [] 100 47 sigDown = (allB fun n0 : Int => 
impB ((0 : Int) ≤ n0) (
impB (n0 ≤ (18446744073709551615 : Int)) (
allB fun n1 : Int => 
impB ((0 : Int) ≤ n1) (
impB (n1 ≤ (18446744073709551615 : Int)) (
allB fun n2 : Int => 
impB ((0 : Int) ≤ n2) (
impB (n2 ≤ (126 : Int)) (
impB (sigDown.pre [DV.n n0, DV.n n1, DV.n n2]) (
bR (dec (n2 = (0 : Int))) (
 reqB ((0 : Int) ≤ n0) (
 reqB (n0 ≤ (18446744073709551615 : Int)) (
 reqB ((0 : Int) ≤ n1) (
 reqB (n1 ≤ (18446744073709551615 : Int)) (
 reqB (sigDown.post [DV.n n0, DV.n n1, DV.n n2] [DV.n n0, DV.n n1]) (
 true)))))) (
 bR (dec ((64 : Int) < n2)) (
 allB fun n3 : Int => 
 impB (n3 = Go.IntKind.u64.wrap (n2 - (65 : Int))) (
 impB (Int.ofNat (0 : Nat) ≤ n3) (
 impB (n3 ≤ Int.ofNat (18446744073709551615 : Nat)) (
 reqB ((0 : Int) ≤ n1) (
 reqB (n1 ≤ (18446744073709551615 : Int)) (
 reqB (sigAdd64.pre [DV.n n1, DV.n (0 : Int), DV.n (0 : Int)]) (
 allB fun n4 : Int => 
 impB ((0 : Int) ≤ n4) (
 impB (n4 ≤ (18446744073709551615 : Int)) (
 allB fun n5 : Int => 
 impB ((0 : Int) ≤ n5) (
 impB (n5 ≤ (1 : Int)) (
 impB (sigAdd64.post [DV.n n1, DV.n (0 : Int), DV.n (0 : Int)] [DV.n n4, DV.n n5]) (
 reqB ((0 : Int) ≤ n0) (
 reqB (n0 ≤ (18446744073709551615 : Int)) (
 reqB ((0 : Int) ≤ opI (SO.shl Go.IntKind.u64) (1 : Int) n3) (
 reqB (opI (SO.shl Go.IntKind.u64) (1 : Int) n3 ≤ (18446744073709551615 : Int)) (
 reqB ((0 : Int) ≤ n5) (
 reqB (n5 ≤ (1 : Int)) (
 reqB (sigAdd64.pre [DV.n n0, DV.n (opI (SO.shl Go.IntKind.u64) (1 : Int) n3), DV.n n5]) (
 allB fun n6 : Int => 
 impB ((0 : Int) ≤ n6) (
 impB (n6 ≤ (18446744073709551615 : Int)) (
 allB fun n7 : Int => 
 impB ((0 : Int) ≤ n7) (
 impB (n7 ≤ (1 : Int)) (
 impB (sigAdd64.post [DV.n n0, DV.n (opI (SO.shl Go.IntKind.u64) (1 : Int) n3), DV.n n5]
 [DV.n n6, DV.n n7]) (
 bR (dec ((64 : Int) ≤ n2)) (
 allB fun n8 : Int => 
 impB (n8 = Go.IntKind.u64.wrap (n2 - (64 : Int))) (
 impB (Int.ofNat (0 : Nat) ≤ n8) (
 impB (n8 ≤ Int.ofNat (18446744073709551615 : Nat)) (
 reqB ((0 : Int) ≤ opI (SO.shr Go.IntKind.u64) n6 n8) (
 reqB (opI (SO.shr Go.IntKind.u64) n6 n8 ≤ (18446744073709551615 : Int)) (
 reqB (sigDown.post [DV.n n0, DV.n n1, DV.n n2]
 [DV.n (0 : Int), DV.n (opI (SO.shr Go.IntKind.u64) n6 n8)]) (
 true))))))) (
 allB fun n9 : Int => 
 impB (n9 = Go.IntKind.u64.wrap ((64 : Int) - n2)) (
 impB (Int.ofNat (0 : Nat) ≤ n9) (
 impB (n9 ≤ Int.ofNat (18446744073709551615 : Nat)) (
 reqB ((0 : Int) ≤ opI (SO.shr Go.IntKind.u64) n6 n2) (
 reqB (opI (SO.shr Go.IntKind.u64) n6 n2 ≤ (18446744073709551615 : Int)) (
 reqB ((0 : Int) ≤
 opI (SO.or Go.IntKind.u64) (opI (SO.shr Go.IntKind.u64) n4 n2)
 (opI (SO.shl Go.IntKind.u64) n6 n9)) (
 reqB (opI (SO.or Go.IntKind.u64) (opI (SO.shr Go.IntKind.u64) n4 n2)
 (opI (SO.shl Go.IntKind.u64) n6 n9) ≤
 (18446744073709551615 : Int)) (
 reqB (sigDown.post [DV.n n0, DV.n n1, DV.n n2]
 [DV.n (opI (SO.shr Go.IntKind.u64) n6 n2),
 DV.n
 (opI (SO.or Go.IntKind.u64) (opI (SO.shr Go.IntKind.u64) n4 n2)
 (opI (SO.shl Go.IntKind.u64) n6 n9))]) (
 true))))))))))))))))))))))))))))))))) (
 allB fun n10 : Int => 
 impB (n10 = Go.IntKind.u64.wrap (n2 - (1 : Int))) (
 impB (Int.ofNat (0 : Nat) ≤ n10) (
 impB (n10 ≤ Int.ofNat (18446744073709551615 : Nat)) (
 reqB ((0 : Int) ≤ n1) (
 reqB (n1 ≤ (18446744073709551615 : Int)) (
 reqB ((0 : Int) ≤ opI (SO.shl Go.IntKind.u64) (1 : Int) n10) (
 reqB (opI (SO.shl Go.IntKind.u64) (1 : Int) n10 ≤ (18446744073709551615 : Int)) (
 reqB (sigAdd64.pre
 [DV.n n1, DV.n (opI (SO.shl Go.IntKind.u64) (1 : Int) n10), DV.n (0 : Int)]) (
 allB fun n11 : Int => 
 impB ((0 : Int) ≤ n11) (
 impB (n11 ≤ (18446744073709551615 : Int)) (
 allB fun n12 : Int => 
 impB ((0 : Int) ≤ n12) (
 impB (n12 ≤ (1 : Int)) (
 impB (sigAdd64.post
 [DV.n n1, DV.n (opI (SO.shl Go.IntKind.u64) (1 : Int) n10), DV.n (0 : Int)]
 [DV.n n11, DV.n n12]) (
 reqB ((0 : Int) ≤ n0) (
 reqB (n0 ≤ (18446744073709551615 : Int)) (
 reqB ((0 : Int) ≤ n12) (
 reqB (n12 ≤ (1 : Int)) (
 reqB (sigAdd64.pre [DV.n n0, DV.n (0 : Int), DV.n n12]) (
 allB fun n13 : Int => 
 impB ((0 : Int) ≤ n13) (
 impB (n13 ≤ (18446744073709551615 : Int)) (
 allB fun n14 : Int => 
 impB ((0 : Int) ≤ n14) (
 impB (n14 ≤ (1 : Int)) (
 impB (sigAdd64.post [DV.n n0, DV.n (0 : Int), DV.n n12] [DV.n n13, DV.n n14]) (
 bR (dec ((64 : Int) ≤ n2)) (
 allB fun n15 : Int => 
 impB (n15 = Go.IntKind.u64.wrap (n2 - (64 : Int))) (
 impB (Int.ofNat (0 : Nat) ≤ n15) (
 impB (n15 ≤ Int.ofNat (18446744073709551615 : Nat)) (
 reqB ((0 : Int) ≤ opI (SO.shr Go.IntKind.u64) n13 n15) (
 reqB (opI (SO.shr Go.IntKind.u64) n13 n15 ≤ (18446744073709551615 : Int)) (
 reqB (sigDown.post [DV.n n0, DV.n n1, DV.n n2]
 [DV.n (0 : Int), DV.n (opI (SO.shr Go.IntKind.u64) n13 n15)]) (
 true))))))) (
 allB fun n16 : Int => 
 impB (n16 = Go.IntKind.u64.wrap ((64 : Int) - n2)) (
 impB (Int.ofNat (0 : Nat) ≤ n16) (
 impB (n16 ≤ Int.ofNat (18446744073709551615 : Nat)) (
 reqB ((0 : Int) ≤ opI (SO.shr Go.IntKind.u64) n13 n2) (
 reqB (opI (SO.shr Go.IntKind.u64) n13 n2 ≤ (18446744073709551615 : Int)) (
 reqB ((0 : Int) ≤
 opI (SO.or Go.IntKind.u64) (opI (SO.shr Go.IntKind.u64) n11 n2)
 (opI (SO.shl Go.IntKind.u64) n13 n16)) (
 reqB (opI (SO.or Go.IntKind.u64) (opI (SO.shr Go.IntKind.u64) n11 n2)
 (opI (SO.shl Go.IntKind.u64) n13 n16) ≤
 (18446744073709551615 : Int)) (
 reqB (sigDown.post [DV.n n0, DV.n n1, DV.n n2]
 [DV.n (opI (SO.shr Go.IntKind.u64) n13 n2),
 DV.n
 (opI (SO.or Go.IntKind.u64) (opI (SO.shr Go.IntKind.u64) n11 n2)
 (opI (SO.shl Go.IntKind.u64) n13 n16))]) (
 true)))))))))))))))))))))))))))))))))))))))))) := by kernel_rfl
set_option maxHeartbeats 8000000 in
theorem vt_down : vcFn Try.prog [(54, Ext.ctr (ctOf sigAdd64))] tab [] 100 47 sigDown = true := by
  rw [vc_down]
  try simp only [Int.toNat_natCast, List.length_set, List.length_replicate, List.length_take, List.length_drop, List.length_append, List.length_cons, List.length_nil, Nat.min_self, List.take_take, lenCols_i, lenCols_b, List.drop_zero, List.take_length, Nat.add_eq, Nat.mul_eq, Nat.sub_eq, Nat.zero_add, Nat.sub_zero, Nat.mul_one]
  refine all_i fun n0 => ?_
  refine imp_i fun h0 => ?_
  refine imp_i fun h1 => ?_
  refine all_i fun n1 => ?_
  refine imp_i fun h2 => ?_
  refine imp_i fun h3 => ?_
  refine all_i fun n2 => ?_
  refine imp_i fun h4 => ?_
  refine imp_i fun h5 => ?_
  refine imp_i fun h6 => ?_
  try simp only [sigDown, downPre, downPost, List.cons.injEq, DV.b.injEq, and_true, List.length_cons, List.length_nil] at h6
  refine bR_dec (fun h7 => ?_) (fun h7 => ?_)
  ·
   refine req_i ?_ ?_
   · -- r0
    first | omega | assumption | grind
   refine req_i ?_ ?_
   · -- r1
    first | omega | assumption | grind
   refine req_i ?_ ?_
   · -- r2
    first | omega | assumption | grind
   refine req_i ?_ ?_
   · -- r3
    first | omega | assumption | grind
   refine req_i ?_ ?_
   · -- r4
    simp only [sigDown, downPost, shR]; rw [if_pos h7]
   rfl
  ·
   have hp := p2_pos (n2 - 1)
   have es : shR (n0 * 18446744073709551616 + n1) n2 = (n0 * 18446744073709551616 + n1 + p2 (n2 - 1)) / p2 n2 := by rw [shR, if_neg h7]
   refine bR_dec (fun h8 => ?_) (fun h8 => ?_)
   ·
    refine all_i fun n3 => ?_
    refine imp_i fun h9 => ?_
    simp only [wrap_u64] at h9
    have e3 : n3 = n2 - 65 := by omega
    rw [e3, shlU_one (by omega) (by omega)]
    have q1 : p2 (n2 - 65) ≤ p2 61 := p2_mono (by omega)
    rw [show p2 61 = 2305843009213693952 by decide] at q1
    have q2 := p2_pos (n2 - 65)
    have q3 : p2 (n2 - 1) = p2 (n2 - 65) * 18446744073709551616 := by rw [show (18446744073709551616 : Int) = p2 64 by decide, ← p2_add (by omega) (by omega), show n2 - 65 + 64 = n2 - 1 by omega]
    refine imp_i fun h10 => ?_
    refine imp_i fun h11 => ?_
    refine req_i ?_ ?_
    · -- r5
     first | omega | assumption | grind
    refine req_i ?_ ?_
    · -- r6
     first | omega | assumption | grind
    refine req_i ?_ ?_
    · -- r7
     first | trivial | assumption | (simp only [sigAdd64, add64Post, List.cons.injEq, DV.b.injEq, and_true, List.length_cons, List.length_nil]; done) | ((try simp only [sigAdd64, add64Post, List.cons.injEq, DV.b.injEq, and_true, List.length_cons, List.length_nil]); first | omega | assumption | grind)
    refine all_i fun n4 => ?_
    refine imp_i fun h12 => ?_
    refine imp_i fun h13 => ?_
    refine all_i fun n5 => ?_
    refine imp_i fun h14 => ?_
    refine imp_i fun h15 => ?_
    refine imp_i fun h16 => ?_
    try simp only [sigAdd64, add64Post, List.cons.injEq, DV.b.injEq, and_true, List.length_cons, List.length_nil] at h16
    refine req_i ?_ ?_
    · -- r8
     first | omega | assumption | grind
    refine req_i ?_ ?_
    · -- r9
     first | omega | assumption | grind
    refine req_i ?_ ?_
    · -- r10
     first | omega | assumption | grind
    refine req_i ?_ ?_
    · -- r11
     first | omega | assumption | grind
    refine req_i ?_ ?_
    · -- r12
     first | omega | assumption | grind
    refine req_i ?_ ?_
    · -- r13
     first | omega | assumption | grind
    refine req_i ?_ ?_
    · -- r14
     first | trivial | assumption | (simp only [sigAdd64, add64Post, List.cons.injEq, DV.b.injEq, and_true, List.length_cons, List.length_nil]; done) | ((try simp only [sigAdd64, add64Post, List.cons.injEq, DV.b.injEq, and_true, List.length_cons, List.length_nil]); first | omega | assumption | grind)
    refine all_i fun n6 => ?_
    refine imp_i fun h17 => ?_
    refine imp_i fun h18 => ?_
    refine all_i fun n7 => ?_
    refine imp_i fun h19 => ?_
    refine imp_i fun h20 => ?_
    refine imp_i fun h21 => ?_
    try simp only [sigAdd64, add64Post, List.cons.injEq, DV.b.injEq, and_true, List.length_cons, List.length_nil] at h21
    refine bR_dec (fun h22 => ?_) (fun h22 => ?_)
    ·
     refine all_i fun n8 => ?_
     refine imp_i fun h23 => ?_
     simp only [wrap_u64] at h23
     have e8 : n8 = n2 - 64 := by omega
     have wh := words_high (h := n6) (l := n4) (n := n2) (by omega) (by omega) (by omega)
     rw [e8, shrU_eq (by omega) (by omega), ← wh, show n6 * 18446744073709551616 + n4 = n0 * 18446744073709551616 + n1 + p2 (n2 - 1) by omega, ← es]
     have bd := shR_bd (W := n0 * 18446744073709551616 + n1) (n := n2) (by omega) (by omega) (by omega)
     refine imp_i fun h24 => ?_
     refine imp_i fun h25 => ?_
     refine req_i ?_ ?_
     · -- r15
      first | omega | assumption | grind
     refine req_i ?_ ?_
     · -- r16
      first | omega | assumption | grind
     refine req_i ?_ ?_
     · -- r17
      (simp only [sigDown, downPost]) <;> omega
     rfl
    ·
     refine all_i fun n9 => ?_
     refine imp_i fun h26 => ?_
     simp only [wrap_u64] at h26
     skip
     refine imp_i fun h27 => ?_
     refine imp_i fun h28 => ?_
     refine req_i ?_ ?_
     · -- r18
      first | omega | assumption | grind
     refine req_i ?_ ?_
     · -- r19
      first | omega | assumption | grind
     refine req_i ?_ ?_
     · -- r20
      first | omega | assumption | grind
     refine req_i ?_ ?_
     · -- r21
      first | omega | assumption | grind
     refine req_i ?_ ?_
     · -- r22
      first | omega | ((try simp only [sigDown, downPre, downPost, List.cons.injEq, DV.b.injEq, and_true, List.length_cons, List.length_nil]); first | done | omega | assumption | grind [getD_set, getD_rep, toNat_succ, cntN_yes, cntN_no])
     rfl
   ·
    refine all_i fun n10 => ?_
    refine imp_i fun h29 => ?_
    simp only [wrap_u64] at h29
    have e10 : n10 = n2 - 1 := by omega
    rw [e10, shlU_one (by omega) (by omega)]
    have q1 : p2 (n2 - 1) ≤ p2 63 := p2_mono (by omega)
    rw [show p2 63 = 9223372036854775808 by decide] at q1
    refine imp_i fun h30 => ?_
    refine imp_i fun h31 => ?_
    refine req_i ?_ ?_
    · -- r23
     first | omega | assumption | grind
    refine req_i ?_ ?_
    · -- r24
     first | omega | assumption | grind
    refine req_i ?_ ?_
    · -- r25
     first | omega | assumption | grind
    refine req_i ?_ ?_
    · -- r26
     first | omega | assumption | grind
    refine req_i ?_ ?_
    · -- r27
     first | omega | ((try simp only [sigAdd64, add64Post, List.cons.injEq, DV.b.injEq, and_true, List.length_cons, List.length_nil]); first | done | omega | assumption | grind [getD_set, getD_rep, toNat_succ, cntN_yes, cntN_no])
    refine all_i fun n11 => ?_
    refine imp_i fun h32 => ?_
    refine imp_i fun h33 => ?_
    refine all_i fun n12 => ?_
    refine imp_i fun h34 => ?_
    refine imp_i fun h35 => ?_
    refine imp_i fun h36 => ?_
    try simp only [sigAdd64, add64Post, List.cons.injEq, DV.b.injEq, and_true, List.length_cons, List.length_nil] at h36
    refine req_i ?_ ?_
    · -- r28
     first | omega | assumption | grind
    refine req_i ?_ ?_
    · -- r29
     first | omega | assumption | grind
    refine req_i ?_ ?_
    · -- r30
     first | omega | assumption | grind
    refine req_i ?_ ?_
    · -- r31
     first | omega | assumption | grind
    refine req_i ?_ ?_
    · -- r32
     first | trivial | assumption | (simp only [sigAdd64, add64Post, List.cons.injEq, DV.b.injEq, and_true, List.length_cons, List.length_nil]; done) | ((try simp only [sigAdd64, add64Post, List.cons.injEq, DV.b.injEq, and_true, List.length_cons, List.length_nil]); first | omega | assumption | grind)
    refine all_i fun n13 => ?_
    refine imp_i fun h37 => ?_
    refine imp_i fun h38 => ?_
    refine all_i fun n14 => ?_
    refine imp_i fun h39 => ?_
    refine imp_i fun h40 => ?_
    refine imp_i fun h41 => ?_
    try simp only [sigAdd64, add64Post, List.cons.injEq, DV.b.injEq, and_true, List.length_cons, List.length_nil] at h41
    refine bR_dec (fun h42 => ?_) (fun h42 => ?_)
    ·
     refine all_i fun n15 => ?_
     refine imp_i fun h43 => ?_
     simp only [wrap_u64] at h43
     have e15 : n15 = n2 - 64 := by omega
     have wh := words_high (h := n13) (l := n11) (n := n2) (by omega) (by omega) (by omega)
     rw [e15, shrU_eq (by omega) (by omega), ← wh, show n13 * 18446744073709551616 + n11 = n0 * 18446744073709551616 + n1 + p2 (n2 - 1) by omega, ← es]
     have bd := shR_bd (W := n0 * 18446744073709551616 + n1) (n := n2) (by omega) (by omega) (by omega)
     refine imp_i fun h44 => ?_
     refine imp_i fun h45 => ?_
     refine req_i ?_ ?_
     · -- r33
      first | omega | assumption | grind
     refine req_i ?_ ?_
     · -- r34
      first | omega | assumption | grind
     refine req_i ?_ ?_
     · -- r35
      (simp only [sigDown, downPost]) <;> omega
     rfl
    ·
     refine all_i fun n16 => ?_
     refine imp_i fun h46 => ?_
     simp only [wrap_u64] at h46
     have e16 : n16 = 64 - n2 := by omega
     obtain ⟨w1, w2, w3⟩ := words_down (h := n13) (l := n11) (n := n2) (by omega) (by omega) (by omega) (by omega) (by omega)
     rw [e16, shrU_eq (by omega) (by omega), shrU_eq (by omega) (by omega), shlU_eq (by omega) (by omega)]
     rw [show n13 * 18446744073709551616 + n11 = n0 * 18446744073709551616 + n1 + p2 (n2 - 1) by omega, ← es] at w1
     have d1 := Int.ediv_nonneg (a := n13) (b := p2 n2) (by omega) (Int.le_of_lt (p2_pos n2))
     have d2 := Int.ediv_le_self (p2 n2) (show 0 ≤ n13 by omega)
     refine imp_i fun h47 => ?_
     refine imp_i fun h48 => ?_
     refine req_i ?_ ?_
     · -- r36
      first | omega | assumption | grind
     refine req_i ?_ ?_
     · -- r37
      first | omega | assumption | grind
     refine req_i ?_ ?_
     · -- r38
      first | omega | assumption | grind
     refine req_i ?_ ?_
     · -- r39
      first | omega | assumption | grind
     refine req_i ?_ ?_
     · -- r40
      simp only [sigDown, downPost]; exact w1
     rfl
theorem ext_down : ∀ p ∈ ([(54, Ext.ctr (ctOf sigAdd64))] : List (Nat × Ext)), ExtRow Try.prog p.1 p.2 := by
  intro p hp
  simp only [List.mem_cons, List.not_mem_nil, or_false] at hp
  rcases hp with rfl
  · trivial
theorem cts_down : CtsOk Try.prog [(54, Ext.ctr (ctOf sigAdd64))] := ctsOk_of (cs := [(54, sigAdd64)])
  (fun p hp => by
    simp only [List.mem_cons, List.not_mem_nil, or_false] at hp
    rcases hp with rfl
    · exact fn_add64
)
  (fun f c h => by
    simp only [List.lookup_cons] at h
    repeat' split at h
    all_goals first | (cases h; done) | (rename_i e; have e := beq_iff_eq.1 e; subst e; cases h; refine ⟨_, ?_, rfl⟩; simp))
theorem fn_down : FnOk Try.prog 47 sigDown [] := fn_sound (by kernel_rfl) ext_down cts_down names vt_down
end Go.Proofs.Ytcddopooofdgcaa

namespace Go.Proofs.Ytcddopooofdgcaa
open Go.Ev Go.Sp
set_option maxRecDepth 100000
theorem vc_sat : vcFn Try.prog [] tab [] 100 44 sigSat = (allB fun b0 : Bool => 
allB fun n1 : Int => 
impB ((0 : Int) ≤ n1) (
impB (n1 ≤ (18446744073709551615 : Int)) (
allB fun n2 : Int => 
impB ((0 : Int) ≤ n2) (
impB (n2 ≤ (18446744073709551615 : Int)) (
impB (sigSat.pre [DV.b b0, DV.n n1, DV.n n2]) (
bR (b0) (
 bR (dec (n1 ≠ (0 : Int))) (
 reqB (sigSat.post [DV.b b0, DV.n n1, DV.n n2] [DV.n (-9223372036854775808 : Int)]) (
 true)) (
 bR (dec ((9223372036854775808 : Int) ≤ n2)) (
 reqB (sigSat.post [DV.b b0, DV.n n1, DV.n n2] [DV.n (-9223372036854775808 : Int)]) (
 true)) (
 bR (b0) (
 allB fun n3 : Int => 
 impB (n3 = Go.IntKind.i64.wrap n2) (
 impB (Int.negSucc (9223372036854775807 : Nat) ≤ n3) (
 impB (n3 ≤ Int.ofNat (9223372036854775807 : Nat)) (
 allB fun n4 : Int => 
 impB (n4 = Go.IntKind.i64.wrap ((0 : Int) - n3)) (
 impB (Int.negSucc (9223372036854775807 : Nat) ≤ n4) (
 impB (n4 ≤ Int.ofNat (9223372036854775807 : Nat)) (
 reqB ((-9223372036854775808 : Int) ≤ n4) (
 reqB (n4 ≤ (9223372036854775807 : Int)) (
 reqB (sigSat.post [DV.b b0, DV.n n1, DV.n n2] [DV.n n4]) (
 true)))))))))) (
 bR (dec (n1 ≠ (0 : Int))) (
 reqB (sigSat.post [DV.b b0, DV.n n1, DV.n n2] [DV.n (9223372036854775807 : Int)]) (
 true)) (
 bR (dec ((9223372036854775808 : Int) ≤ n2)) (
 reqB (sigSat.post [DV.b b0, DV.n n1, DV.n n2] [DV.n (9223372036854775807 : Int)]) (
 true)) (
 allB fun n5 : Int => 
 impB (n5 = Go.IntKind.i64.wrap n2) (
 impB (Int.negSucc (9223372036854775807 : Nat) ≤ n5) (
 impB (n5 ≤ Int.ofNat (9223372036854775807 : Nat)) (
 reqB ((-9223372036854775808 : Int) ≤ n5) (
 reqB (n5 ≤ (9223372036854775807 : Int)) (
 reqB (sigSat.post [DV.b b0, DV.n n1, DV.n n2] [DV.n n5]) (
 true)))))))))))) (
 bR (b0) (
 allB fun n6 : Int => 
 impB (n6 = Go.IntKind.i64.wrap n2) (
 impB (Int.negSucc (9223372036854775807 : Nat) ≤ n6) (
 impB (n6 ≤ Int.ofNat (9223372036854775807 : Nat)) (
 allB fun n7 : Int => 
 impB (n7 = Go.IntKind.i64.wrap ((0 : Int) - n6)) (
 impB (Int.negSucc (9223372036854775807 : Nat) ≤ n7) (
 impB (n7 ≤ Int.ofNat (9223372036854775807 : Nat)) (
 reqB ((-9223372036854775808 : Int) ≤ n7) (
 reqB (n7 ≤ (9223372036854775807 : Int)) (
 reqB (sigSat.post [DV.b b0, DV.n n1, DV.n n2] [DV.n n7]) (
 true)))))))))) (
 bR (dec (n1 ≠ (0 : Int))) (
 reqB (sigSat.post [DV.b b0, DV.n n1, DV.n n2] [DV.n (9223372036854775807 : Int)]) (
 true)) (
 bR (dec ((9223372036854775808 : Int) ≤ n2)) (
 reqB (sigSat.post [DV.b b0, DV.n n1, DV.n n2] [DV.n (9223372036854775807 : Int)]) (
 true)) (
 allB fun n8 : Int => 
 impB (n8 = Go.IntKind.i64.wrap n2) (
 impB (Int.negSucc (9223372036854775807 : Nat) ≤ n8) (
 impB (n8 ≤ Int.ofNat (9223372036854775807 : Nat)) (
 reqB ((-9223372036854775808 : Int) ≤ n8) (
 reqB (n8 ≤ (9223372036854775807 : Int)) (
 reqB (sigSat.post [DV.b b0, DV.n n1, DV.n n2] [DV.n n8]) (
 true)))))))))))))))) := by kernel_rfl
set_option maxHeartbeats 8000000 in
theorem vt_sat : vcFn Try.prog [] tab [] 100 44 sigSat = true := by
  rw [vc_sat]
  try simp only [Int.toNat_natCast, List.length_set, List.length_replicate, List.length_take, List.length_drop, List.length_append, List.length_cons, List.length_nil, Nat.min_self, List.take_take, lenCols_i, lenCols_b, List.drop_zero, List.take_length, Nat.add_eq, Nat.mul_eq, Nat.sub_eq, Nat.zero_add, Nat.sub_zero, Nat.mul_one]
  refine all_i fun b0 => ?_
  refine all_i fun n1 => ?_
  refine imp_i fun h0 => ?_
  refine imp_i fun h1 => ?_
  refine all_i fun n2 => ?_
  refine imp_i fun h2 => ?_
  refine imp_i fun h3 => ?_
  refine imp_i fun h4 => ?_
  try simp only [sigSat, satPost, sat, List.cons.injEq, DV.b.injEq, and_true, List.length_cons, List.length_nil] at h4
  refine bR_i (fun h5 => ?_) (fun h5 => ?_)
  ·
   refine bR_dec (fun h6 => ?_) (fun h6 => ?_)
   ·
    refine req_i ?_ ?_
    · -- r0
     first | omega | ((try simp only [sigSat, satPost, sat, List.cons.injEq, DV.b.injEq, and_true, List.length_cons, List.length_nil]); first | done | omega | assumption | grind [getD_set, getD_rep, toNat_succ, cntN_yes, cntN_no])
    rfl
   ·
    refine bR_dec (fun h7 => ?_) (fun h7 => ?_)
    ·
     refine req_i ?_ ?_
     · -- r1
      first | omega | ((try simp only [sigSat, satPost, sat, List.cons.injEq, DV.b.injEq, and_true, List.length_cons, List.length_nil]); first | done | omega | assumption | grind [getD_set, getD_rep, toNat_succ, cntN_yes, cntN_no])
     rfl
    ·
     refine bR_i (fun h8 => ?_) (fun h8 => absurd (h5.symm.trans h8) (by decide))
     refine all_i fun n3 => ?_
     refine imp_i fun h9 => ?_
     simp only [wrap_i64] at h9
     refine imp_i fun h10 => ?_
     refine imp_i fun h11 => ?_
     refine all_i fun n4 => ?_
     refine imp_i fun h12 => ?_
     simp only [wrap_i64] at h12
     refine imp_i fun h13 => ?_
     refine imp_i fun h14 => ?_
     refine req_i ?_ ?_
     · -- r2
      first | omega | assumption | grind
     refine req_i ?_ ?_
     · -- r3
      first | omega | assumption | grind
     refine req_i ?_ ?_
     · -- r4
      first | omega | ((try simp only [sigSat, satPost, sat, List.cons.injEq, DV.b.injEq, and_true, List.length_cons, List.length_nil]); first | done | omega | assumption | grind [getD_set, getD_rep, toNat_succ, cntN_yes, cntN_no])
     rfl
  ·
   refine bR_i (fun h15 => absurd (h15.symm.trans h5) (by decide)) (fun h15 => ?_)
   refine bR_dec (fun h16 => ?_) (fun h16 => ?_)
   ·
    refine req_i ?_ ?_
    · -- r5
     first | omega | ((try simp only [sigSat, satPost, sat, List.cons.injEq, DV.b.injEq, and_true, List.length_cons, List.length_nil]); first | done | omega | assumption | grind [getD_set, getD_rep, toNat_succ, cntN_yes, cntN_no])
    rfl
   ·
    refine bR_dec (fun h17 => ?_) (fun h17 => ?_)
    ·
     refine req_i ?_ ?_
     · -- r6
      first | omega | ((try simp only [sigSat, satPost, sat, List.cons.injEq, DV.b.injEq, and_true, List.length_cons, List.length_nil]); first | done | omega | assumption | grind [getD_set, getD_rep, toNat_succ, cntN_yes, cntN_no])
     rfl
    ·
     refine all_i fun n8 => ?_
     refine imp_i fun h18 => ?_
     simp only [wrap_i64] at h18
     refine imp_i fun h19 => ?_
     refine imp_i fun h20 => ?_
     refine req_i ?_ ?_
     · -- r7
      first | omega | assumption | grind
     refine req_i ?_ ?_
     · -- r8
      first | omega | assumption | grind
     refine req_i ?_ ?_
     · -- r9
      first | omega | ((try simp only [sigSat, satPost, sat, List.cons.injEq, DV.b.injEq, and_true, List.length_cons, List.length_nil]); first | done | omega | assumption | grind [getD_set, getD_rep, toNat_succ, cntN_yes, cntN_no])
     rfl
theorem ext_sat : ∀ p ∈ ([] : List (Nat × Ext)), ExtRow Try.prog p.1 p.2 := by
  intro p hp
  cases hp
theorem cts_sat : CtsOk Try.prog [] := fun f c h => by cases h
theorem fn_sat : FnOk Try.prog 44 sigSat [] := fn_sound (by kernel_rfl) ext_sat cts_sat names vt_sat
end Go.Proofs.Ytcddopooofdgcaa

namespace Go.Proofs.Ytcddopooofdgcaa
open Go.Ev Go.Sp
set_option maxRecDepth 100000
theorem vc_Mul : vcFn Try.prog [(51, Ext.ctr (ctOf sigTimes)), (47, Ext.ctr (ctOf sigDown)), (44, Ext.ctr (ctOf sigSat))] noA [] 100 15 sigMulF = (allB fun n0 : Int => 
impB ((-9223372036854775808 : Int) ≤ n0) (
impB (n0 ≤ (9223372036854775807 : Int)) (
allB fun n1 : Int => 
impB ((-9223372036854775808 : Int) ≤ n1) (
impB (n1 ≤ (9223372036854775807 : Int)) (
allB fun n2 : Int => 
impB ((-9223372036854775808 : Int) ≤ n2) (
impB (n2 ≤ (9223372036854775807 : Int)) (
impB (sigMulF.pre [DV.n n0, DV.n n1, DV.n n2]) (
bR (dec (n2 < (0 : Int))) (
 reqB (sigMulF.post [DV.n n0, DV.n n1, DV.n n2] [DV.n (0 : Int), DV.n (2 : Int)]) (
 true)) (
 bR (dec ((126 : Int) < n2)) (
 reqB (sigMulF.post [DV.n n0, DV.n n1, DV.n n2] [DV.n (0 : Int), DV.n (2 : Int)]) (
 true)) (
 reqB ((-9223372036854775808 : Int) ≤ n0) (
 reqB (n0 ≤ (9223372036854775807 : Int)) (
 reqB ((-9223372036854775808 : Int) ≤ n1) (
 reqB (n1 ≤ (9223372036854775807 : Int)) (
 reqB (sigTimes.pre [DV.n n0, DV.n n1]) (
 allB fun n3 : Int => 
 impB ((0 : Int) ≤ n3) (
 impB (n3 ≤ (18446744073709551615 : Int)) (
 allB fun n4 : Int => 
 impB ((0 : Int) ≤ n4) (
 impB (n4 ≤ (18446744073709551615 : Int)) (
 impB (sigTimes.post [DV.n n0, DV.n n1] [DV.n n3, DV.n n4]) (
 allB fun n5 : Int => 
 impB (n5 = Go.IntKind.u64.wrap n2) (
 impB (Int.ofNat (0 : Nat) ≤ n5) (
 impB (n5 ≤ Int.ofNat (18446744073709551615 : Nat)) (
 reqB ((0 : Int) ≤ n3) (
 reqB (n3 ≤ (18446744073709551615 : Int)) (
 reqB ((0 : Int) ≤ n4) (
 reqB (n4 ≤ (18446744073709551615 : Int)) (
 reqB ((0 : Int) ≤ n5) (
 reqB (n5 ≤ (126 : Int)) (
 reqB (sigDown.pre [DV.n n3, DV.n n4, DV.n n5]) (
 allB fun n6 : Int => 
 impB ((0 : Int) ≤ n6) (
 impB (n6 ≤ (18446744073709551615 : Int)) (
 allB fun n7 : Int => 
 impB ((0 : Int) ≤ n7) (
 impB (n7 ≤ (18446744073709551615 : Int)) (
 impB (sigDown.post [DV.n n3, DV.n n4, DV.n n5] [DV.n n6, DV.n n7]) (
 reqB ((0 : Int) ≤ n6) (
 reqB (n6 ≤ (18446744073709551615 : Int)) (
 reqB ((0 : Int) ≤ n7) (
 reqB (n7 ≤ (18446744073709551615 : Int)) (
 reqB (sigSat.pre
 [DV.b !beqB (dec (n0 < (0 : Int))) (dec (n1 < (0 : Int))), DV.n n6, DV.n n7]) (
 allB fun n8 : Int => 
 impB ((-9223372036854775808 : Int) ≤ n8) (
 impB (n8 ≤ (9223372036854775807 : Int)) (
 impB (sigSat.post
 [DV.b !beqB (dec (n0 < (0 : Int))) (dec (n1 < (0 : Int))), DV.n n6, DV.n n7]
 [DV.n n8]) (
 reqB ((-9223372036854775808 : Int) ≤ n8) (
 reqB (n8 ≤ (9223372036854775807 : Int)) (
 reqB (sigMulF.post [DV.n n0, DV.n n1, DV.n n2] [DV.n n8, DV.n (0 : Int)]) (
 true)))))))))))))))))))))))))))))))))))))))))))))) := by kernel_rfl
set_option maxHeartbeats 8000000 in
theorem vt_Mul : vcFn Try.prog [(51, Ext.ctr (ctOf sigTimes)), (47, Ext.ctr (ctOf sigDown)), (44, Ext.ctr (ctOf sigSat))] noA [] 100 15 sigMulF = true := by
  rw [vc_Mul]
  try simp only [Int.toNat_natCast, List.length_set, List.length_replicate, List.length_take, List.length_drop, List.length_append, List.length_cons, List.length_nil, Nat.min_self, List.take_take, lenCols_i, lenCols_b, List.drop_zero, List.take_length, Nat.add_eq, Nat.mul_eq, Nat.sub_eq, Nat.zero_add, Nat.sub_zero, Nat.mul_one]
  refine all_i fun n0 => ?_
  refine imp_i fun h0 => ?_
  refine imp_i fun h1 => ?_
  refine all_i fun n1 => ?_
  refine imp_i fun h2 => ?_
  refine imp_i fun h3 => ?_
  refine all_i fun n2 => ?_
  refine imp_i fun h4 => ?_
  refine imp_i fun h5 => ?_
  refine imp_i fun h6 => ?_
  try simp only [sigMulF, mulFPost, List.cons.injEq, DV.b.injEq, and_true, List.length_cons, List.length_nil] at h6
  refine bR_dec (fun h7 => ?_) (fun h7 => ?_)
  ·
   refine req_i ?_ ?_
   · -- r0
    exact .inl ⟨by omega, rfl, rfl⟩
   rfl
  ·
   refine bR_dec (fun h8 => ?_) (fun h8 => ?_)
   ·
    refine req_i ?_ ?_
    · -- r1
     exact .inl ⟨by omega, rfl, rfl⟩
    rfl
   ·
    refine req_i ?_ ?_
    · -- r2
     first | omega | assumption | grind
    refine req_i ?_ ?_
    · -- r3
     first | omega | assumption | grind
    refine req_i ?_ ?_
    · -- r4
     first | omega | assumption | grind
    refine req_i ?_ ?_
    · -- r5
     first | omega | assumption | grind
    refine req_i ?_ ?_
    · -- r6
     first | trivial | assumption | (simp only [sigTimes, timesPost, List.cons.injEq, DV.b.injEq, and_true, List.length_cons, List.length_nil]; done) | ((try simp only [sigTimes, timesPost, List.cons.injEq, DV.b.injEq, and_true, List.length_cons, List.length_nil]); first | omega | assumption | grind)
    refine all_i fun n3 => ?_
    refine imp_i fun h9 => ?_
    refine imp_i fun h10 => ?_
    refine all_i fun n4 => ?_
    refine imp_i fun h11 => ?_
    refine imp_i fun h12 => ?_
    refine imp_i fun h13 => ?_
    try simp only [sigTimes, timesPost, List.cons.injEq, DV.b.injEq, and_true, List.length_cons, List.length_nil] at h13
    have a0 := abs_bd n0 (by omega) (by omega)
    have a1 := abs_bd n1 (by omega) (by omega)
    have am := Int.mul_le_mul a0.2.1 a1.2.1 a1.1 (by omega)
    have an := Int.mul_nonneg a0.1 a1.1
    refine all_i fun n5 => ?_
    refine imp_i fun h14 => ?_
    simp only [wrap_u64] at h14
    replace h14 : n5 = n2 := by omega
    refine imp_i fun h15 => ?_
    refine imp_i fun h16 => ?_
    refine req_i ?_ ?_
    · -- r7
     first | omega | assumption | grind
    refine req_i ?_ ?_
    · -- r8
     first | omega | assumption | grind
    refine req_i ?_ ?_
    · -- r9
     first | omega | assumption | grind
    refine req_i ?_ ?_
    · -- r10
     first | omega | assumption | grind
    refine req_i ?_ ?_
    · -- r11
     first | omega | assumption | grind
    refine req_i ?_ ?_
    · -- r12
     first | omega | assumption | grind
    refine req_i ?_ ?_
    · -- r13
     first | trivial | assumption | (simp only [sigDown, downPre, downPost, List.cons.injEq, DV.b.injEq, and_true, List.length_cons, List.length_nil]; done) | ((try simp only [sigDown, downPre, downPost, List.cons.injEq, DV.b.injEq, and_true, List.length_cons, List.length_nil]); first | omega | assumption | grind)
    refine all_i fun n6 => ?_
    refine imp_i fun h17 => ?_
    refine imp_i fun h18 => ?_
    refine all_i fun n7 => ?_
    refine imp_i fun h19 => ?_
    refine imp_i fun h20 => ?_
    refine imp_i fun h21 => ?_
    try simp only [sigDown, downPre, downPost, List.cons.injEq, DV.b.injEq, and_true, List.length_cons, List.length_nil] at h21
    refine req_i ?_ ?_
    · -- r14
     first | omega | assumption | grind
    refine req_i ?_ ?_
    · -- r15
     first | omega | assumption | grind
    refine req_i ?_ ?_
    · -- r16
     first | omega | assumption | grind
    refine req_i ?_ ?_
    · -- r17
     first | omega | assumption | grind
    refine req_i ?_ ?_
    · -- r18
     first | omega | ((try simp only [sigSat, satPost, sat, List.cons.injEq, DV.b.injEq, and_true, List.length_cons, List.length_nil, dec_iff]); first | done | omega | assumption | grind [getD_set, getD_rep, toNat_succ, cntN_yes, cntN_no])
    refine all_i fun n8 => ?_
    refine imp_i fun h22 => ?_
    refine imp_i fun h23 => ?_
    refine imp_i fun h24 => ?_
    try simp only [Int.toNat_natCast, List.length_set, List.length_replicate, List.length_take, List.length_drop, List.length_append, List.length_cons, List.length_nil, Nat.min_self, List.take_take, lenCols_i, lenCols_b, List.drop_zero, List.take_length, Nat.add_eq, Nat.mul_eq, Nat.sub_eq, Nat.zero_add, Nat.sub_zero, Nat.mul_one] at h24
    have k := sg_sat xor_dec h24
    rw [h21, h13, h14] at k
    refine req_i ?_ ?_
    · -- r19
     first | omega | assumption | grind
    refine req_i ?_ ?_
    · -- r20
     first | omega | assumption | grind
    refine req_i ?_ ?_
    · -- r21
     exact .inr ⟨by omega, by omega, rfl, k⟩
    rfl
theorem ext_Mul : ∀ p ∈ ([(51, Ext.ctr (ctOf sigTimes)), (47, Ext.ctr (ctOf sigDown)), (44, Ext.ctr (ctOf sigSat))] : List (Nat × Ext)), ExtRow Try.prog p.1 p.2 := by
  intro p hp
  simp only [List.mem_cons, List.not_mem_nil, or_false] at hp
  rcases hp with rfl | rfl | rfl
  · trivial
  · trivial
  · trivial
theorem cts_Mul : CtsOk Try.prog [(51, Ext.ctr (ctOf sigTimes)), (47, Ext.ctr (ctOf sigDown)), (44, Ext.ctr (ctOf sigSat))] := ctsOk_of (cs := [(51, sigTimes), (47, sigDown), (44, sigSat)])
  (fun p hp => by
    simp only [List.mem_cons, List.not_mem_nil, or_false] at hp
    rcases hp with rfl | rfl | rfl
    · exact fn_times
    · exact fn_down
    · exact fn_sat
)
  (fun f c h => by
    simp only [List.lookup_cons] at h
    repeat' split at h
    all_goals first | (cases h; done) | (rename_i e; have e := beq_iff_eq.1 e; subst e; cases h; refine ⟨_, ?_, rfl⟩; simp))
theorem fn_Mul : FnOk Try.prog 15 sigMulF [] := fn_sound (by kernel_rfl) ext_Mul cts_Mul names vt_Mul
end Go.Proofs.Ytcddopooofdgcaa

namespace Go.Proofs.Ytcddopooofdgcaa
open Go.Ev Go.Sp
set_option maxRecDepth 100000
theorem vc_up : vcFn Try.prog [] tab [] 100 48 sigUp = (allB fun n0 : Int => 
impB ((0 : Int) ≤ n0) (
impB (n0 ≤ (9223372036854775808 : Int)) (
allB fun n1 : Int => 
impB ((0 : Int) ≤ n1) (
impB (n1 ≤ (64 : Int)) (
impB (sigUp.pre [DV.n (0 : Int), DV.n n0, DV.n n1]) (
reqB ((0 : Int) ≤
 opI (SO.or Go.IntKind.u64) (Int.ofNat (0 : Nat))
 (opI (SO.shr Go.IntKind.u64) n0 ((64 : Int) - n1))) (
reqB (opI (SO.or Go.IntKind.u64) (Int.ofNat (0 : Nat))
 (opI (SO.shr Go.IntKind.u64) n0 ((64 : Int) - n1)) ≤
 (18446744073709551615 : Int)) (
reqB ((0 : Int) ≤ opI (SO.shl Go.IntKind.u64) n0 n1) (
reqB (opI (SO.shl Go.IntKind.u64) n0 n1 ≤ (18446744073709551615 : Int)) (
reqB (sigUp.post [DV.n (0 : Int), DV.n n0, DV.n n1]
 [DV.n
 (opI (SO.or Go.IntKind.u64) (Int.ofNat (0 : Nat))
 (opI (SO.shr Go.IntKind.u64) n0 ((64 : Int) - n1))),
 DV.n (opI (SO.shl Go.IntKind.u64) n0 n1)]) (
true))))))))))) := by kernel_rfl
set_option maxHeartbeats 8000000 in
theorem vt_up : vcFn Try.prog [] tab [] 100 48 sigUp = true := by
  rw [vc_up]
  try simp only [Int.toNat_natCast, List.length_set, List.length_replicate, List.length_take, List.length_drop, List.length_append, List.length_cons, List.length_nil, Nat.min_self, List.take_take, lenCols_i, lenCols_b, List.drop_zero, List.take_length, Nat.add_eq, Nat.mul_eq, Nat.sub_eq, Nat.zero_add, Nat.sub_zero, Nat.mul_one]
  refine all_i fun n0 => ?_
  refine imp_i fun h0 => ?_
  refine imp_i fun h1 => ?_
  refine all_i fun n1 => ?_
  refine imp_i fun h2 => ?_
  refine imp_i fun h3 => ?_
  refine imp_i fun h4 => ?_
  try simp only [sigUp, upPost, List.cons.injEq, DV.b.injEq, and_true, List.length_cons, List.length_nil] at h4
  have e1 : opI (.shr .u64) n0 (64 - n1) = n0 / p2 (64 - n1) := shrU_eq (by omega) (by omega)
  have e2 : opI (.shl .u64) n0 n1 = n0 * p2 n1 % 18446744073709551616 := shlU_eq (by omega) (by omega)
  have d1 := Int.ediv_nonneg (a := n0) (b := p2 (64 - n1)) (by omega) (Int.le_of_lt (p2_pos (64 - n1)))
  have d2 := Int.ediv_le_self (p2 (64 - n1)) (show 0 ≤ n0 by omega)
  rw [e1, e2, or0 d1 (by omega)]
  have um := up_math (l := n0) (n := n1) (by omega) (by omega) (by omega)
  refine req_i ?_ ?_
  · -- r0
   first | omega | assumption | grind
  refine req_i ?_ ?_
  · -- r1
   first | omega | assumption | grind
  refine req_i ?_ ?_
  · -- r2
   first | omega | assumption | grind
  refine req_i ?_ ?_
  · -- r3
   first | omega | assumption | grind
  refine req_i ?_ ?_
  · -- r4
   first | omega | ((try simp only [sigUp, upPost, List.cons.injEq, DV.b.injEq, and_true, List.length_cons, List.length_nil]); first | done | omega | assumption | grind [getD_set, getD_rep, toNat_succ, cntN_yes, cntN_no])
  rfl
theorem ext_up : ∀ p ∈ ([] : List (Nat × Ext)), ExtRow Try.prog p.1 p.2 := by
  intro p hp
  cases hp
theorem cts_up : CtsOk Try.prog [] := fun f c h => by cases h
theorem fn_up : FnOk Try.prog 48 sigUp [] := fn_sound (by kernel_rfl) ext_up cts_up names vt_up
end Go.Proofs.Ytcddopooofdgcaa

namespace Go.Proofs.Ytcddopooofdgcaa
open Go.Ev Go.Sp
set_option maxRecDepth 100000
theorem vc_len64 : vcFn Try.prog [] noA [] 100 70 sigLen = (allB fun n0 : Int => 
impB ((0 : Int) ≤ n0) (
impB (n0 ≤ (18446744073709551615 : Int)) (
impB (sigLen.pre [DV.n n0]) (
bR (dec ((4294967296 : Int) ≤ n0)) (
 bR (dec ((65536 : Int) ≤ n0 / Int.ofNat (4294967296 : Nat))) (
 bR (dec ((256 : Int) ≤ n0 / Int.ofNat (4294967296 : Nat) / Int.ofNat (65536 : Nat))) (
 reqB ((n0 / Int.ofNat (4294967296 : Nat) / Int.ofNat (65536 : Nat) / Int.ofNat (256 : Nat)).toNat < (256 : Nat)) (
 reqB ((n0 / Int.ofNat (4294967296 : Nat) / Int.ofNat (65536 : Nat) / Int.ofNat (256 : Nat)).toNat <
 len8L.length) (
 reqB ((0 : Int) ≤
 Int.ofNat (56 : Nat) +
 len8L.getD
 (n0 / Int.ofNat (4294967296 : Nat) / Int.ofNat (65536 : Nat) / Int.ofNat (256 : Nat)).toNat (0 : Int)) (
 reqB (Int.ofNat (56 : Nat) +
 len8L.getD
 (n0 / Int.ofNat (4294967296 : Nat) / Int.ofNat (65536 : Nat) / Int.ofNat (256 : Nat)).toNat (0 : Int) ≤
 (64 : Int)) (
 reqB (sigLen.post [DV.n n0]
 [DV.n
 (Int.ofNat (56 : Nat) +
 len8L.getD
 (n0 / Int.ofNat (4294967296 : Nat) / Int.ofNat (65536 : Nat) / Int.ofNat (256 : Nat)).toNat (0 : Int))]) (
 true)))))) (
 allB fun n1 : Int => 
 impB (n1 = Go.IntKind.u8.wrap (n0 / Int.ofNat (4294967296 : Nat) / Int.ofNat (65536 : Nat))) (
 impB (Int.ofNat (0 : Nat) ≤ n1) (
 impB (n1 ≤ Int.ofNat (255 : Nat)) (
 reqB (n1.toNat < (256 : Nat)) (
 reqB (n1.toNat <
 len8L.length) (
 reqB ((0 : Int) ≤
 Int.ofNat (48 : Nat) +
 len8L.getD
 n1.toNat (0 : Int)) (
 reqB (Int.ofNat (48 : Nat) +
 len8L.getD
 n1.toNat (0 : Int) ≤
 (64 : Int)) (
 reqB (sigLen.post [DV.n n0]
 [DV.n
 (Int.ofNat (48 : Nat) +
 len8L.getD
 n1.toNat (0 : Int))]) (
 true)))))))))) (
 bR (dec ((256 : Int) ≤ n0 / Int.ofNat (4294967296 : Nat))) (
 allB fun n2 : Int => 
 impB (n2 = Go.IntKind.u8.wrap (n0 / Int.ofNat (4294967296 : Nat) / Int.ofNat (256 : Nat))) (
 impB (Int.ofNat (0 : Nat) ≤ n2) (
 impB (n2 ≤ Int.ofNat (255 : Nat)) (
 reqB (n2.toNat < (256 : Nat)) (
 reqB (n2.toNat <
 len8L.length) (
 reqB ((0 : Int) ≤
 Int.ofNat (40 : Nat) +
 len8L.getD
 n2.toNat (0 : Int)) (
 reqB (Int.ofNat (40 : Nat) +
 len8L.getD
 n2.toNat (0 : Int) ≤
 (64 : Int)) (
 reqB (sigLen.post [DV.n n0]
 [DV.n
 (Int.ofNat (40 : Nat) +
 len8L.getD
 n2.toNat (0 : Int))]) (
 true))))))))) (
 allB fun n3 : Int => 
 impB (n3 = Go.IntKind.u8.wrap (n0 / Int.ofNat (4294967296 : Nat))) (
 impB (Int.ofNat (0 : Nat) ≤ n3) (
 impB (n3 ≤ Int.ofNat (255 : Nat)) (
 reqB (n3.toNat < (256 : Nat)) (
 reqB (n3.toNat <
 len8L.length) (
 reqB ((0 : Int) ≤
 (32 : Int) +
 len8L.getD
 n3.toNat (0 : Int)) (
 reqB ((32 : Int) +
 len8L.getD
 n3.toNat (0 : Int) ≤
 (64 : Int)) (
 reqB (sigLen.post [DV.n n0]
 [DV.n
 ((32 : Int) +
 len8L.getD
 n3.toNat (0 : Int))]) (
 true))))))))))) (
 bR (dec ((65536 : Int) ≤ n0)) (
 bR (dec ((256 : Int) ≤ n0 / Int.ofNat (65536 : Nat))) (
 allB fun n4 : Int => 
 impB (n4 = Go.IntKind.u8.wrap (n0 / Int.ofNat (65536 : Nat) / Int.ofNat (256 : Nat))) (
 impB (Int.ofNat (0 : Nat) ≤ n4) (
 impB (n4 ≤ Int.ofNat (255 : Nat)) (
 reqB (n4.toNat < (256 : Nat)) (
 reqB (n4.toNat <
 len8L.length) (
 reqB ((0 : Int) ≤
 Int.ofNat (24 : Nat) +
 len8L.getD
 n4.toNat (0 : Int)) (
 reqB (Int.ofNat (24 : Nat) +
 len8L.getD
 n4.toNat (0 : Int) ≤
 (64 : Int)) (
 reqB (sigLen.post [DV.n n0]
 [DV.n
 (Int.ofNat (24 : Nat) +
 len8L.getD
 n4.toNat (0 : Int))]) (
 true))))))))) (
 allB fun n5 : Int => 
 impB (n5 = Go.IntKind.u8.wrap (n0 / Int.ofNat (65536 : Nat))) (
 impB (Int.ofNat (0 : Nat) ≤ n5) (
 impB (n5 ≤ Int.ofNat (255 : Nat)) (
 reqB (n5.toNat < (256 : Nat)) (
 reqB (n5.toNat <
 len8L.length) (
 reqB ((0 : Int) ≤
 Int.ofNat (16 : Nat) +
 len8L.getD
 n5.toNat (0 : Int)) (
 reqB (Int.ofNat (16 : Nat) +
 len8L.getD
 n5.toNat (0 : Int) ≤
 (64 : Int)) (
 reqB (sigLen.post [DV.n n0]
 [DV.n
 (Int.ofNat (16 : Nat) +
 len8L.getD
 n5.toNat (0 : Int))]) (
 true)))))))))) (
 bR (dec ((256 : Int) ≤ n0)) (
 allB fun n6 : Int => 
 impB (n6 = Go.IntKind.u8.wrap (n0 / Int.ofNat (256 : Nat))) (
 impB (Int.ofNat (0 : Nat) ≤ n6) (
 impB (n6 ≤ Int.ofNat (255 : Nat)) (
 reqB (n6.toNat < (256 : Nat)) (
 reqB (n6.toNat <
 len8L.length) (
 reqB ((0 : Int) ≤
 Int.ofNat (8 : Nat) +
 len8L.getD
 n6.toNat (0 : Int)) (
 reqB (Int.ofNat (8 : Nat) +
 len8L.getD
 n6.toNat (0 : Int) ≤
 (64 : Int)) (
 reqB (sigLen.post [DV.n n0]
 [DV.n
 (Int.ofNat (8 : Nat) +
 len8L.getD
 n6.toNat (0 : Int))]) (
 true))))))))) (
 allB fun n7 : Int => 
 impB (n7 = Go.IntKind.u8.wrap n0) (
 impB (Int.ofNat (0 : Nat) ≤ n7) (
 impB (n7 ≤ Int.ofNat (255 : Nat)) (
 reqB (n7.toNat < (256 : Nat)) (
 reqB (n7.toNat <
 len8L.length) (
 reqB ((0 : Int) ≤
 (0 : Int) +
 len8L.getD
 n7.toNat (0 : Int)) (
 reqB ((0 : Int) +
 len8L.getD
 n7.toNat (0 : Int) ≤
 (64 : Int)) (
 reqB (sigLen.post [DV.n n0]
 [DV.n
 ((0 : Int) +
 len8L.getD
 n7.toNat (0 : Int))]) (
 true))))))))))))))) := by kernel_rfl
set_option maxHeartbeats 8000000 in
theorem vt_len64 : vcFn Try.prog [] noA [] 100 70 sigLen = true := by
  rw [vc_len64]
  try simp only [Int.toNat_natCast, List.length_set, List.length_replicate, List.length_take, List.length_drop, List.length_append, List.length_cons, List.length_nil, Nat.min_self, List.take_take, lenCols_i, lenCols_b, List.drop_zero, List.take_length, Nat.add_eq, Nat.mul_eq, Nat.sub_eq, Nat.zero_add, Nat.sub_zero, Nat.mul_one]
  try simp only [show (Int.ofNat 0 : Int) = 0 from rfl, show (Int.ofNat 16 : Int) = 16 from rfl, show (Int.ofNat 24 : Int) = 24 from rfl, show (Int.ofNat 255 : Int) = 255 from rfl, show (Int.ofNat 256 : Int) = 256 from rfl, show (Int.ofNat 40 : Int) = 40 from rfl, show (Int.ofNat 4294967296 : Int) = 4294967296 from rfl, show (Int.ofNat 48 : Int) = 48 from rfl, show (Int.ofNat 56 : Int) = 56 from rfl, show (Int.ofNat 65536 : Int) = 65536 from rfl, show (Int.ofNat 8 : Int) = 8 from rfl]
  refine all_i fun n0 => ?_
  refine imp_i fun h0 => ?_
  refine imp_i fun h1 => ?_
  refine imp_i fun h2 => ?_
  try simp only [sigLen, lenPost, List.cons.injEq, DV.b.injEq, and_true, List.length_cons, List.length_nil] at h2
  refine bR_dec (fun h3 => ?_) (fun h3 => ?_)
  ·
   refine bR_dec (fun h4 => ?_) (fun h4 => ?_)
   ·
    refine bR_dec (fun h5 => ?_) (fun h5 => ?_)
    ·
     have L := len_leaf (x := n0) (k := 56) (i := (n0 / 4294967296 / 65536 / 256).toNat) (by omega) (by omega) (by rw [show p2 56 = 72057594037927936 by decide]; omega) (by omega) (by omega) (by omega)
     try simp only [show (Int.ofNat 56 : Int) = 56 from rfl]
     refine req_i ?_ ?_
     · -- r0
      omega
     refine req_i ?_ ?_
     · -- r1
      exact L.1
     refine req_i ?_ ?_
     · -- r2
      exact L.2.1.1
     refine req_i ?_ ?_
     · -- r3
      exact L.2.1.2
     refine req_i ?_ ?_
     · -- r4
      exact L.2.2
     rfl
    ·
     refine all_i fun n1 => ?_
     refine imp_i fun h6 => ?_
     simp only [wrap_u8] at h6
     refine imp_i fun h7 => ?_
     refine imp_i fun h8 => ?_
     have L := len_leaf (x := n0) (k := 48) (i := (n1).toNat) (by omega) (by omega) (by rw [show p2 48 = 281474976710656 by decide]; omega) (by omega) (by omega) (by omega)
     try simp only [show (Int.ofNat 48 : Int) = 48 from rfl]
     refine req_i ?_ ?_
     · -- r5
      omega
     refine req_i ?_ ?_
     · -- r6
      exact L.1
     refine req_i ?_ ?_
     · -- r7
      exact L.2.1.1
     refine req_i ?_ ?_
     · -- r8
      exact L.2.1.2
     refine req_i ?_ ?_
     · -- r9
      exact L.2.2
     rfl
   ·
    refine bR_dec (fun h9 => ?_) (fun h9 => ?_)
    ·
     refine all_i fun n2 => ?_
     refine imp_i fun h10 => ?_
     simp only [wrap_u8] at h10
     refine imp_i fun h11 => ?_
     refine imp_i fun h12 => ?_
     have L := len_leaf (x := n0) (k := 40) (i := (n2).toNat) (by omega) (by omega) (by rw [show p2 40 = 1099511627776 by decide]; omega) (by omega) (by omega) (by omega)
     try simp only [show (Int.ofNat 40 : Int) = 40 from rfl]
     refine req_i ?_ ?_
     · -- r10
      omega
     refine req_i ?_ ?_
     · -- r11
      exact L.1
     refine req_i ?_ ?_
     · -- r12
      exact L.2.1.1
     refine req_i ?_ ?_
     · -- r13
      exact L.2.1.2
     refine req_i ?_ ?_
     · -- r14
      exact L.2.2
     rfl
    ·
     refine all_i fun n3 => ?_
     refine imp_i fun h13 => ?_
     simp only [wrap_u8] at h13
     refine imp_i fun h14 => ?_
     refine imp_i fun h15 => ?_
     have L := len_leaf (x := n0) (k := 32) (i := (n3).toNat) (by omega) (by omega) (by rw [show p2 32 = 4294967296 by decide]; omega) (by omega) (by omega) (by omega)
     try simp only [show (Int.ofNat 32 : Int) = 32 from rfl]
     refine req_i ?_ ?_
     · -- r15
      omega
     refine req_i ?_ ?_
     · -- r16
      exact L.1
     refine req_i ?_ ?_
     · -- r17
      exact L.2.1.1
     refine req_i ?_ ?_
     · -- r18
      exact L.2.1.2
     refine req_i ?_ ?_
     · -- r19
      exact L.2.2
     rfl
  ·
   refine bR_dec (fun h16 => ?_) (fun h16 => ?_)
   ·
    refine bR_dec (fun h17 => ?_) (fun h17 => ?_)
    ·
     refine all_i fun n4 => ?_
     refine imp_i fun h18 => ?_
     simp only [wrap_u8] at h18
     refine imp_i fun h19 => ?_
     refine imp_i fun h20 => ?_
     have L := len_leaf (x := n0) (k := 24) (i := (n4).toNat) (by omega) (by omega) (by rw [show p2 24 = 16777216 by decide]; omega) (by omega) (by omega) (by omega)
     try simp only [show (Int.ofNat 24 : Int) = 24 from rfl]
     refine req_i ?_ ?_
     · -- r20
      omega
     refine req_i ?_ ?_
     · -- r21
      exact L.1
     refine req_i ?_ ?_
     · -- r22
      exact L.2.1.1
     refine req_i ?_ ?_
     · -- r23
      exact L.2.1.2
     refine req_i ?_ ?_
     · -- r24
      exact L.2.2
     rfl
    ·
     refine all_i fun n5 => ?_
     refine imp_i fun h21 => ?_
     simp only [wrap_u8] at h21
     refine imp_i fun h22 => ?_
     refine imp_i fun h23 => ?_
     have L := len_leaf (x := n0) (k := 16) (i := (n5).toNat) (by omega) (by omega) (by rw [show p2 16 = 65536 by decide]; omega) (by omega) (by omega) (by omega)
     try simp only [show (Int.ofNat 16 : Int) = 16 from rfl]
     refine req_i ?_ ?_
     · -- r25
      omega
     refine req_i ?_ ?_
     · -- r26
      exact L.1
     refine req_i ?_ ?_
     · -- r27
      exact L.2.1.1
     refine req_i ?_ ?_
     · -- r28
      exact L.2.1.2
     refine req_i ?_ ?_
     · -- r29
      exact L.2.2
     rfl
   ·
    refine bR_dec (fun h24 => ?_) (fun h24 => ?_)
    ·
     refine all_i fun n6 => ?_
     refine imp_i fun h25 => ?_
     simp only [wrap_u8] at h25
     refine imp_i fun h26 => ?_
     refine imp_i fun h27 => ?_
     have L := len_leaf (x := n0) (k := 8) (i := (n6).toNat) (by omega) (by omega) (by rw [show p2 8 = 256 by decide]; omega) (by omega) (by omega) (by omega)
     try simp only [show (Int.ofNat 8 : Int) = 8 from rfl]
     refine req_i ?_ ?_
     · -- r30
      omega
     refine req_i ?_ ?_
     · -- r31
      exact L.1
     refine req_i ?_ ?_
     · -- r32
      exact L.2.1.1
     refine req_i ?_ ?_
     · -- r33
      exact L.2.1.2
     refine req_i ?_ ?_
     · -- r34
      exact L.2.2
     rfl
    ·
     refine all_i fun n7 => ?_
     refine imp_i fun h28 => ?_
     simp only [wrap_u8] at h28
     refine imp_i fun h29 => ?_
     refine imp_i fun h30 => ?_
     have L := len_leaf (x := n0) (k := 0) (i := (n7).toNat) (by omega) (by omega) (by rw [show p2 0 = 1 by decide]; omega) (by omega) (by omega) (by omega)
     try simp only [show (Int.ofNat 0 : Int) = 0 from rfl]
     refine req_i ?_ ?_
     · -- r35
      omega
     refine req_i ?_ ?_
     · -- r36
      exact L.1
     refine req_i ?_ ?_
     · -- r37
      exact L.2.1.1
     refine req_i ?_ ?_
     · -- r38
      exact L.2.1.2
     refine req_i ?_ ?_
     · -- r39
      exact L.2.2
     rfl
theorem ext_len64 : ∀ p ∈ ([] : List (Nat × Ext)), ExtRow Try.prog p.1 p.2 := by
  intro p hp
  cases hp
theorem cts_len64 : CtsOk Try.prog [] := fun f c h => by cases h
theorem fn_len64 : FnOk Try.prog 70 sigLen [] := fn_sound (by kernel_rfl) ext_len64 cts_len64 names vt_len64
end Go.Proofs.Ytcddopooofdgcaa

namespace Go.Proofs.Ytcddopooofdgcaa
open Go.Ev Go.Sp
set_option maxRecDepth 100000
theorem vc_lz64 : vcFn Try.prog [(70, Ext.ctr (ctOf sigLen))] tab [] 100 69 sigLz = (allB fun n0 : Int => 
impB ((0 : Int) ≤ n0) (
impB (n0 ≤ (18446744073709551615 : Int)) (
impB (sigLz.pre [DV.n n0]) (
reqB ((0 : Int) ≤ n0) (
reqB (n0 ≤ (18446744073709551615 : Int)) (
reqB (sigLen.pre [DV.n n0]) (
allB fun n1 : Int => 
impB ((0 : Int) ≤ n1) (
impB (n1 ≤ (64 : Int)) (
impB (sigLen.post [DV.n n0] [DV.n n1]) (
reqB ((0 : Int) ≤ (64 : Int) - n1) (
reqB ((64 : Int) - n1 ≤ (64 : Int)) (
reqB (sigLz.post [DV.n n0] [DV.n ((64 : Int) - n1)]) (
true))))))))))))) := by kernel_rfl
set_option maxHeartbeats 8000000 in
theorem vt_lz64 : vcFn Try.prog [(70, Ext.ctr (ctOf sigLen))] tab [] 100 69 sigLz = true := by
  rw [vc_lz64]
  try simp only [Int.toNat_natCast, List.length_set, List.length_replicate, List.length_take, List.length_drop, List.length_append, List.length_cons, List.length_nil, Nat.min_self, List.take_take, lenCols_i, lenCols_b, List.drop_zero, List.take_length, Nat.add_eq, Nat.mul_eq, Nat.sub_eq, Nat.zero_add, Nat.sub_zero, Nat.mul_one]
  refine all_i fun n0 => ?_
  refine imp_i fun h0 => ?_
  refine imp_i fun h1 => ?_
  refine imp_i fun h2 => ?_
  try simp only [sigLz, lzPost, List.cons.injEq, DV.b.injEq, and_true, List.length_cons, List.length_nil] at h2
  refine req_i ?_ ?_
  · -- r0
   first | omega | assumption | grind
  refine req_i ?_ ?_
  · -- r1
   first | omega | assumption | grind
  refine req_i ?_ ?_
  · -- r2
   first | trivial | assumption | (simp only [sigLen, lenPost, List.cons.injEq, DV.b.injEq, and_true, List.length_cons, List.length_nil]; done) | ((try simp only [sigLen, lenPost, List.cons.injEq, DV.b.injEq, and_true, List.length_cons, List.length_nil]); first | omega | assumption | grind)
  refine all_i fun n1 => ?_
  refine imp_i fun h3 => ?_
  refine imp_i fun h4 => ?_
  refine imp_i fun h5 => ?_
  try simp only [sigLen, lenPost, List.cons.injEq, DV.b.injEq, and_true, List.length_cons, List.length_nil] at h5
  refine req_i ?_ ?_
  · -- r3
   first | omega | assumption | grind
  refine req_i ?_ ?_
  · -- r4
   first | omega | assumption | grind
  refine req_i ?_ ?_
  · -- r5
   exact lz_of (by omega) h5 rfl
  rfl
theorem ext_lz64 : ∀ p ∈ ([(70, Ext.ctr (ctOf sigLen))] : List (Nat × Ext)), ExtRow Try.prog p.1 p.2 := by
  intro p hp
  simp only [List.mem_cons, List.not_mem_nil, or_false] at hp
  rcases hp with rfl
  · trivial
theorem cts_lz64 : CtsOk Try.prog [(70, Ext.ctr (ctOf sigLen))] := ctsOk_of (cs := [(70, sigLen)])
  (fun p hp => by
    simp only [List.mem_cons, List.not_mem_nil, or_false] at hp
    rcases hp with rfl
    · exact fn_len64
)
  (fun f c h => by
    simp only [List.lookup_cons] at h
    repeat' split at h
    all_goals first | (cases h; done) | (rename_i e; have e := beq_iff_eq.1 e; subst e; cases h; refine ⟨_, ?_, rfl⟩; simp))
theorem fn_lz64 : FnOk Try.prog 69 sigLz [] := fn_sound (by kernel_rfl) ext_lz64 cts_lz64 names vt_lz64
end Go.Proofs.Ytcddopooofdgcaa

namespace Go.Proofs.Ytcddopooofdgcaa
open Go.Ev Go.Sp
set_option maxRecDepth 100000
theorem vc_div64 : vcFn Try.prog [(69, Ext.ctr (ctOf sigLz))] (fun f p _ => at2 f p 66 131068 dg1L (at2 f p 66 2097148 dg2L (none))) [] 100 66 sigDiv = (allB fun n0 : Int => 
impB ((0 : Int) ≤ n0) (
impB (n0 ≤ (18446744073709551615 : Int)) (
allB fun n1 : Int => 
impB ((0 : Int) ≤ n1) (
impB (n1 ≤ (18446744073709551615 : Int)) (
allB fun n2 : Int => 
impB ((0 : Int) ≤ n2) (
impB (n2 ≤ (18446744073709551615 : Int)) (
impB (sigDiv.pre [DV.n n0, DV.n n1, DV.n n2]) (
bR (dec (n2 = (0 : Int))) (
 false) (
 bR (dec (n2 ≤ n0)) (
 false) (
 bR (dec (n0 = (0 : Int))) (
 reqB (n2 ≠ (0 : Int)) (
 allB fun n3 : Int => 
 impB (n3 = Go.IntKind.u64.wrap (n1.tdiv n2)) (
 impB (Int.ofNat (0 : Nat) ≤ n3) (
 impB (n3 ≤ Int.ofNat (18446744073709551615 : Nat)) (
 reqB (n2 ≠ (0 : Int)) (
 reqB ((0 : Int) ≤ n3) (
 reqB (n3 ≤ (18446744073709551615 : Int)) (
 reqB ((0 : Int) ≤ n1.tmod n2) (
 reqB (n1.tmod n2 ≤ (18446744073709551615 : Int)) (
 reqB (sigDiv.post [DV.n n0, DV.n n1, DV.n n2] [DV.n n3, DV.n (n1.tmod n2)]) (
 true))))))))))) (
 reqB ((0 : Int) ≤ n2) (
 reqB (n2 ≤ (18446744073709551615 : Int)) (
 reqB (sigLz.pre [DV.n n2]) (
 allB fun n4 : Int => 
 impB ((0 : Int) ≤ n4) (
 impB (n4 ≤ (64 : Int)) (
 impB (sigLz.post [DV.n n2] [DV.n n4]) (
 reqB (opI (SO.shl Go.IntKind.u64) n2 n4 / Int.ofNat (4294967296 : Nat) ≠ (0 : Int)) (
 allB fun n5 : Int => 
 impB (n5 =
 Go.IntKind.u64.wrap
 ((opI (SO.or Go.IntKind.u64) (opI (SO.shl Go.IntKind.u64) n0 n4)
 (opI (SO.shr Go.IntKind.u64) n1 ((64 : Int) - n4))).tdiv
 (opI (SO.shl Go.IntKind.u64) n2 n4 / Int.ofNat (4294967296 : Nat)))) (
 impB (Int.ofNat (0 : Nat) ≤ n5) (
 impB (n5 ≤ Int.ofNat (18446744073709551615 : Nat)) (
 allB fun n6 : Int => 
 impB (n6 = Go.IntKind.u64.wrap (n5 * (opI (SO.shl Go.IntKind.u64) n2 n4 / Int.ofNat (4294967296 : Nat)))) (
 impB (Int.ofNat (0 : Nat) ≤ n6) (
 impB (n6 ≤ Int.ofNat (18446744073709551615 : Nat)) (
 allB fun n7 : Int => 
 impB (n7 =
 Go.IntKind.u64.wrap
 (opI (SO.or Go.IntKind.u64) (opI (SO.shl Go.IntKind.u64) n0 n4)
 (opI (SO.shr Go.IntKind.u64) n1 ((64 : Int) - n4)) -
 n6)) (
 impB (Int.ofNat (0 : Nat) ≤ n7) (
 impB (n7 ≤ Int.ofNat (18446744073709551615 : Nat)) (
 reqB ((0 : Int) ≤
 opI (SO.or Go.IntKind.u64) (opI (SO.shl Go.IntKind.u64) n0 n4)
 (opI (SO.shr Go.IntKind.u64) n1 ((64 : Int) - n4))) (
 reqB (opI (SO.or Go.IntKind.u64) (opI (SO.shl Go.IntKind.u64) n0 n4)
 (opI (SO.shr Go.IntKind.u64) n1 ((64 : Int) - n4)) ≤
 (18446744073709551615 : Int)) (
 reqB ((0 : Int) ≤ opI (SO.shl Go.IntKind.u64) n2 n4 / Int.ofNat (4294967296 : Nat)) (
 reqB (opI (SO.shl Go.IntKind.u64) n2 n4 / Int.ofNat (4294967296 : Nat) ≤ (18446744073709551615 : Int)) (
 reqB ((0 : Int) ≤ opI (SO.shl Go.IntKind.u64) n2 n4 % Int.ofNat (4294967296 : Nat)) (
 reqB (opI (SO.shl Go.IntKind.u64) n2 n4 % Int.ofNat (4294967296 : Nat) ≤ (18446744073709551615 : Int)) (
 reqB ((0 : Int) ≤ opI (SO.shl Go.IntKind.u64) n1 n4 / Int.ofNat (4294967296 : Nat)) (
 reqB (opI (SO.shl Go.IntKind.u64) n1 n4 / Int.ofNat (4294967296 : Nat) ≤ (18446744073709551615 : Int)) (
 reqB ((0 : Int) ≤ n5) (
 reqB (n5 ≤ (18446744073709551615 : Int)) (
 reqB ((0 : Int) ≤ n7) (
 reqB (n7 ≤ (18446744073709551615 : Int)) (
 reqB (dg1L.inv
 [DV.n
 (opI (SO.or Go.IntKind.u64) (opI (SO.shl Go.IntKind.u64) n0 n4)
 (opI (SO.shr Go.IntKind.u64) n1 ((64 : Int) - n4))),
 DV.n (opI (SO.shl Go.IntKind.u64) n2 n4 / Int.ofNat (4294967296 : Nat)),
 DV.n (opI (SO.shl Go.IntKind.u64) n2 n4 % Int.ofNat (4294967296 : Nat)),
 DV.n (opI (SO.shl Go.IntKind.u64) n1 n4 / Int.ofNat (4294967296 : Nat))]
 [DV.n n5, DV.n n7]) (
 allB fun n8 : Int => 
 impB ((0 : Int) ≤ n8) (
 impB (n8 ≤ (18446744073709551615 : Int)) (
 allB fun n9 : Int => 
 impB ((0 : Int) ≤ n9) (
 impB (n9 ≤ (18446744073709551615 : Int)) (
 impB (dg1L.inv
 [DV.n
 (opI (SO.or Go.IntKind.u64) (opI (SO.shl Go.IntKind.u64) n0 n4)
 (opI (SO.shr Go.IntKind.u64) n1 ((64 : Int) - n4))),
 DV.n (opI (SO.shl Go.IntKind.u64) n2 n4 / Int.ofNat (4294967296 : Nat)),
 DV.n (opI (SO.shl Go.IntKind.u64) n2 n4 % Int.ofNat (4294967296 : Nat)),
 DV.n (opI (SO.shl Go.IntKind.u64) n1 n4 / Int.ofNat (4294967296 : Nat))]
 [DV.n n8, DV.n n9]) (
 bR (dec ((4294967296 : Int) ≤ n8)) (
 allB fun n10 : Int => 
 impB (n10 = Go.IntKind.u64.wrap (n8 - (1 : Int))) (
 impB (Int.ofNat (0 : Nat) ≤ n10) (
 impB (n10 ≤ Int.ofNat (18446744073709551615 : Nat)) (
 allB fun n11 : Int => 
 impB (n11 = Go.IntKind.u64.wrap (n9 + opI (SO.shl Go.IntKind.u64) n2 n4 / Int.ofNat (4294967296 : Nat))) (
 impB (Int.ofNat (0 : Nat) ≤ n11) (
 impB (n11 ≤ Int.ofNat (18446744073709551615 : Nat)) (
 bR (dec ((4294967296 : Int) ≤ n11)) (
 allB fun n12 : Int => 
 impB (n12 =
 Go.IntKind.u64.wrap
 (opI (SO.or Go.IntKind.u64) (opI (SO.shl Go.IntKind.u64) n0 n4)
 (opI (SO.shr Go.IntKind.u64) n1 ((64 : Int) - n4)) *
 (4294967296 : Int))) (
 impB (Int.ofNat (0 : Nat) ≤ n12) (
 impB (n12 ≤ Int.ofNat (18446744073709551615 : Nat)) (
 allB fun n13 : Int => 
 impB (n13 = Go.IntKind.u64.wrap (n12 + opI (SO.shl Go.IntKind.u64) n1 n4 / Int.ofNat (4294967296 : Nat))) (
 impB (Int.ofNat (0 : Nat) ≤ n13) (
 impB (n13 ≤ Int.ofNat (18446744073709551615 : Nat)) (
 allB fun n14 : Int => 
 impB (n14 = Go.IntKind.u64.wrap (n10 * opI (SO.shl Go.IntKind.u64) n2 n4)) (
 impB (Int.ofNat (0 : Nat) ≤ n14) (
 impB (n14 ≤ Int.ofNat (18446744073709551615 : Nat)) (
 allB fun n15 : Int => 
 impB (n15 = Go.IntKind.u64.wrap (n13 - n14)) (
 impB (Int.ofNat (0 : Nat) ≤ n15) (
 impB (n15 ≤ Int.ofNat (18446744073709551615 : Nat)) (
 reqB (opI (SO.shl Go.IntKind.u64) n2 n4 / Int.ofNat (4294967296 : Nat) ≠ (0 : Int)) (
 allB fun n16 : Int => 
 impB (n16 = Go.IntKind.u64.wrap (n15.tdiv (opI (SO.shl Go.IntKind.u64) n2 n4 / Int.ofNat (4294967296 : Nat)))) (
 impB (Int.ofNat (0 : Nat) ≤ n16) (
 impB (n16 ≤ Int.ofNat (18446744073709551615 : Nat)) (
 allB fun n17 : Int => 
 impB (n17 = Go.IntKind.u64.wrap (n16 * (opI (SO.shl Go.IntKind.u64) n2 n4 / Int.ofNat (4294967296 : Nat)))) (
 impB (Int.ofNat (0 : Nat) ≤ n17) (
 impB (n17 ≤ Int.ofNat (18446744073709551615 : Nat)) (
 allB fun n18 : Int => 
 impB (n18 = Go.IntKind.u64.wrap (n15 - n17)) (
 impB (Int.ofNat (0 : Nat) ≤ n18) (
 impB (n18 ≤ Int.ofNat (18446744073709551615 : Nat)) (
 reqB ((0 : Int) ≤ n15) (
 reqB (n15 ≤ (18446744073709551615 : Int)) (
 reqB ((0 : Int) ≤ opI (SO.shl Go.IntKind.u64) n2 n4 / Int.ofNat (4294967296 : Nat)) (
 reqB (opI (SO.shl Go.IntKind.u64) n2 n4 / Int.ofNat (4294967296 : Nat) ≤ (18446744073709551615 : Int)) (
 reqB ((0 : Int) ≤ opI (SO.shl Go.IntKind.u64) n2 n4 % Int.ofNat (4294967296 : Nat)) (
 reqB (opI (SO.shl Go.IntKind.u64) n2 n4 % Int.ofNat (4294967296 : Nat) ≤ (18446744073709551615 : Int)) (
 reqB ((0 : Int) ≤ opI (SO.shl Go.IntKind.u64) n1 n4 % Int.ofNat (4294967296 : Nat)) (
 reqB (opI (SO.shl Go.IntKind.u64) n1 n4 % Int.ofNat (4294967296 : Nat) ≤ (18446744073709551615 : Int)) (
 reqB ((0 : Int) ≤ n16) (
 reqB (n16 ≤ (18446744073709551615 : Int)) (
 reqB ((0 : Int) ≤ n18) (
 reqB (n18 ≤ (18446744073709551615 : Int)) (
 reqB (dg2L.inv
 [DV.n n15, DV.n (opI (SO.shl Go.IntKind.u64) n2 n4 / Int.ofNat (4294967296 : Nat)),
 DV.n (opI (SO.shl Go.IntKind.u64) n2 n4 % Int.ofNat (4294967296 : Nat)),
 DV.n (opI (SO.shl Go.IntKind.u64) n1 n4 % Int.ofNat (4294967296 : Nat))]
 [DV.n n16, DV.n n18]) (
 allB fun n19 : Int => 
 impB ((0 : Int) ≤ n19) (
 impB (n19 ≤ (18446744073709551615 : Int)) (
 allB fun n20 : Int => 
 impB ((0 : Int) ≤ n20) (
 impB (n20 ≤ (18446744073709551615 : Int)) (
 impB (dg2L.inv
 [DV.n n15, DV.n (opI (SO.shl Go.IntKind.u64) n2 n4 / Int.ofNat (4294967296 : Nat)),
 DV.n (opI (SO.shl Go.IntKind.u64) n2 n4 % Int.ofNat (4294967296 : Nat)),
 DV.n (opI (SO.shl Go.IntKind.u64) n1 n4 % Int.ofNat (4294967296 : Nat))]
 [DV.n n19, DV.n n20]) (
 bR (dec ((4294967296 : Int) ≤ n19)) (
 allB fun n21 : Int => 
 impB (n21 = Go.IntKind.u64.wrap (n19 - (1 : Int))) (
 impB (Int.ofNat (0 : Nat) ≤ n21) (
 impB (n21 ≤ Int.ofNat (18446744073709551615 : Nat)) (
 allB fun n22 : Int => 
 impB (n22 = Go.IntKind.u64.wrap (n20 + opI (SO.shl Go.IntKind.u64) n2 n4 / Int.ofNat (4294967296 : Nat))) (
 impB (Int.ofNat (0 : Nat) ≤ n22) (
 impB (n22 ≤ Int.ofNat (18446744073709551615 : Nat)) (
 bR (dec ((4294967296 : Int) ≤ n22)) (
 allB fun n23 : Int => 
 impB (n23 = Go.IntKind.u64.wrap (n10 * (4294967296 : Int))) (
 impB (Int.ofNat (0 : Nat) ≤ n23) (
 impB (n23 ≤ Int.ofNat (18446744073709551615 : Nat)) (
 allB fun n24 : Int => 
 impB (n24 = Go.IntKind.u64.wrap (n23 + n21)) (
 impB (Int.ofNat (0 : Nat) ≤ n24) (
 impB (n24 ≤ Int.ofNat (18446744073709551615 : Nat)) (
 allB fun n25 : Int => 
 impB (n25 = Go.IntKind.u64.wrap (n15 * (4294967296 : Int))) (
 impB (Int.ofNat (0 : Nat) ≤ n25) (
 impB (n25 ≤ Int.ofNat (18446744073709551615 : Nat)) (
 allB fun n26 : Int => 
 impB (n26 = Go.IntKind.u64.wrap (n25 + opI (SO.shl Go.IntKind.u64) n1 n4 % Int.ofNat (4294967296 : Nat))) (
 impB (Int.ofNat (0 : Nat) ≤ n26) (
 impB (n26 ≤ Int.ofNat (18446744073709551615 : Nat)) (
 allB fun n27 : Int => 
 impB (n27 = Go.IntKind.u64.wrap (n21 * opI (SO.shl Go.IntKind.u64) n2 n4)) (
 impB (Int.ofNat (0 : Nat) ≤ n27) (
 impB (n27 ≤ Int.ofNat (18446744073709551615 : Nat)) (
 allB fun n28 : Int => 
 impB (n28 = Go.IntKind.u64.wrap (n26 - n27)) (
 impB (Int.ofNat (0 : Nat) ≤ n28) (
 impB (n28 ≤ Int.ofNat (18446744073709551615 : Nat)) (
 reqB ((0 : Int) ≤ n24) (
 reqB (n24 ≤ (18446744073709551615 : Int)) (
 reqB ((0 : Int) ≤ opI (SO.shr Go.IntKind.u64) n28 n4) (
 reqB (opI (SO.shr Go.IntKind.u64) n28 n4 ≤ (18446744073709551615 : Int)) (
 reqB (sigDiv.post [DV.n n0, DV.n n1, DV.n n2]
 [DV.n n24, DV.n (opI (SO.shr Go.IntKind.u64) n28 n4)]) (
 true)))))))))))))))))))))))) (
 bR (bR (dec (opI (SO.shl Go.IntKind.u64) n2 n4 = opI (SO.shl Go.IntKind.u64) n2 n4)) (
 bR (dec (n4 = n4)) (
 bR (dec (opI (SO.shl Go.IntKind.u64) n2 n4 / Int.ofNat (4294967296 : Nat) =
 opI (SO.shl Go.IntKind.u64) n2 n4 / Int.ofNat (4294967296 : Nat))) (
 bR (dec (opI (SO.shl Go.IntKind.u64) n2 n4 % Int.ofNat (4294967296 : Nat) =
 opI (SO.shl Go.IntKind.u64) n2 n4 % Int.ofNat (4294967296 : Nat))) (
 bR (dec (opI (SO.shl Go.IntKind.u64) n1 n4 % Int.ofNat (4294967296 : Nat) =
 opI (SO.shl Go.IntKind.u64) n1 n4 % Int.ofNat (4294967296 : Nat))) (
 bR (dec (n10 = n10)) (
 bR (dec (n15 = n15)) (
 true) (
 false)) (
 false)) (
 false)) (
 false)) (
 false)) (
 false)) (
 false)) (
 reqB ((0 : Int) ≤ n21) (
 reqB (n21 ≤ (18446744073709551615 : Int)) (
 reqB ((0 : Int) ≤ n22) (
 reqB (n22 ≤ (18446744073709551615 : Int)) (
 reqB (dg2L.inv
 [DV.n n15, DV.n (opI (SO.shl Go.IntKind.u64) n2 n4 / Int.ofNat (4294967296 : Nat)),
 DV.n (opI (SO.shl Go.IntKind.u64) n2 n4 % Int.ofNat (4294967296 : Nat)),
 DV.n (opI (SO.shl Go.IntKind.u64) n1 n4 % Int.ofNat (4294967296 : Nat))]
 [DV.n n21, DV.n n22]) (
 reqB (dg2L.mea
 [DV.n n15, DV.n (opI (SO.shl Go.IntKind.u64) n2 n4 / Int.ofNat (4294967296 : Nat)),
 DV.n (opI (SO.shl Go.IntKind.u64) n2 n4 % Int.ofNat (4294967296 : Nat)),
 DV.n (opI (SO.shl Go.IntKind.u64) n1 n4 % Int.ofNat (4294967296 : Nat))]
 [DV.n n21, DV.n n22] <
 dg2L.mea
 [DV.n n15, DV.n (opI (SO.shl Go.IntKind.u64) n2 n4 / Int.ofNat (4294967296 : Nat)),
 DV.n (opI (SO.shl Go.IntKind.u64) n2 n4 % Int.ofNat (4294967296 : Nat)),
 DV.n (opI (SO.shl Go.IntKind.u64) n1 n4 % Int.ofNat (4294967296 : Nat))]
 [DV.n n19, DV.n n20]) (
 true))))))) (
 false))))))))) (
 allB fun n29 : Int => 
 impB (n29 = Go.IntKind.u64.wrap (n19 * (opI (SO.shl Go.IntKind.u64) n2 n4 % Int.ofNat (4294967296 : Nat)))) (
 impB (Int.ofNat (0 : Nat) ≤ n29) (
 impB (n29 ≤ Int.ofNat (18446744073709551615 : Nat)) (
 allB fun n30 : Int => 
 impB (n30 = Go.IntKind.u64.wrap ((4294967296 : Int) * n20)) (
 impB (Int.ofNat (0 : Nat) ≤ n30) (
 impB (n30 ≤ Int.ofNat (18446744073709551615 : Nat)) (
 allB fun n31 : Int => 
 impB (n31 = Go.IntKind.u64.wrap (n30 + opI (SO.shl Go.IntKind.u64) n1 n4 % Int.ofNat (4294967296 : Nat))) (
 impB (Int.ofNat (0 : Nat) ≤ n31) (
 impB (n31 ≤ Int.ofNat (18446744073709551615 : Nat)) (
 bR (dec (n31 < n29)) (
 allB fun n32 : Int => 
 impB (n32 = Go.IntKind.u64.wrap (n19 - (1 : Int))) (
 impB (Int.ofNat (0 : Nat) ≤ n32) (
 impB (n32 ≤ Int.ofNat (18446744073709551615 : Nat)) (
 allB fun n33 : Int => 
 impB (n33 = Go.IntKind.u64.wrap (n20 + opI (SO.shl Go.IntKind.u64) n2 n4 / Int.ofNat (4294967296 : Nat))) (
 impB (Int.ofNat (0 : Nat) ≤ n33) (
 impB (n33 ≤ Int.ofNat (18446744073709551615 : Nat)) (
 bR (dec ((4294967296 : Int) ≤ n33)) (
 allB fun n34 : Int => 
 impB (n34 = Go.IntKind.u64.wrap (n10 * (4294967296 : Int))) (
 impB (Int.ofNat (0 : Nat) ≤ n34) (
 impB (n34 ≤ Int.ofNat (18446744073709551615 : Nat)) (
 allB fun n35 : Int => 
 impB (n35 = Go.IntKind.u64.wrap (n34 + n32)) (
 impB (Int.ofNat (0 : Nat) ≤ n35) (
 impB (n35 ≤ Int.ofNat (18446744073709551615 : Nat)) (
 allB fun n36 : Int => 
 impB (n36 = Go.IntKind.u64.wrap (n15 * (4294967296 : Int))) (
 impB (Int.ofNat (0 : Nat) ≤ n36) (
 impB (n36 ≤ Int.ofNat (18446744073709551615 : Nat)) (
 allB fun n37 : Int => 
 impB (n37 = Go.IntKind.u64.wrap (n36 + opI (SO.shl Go.IntKind.u64) n1 n4 % Int.ofNat (4294967296 : Nat))) (
 impB (Int.ofNat (0 : Nat) ≤ n37) (
 impB (n37 ≤ Int.ofNat (18446744073709551615 : Nat)) (
 allB fun n38 : Int => 
 impB (n38 = Go.IntKind.u64.wrap (n32 * opI (SO.shl Go.IntKind.u64) n2 n4)) (
 impB (Int.ofNat (0 : Nat) ≤ n38) (
 impB (n38 ≤ Int.ofNat (18446744073709551615 : Nat)) (
 allB fun n39 : Int => 
 impB (n39 = Go.IntKind.u64.wrap (n37 - n38)) (
 impB (Int.ofNat (0 : Nat) ≤ n39) (
 impB (n39 ≤ Int.ofNat (18446744073709551615 : Nat)) (
 reqB ((0 : Int) ≤ n35) (
 reqB (n35 ≤ (18446744073709551615 : Int)) (
 reqB ((0 : Int) ≤ opI (SO.shr Go.IntKind.u64) n39 n4) (
 reqB (opI (SO.shr Go.IntKind.u64) n39 n4 ≤ (18446744073709551615 : Int)) (
 reqB (sigDiv.post [DV.n n0, DV.n n1, DV.n n2]
 [DV.n n35, DV.n (opI (SO.shr Go.IntKind.u64) n39 n4)]) (
 true)))))))))))))))))))))))) (
 bR (bR (dec (opI (SO.shl Go.IntKind.u64) n2 n4 = opI (SO.shl Go.IntKind.u64) n2 n4)) (
 bR (dec (n4 = n4)) (
 bR (dec (opI (SO.shl Go.IntKind.u64) n2 n4 / Int.ofNat (4294967296 : Nat) =
 opI (SO.shl Go.IntKind.u64) n2 n4 / Int.ofNat (4294967296 : Nat))) (
 bR (dec (opI (SO.shl Go.IntKind.u64) n2 n4 % Int.ofNat (4294967296 : Nat) =
 opI (SO.shl Go.IntKind.u64) n2 n4 % Int.ofNat (4294967296 : Nat))) (
 bR (dec (opI (SO.shl Go.IntKind.u64) n1 n4 % Int.ofNat (4294967296 : Nat) =
 opI (SO.shl Go.IntKind.u64) n1 n4 % Int.ofNat (4294967296 : Nat))) (
 bR (dec (n10 = n10)) (
 bR (dec (n15 = n15)) (
 true) (
 false)) (
 false)) (
 false)) (
 false)) (
 false)) (
 false)) (
 false)) (
 reqB ((0 : Int) ≤ n32) (
 reqB (n32 ≤ (18446744073709551615 : Int)) (
 reqB ((0 : Int) ≤ n33) (
 reqB (n33 ≤ (18446744073709551615 : Int)) (
 reqB (dg2L.inv
 [DV.n n15, DV.n (opI (SO.shl Go.IntKind.u64) n2 n4 / Int.ofNat (4294967296 : Nat)),
 DV.n (opI (SO.shl Go.IntKind.u64) n2 n4 % Int.ofNat (4294967296 : Nat)),
 DV.n (opI (SO.shl Go.IntKind.u64) n1 n4 % Int.ofNat (4294967296 : Nat))]
 [DV.n n32, DV.n n33]) (
 reqB (dg2L.mea
 [DV.n n15, DV.n (opI (SO.shl Go.IntKind.u64) n2 n4 / Int.ofNat (4294967296 : Nat)),
 DV.n (opI (SO.shl Go.IntKind.u64) n2 n4 % Int.ofNat (4294967296 : Nat)),
 DV.n (opI (SO.shl Go.IntKind.u64) n1 n4 % Int.ofNat (4294967296 : Nat))]
 [DV.n n32, DV.n n33] <
 dg2L.mea
 [DV.n n15, DV.n (opI (SO.shl Go.IntKind.u64) n2 n4 / Int.ofNat (4294967296 : Nat)),
 DV.n (opI (SO.shl Go.IntKind.u64) n2 n4 % Int.ofNat (4294967296 : Nat)),
 DV.n (opI (SO.shl Go.IntKind.u64) n1 n4 % Int.ofNat (4294967296 : Nat))]
 [DV.n n19, DV.n n20]) (
 true))))))) (
 false))))))))) (
 allB fun n40 : Int => 
 impB (n40 = Go.IntKind.u64.wrap (n10 * (4294967296 : Int))) (
 impB (Int.ofNat (0 : Nat) ≤ n40) (
 impB (n40 ≤ Int.ofNat (18446744073709551615 : Nat)) (
 allB fun n41 : Int => 
 impB (n41 = Go.IntKind.u64.wrap (n40 + n19)) (
 impB (Int.ofNat (0 : Nat) ≤ n41) (
 impB (n41 ≤ Int.ofNat (18446744073709551615 : Nat)) (
 allB fun n42 : Int => 
 impB (n42 = Go.IntKind.u64.wrap (n15 * (4294967296 : Int))) (
 impB (Int.ofNat (0 : Nat) ≤ n42) (
 impB (n42 ≤ Int.ofNat (18446744073709551615 : Nat)) (
 allB fun n43 : Int => 
 impB (n43 = Go.IntKind.u64.wrap (n42 + opI (SO.shl Go.IntKind.u64) n1 n4 % Int.ofNat (4294967296 : Nat))) (
 impB (Int.ofNat (0 : Nat) ≤ n43) (
 impB (n43 ≤ Int.ofNat (18446744073709551615 : Nat)) (
 allB fun n44 : Int => 
 impB (n44 = Go.IntKind.u64.wrap (n19 * opI (SO.shl Go.IntKind.u64) n2 n4)) (
 impB (Int.ofNat (0 : Nat) ≤ n44) (
 impB (n44 ≤ Int.ofNat (18446744073709551615 : Nat)) (
 allB fun n45 : Int => 
 impB (n45 = Go.IntKind.u64.wrap (n43 - n44)) (
 impB (Int.ofNat (0 : Nat) ≤ n45) (
 impB (n45 ≤ Int.ofNat (18446744073709551615 : Nat)) (
 reqB ((0 : Int) ≤ n41) (
 reqB (n41 ≤ (18446744073709551615 : Int)) (
 reqB ((0 : Int) ≤ opI (SO.shr Go.IntKind.u64) n45 n4) (
 reqB (opI (SO.shr Go.IntKind.u64) n45 n4 ≤ (18446744073709551615 : Int)) (
 reqB (sigDiv.post [DV.n n0, DV.n n1, DV.n n2]
 [DV.n n41, DV.n (opI (SO.shr Go.IntKind.u64) n45 n4)]) (
 true))))))))))))))))))))))))))))))))))))))))))))))))))))))))))))))))))))))))))) (
 bR (bR (dec (opI (SO.shl Go.IntKind.u64) n2 n4 = opI (SO.shl Go.IntKind.u64) n2 n4)) (
 bR (dec (n4 = n4)) (
 bR (dec (opI (SO.shl Go.IntKind.u64) n2 n4 / Int.ofNat (4294967296 : Nat) =
 opI (SO.shl Go.IntKind.u64) n2 n4 / Int.ofNat (4294967296 : Nat))) (
 bR (dec (opI (SO.shl Go.IntKind.u64) n2 n4 % Int.ofNat (4294967296 : Nat) =
 opI (SO.shl Go.IntKind.u64) n2 n4 % Int.ofNat (4294967296 : Nat))) (
 bR (dec (opI (SO.or Go.IntKind.u64) (opI (SO.shl Go.IntKind.u64) n0 n4)
 (opI (SO.shr Go.IntKind.u64) n1 ((64 : Int) - n4)) =
 opI (SO.or Go.IntKind.u64) (opI (SO.shl Go.IntKind.u64) n0 n4)
 (opI (SO.shr Go.IntKind.u64) n1 ((64 : Int) - n4)))) (
 bR (dec (opI (SO.shl Go.IntKind.u64) n1 n4 / Int.ofNat (4294967296 : Nat) =
 opI (SO.shl Go.IntKind.u64) n1 n4 / Int.ofNat (4294967296 : Nat))) (
 bR (dec (opI (SO.shl Go.IntKind.u64) n1 n4 % Int.ofNat (4294967296 : Nat) =
 opI (SO.shl Go.IntKind.u64) n1 n4 % Int.ofNat (4294967296 : Nat))) (
 true) (
 false)) (
 false)) (
 false)) (
 false)) (
 false)) (
 false)) (
 false)) (
 reqB ((0 : Int) ≤ n10) (
 reqB (n10 ≤ (18446744073709551615 : Int)) (
 reqB ((0 : Int) ≤ n11) (
 reqB (n11 ≤ (18446744073709551615 : Int)) (
 reqB (dg1L.inv
 [DV.n
 (opI (SO.or Go.IntKind.u64) (opI (SO.shl Go.IntKind.u64) n0 n4)
 (opI (SO.shr Go.IntKind.u64) n1 ((64 : Int) - n4))),
 DV.n (opI (SO.shl Go.IntKind.u64) n2 n4 / Int.ofNat (4294967296 : Nat)),
 DV.n (opI (SO.shl Go.IntKind.u64) n2 n4 % Int.ofNat (4294967296 : Nat)),
 DV.n (opI (SO.shl Go.IntKind.u64) n1 n4 / Int.ofNat (4294967296 : Nat))]
 [DV.n n10, DV.n n11]) (
 reqB (dg1L.mea
 [DV.n
 (opI (SO.or Go.IntKind.u64) (opI (SO.shl Go.IntKind.u64) n0 n4)
 (opI (SO.shr Go.IntKind.u64) n1 ((64 : Int) - n4))),
 DV.n (opI (SO.shl Go.IntKind.u64) n2 n4 / Int.ofNat (4294967296 : Nat)),
 DV.n (opI (SO.shl Go.IntKind.u64) n2 n4 % Int.ofNat (4294967296 : Nat)),
 DV.n (opI (SO.shl Go.IntKind.u64) n1 n4 / Int.ofNat (4294967296 : Nat))]
 [DV.n n10, DV.n n11] <
 dg1L.mea
 [DV.n
 (opI (SO.or Go.IntKind.u64) (opI (SO.shl Go.IntKind.u64) n0 n4)
 (opI (SO.shr Go.IntKind.u64) n1 ((64 : Int) - n4))),
 DV.n (opI (SO.shl Go.IntKind.u64) n2 n4 / Int.ofNat (4294967296 : Nat)),
 DV.n (opI (SO.shl Go.IntKind.u64) n2 n4 % Int.ofNat (4294967296 : Nat)),
 DV.n (opI (SO.shl Go.IntKind.u64) n1 n4 / Int.ofNat (4294967296 : Nat))]
 [DV.n n8, DV.n n9]) (
 true))))))) (
 false))))))))) (
 allB fun n46 : Int => 
 impB (n46 = Go.IntKind.u64.wrap (n8 * (opI (SO.shl Go.IntKind.u64) n2 n4 % Int.ofNat (4294967296 : Nat)))) (
 impB (Int.ofNat (0 : Nat) ≤ n46) (
 impB (n46 ≤ Int.ofNat (18446744073709551615 : Nat)) (
 allB fun n47 : Int => 
 impB (n47 = Go.IntKind.u64.wrap ((4294967296 : Int) * n9)) (
 impB (Int.ofNat (0 : Nat) ≤ n47) (
 impB (n47 ≤ Int.ofNat (18446744073709551615 : Nat)) (
 allB fun n48 : Int => 
 impB (n48 = Go.IntKind.u64.wrap (n47 + opI (SO.shl Go.IntKind.u64) n1 n4 / Int.ofNat (4294967296 : Nat))) (
 impB (Int.ofNat (0 : Nat) ≤ n48) (
 impB (n48 ≤ Int.ofNat (18446744073709551615 : Nat)) (
 bR (dec (n48 < n46)) (
 allB fun n49 : Int => 
 impB (n49 = Go.IntKind.u64.wrap (n8 - (1 : Int))) (
 impB (Int.ofNat (0 : Nat) ≤ n49) (
 impB (n49 ≤ Int.ofNat (18446744073709551615 : Nat)) (
 allB fun n50 : Int => 
 impB (n50 = Go.IntKind.u64.wrap (n9 + opI (SO.shl Go.IntKind.u64) n2 n4 / Int.ofNat (4294967296 : Nat))) (
 impB (Int.ofNat (0 : Nat) ≤ n50) (
 impB (n50 ≤ Int.ofNat (18446744073709551615 : Nat)) (
 bR (dec ((4294967296 : Int) ≤ n50)) (
 allB fun n51 : Int => 
 impB (n51 =
 Go.IntKind.u64.wrap
 (opI (SO.or Go.IntKind.u64) (opI (SO.shl Go.IntKind.u64) n0 n4)
 (opI (SO.shr Go.IntKind.u64) n1 ((64 : Int) - n4)) *
 (4294967296 : Int))) (
 impB (Int.ofNat (0 : Nat) ≤ n51) (
 impB (n51 ≤ Int.ofNat (18446744073709551615 : Nat)) (
 allB fun n52 : Int => 
 impB (n52 = Go.IntKind.u64.wrap (n51 + opI (SO.shl Go.IntKind.u64) n1 n4 / Int.ofNat (4294967296 : Nat))) (
 impB (Int.ofNat (0 : Nat) ≤ n52) (
 impB (n52 ≤ Int.ofNat (18446744073709551615 : Nat)) (
 allB fun n53 : Int => 
 impB (n53 = Go.IntKind.u64.wrap (n49 * opI (SO.shl Go.IntKind.u64) n2 n4)) (
 impB (Int.ofNat (0 : Nat) ≤ n53) (
 impB (n53 ≤ Int.ofNat (18446744073709551615 : Nat)) (
 allB fun n54 : Int => 
 impB (n54 = Go.IntKind.u64.wrap (n52 - n53)) (
 impB (Int.ofNat (0 : Nat) ≤ n54) (
 impB (n54 ≤ Int.ofNat (18446744073709551615 : Nat)) (
 reqB (opI (SO.shl Go.IntKind.u64) n2 n4 / Int.ofNat (4294967296 : Nat) ≠ (0 : Int)) (
 allB fun n55 : Int => 
 impB (n55 = Go.IntKind.u64.wrap (n54.tdiv (opI (SO.shl Go.IntKind.u64) n2 n4 / Int.ofNat (4294967296 : Nat)))) (
 impB (Int.ofNat (0 : Nat) ≤ n55) (
 impB (n55 ≤ Int.ofNat (18446744073709551615 : Nat)) (
 allB fun n56 : Int => 
 impB (n56 = Go.IntKind.u64.wrap (n55 * (opI (SO.shl Go.IntKind.u64) n2 n4 / Int.ofNat (4294967296 : Nat)))) (
 impB (Int.ofNat (0 : Nat) ≤ n56) (
 impB (n56 ≤ Int.ofNat (18446744073709551615 : Nat)) (
 allB fun n57 : Int => 
 impB (n57 = Go.IntKind.u64.wrap (n54 - n56)) (
 impB (Int.ofNat (0 : Nat) ≤ n57) (
 impB (n57 ≤ Int.ofNat (18446744073709551615 : Nat)) (
 reqB ((0 : Int) ≤ n54) (
 reqB (n54 ≤ (18446744073709551615 : Int)) (
 reqB ((0 : Int) ≤ opI (SO.shl Go.IntKind.u64) n2 n4 / Int.ofNat (4294967296 : Nat)) (
 reqB (opI (SO.shl Go.IntKind.u64) n2 n4 / Int.ofNat (4294967296 : Nat) ≤ (18446744073709551615 : Int)) (
 reqB ((0 : Int) ≤ opI (SO.shl Go.IntKind.u64) n2 n4 % Int.ofNat (4294967296 : Nat)) (
 reqB (opI (SO.shl Go.IntKind.u64) n2 n4 % Int.ofNat (4294967296 : Nat) ≤ (18446744073709551615 : Int)) (
 reqB ((0 : Int) ≤ opI (SO.shl Go.IntKind.u64) n1 n4 % Int.ofNat (4294967296 : Nat)) (
 reqB (opI (SO.shl Go.IntKind.u64) n1 n4 % Int.ofNat (4294967296 : Nat) ≤ (18446744073709551615 : Int)) (
 reqB ((0 : Int) ≤ n55) (
 reqB (n55 ≤ (18446744073709551615 : Int)) (
 reqB ((0 : Int) ≤ n57) (
 reqB (n57 ≤ (18446744073709551615 : Int)) (
 reqB (dg2L.inv
 [DV.n n54, DV.n (opI (SO.shl Go.IntKind.u64) n2 n4 / Int.ofNat (4294967296 : Nat)),
 DV.n (opI (SO.shl Go.IntKind.u64) n2 n4 % Int.ofNat (4294967296 : Nat)),
 DV.n (opI (SO.shl Go.IntKind.u64) n1 n4 % Int.ofNat (4294967296 : Nat))]
 [DV.n n55, DV.n n57]) (
 allB fun n58 : Int => 
 impB ((0 : Int) ≤ n58) (
 impB (n58 ≤ (18446744073709551615 : Int)) (
 allB fun n59 : Int => 
 impB ((0 : Int) ≤ n59) (
 impB (n59 ≤ (18446744073709551615 : Int)) (
 impB (dg2L.inv
 [DV.n n54, DV.n (opI (SO.shl Go.IntKind.u64) n2 n4 / Int.ofNat (4294967296 : Nat)),
 DV.n (opI (SO.shl Go.IntKind.u64) n2 n4 % Int.ofNat (4294967296 : Nat)),
 DV.n (opI (SO.shl Go.IntKind.u64) n1 n4 % Int.ofNat (4294967296 : Nat))]
 [DV.n n58, DV.n n59]) (
 bR (dec ((4294967296 : Int) ≤ n58)) (
 allB fun n60 : Int => 
 impB (n60 = Go.IntKind.u64.wrap (n58 - (1 : Int))) (
 impB (Int.ofNat (0 : Nat) ≤ n60) (
 impB (n60 ≤ Int.ofNat (18446744073709551615 : Nat)) (
 allB fun n61 : Int => 
 impB (n61 = Go.IntKind.u64.wrap (n59 + opI (SO.shl Go.IntKind.u64) n2 n4 / Int.ofNat (4294967296 : Nat))) (
 impB (Int.ofNat (0 : Nat) ≤ n61) (
 impB (n61 ≤ Int.ofNat (18446744073709551615 : Nat)) (
 bR (dec ((4294967296 : Int) ≤ n61)) (
 allB fun n62 : Int => 
 impB (n62 = Go.IntKind.u64.wrap (n49 * (4294967296 : Int))) (
 impB (Int.ofNat (0 : Nat) ≤ n62) (
 impB (n62 ≤ Int.ofNat (18446744073709551615 : Nat)) (
 allB fun n63 : Int => 
 impB (n63 = Go.IntKind.u64.wrap (n62 + n60)) (
 impB (Int.ofNat (0 : Nat) ≤ n63) (
 impB (n63 ≤ Int.ofNat (18446744073709551615 : Nat)) (
 allB fun n64 : Int => 
 impB (n64 = Go.IntKind.u64.wrap (n54 * (4294967296 : Int))) (
 impB (Int.ofNat (0 : Nat) ≤ n64) (
 impB (n64 ≤ Int.ofNat (18446744073709551615 : Nat)) (
 allB fun n65 : Int => 
 impB (n65 = Go.IntKind.u64.wrap (n64 + opI (SO.shl Go.IntKind.u64) n1 n4 % Int.ofNat (4294967296 : Nat))) (
 impB (Int.ofNat (0 : Nat) ≤ n65) (
 impB (n65 ≤ Int.ofNat (18446744073709551615 : Nat)) (
 allB fun n66 : Int => 
 impB (n66 = Go.IntKind.u64.wrap (n60 * opI (SO.shl Go.IntKind.u64) n2 n4)) (
 impB (Int.ofNat (0 : Nat) ≤ n66) (
 impB (n66 ≤ Int.ofNat (18446744073709551615 : Nat)) (
 allB fun n67 : Int => 
 impB (n67 = Go.IntKind.u64.wrap (n65 - n66)) (
 impB (Int.ofNat (0 : Nat) ≤ n67) (
 impB (n67 ≤ Int.ofNat (18446744073709551615 : Nat)) (
 reqB ((0 : Int) ≤ n63) (
 reqB (n63 ≤ (18446744073709551615 : Int)) (
 reqB ((0 : Int) ≤ opI (SO.shr Go.IntKind.u64) n67 n4) (
 reqB (opI (SO.shr Go.IntKind.u64) n67 n4 ≤ (18446744073709551615 : Int)) (
 reqB (sigDiv.post [DV.n n0, DV.n n1, DV.n n2]
 [DV.n n63, DV.n (opI (SO.shr Go.IntKind.u64) n67 n4)]) (
 true)))))))))))))))))))))))) (
 bR (bR (dec (opI (SO.shl Go.IntKind.u64) n2 n4 = opI (SO.shl Go.IntKind.u64) n2 n4)) (
 bR (dec (n4 = n4)) (
 bR (dec (opI (SO.shl Go.IntKind.u64) n2 n4 / Int.ofNat (4294967296 : Nat) =
 opI (SO.shl Go.IntKind.u64) n2 n4 / Int.ofNat (4294967296 : Nat))) (
 bR (dec (opI (SO.shl Go.IntKind.u64) n2 n4 % Int.ofNat (4294967296 : Nat) =
 opI (SO.shl Go.IntKind.u64) n2 n4 % Int.ofNat (4294967296 : Nat))) (
 bR (dec (opI (SO.shl Go.IntKind.u64) n1 n4 % Int.ofNat (4294967296 : Nat) =
 opI (SO.shl Go.IntKind.u64) n1 n4 % Int.ofNat (4294967296 : Nat))) (
 bR (dec (n49 = n49)) (
 bR (dec (n54 = n54)) (
 true) (
 false)) (
 false)) (
 false)) (
 false)) (
 false)) (
 false)) (
 false)) (
 reqB ((0 : Int) ≤ n60) (
 reqB (n60 ≤ (18446744073709551615 : Int)) (
 reqB ((0 : Int) ≤ n61) (
 reqB (n61 ≤ (18446744073709551615 : Int)) (
 reqB (dg2L.inv
 [DV.n n54, DV.n (opI (SO.shl Go.IntKind.u64) n2 n4 / Int.ofNat (4294967296 : Nat)),
 DV.n (opI (SO.shl Go.IntKind.u64) n2 n4 % Int.ofNat (4294967296 : Nat)),
 DV.n (opI (SO.shl Go.IntKind.u64) n1 n4 % Int.ofNat (4294967296 : Nat))]
 [DV.n n60, DV.n n61]) (
 reqB (dg2L.mea
 [DV.n n54, DV.n (opI (SO.shl Go.IntKind.u64) n2 n4 / Int.ofNat (4294967296 : Nat)),
 DV.n (opI (SO.shl Go.IntKind.u64) n2 n4 % Int.ofNat (4294967296 : Nat)),
 DV.n (opI (SO.shl Go.IntKind.u64) n1 n4 % Int.ofNat (4294967296 : Nat))]
 [DV.n n60, DV.n n61] <
 dg2L.mea
 [DV.n n54, DV.n (opI (SO.shl Go.IntKind.u64) n2 n4 / Int.ofNat (4294967296 : Nat)),
 DV.n (opI (SO.shl Go.IntKind.u64) n2 n4 % Int.ofNat (4294967296 : Nat)),
 DV.n (opI (SO.shl Go.IntKind.u64) n1 n4 % Int.ofNat (4294967296 : Nat))]
 [DV.n n58, DV.n n59]) (
 true))))))) (
 false))))))))) (
 allB fun n68 : Int => 
 impB (n68 = Go.IntKind.u64.wrap (n58 * (opI (SO.shl Go.IntKind.u64) n2 n4 % Int.ofNat (4294967296 : Nat)))) (
 impB (Int.ofNat (0 : Nat) ≤ n68) (
 impB (n68 ≤ Int.ofNat (18446744073709551615 : Nat)) (
 allB fun n69 : Int => 
 impB (n69 = Go.IntKind.u64.wrap ((4294967296 : Int) * n59)) (
 impB (Int.ofNat (0 : Nat) ≤ n69) (
 impB (n69 ≤ Int.ofNat (18446744073709551615 : Nat)) (
 allB fun n70 : Int => 
 impB (n70 = Go.IntKind.u64.wrap (n69 + opI (SO.shl Go.IntKind.u64) n1 n4 % Int.ofNat (4294967296 : Nat))) (
 impB (Int.ofNat (0 : Nat) ≤ n70) (
 impB (n70 ≤ Int.ofNat (18446744073709551615 : Nat)) (
 bR (dec (n70 < n68)) (
 allB fun n71 : Int => 
 impB (n71 = Go.IntKind.u64.wrap (n58 - (1 : Int))) (
 impB (Int.ofNat (0 : Nat) ≤ n71) (
 impB (n71 ≤ Int.ofNat (18446744073709551615 : Nat)) (
 allB fun n72 : Int => 
 impB (n72 = Go.IntKind.u64.wrap (n59 + opI (SO.shl Go.IntKind.u64) n2 n4 / Int.ofNat (4294967296 : Nat))) (
 impB (Int.ofNat (0 : Nat) ≤ n72) (
 impB (n72 ≤ Int.ofNat (18446744073709551615 : Nat)) (
 bR (dec ((4294967296 : Int) ≤ n72)) (
 allB fun n73 : Int => 
 impB (n73 = Go.IntKind.u64.wrap (n49 * (4294967296 : Int))) (
 impB (Int.ofNat (0 : Nat) ≤ n73) (
 impB (n73 ≤ Int.ofNat (18446744073709551615 : Nat)) (
 allB fun n74 : Int => 
 impB (n74 = Go.IntKind.u64.wrap (n73 + n71)) (
 impB (Int.ofNat (0 : Nat) ≤ n74) (
 impB (n74 ≤ Int.ofNat (18446744073709551615 : Nat)) (
 allB fun n75 : Int => 
 impB (n75 = Go.IntKind.u64.wrap (n54 * (4294967296 : Int))) (
 impB (Int.ofNat (0 : Nat) ≤ n75) (
 impB (n75 ≤ Int.ofNat (18446744073709551615 : Nat)) (
 allB fun n76 : Int => 
 impB (n76 = Go.IntKind.u64.wrap (n75 + opI (SO.shl Go.IntKind.u64) n1 n4 % Int.ofNat (4294967296 : Nat))) (
 impB (Int.ofNat (0 : Nat) ≤ n76) (
 impB (n76 ≤ Int.ofNat (18446744073709551615 : Nat)) (
 allB fun n77 : Int => 
 impB (n77 = Go.IntKind.u64.wrap (n71 * opI (SO.shl Go.IntKind.u64) n2 n4)) (
 impB (Int.ofNat (0 : Nat) ≤ n77) (
 impB (n77 ≤ Int.ofNat (18446744073709551615 : Nat)) (
 allB fun n78 : Int => 
 impB (n78 = Go.IntKind.u64.wrap (n76 - n77)) (
 impB (Int.ofNat (0 : Nat) ≤ n78) (
 impB (n78 ≤ Int.ofNat (18446744073709551615 : Nat)) (
 reqB ((0 : Int) ≤ n74) (
 reqB (n74 ≤ (18446744073709551615 : Int)) (
 reqB ((0 : Int) ≤ opI (SO.shr Go.IntKind.u64) n78 n4) (
 reqB (opI (SO.shr Go.IntKind.u64) n78 n4 ≤ (18446744073709551615 : Int)) (
 reqB (sigDiv.post [DV.n n0, DV.n n1, DV.n n2]
 [DV.n n74, DV.n (opI (SO.shr Go.IntKind.u64) n78 n4)]) (
 true)))))))))))))))))))))))) (
 bR (bR (dec (opI (SO.shl Go.IntKind.u64) n2 n4 = opI (SO.shl Go.IntKind.u64) n2 n4)) (
 bR (dec (n4 = n4)) (
 bR (dec (opI (SO.shl Go.IntKind.u64) n2 n4 / Int.ofNat (4294967296 : Nat) =
 opI (SO.shl Go.IntKind.u64) n2 n4 / Int.ofNat (4294967296 : Nat))) (
 bR (dec (opI (SO.shl Go.IntKind.u64) n2 n4 % Int.ofNat (4294967296 : Nat) =
 opI (SO.shl Go.IntKind.u64) n2 n4 % Int.ofNat (4294967296 : Nat))) (
 bR (dec (opI (SO.shl Go.IntKind.u64) n1 n4 % Int.ofNat (4294967296 : Nat) =
 opI (SO.shl Go.IntKind.u64) n1 n4 % Int.ofNat (4294967296 : Nat))) (
 bR (dec (n49 = n49)) (
 bR (dec (n54 = n54)) (
 true) (
 false)) (
 false)) (
 false)) (
 false)) (
 false)) (
 false)) (
 false)) (
 reqB ((0 : Int) ≤ n71) (
 reqB (n71 ≤ (18446744073709551615 : Int)) (
 reqB ((0 : Int) ≤ n72) (
 reqB (n72 ≤ (18446744073709551615 : Int)) (
 reqB (dg2L.inv
 [DV.n n54, DV.n (opI (SO.shl Go.IntKind.u64) n2 n4 / Int.ofNat (4294967296 : Nat)),
 DV.n (opI (SO.shl Go.IntKind.u64) n2 n4 % Int.ofNat (4294967296 : Nat)),
 DV.n (opI (SO.shl Go.IntKind.u64) n1 n4 % Int.ofNat (4294967296 : Nat))]
 [DV.n n71, DV.n n72]) (
 reqB (dg2L.mea
 [DV.n n54, DV.n (opI (SO.shl Go.IntKind.u64) n2 n4 / Int.ofNat (4294967296 : Nat)),
 DV.n (opI (SO.shl Go.IntKind.u64) n2 n4 % Int.ofNat (4294967296 : Nat)),
 DV.n (opI (SO.shl Go.IntKind.u64) n1 n4 % Int.ofNat (4294967296 : Nat))]
 [DV.n n71, DV.n n72] <
 dg2L.mea
 [DV.n n54, DV.n (opI (SO.shl Go.IntKind.u64) n2 n4 / Int.ofNat (4294967296 : Nat)),
 DV.n (opI (SO.shl Go.IntKind.u64) n2 n4 % Int.ofNat (4294967296 : Nat)),
 DV.n (opI (SO.shl Go.IntKind.u64) n1 n4 % Int.ofNat (4294967296 : Nat))]
 [DV.n n58, DV.n n59]) (
 true))))))) (
 false))))))))) (
 allB fun n79 : Int => 
 impB (n79 = Go.IntKind.u64.wrap (n49 * (4294967296 : Int))) (
 impB (Int.ofNat (0 : Nat) ≤ n79) (
 impB (n79 ≤ Int.ofNat (18446744073709551615 : Nat)) (
 allB fun n80 : Int => 
 impB (n80 = Go.IntKind.u64.wrap (n79 + n58)) (
 impB (Int.ofNat (0 : Nat) ≤ n80) (
 impB (n80 ≤ Int.ofNat (18446744073709551615 : Nat)) (
 allB fun n81 : Int => 
 impB (n81 = Go.IntKind.u64.wrap (n54 * (4294967296 : Int))) (
 impB (Int.ofNat (0 : Nat) ≤ n81) (
 impB (n81 ≤ Int.ofNat (18446744073709551615 : Nat)) (
 allB fun n82 : Int => 
 impB (n82 = Go.IntKind.u64.wrap (n81 + opI (SO.shl Go.IntKind.u64) n1 n4 % Int.ofNat (4294967296 : Nat))) (
 impB (Int.ofNat (0 : Nat) ≤ n82) (
 impB (n82 ≤ Int.ofNat (18446744073709551615 : Nat)) (
 allB fun n83 : Int => 
 impB (n83 = Go.IntKind.u64.wrap (n58 * opI (SO.shl Go.IntKind.u64) n2 n4)) (
 impB (Int.ofNat (0 : Nat) ≤ n83) (
 impB (n83 ≤ Int.ofNat (18446744073709551615 : Nat)) (
 allB fun n84 : Int => 
 impB (n84 = Go.IntKind.u64.wrap (n82 - n83)) (
 impB (Int.ofNat (0 : Nat) ≤ n84) (
 impB (n84 ≤ Int.ofNat (18446744073709551615 : Nat)) (
 reqB ((0 : Int) ≤ n80) (
 reqB (n80 ≤ (18446744073709551615 : Int)) (
 reqB ((0 : Int) ≤ opI (SO.shr Go.IntKind.u64) n84 n4) (
 reqB (opI (SO.shr Go.IntKind.u64) n84 n4 ≤ (18446744073709551615 : Int)) (
 reqB (sigDiv.post [DV.n n0, DV.n n1, DV.n n2]
 [DV.n n80, DV.n (opI (SO.shr Go.IntKind.u64) n84 n4)]) (
 true))))))))))))))))))))))))))))))))))))))))))))))))))))))))))))))))))))))))))) (
 bR (bR (dec (opI (SO.shl Go.IntKind.u64) n2 n4 = opI (SO.shl Go.IntKind.u64) n2 n4)) (
 bR (dec (n4 = n4)) (
 bR (dec (opI (SO.shl Go.IntKind.u64) n2 n4 / Int.ofNat (4294967296 : Nat) =
 opI (SO.shl Go.IntKind.u64) n2 n4 / Int.ofNat (4294967296 : Nat))) (
 bR (dec (opI (SO.shl Go.IntKind.u64) n2 n4 % Int.ofNat (4294967296 : Nat) =
 opI (SO.shl Go.IntKind.u64) n2 n4 % Int.ofNat (4294967296 : Nat))) (
 bR (dec (opI (SO.or Go.IntKind.u64) (opI (SO.shl Go.IntKind.u64) n0 n4)
 (opI (SO.shr Go.IntKind.u64) n1 ((64 : Int) - n4)) =
 opI (SO.or Go.IntKind.u64) (opI (SO.shl Go.IntKind.u64) n0 n4)
 (opI (SO.shr Go.IntKind.u64) n1 ((64 : Int) - n4)))) (
 bR (dec (opI (SO.shl Go.IntKind.u64) n1 n4 / Int.ofNat (4294967296 : Nat) =
 opI (SO.shl Go.IntKind.u64) n1 n4 / Int.ofNat (4294967296 : Nat))) (
 bR (dec (opI (SO.shl Go.IntKind.u64) n1 n4 % Int.ofNat (4294967296 : Nat) =
 opI (SO.shl Go.IntKind.u64) n1 n4 % Int.ofNat (4294967296 : Nat))) (
 true) (
 false)) (
 false)) (
 false)) (
 false)) (
 false)) (
 false)) (
 false)) (
 reqB ((0 : Int) ≤ n49) (
 reqB (n49 ≤ (18446744073709551615 : Int)) (
 reqB ((0 : Int) ≤ n50) (
 reqB (n50 ≤ (18446744073709551615 : Int)) (
 reqB (dg1L.inv
 [DV.n
 (opI (SO.or Go.IntKind.u64) (opI (SO.shl Go.IntKind.u64) n0 n4)
 (opI (SO.shr Go.IntKind.u64) n1 ((64 : Int) - n4))),
 DV.n (opI (SO.shl Go.IntKind.u64) n2 n4 / Int.ofNat (4294967296 : Nat)),
 DV.n (opI (SO.shl Go.IntKind.u64) n2 n4 % Int.ofNat (4294967296 : Nat)),
 DV.n (opI (SO.shl Go.IntKind.u64) n1 n4 / Int.ofNat (4294967296 : Nat))]
 [DV.n n49, DV.n n50]) (
 reqB (dg1L.mea
 [DV.n
 (opI (SO.or Go.IntKind.u64) (opI (SO.shl Go.IntKind.u64) n0 n4)
 (opI (SO.shr Go.IntKind.u64) n1 ((64 : Int) - n4))),
 DV.n (opI (SO.shl Go.IntKind.u64) n2 n4 / Int.ofNat (4294967296 : Nat)),
 DV.n (opI (SO.shl Go.IntKind.u64) n2 n4 % Int.ofNat (4294967296 : Nat)),
 DV.n (opI (SO.shl Go.IntKind.u64) n1 n4 / Int.ofNat (4294967296 : Nat))]
 [DV.n n49, DV.n n50] <
 dg1L.mea
 [DV.n
 (opI (SO.or Go.IntKind.u64) (opI (SO.shl Go.IntKind.u64) n0 n4)
 (opI (SO.shr Go.IntKind.u64) n1 ((64 : Int) - n4))),
 DV.n (opI (SO.shl Go.IntKind.u64) n2 n4 / Int.ofNat (4294967296 : Nat)),
 DV.n (opI (SO.shl Go.IntKind.u64) n2 n4 % Int.ofNat (4294967296 : Nat)),
 DV.n (opI (SO.shl Go.IntKind.u64) n1 n4 / Int.ofNat (4294967296 : Nat))]
 [DV.n n8, DV.n n9]) (
 true))))))) (
 false))))))))) (
 allB fun n85 : Int => 
 impB (n85 =
 Go.IntKind.u64.wrap
 (opI (SO.or Go.IntKind.u64) (opI (SO.shl Go.IntKind.u64) n0 n4)
 (opI (SO.shr Go.IntKind.u64) n1 ((64 : Int) - n4)) *
 (4294967296 : Int))) (
 impB (Int.ofNat (0 : Nat) ≤ n85) (
 impB (n85 ≤ Int.ofNat (18446744073709551615 : Nat)) (
 allB fun n86 : Int => 
 impB (n86 = Go.IntKind.u64.wrap (n85 + opI (SO.shl Go.IntKind.u64) n1 n4 / Int.ofNat (4294967296 : Nat))) (
 impB (Int.ofNat (0 : Nat) ≤ n86) (
 impB (n86 ≤ Int.ofNat (18446744073709551615 : Nat)) (
 allB fun n87 : Int => 
 impB (n87 = Go.IntKind.u64.wrap (n8 * opI (SO.shl Go.IntKind.u64) n2 n4)) (
 impB (Int.ofNat (0 : Nat) ≤ n87) (
 impB (n87 ≤ Int.ofNat (18446744073709551615 : Nat)) (
 allB fun n88 : Int => 
 impB (n88 = Go.IntKind.u64.wrap (n86 - n87)) (
 impB (Int.ofNat (0 : Nat) ≤ n88) (
 impB (n88 ≤ Int.ofNat (18446744073709551615 : Nat)) (
 reqB (opI (SO.shl Go.IntKind.u64) n2 n4 / Int.ofNat (4294967296 : Nat) ≠ (0 : Int)) (
 allB fun n89 : Int => 
 impB (n89 = Go.IntKind.u64.wrap (n88.tdiv (opI (SO.shl Go.IntKind.u64) n2 n4 / Int.ofNat (4294967296 : Nat)))) (
 impB (Int.ofNat (0 : Nat) ≤ n89) (
 impB (n89 ≤ Int.ofNat (18446744073709551615 : Nat)) (
 allB fun n90 : Int => 
 impB (n90 = Go.IntKind.u64.wrap (n89 * (opI (SO.shl Go.IntKind.u64) n2 n4 / Int.ofNat (4294967296 : Nat)))) (
 impB (Int.ofNat (0 : Nat) ≤ n90) (
 impB (n90 ≤ Int.ofNat (18446744073709551615 : Nat)) (
 allB fun n91 : Int => 
 impB (n91 = Go.IntKind.u64.wrap (n88 - n90)) (
 impB (Int.ofNat (0 : Nat) ≤ n91) (
 impB (n91 ≤ Int.ofNat (18446744073709551615 : Nat)) (
 reqB ((0 : Int) ≤ n88) (
 reqB (n88 ≤ (18446744073709551615 : Int)) (
 reqB ((0 : Int) ≤ opI (SO.shl Go.IntKind.u64) n2 n4 / Int.ofNat (4294967296 : Nat)) (
 reqB (opI (SO.shl Go.IntKind.u64) n2 n4 / Int.ofNat (4294967296 : Nat) ≤ (18446744073709551615 : Int)) (
 reqB ((0 : Int) ≤ opI (SO.shl Go.IntKind.u64) n2 n4 % Int.ofNat (4294967296 : Nat)) (
 reqB (opI (SO.shl Go.IntKind.u64) n2 n4 % Int.ofNat (4294967296 : Nat) ≤ (18446744073709551615 : Int)) (
 reqB ((0 : Int) ≤ opI (SO.shl Go.IntKind.u64) n1 n4 % Int.ofNat (4294967296 : Nat)) (
 reqB (opI (SO.shl Go.IntKind.u64) n1 n4 % Int.ofNat (4294967296 : Nat) ≤ (18446744073709551615 : Int)) (
 reqB ((0 : Int) ≤ n89) (
 reqB (n89 ≤ (18446744073709551615 : Int)) (
 reqB ((0 : Int) ≤ n91) (
 reqB (n91 ≤ (18446744073709551615 : Int)) (
 reqB (dg2L.inv
 [DV.n n88, DV.n (opI (SO.shl Go.IntKind.u64) n2 n4 / Int.ofNat (4294967296 : Nat)),
 DV.n (opI (SO.shl Go.IntKind.u64) n2 n4 % Int.ofNat (4294967296 : Nat)),
 DV.n (opI (SO.shl Go.IntKind.u64) n1 n4 % Int.ofNat (4294967296 : Nat))]
 [DV.n n89, DV.n n91]) (
 allB fun n92 : Int => 
 impB ((0 : Int) ≤ n92) (
 impB (n92 ≤ (18446744073709551615 : Int)) (
 allB fun n93 : Int => 
 impB ((0 : Int) ≤ n93) (
 impB (n93 ≤ (18446744073709551615 : Int)) (
 impB (dg2L.inv
 [DV.n n88, DV.n (opI (SO.shl Go.IntKind.u64) n2 n4 / Int.ofNat (4294967296 : Nat)),
 DV.n (opI (SO.shl Go.IntKind.u64) n2 n4 % Int.ofNat (4294967296 : Nat)),
 DV.n (opI (SO.shl Go.IntKind.u64) n1 n4 % Int.ofNat (4294967296 : Nat))]
 [DV.n n92, DV.n n93]) (
 bR (dec ((4294967296 : Int) ≤ n92)) (
 allB fun n94 : Int => 
 impB (n94 = Go.IntKind.u64.wrap (n92 - (1 : Int))) (
 impB (Int.ofNat (0 : Nat) ≤ n94) (
 impB (n94 ≤ Int.ofNat (18446744073709551615 : Nat)) (
 allB fun n95 : Int => 
 impB (n95 = Go.IntKind.u64.wrap (n93 + opI (SO.shl Go.IntKind.u64) n2 n4 / Int.ofNat (4294967296 : Nat))) (
 impB (Int.ofNat (0 : Nat) ≤ n95) (
 impB (n95 ≤ Int.ofNat (18446744073709551615 : Nat)) (
 bR (dec ((4294967296 : Int) ≤ n95)) (
 allB fun n96 : Int => 
 impB (n96 = Go.IntKind.u64.wrap (n8 * (4294967296 : Int))) (
 impB (Int.ofNat (0 : Nat) ≤ n96) (
 impB (n96 ≤ Int.ofNat (18446744073709551615 : Nat)) (
 allB fun n97 : Int => 
 impB (n97 = Go.IntKind.u64.wrap (n96 + n94)) (
 impB (Int.ofNat (0 : Nat) ≤ n97) (
 impB (n97 ≤ Int.ofNat (18446744073709551615 : Nat)) (
 allB fun n98 : Int => 
 impB (n98 = Go.IntKind.u64.wrap (n88 * (4294967296 : Int))) (
 impB (Int.ofNat (0 : Nat) ≤ n98) (
 impB (n98 ≤ Int.ofNat (18446744073709551615 : Nat)) (
 allB fun n99 : Int => 
 impB (n99 = Go.IntKind.u64.wrap (n98 + opI (SO.shl Go.IntKind.u64) n1 n4 % Int.ofNat (4294967296 : Nat))) (
 impB (Int.ofNat (0 : Nat) ≤ n99) (
 impB (n99 ≤ Int.ofNat (18446744073709551615 : Nat)) (
 allB fun n100 : Int => 
 impB (n100 = Go.IntKind.u64.wrap (n94 * opI (SO.shl Go.IntKind.u64) n2 n4)) (
 impB (Int.ofNat (0 : Nat) ≤ n100) (
 impB (n100 ≤ Int.ofNat (18446744073709551615 : Nat)) (
 allB fun n101 : Int => 
 impB (n101 = Go.IntKind.u64.wrap (n99 - n100)) (
 impB (Int.ofNat (0 : Nat) ≤ n101) (
 impB (n101 ≤ Int.ofNat (18446744073709551615 : Nat)) (
 reqB ((0 : Int) ≤ n97) (
 reqB (n97 ≤ (18446744073709551615 : Int)) (
 reqB ((0 : Int) ≤ opI (SO.shr Go.IntKind.u64) n101 n4) (
 reqB (opI (SO.shr Go.IntKind.u64) n101 n4 ≤ (18446744073709551615 : Int)) (
 reqB (sigDiv.post [DV.n n0, DV.n n1, DV.n n2]
 [DV.n n97, DV.n (opI (SO.shr Go.IntKind.u64) n101 n4)]) (
 true)))))))))))))))))))))))) (
 bR (bR (dec (opI (SO.shl Go.IntKind.u64) n2 n4 = opI (SO.shl Go.IntKind.u64) n2 n4)) (
 bR (dec (n4 = n4)) (
 bR (dec (opI (SO.shl Go.IntKind.u64) n2 n4 / Int.ofNat (4294967296 : Nat) =
 opI (SO.shl Go.IntKind.u64) n2 n4 / Int.ofNat (4294967296 : Nat))) (
 bR (dec (opI (SO.shl Go.IntKind.u64) n2 n4 % Int.ofNat (4294967296 : Nat) =
 opI (SO.shl Go.IntKind.u64) n2 n4 % Int.ofNat (4294967296 : Nat))) (
 bR (dec (opI (SO.shl Go.IntKind.u64) n1 n4 % Int.ofNat (4294967296 : Nat) =
 opI (SO.shl Go.IntKind.u64) n1 n4 % Int.ofNat (4294967296 : Nat))) (
 bR (dec (n8 = n8)) (
 bR (dec (n88 = n88)) (
 true) (
 false)) (
 false)) (
 false)) (
 false)) (
 false)) (
 false)) (
 false)) (
 reqB ((0 : Int) ≤ n94) (
 reqB (n94 ≤ (18446744073709551615 : Int)) (
 reqB ((0 : Int) ≤ n95) (
 reqB (n95 ≤ (18446744073709551615 : Int)) (
 reqB (dg2L.inv
 [DV.n n88, DV.n (opI (SO.shl Go.IntKind.u64) n2 n4 / Int.ofNat (4294967296 : Nat)),
 DV.n (opI (SO.shl Go.IntKind.u64) n2 n4 % Int.ofNat (4294967296 : Nat)),
 DV.n (opI (SO.shl Go.IntKind.u64) n1 n4 % Int.ofNat (4294967296 : Nat))]
 [DV.n n94, DV.n n95]) (
 reqB (dg2L.mea
 [DV.n n88, DV.n (opI (SO.shl Go.IntKind.u64) n2 n4 / Int.ofNat (4294967296 : Nat)),
 DV.n (opI (SO.shl Go.IntKind.u64) n2 n4 % Int.ofNat (4294967296 : Nat)),
 DV.n (opI (SO.shl Go.IntKind.u64) n1 n4 % Int.ofNat (4294967296 : Nat))]
 [DV.n n94, DV.n n95] <
 dg2L.mea
 [DV.n n88, DV.n (opI (SO.shl Go.IntKind.u64) n2 n4 / Int.ofNat (4294967296 : Nat)),
 DV.n (opI (SO.shl Go.IntKind.u64) n2 n4 % Int.ofNat (4294967296 : Nat)),
 DV.n (opI (SO.shl Go.IntKind.u64) n1 n4 % Int.ofNat (4294967296 : Nat))]
 [DV.n n92, DV.n n93]) (
 true))))))) (
 false))))))))) (
 allB fun n102 : Int => 
 impB (n102 = Go.IntKind.u64.wrap (n92 * (opI (SO.shl Go.IntKind.u64) n2 n4 % Int.ofNat (4294967296 : Nat)))) (
 impB (Int.ofNat (0 : Nat) ≤ n102) (
 impB (n102 ≤ Int.ofNat (18446744073709551615 : Nat)) (
 allB fun n103 : Int => 
 impB (n103 = Go.IntKind.u64.wrap ((4294967296 : Int) * n93)) (
 impB (Int.ofNat (0 : Nat) ≤ n103) (
 impB (n103 ≤ Int.ofNat (18446744073709551615 : Nat)) (
 allB fun n104 : Int => 
 impB (n104 = Go.IntKind.u64.wrap (n103 + opI (SO.shl Go.IntKind.u64) n1 n4 % Int.ofNat (4294967296 : Nat))) (
 impB (Int.ofNat (0 : Nat) ≤ n104) (
 impB (n104 ≤ Int.ofNat (18446744073709551615 : Nat)) (
 bR (dec (n104 < n102)) (
 allB fun n105 : Int => 
 impB (n105 = Go.IntKind.u64.wrap (n92 - (1 : Int))) (
 impB (Int.ofNat (0 : Nat) ≤ n105) (
 impB (n105 ≤ Int.ofNat (18446744073709551615 : Nat)) (
 allB fun n106 : Int => 
 impB (n106 = Go.IntKind.u64.wrap (n93 + opI (SO.shl Go.IntKind.u64) n2 n4 / Int.ofNat (4294967296 : Nat))) (
 impB (Int.ofNat (0 : Nat) ≤ n106) (
 impB (n106 ≤ Int.ofNat (18446744073709551615 : Nat)) (
 bR (dec ((4294967296 : Int) ≤ n106)) (
 allB fun n107 : Int => 
 impB (n107 = Go.IntKind.u64.wrap (n8 * (4294967296 : Int))) (
 impB (Int.ofNat (0 : Nat) ≤ n107) (
 impB (n107 ≤ Int.ofNat (18446744073709551615 : Nat)) (
 allB fun n108 : Int => 
 impB (n108 = Go.IntKind.u64.wrap (n107 + n105)) (
 impB (Int.ofNat (0 : Nat) ≤ n108) (
 impB (n108 ≤ Int.ofNat (18446744073709551615 : Nat)) (
 allB fun n109 : Int => 
 impB (n109 = Go.IntKind.u64.wrap (n88 * (4294967296 : Int))) (
 impB (Int.ofNat (0 : Nat) ≤ n109) (
 impB (n109 ≤ Int.ofNat (18446744073709551615 : Nat)) (
 allB fun n110 : Int => 
 impB (n110 = Go.IntKind.u64.wrap (n109 + opI (SO.shl Go.IntKind.u64) n1 n4 % Int.ofNat (4294967296 : Nat))) (
 impB (Int.ofNat (0 : Nat) ≤ n110) (
 impB (n110 ≤ Int.ofNat (18446744073709551615 : Nat)) (
 allB fun n111 : Int => 
 impB (n111 = Go.IntKind.u64.wrap (n105 * opI (SO.shl Go.IntKind.u64) n2 n4)) (
 impB (Int.ofNat (0 : Nat) ≤ n111) (
 impB (n111 ≤ Int.ofNat (18446744073709551615 : Nat)) (
 allB fun n112 : Int => 
 impB (n112 = Go.IntKind.u64.wrap (n110 - n111)) (
 impB (Int.ofNat (0 : Nat) ≤ n112) (
 impB (n112 ≤ Int.ofNat (18446744073709551615 : Nat)) (
 reqB ((0 : Int) ≤ n108) (
 reqB (n108 ≤ (18446744073709551615 : Int)) (
 reqB ((0 : Int) ≤ opI (SO.shr Go.IntKind.u64) n112 n4) (
 reqB (opI (SO.shr Go.IntKind.u64) n112 n4 ≤ (18446744073709551615 : Int)) (
 reqB (sigDiv.post [DV.n n0, DV.n n1, DV.n n2]
 [DV.n n108, DV.n (opI (SO.shr Go.IntKind.u64) n112 n4)]) (
 true)))))))))))))))))))))))) (
 bR (bR (dec (opI (SO.shl Go.IntKind.u64) n2 n4 = opI (SO.shl Go.IntKind.u64) n2 n4)) (
 bR (dec (n4 = n4)) (
 bR (dec (opI (SO.shl Go.IntKind.u64) n2 n4 / Int.ofNat (4294967296 : Nat) =
 opI (SO.shl Go.IntKind.u64) n2 n4 / Int.ofNat (4294967296 : Nat))) (
 bR (dec (opI (SO.shl Go.IntKind.u64) n2 n4 % Int.ofNat (4294967296 : Nat) =
 opI (SO.shl Go.IntKind.u64) n2 n4 % Int.ofNat (4294967296 : Nat))) (
 bR (dec (opI (SO.shl Go.IntKind.u64) n1 n4 % Int.ofNat (4294967296 : Nat) =
 opI (SO.shl Go.IntKind.u64) n1 n4 % Int.ofNat (4294967296 : Nat))) (
 bR (dec (n8 = n8)) (
 bR (dec (n88 = n88)) (
 true) (
 false)) (
 false)) (
 false)) (
 false)) (
 false)) (
 false)) (
 false)) (
 reqB ((0 : Int) ≤ n105) (
 reqB (n105 ≤ (18446744073709551615 : Int)) (
 reqB ((0 : Int) ≤ n106) (
 reqB (n106 ≤ (18446744073709551615 : Int)) (
 reqB (dg2L.inv
 [DV.n n88, DV.n (opI (SO.shl Go.IntKind.u64) n2 n4 / Int.ofNat (4294967296 : Nat)),
 DV.n (opI (SO.shl Go.IntKind.u64) n2 n4 % Int.ofNat (4294967296 : Nat)),
 DV.n (opI (SO.shl Go.IntKind.u64) n1 n4 % Int.ofNat (4294967296 : Nat))]
 [DV.n n105, DV.n n106]) (
 reqB (dg2L.mea
 [DV.n n88, DV.n (opI (SO.shl Go.IntKind.u64) n2 n4 / Int.ofNat (4294967296 : Nat)),
 DV.n (opI (SO.shl Go.IntKind.u64) n2 n4 % Int.ofNat (4294967296 : Nat)),
 DV.n (opI (SO.shl Go.IntKind.u64) n1 n4 % Int.ofNat (4294967296 : Nat))]
 [DV.n n105, DV.n n106] <
 dg2L.mea
 [DV.n n88, DV.n (opI (SO.shl Go.IntKind.u64) n2 n4 / Int.ofNat (4294967296 : Nat)),
 DV.n (opI (SO.shl Go.IntKind.u64) n2 n4 % Int.ofNat (4294967296 : Nat)),
 DV.n (opI (SO.shl Go.IntKind.u64) n1 n4 % Int.ofNat (4294967296 : Nat))]
 [DV.n n92, DV.n n93]) (
 true))))))) (
 false))))))))) (
 allB fun n113 : Int => 
 impB (n113 = Go.IntKind.u64.wrap (n8 * (4294967296 : Int))) (
 impB (Int.ofNat (0 : Nat) ≤ n113) (
 impB (n113 ≤ Int.ofNat (18446744073709551615 : Nat)) (
 allB fun n114 : Int => 
 impB (n114 = Go.IntKind.u64.wrap (n113 + n92)) (
 impB (Int.ofNat (0 : Nat) ≤ n114) (
 impB (n114 ≤ Int.ofNat (18446744073709551615 : Nat)) (
 allB fun n115 : Int => 
 impB (n115 = Go.IntKind.u64.wrap (n88 * (4294967296 : Int))) (
 impB (Int.ofNat (0 : Nat) ≤ n115) (
 impB (n115 ≤ Int.ofNat (18446744073709551615 : Nat)) (
 allB fun n116 : Int => 
 impB (n116 = Go.IntKind.u64.wrap (n115 + opI (SO.shl Go.IntKind.u64) n1 n4 % Int.ofNat (4294967296 : Nat))) (
 impB (Int.ofNat (0 : Nat) ≤ n116) (
 impB (n116 ≤ Int.ofNat (18446744073709551615 : Nat)) (
 allB fun n117 : Int => 
 impB (n117 = Go.IntKind.u64.wrap (n92 * opI (SO.shl Go.IntKind.u64) n2 n4)) (
 impB (Int.ofNat (0 : Nat) ≤ n117) (
 impB (n117 ≤ Int.ofNat (18446744073709551615 : Nat)) (
 allB fun n118 : Int => 
 impB (n118 = Go.IntKind.u64.wrap (n116 - n117)) (
 impB (Int.ofNat (0 : Nat) ≤ n118) (
 impB (n118 ≤ Int.ofNat (18446744073709551615 : Nat)) (
 reqB ((0 : Int) ≤ n114) (
 reqB (n114 ≤ (18446744073709551615 : Int)) (
 reqB ((0 : Int) ≤ opI (SO.shr Go.IntKind.u64) n118 n4) (
 reqB (opI (SO.shr Go.IntKind.u64) n118 n4 ≤ (18446744073709551615 : Int)) (
 reqB (sigDiv.post [DV.n n0, DV.n n1, DV.n n2]
 [DV.n n114, DV.n (opI (SO.shr Go.IntKind.u64) n118 n4)]) (
 true)))))))))))))))))))))))))))))))))))))))))))))))))))))))))))))))))))))))))))))))))))))))))))))))))))))))))))))))))))))))))))))))))) := by kernel_rfl
set_option maxHeartbeats 8000000 in
theorem vt_div64 : vcFn Try.prog [(69, Ext.ctr (ctOf sigLz))] (fun f p _ => at2 f p 66 131068 dg1L (at2 f p 66 2097148 dg2L (none))) [] 100 66 sigDiv = true := by
  rw [vc_div64]
  try simp only [Int.toNat_natCast, List.length_set, List.length_replicate, List.length_take, List.length_drop, List.length_append, List.length_cons, List.length_nil, Nat.min_self, List.take_take, lenCols_i, lenCols_b, List.drop_zero, List.take_length, Nat.add_eq, Nat.mul_eq, Nat.sub_eq, Nat.zero_add, Nat.sub_zero, Nat.mul_one]
  try simp only [show (Int.ofNat 0 : Int) = 0 from rfl, show (Int.ofNat 18446744073709551615 : Int) = 18446744073709551615 from rfl, show (Int.ofNat 4294967296 : Int) = 4294967296 from rfl]
  refine all_i fun n0 => ?_
  refine imp_i fun h0 => ?_
  refine imp_i fun h1 => ?_
  refine all_i fun n1 => ?_
  refine imp_i fun h2 => ?_
  refine imp_i fun h3 => ?_
  refine all_i fun n2 => ?_
  refine imp_i fun h4 => ?_
  refine imp_i fun h5 => ?_
  refine imp_i fun h6 => ?_
  try simp only [sigDiv, divPre, divPost, List.cons.injEq, DV.b.injEq, and_true, List.length_cons, List.length_nil] at h6
  refine bR_dec (fun h7 => ?_) (fun h7 => ?_)
  ·
   exfalso; omega
  ·
   refine bR_dec (fun h8 => ?_) (fun h8 => ?_)
   ·
    exfalso; omega
   ·
    refine bR_dec (fun h9 => ?_) (fun h9 => ?_)
    ·
     refine req_i ?_ ?_
     · -- r0
      first | omega | assumption | grind
     refine all_i fun n3 => ?_
     refine imp_i fun h10 => ?_
     simp only [wrap_u64] at h10
     have t0 := tdiv_nn (a := n1) (b := n2) (by omega)
     have t1 := tmod_nn (a := n1) (b := n2) (by omega)
     have d0 := Int.ediv_nonneg (a := n1) (b := n2) (by omega) (by omega)
     have d1 := Int.ediv_le_self (a := n1) n2 (by omega)
     have d2 := Int.emod_nonneg n1 (show n2 ≠ 0 by omega)
     have d3 := Int.emod_lt_of_pos n1 (show 0 < n2 by omega)
     have d4 := Int.mul_ediv_add_emod n1 n2
     rw [Int.mul_comm] at d4
     rw [t1]
     rw [t0] at h10
     replace h10 : n3 = n1 / n2 := by omega
     refine imp_i fun h11 => ?_
     refine imp_i fun h12 => ?_
     refine req_i ?_ ?_
     · -- r1
      first | omega | assumption | grind
     refine req_i ?_ ?_
     · -- r2
      first | omega | assumption | grind
     refine req_i ?_ ?_
     · -- r3
      first | omega | assumption | grind
     refine req_i ?_ ?_
     · -- r4
      first | omega | assumption | grind
     refine req_i ?_ ?_
     · -- r5
      first | omega | assumption | grind
     refine req_i ?_ ?_
     · -- r6
      simp only [sigDiv, divPost]; rw [h10, h9]; omega
     rfl
    ·
     refine req_i ?_ ?_
     · -- r7
      first | omega | assumption | grind
     refine req_i ?_ ?_
     · -- r8
      first | omega | assumption | grind
     refine req_i ?_ ?_
     · -- r9
      first | trivial | assumption | (simp only [sigLz, lzPost, List.cons.injEq, DV.b.injEq, and_true, List.length_cons, List.length_nil]; done) | ((try simp only [sigLz, lzPost, List.cons.injEq, DV.b.injEq, and_true, List.length_cons, List.length_nil]); first | omega | assumption | grind)
     refine all_i fun n4 => ?_
     refine imp_i fun h13 => ?_
     refine imp_i fun h14 => ?_
     refine imp_i fun h15 => ?_
     try simp only [sigLz, lzPost, List.cons.injEq, DV.b.injEq, and_true, List.length_cons, List.length_nil] at h15
     have L : 0 < n2 ∧ 0 ≤ n4 ∧ n4 ≤ 63 ∧ 9223372036854775808 ≤ n2 * p2 n4 ∧ n2 * p2 n4 < 18446744073709551616 := by
       rcases h15 with h | h
       · omega
       · exact h
     obtain ⟨l1, l2, l3, l4, l5⟩ := L
     obtain ⟨Y, V, W, eY, eV, eW, eY2, y3, y4, v1, v2, w1, w2, eX⟩ := div_norm (h := n0) (l := n1) (y := n2) (s := n4) (by omega) (by omega) (by omega) (by omega) l2 l3 l4 l5
     simp only [eY, eV, eW]
     obtain ⟨y1, ey1⟩ : ∃ y1, Y / 4294967296 = y1 := ⟨_, rfl⟩
     obtain ⟨y0, ey0⟩ : ∃ y0, Y % 4294967296 = y0 := ⟨_, rfl⟩
     obtain ⟨u1, eu1⟩ : ∃ u1, W / 4294967296 = u1 := ⟨_, rfl⟩
     obtain ⟨u0, eu0⟩ : ∃ u0, W % 4294967296 = u0 := ⟨_, rfl⟩
     simp only [ey1, ey0, eu1, eu0]
     have YY : Y = y1 * 4294967296 + y0 := by omega
     have WW : W = u1 * 4294967296 + u0 := by omega
     have b1 : 2147483648 ≤ y1 ∧ y1 < 4294967296 ∧ 0 ≤ y0 ∧ y0 < 4294967296 ∧ 0 ≤ u1 ∧ u1 < 4294967296 ∧ 0 ≤ u0 ∧ u0 < 4294967296 := by omega
     clear eY eV eW ey1 ey0 eu1 eu0 h15
     refine req_i ?_ ?_
     · -- r10
      first | omega | assumption | grind
     refine all_i fun n5 => ?_
     refine imp_i fun h16 => ?_
     simp only [wrap_u64] at h16
     replace h16 : n5 = V / y1 := q_div (by omega) (by omega) (by omega) h16
     refine imp_i fun h17 => ?_
     refine imp_i fun h18 => ?_
     refine all_i fun n6 => ?_
     refine imp_i fun h19 => ?_
     simp only [wrap_u64] at h19
     obtain ⟨h19, m2, m1⟩ := q_mul (V := V) (by omega) (by omega) (by omega) h16 n6 h19
     refine imp_i fun h20 => ?_
     refine imp_i fun h21 => ?_
     refine all_i fun n7 => ?_
     refine imp_i fun h22 => ?_
     simp only [wrap_u64] at h22
     replace h22 : n7 = V - n5 * y1 := by omega
     have I0 := dg_init (V := V) (y1 := y1) (y0 := y0) (u := u1) (by omega) (by omega) (by omega) (by omega) (by omega) h16 h22
     refine imp_i fun h23 => ?_
     refine imp_i fun h24 => ?_
     refine req_i ?_ ?_
     · -- r11
      first | omega | assumption | grind
     refine req_i ?_ ?_
     · -- r12
      first | omega | assumption | grind
     refine req_i ?_ ?_
     · -- r13
      first | omega | assumption | grind
     refine req_i ?_ ?_
     · -- r14
      first | omega | assumption | grind
     refine req_i ?_ ?_
     · -- r15
      first | omega | assumption | grind
     refine req_i ?_ ?_
     · -- r16
      first | omega | assumption | grind
     refine req_i ?_ ?_
     · -- r17
      first | omega | assumption | grind
     refine req_i ?_ ?_
     · -- r18
      first | omega | assumption | grind
     refine req_i ?_ ?_
     · -- r19
      first | omega | assumption | grind
     refine req_i ?_ ?_
     · -- r20
      first | omega | assumption | grind
     refine req_i ?_ ?_
     · -- r21
      first | omega | assumption | grind
     refine req_i ?_ ?_
     · -- r22
      first | omega | assumption | grind
     refine req_i ?_ ?_
     · -- r23
      first | exact IB | exact I0
     refine all_i fun n8 => ?_
     refine imp_i fun h25 => ?_
     refine imp_i fun h26 => ?_
     refine all_i fun n9 => ?_
     refine imp_i fun h27 => ?_
     refine imp_i fun h28 => ?_
     refine imp_i fun h29 => ?_
     try simp only [Int.toNat_natCast, List.length_set, List.length_replicate, List.length_take, List.length_drop, List.length_append, List.length_cons, List.length_nil, Nat.min_self, List.take_take, lenCols_i, lenCols_b, List.drop_zero, List.take_length, Nat.add_eq, Nat.mul_eq, Nat.sub_eq, Nat.zero_add, Nat.sub_zero, Nat.mul_one] at h29
     have I1 : dgI V y1 y0 u1 n8 n9 := h29
     have J := I1
     unfold dgI at J
     refine bR_dec (fun h30 => ?_) (fun h30 => ?_)
     ·
      have G := dg_big (V := V) (y1 := y1) (y0 := y0) (u := u1) (q := n8) (by omega) (by omega) (by omega) h30
      refine all_i fun n10 => ?_
      refine imp_i fun h31 => ?_
      simp only [wrap_u64] at h31
      replace h31 : n10 = n8 - 1 := by omega
      refine imp_i fun h32 => ?_
      refine imp_i fun h33 => ?_
      refine all_i fun n11 => ?_
      refine imp_i fun h34 => ?_
      simp only [wrap_u64] at h34
      replace h34 : n11 = n9 + y1 := by omega
      refine imp_i fun h35 => ?_
      refine imp_i fun h36 => ?_
      refine bR_dec (fun h37 => ?_) (fun h37 => ?_)
      ·
       have X1 := dg_break I1 G (by omega) (by omega) (by omega) (by omega) (by omega) (by omega) (by omega)
       rw [← h31] at X1
       refine all_i fun n12 => ?_
       refine imp_i fun h38 => ?_
       simp only [wrap_u64] at h38
       skip
       refine imp_i fun h39 => ?_
       refine imp_i fun h40 => ?_
       refine all_i fun n13 => ?_
       refine imp_i fun h41 => ?_
       simp only [wrap_u64] at h41
       skip
       refine imp_i fun h42 => ?_
       refine imp_i fun h43 => ?_
       refine all_i fun n14 => ?_
       refine imp_i fun h44 => ?_
       simp only [wrap_u64] at h44
       skip
       refine imp_i fun h45 => ?_
       refine imp_i fun h46 => ?_
       refine all_i fun n15 => ?_
       refine imp_i fun h47 => ?_
       simp only [wrap_u64] at h47
       rw [← YY] at X1
       have R1 := rem_wrap h38 h41 h44 h47 X1.1 (by omega)
       replace X1 : 0 ≤ n15 ∧ n15 < Y := by rw [R1]; exact X1
       clear h38 h41 h44 h47
       refine imp_i fun h48 => ?_
       refine imp_i fun h49 => ?_
       refine req_i ?_ ?_
       · -- r24
        first | omega | assumption | grind
       refine all_i fun n16 => ?_
       refine imp_i fun h50 => ?_
       simp only [wrap_u64] at h50
       replace h50 : n16 = n15 / y1 := q_div (by omega) (by omega) (by omega) h50
       refine imp_i fun h51 => ?_
       refine imp_i fun h52 => ?_
       refine all_i fun n17 => ?_
       refine imp_i fun h53 => ?_
       simp only [wrap_u64] at h53
       obtain ⟨h53, m2, m1⟩ := q_mul (V := n15) (by omega) (by omega) (by omega) h50 n17 h53
       refine imp_i fun h54 => ?_
       refine imp_i fun h55 => ?_
       refine all_i fun n18 => ?_
       refine imp_i fun h56 => ?_
       simp only [wrap_u64] at h56
       replace h56 : n18 = n15 - n16 * y1 := by omega
       have I0 := dg_init (V := n15) (y1 := y1) (y0 := y0) (u := u0) (by omega) (by omega) (by omega) (by omega) (by omega) h50 h56
       refine imp_i fun h57 => ?_
       refine imp_i fun h58 => ?_
       refine req_i ?_ ?_
       · -- r25
        first | omega | assumption | grind
       refine req_i ?_ ?_
       · -- r26
        first | omega | assumption | grind
       refine req_i ?_ ?_
       · -- r27
        first | omega | assumption | grind
       refine req_i ?_ ?_
       · -- r28
        first | omega | assumption | grind
       refine req_i ?_ ?_
       · -- r29
        first | omega | assumption | grind
       refine req_i ?_ ?_
       · -- r30
        first | omega | assumption | grind
       refine req_i ?_ ?_
       · -- r31
        first | omega | assumption | grind
       refine req_i ?_ ?_
       · -- r32
        first | omega | assumption | grind
       refine req_i ?_ ?_
       · -- r33
        first | omega | assumption | grind
       refine req_i ?_ ?_
       · -- r34
        first | omega | assumption | grind
       refine req_i ?_ ?_
       · -- r35
        first | omega | assumption | grind
       refine req_i ?_ ?_
       · -- r36
        first | omega | assumption | grind
       refine req_i ?_ ?_
       · -- r37
        first | exact IB | exact I0
       refine all_i fun n19 => ?_
       refine imp_i fun h59 => ?_
       refine imp_i fun h60 => ?_
       refine all_i fun n20 => ?_
       refine imp_i fun h61 => ?_
       refine imp_i fun h62 => ?_
       refine imp_i fun h63 => ?_
       try simp only [Int.toNat_natCast, List.length_set, List.length_replicate, List.length_take, List.length_drop, List.length_append, List.length_cons, List.length_nil, Nat.min_self, List.take_take, lenCols_i, lenCols_b, List.drop_zero, List.take_length, Nat.add_eq, Nat.mul_eq, Nat.sub_eq, Nat.zero_add, Nat.sub_zero, Nat.mul_one] at h63
       have I2 : dgI n15 y1 y0 u0 n19 n20 := h63
       have J := I2
       unfold dgI at J
       refine bR_dec (fun h64 => ?_) (fun h64 => ?_)
       ·
        have G := dg_big (V := n15) (y1 := y1) (y0 := y0) (u := u0) (q := n19) (by omega) (by omega) (by omega) h64
        refine all_i fun n21 => ?_
        refine imp_i fun h65 => ?_
        simp only [wrap_u64] at h65
        replace h65 : n21 = n19 - 1 := by omega
        refine imp_i fun h66 => ?_
        refine imp_i fun h67 => ?_
        refine all_i fun n22 => ?_
        refine imp_i fun h68 => ?_
        simp only [wrap_u64] at h68
        replace h68 : n22 = n20 + y1 := by omega
        refine imp_i fun h69 => ?_
        refine imp_i fun h70 => ?_
        refine bR_dec (fun h71 => ?_) (fun h71 => ?_)
        ·
         have X2 := dg_break I2 G (by omega) (by omega) (by omega) (by omega) (by omega) (by omega) (by omega)
         rw [← h65] at X2
         refine all_i fun n23 => ?_
         refine imp_i fun h72 => ?_
         simp only [wrap_u64] at h72
         skip
         refine imp_i fun h73 => ?_
         refine imp_i fun h74 => ?_
         refine all_i fun n24 => ?_
         refine imp_i fun h75 => ?_
         simp only [wrap_u64] at h75
         skip
         refine imp_i fun h76 => ?_
         refine imp_i fun h77 => ?_
         refine all_i fun n25 => ?_
         refine imp_i fun h78 => ?_
         simp only [wrap_u64] at h78
         skip
         refine imp_i fun h79 => ?_
         refine imp_i fun h80 => ?_
         refine all_i fun n26 => ?_
         refine imp_i fun h81 => ?_
         simp only [wrap_u64] at h81
         skip
         refine imp_i fun h82 => ?_
         refine imp_i fun h83 => ?_
         refine all_i fun n27 => ?_
         refine imp_i fun h84 => ?_
         simp only [wrap_u64] at h84
         skip
         refine imp_i fun h85 => ?_
         refine imp_i fun h86 => ?_
         refine all_i fun n28 => ?_
         refine imp_i fun h87 => ?_
         simp only [wrap_u64] at h87
         rw [← YY] at X2
         have R2 := rem_wrap h78 h81 h84 h87 X2.1 (by omega)
         replace X2 : 0 ≤ n28 ∧ n28 < Y := by rw [R2]; exact X2
         clear h78 h81 h84 h87
         have dq := div_q (V := V) (W := W) (Y := Y) (q1 := n10) (q0 := n21) (by omega) v2 WW w2 X1.1 R1 R2 X2.1
         have eQ := quo_wrap h72 h75 (by omega) (by omega) dq
         clear h72 h75
         rw [shrU_eq (a := n28) (n := n4) l2 (by omega)]
         have dr0 := Int.ediv_nonneg (a := n28) (b := p2 n4) X2.1 (Int.le_of_lt (p2_pos n4))
         have dr1 := Int.ediv_le_self (a := n28) (p2 n4) X2.1
         have DF := div_fin (P := p2 n4) eY2 (p2_pos n4) eX WW R1 R2 X2.1 X2.2 eQ rfl
         refine imp_i fun h88 => ?_
         refine imp_i fun h89 => ?_
         refine req_i ?_ ?_
         · -- r38
          first | omega | assumption | grind
         refine req_i ?_ ?_
         · -- r39
          first | omega | assumption | grind
         refine req_i ?_ ?_
         · -- r40
          first | omega | assumption | grind
         refine req_i ?_ ?_
         · -- r41
          first | omega | assumption | grind
         refine req_i ?_ ?_
         · -- r42
          exact DF
         rfl
        ·
         have IB := dg_back I2 G (by omega) (by omega)
         rw [← h65, ← h68] at IB
         refine bR_t ?_ ?_
         · -- g0
          first | rfl | (simp only [bR_iff, bR_iff_f, dec_iff, dec_f, beqB_iff', andB_iff', reduceCtorEq, imp_self, false_implies, and_true, true_and, implies_true, and_self]; done) | (simp [bR_iff, dec_iff, beqB_iff', andB_iff']; done) | (simp [bR_iff, dec_iff, beqB_iff', andB_iff']; omega)
         refine req_i ?_ ?_
         · -- r43
          first | omega | assumption | grind
         refine req_i ?_ ?_
         · -- r44
          first | omega | assumption | grind
         refine req_i ?_ ?_
         · -- r45
          first | omega | assumption | grind
         refine req_i ?_ ?_
         · -- r46
          first | omega | assumption | grind
         refine req_i ?_ ?_
         · -- r47
          first | exact IB | exact I0
         refine req_i ?_ ?_
         · -- r48
          show (4294967296 - n22).toNat < (4294967296 - n20).toNat; omega
         rfl
       ·
        skip
        refine all_i fun n29 => ?_
        refine imp_i fun h90 => ?_
        simp only [wrap_u64] at h90
        obtain ⟨h90, m3⟩ := b_mul (by omega) (by omega) (by omega) (by omega) n29 h90
        refine imp_i fun h91 => ?_
        refine imp_i fun h92 => ?_
        refine all_i fun n30 => ?_
        refine imp_i fun h93 => ?_
        simp only [wrap_u64] at h93
        replace h93 : n30 = 4294967296 * n20 := by omega
        refine imp_i fun h94 => ?_
        refine imp_i fun h95 => ?_
        refine all_i fun n31 => ?_
        refine imp_i fun h96 => ?_
        simp only [wrap_u64] at h96
        replace h96 : n31 = 4294967296 * n20 + u0 := by omega
        refine imp_i fun h97 => ?_
        refine imp_i fun h98 => ?_
        refine bR_dec (fun h99 => ?_) (fun h99 => ?_)
        ·
         have q1 : 1 ≤ n19 := pos_of (y := y0) (by omega) (by omega)
         have G := dg_big2 I2 (by rw [← h96, ← h90]; exact h99)
         refine all_i fun n32 => ?_
         refine imp_i fun h100 => ?_
         simp only [wrap_u64] at h100
         replace h100 : n32 = n19 - 1 := by omega
         refine imp_i fun h101 => ?_
         refine imp_i fun h102 => ?_
         refine all_i fun n33 => ?_
         refine imp_i fun h103 => ?_
         simp only [wrap_u64] at h103
         replace h103 : n33 = n20 + y1 := by omega
         refine imp_i fun h104 => ?_
         refine imp_i fun h105 => ?_
         refine bR_dec (fun h106 => ?_) (fun h106 => ?_)
         ·
          have X2 := dg_break I2 G (by omega) (by omega) (by omega) (by omega) (by omega) (by omega) (by omega)
          rw [← h100] at X2
          refine all_i fun n34 => ?_
          refine imp_i fun h107 => ?_
          simp only [wrap_u64] at h107
          skip
          refine imp_i fun h108 => ?_
          refine imp_i fun h109 => ?_
          refine all_i fun n35 => ?_
          refine imp_i fun h110 => ?_
          simp only [wrap_u64] at h110
          skip
          refine imp_i fun h111 => ?_
          refine imp_i fun h112 => ?_
          refine all_i fun n36 => ?_
          refine imp_i fun h113 => ?_
          simp only [wrap_u64] at h113
          skip
          refine imp_i fun h114 => ?_
          refine imp_i fun h115 => ?_
          refine all_i fun n37 => ?_
          refine imp_i fun h116 => ?_
          simp only [wrap_u64] at h116
          skip
          refine imp_i fun h117 => ?_
          refine imp_i fun h118 => ?_
          refine all_i fun n38 => ?_
          refine imp_i fun h119 => ?_
          simp only [wrap_u64] at h119
          skip
          refine imp_i fun h120 => ?_
          refine imp_i fun h121 => ?_
          refine all_i fun n39 => ?_
          refine imp_i fun h122 => ?_
          simp only [wrap_u64] at h122
          rw [← YY] at X2
          have R2 := rem_wrap h113 h116 h119 h122 X2.1 (by omega)
          replace X2 : 0 ≤ n39 ∧ n39 < Y := by rw [R2]; exact X2
          clear h113 h116 h119 h122
          have dq := div_q (V := V) (W := W) (Y := Y) (q1 := n10) (q0 := n32) (by omega) v2 WW w2 X1.1 R1 R2 X2.1
          have eQ := quo_wrap h107 h110 (by omega) (by omega) dq
          clear h107 h110
          rw [shrU_eq (a := n39) (n := n4) l2 (by omega)]
          have dr0 := Int.ediv_nonneg (a := n39) (b := p2 n4) X2.1 (Int.le_of_lt (p2_pos n4))
          have dr1 := Int.ediv_le_self (a := n39) (p2 n4) X2.1
          have DF := div_fin (P := p2 n4) eY2 (p2_pos n4) eX WW R1 R2 X2.1 X2.2 eQ rfl
          refine imp_i fun h123 => ?_
          refine imp_i fun h124 => ?_
          refine req_i ?_ ?_
          · -- r49
           first | omega | assumption | grind
          refine req_i ?_ ?_
          · -- r50
           first | omega | assumption | grind
          refine req_i ?_ ?_
          · -- r51
           first | omega | assumption | grind
          refine req_i ?_ ?_
          · -- r52
           first | omega | assumption | grind
          refine req_i ?_ ?_
          · -- r53
           exact DF
          rfl
         ·
          have IB := dg_back I2 G (by omega) (by omega)
          rw [← h100, ← h103] at IB
          refine bR_t ?_ ?_
          · -- g1
           first | rfl | (simp only [bR_iff, bR_iff_f, dec_iff, dec_f, beqB_iff', andB_iff', reduceCtorEq, imp_self, false_implies, and_true, true_and, implies_true, and_self]; done) | (simp [bR_iff, dec_iff, beqB_iff', andB_iff']; done) | (simp [bR_iff, dec_iff, beqB_iff', andB_iff']; omega)
          refine req_i ?_ ?_
          · -- r54
           first | omega | assumption | grind
          refine req_i ?_ ?_
          · -- r55
           first | omega | assumption | grind
          refine req_i ?_ ?_
          · -- r56
           first | omega | assumption | grind
          refine req_i ?_ ?_
          · -- r57
           first | omega | assumption | grind
          refine req_i ?_ ?_
          · -- r58
           first | exact IB | exact I0
          refine req_i ?_ ?_
          · -- r59
           show (4294967296 - n33).toNat < (4294967296 - n20).toNat; omega
          rfl
        ·
         have X2 := dg_exit I2 (by rw [← h96, ← h90]; exact h99)
         refine all_i fun n40 => ?_
         refine imp_i fun h125 => ?_
         simp only [wrap_u64] at h125
         skip
         refine imp_i fun h126 => ?_
         refine imp_i fun h127 => ?_
         refine all_i fun n41 => ?_
         refine imp_i fun h128 => ?_
         simp only [wrap_u64] at h128
         skip
         refine imp_i fun h129 => ?_
         refine imp_i fun h130 => ?_
         refine all_i fun n42 => ?_
         refine imp_i fun h131 => ?_
         simp only [wrap_u64] at h131
         skip
         refine imp_i fun h132 => ?_
         refine imp_i fun h133 => ?_
         refine all_i fun n43 => ?_
         refine imp_i fun h134 => ?_
         simp only [wrap_u64] at h134
         skip
         refine imp_i fun h135 => ?_
         refine imp_i fun h136 => ?_
         refine all_i fun n44 => ?_
         refine imp_i fun h137 => ?_
         simp only [wrap_u64] at h137
         skip
         refine imp_i fun h138 => ?_
         refine imp_i fun h139 => ?_
         refine all_i fun n45 => ?_
         refine imp_i fun h140 => ?_
         simp only [wrap_u64] at h140
         rw [← YY] at X2
         have R2 := rem_wrap h131 h134 h137 h140 X2.1 (by omega)
         replace X2 : 0 ≤ n45 ∧ n45 < Y := by rw [R2]; exact X2
         clear h131 h134 h137 h140
         have dq := div_q (V := V) (W := W) (Y := Y) (q1 := n10) (q0 := n19) (by omega) v2 WW w2 X1.1 R1 R2 X2.1
         have eQ := quo_wrap h125 h128 (by omega) (by omega) dq
         clear h125 h128
         rw [shrU_eq (a := n45) (n := n4) l2 (by omega)]
         have dr0 := Int.ediv_nonneg (a := n45) (b := p2 n4) X2.1 (Int.le_of_lt (p2_pos n4))
         have dr1 := Int.ediv_le_self (a := n45) (p2 n4) X2.1
         have DF := div_fin (P := p2 n4) eY2 (p2_pos n4) eX WW R1 R2 X2.1 X2.2 eQ rfl
         refine imp_i fun h141 => ?_
         refine imp_i fun h142 => ?_
         refine req_i ?_ ?_
         · -- r60
          first | omega | assumption | grind
         refine req_i ?_ ?_
         · -- r61
          first | omega | assumption | grind
         refine req_i ?_ ?_
         · -- r62
          first | omega | assumption | grind
         refine req_i ?_ ?_
         · -- r63
          first | omega | assumption | grind
         refine req_i ?_ ?_
         · -- r64
          exact DF
         rfl
      ·
       have IB := dg_back I1 G (by omega) (by omega)
       rw [← h31, ← h34] at IB
       refine bR_t ?_ ?_
       · -- g2
        first | rfl | (simp only [bR_iff, bR_iff_f, dec_iff, dec_f, beqB_iff', andB_iff', reduceCtorEq, imp_self, false_implies, and_true, true_and, implies_true, and_self]; done) | (simp [bR_iff, dec_iff, beqB_iff', andB_iff']; done) | (simp [bR_iff, dec_iff, beqB_iff', andB_iff']; omega)
       refine req_i ?_ ?_
       · -- r65
        first | omega | assumption | grind
       refine req_i ?_ ?_
       · -- r66
        first | omega | assumption | grind
       refine req_i ?_ ?_
       · -- r67
        first | omega | assumption | grind
       refine req_i ?_ ?_
       · -- r68
        first | omega | assumption | grind
       refine req_i ?_ ?_
       · -- r69
        first | exact IB | exact I0
       refine req_i ?_ ?_
       · -- r70
        show (4294967296 - n11).toNat < (4294967296 - n9).toNat; omega
       rfl
     ·
      skip
      refine all_i fun n46 => ?_
      refine imp_i fun h143 => ?_
      simp only [wrap_u64] at h143
      obtain ⟨h143, m3⟩ := b_mul (by omega) (by omega) (by omega) (by omega) n46 h143
      refine imp_i fun h144 => ?_
      refine imp_i fun h145 => ?_
      refine all_i fun n47 => ?_
      refine imp_i fun h146 => ?_
      simp only [wrap_u64] at h146
      replace h146 : n47 = 4294967296 * n9 := by omega
      refine imp_i fun h147 => ?_
      refine imp_i fun h148 => ?_
      refine all_i fun n48 => ?_
      refine imp_i fun h149 => ?_
      simp only [wrap_u64] at h149
      replace h149 : n48 = 4294967296 * n9 + u1 := by omega
      refine imp_i fun h150 => ?_
      refine imp_i fun h151 => ?_
      refine bR_dec (fun h152 => ?_) (fun h152 => ?_)
      ·
       have q1 : 1 ≤ n8 := pos_of (y := y0) (by omega) (by omega)
       have G := dg_big2 I1 (by rw [← h149, ← h143]; exact h152)
       refine all_i fun n49 => ?_
       refine imp_i fun h153 => ?_
       simp only [wrap_u64] at h153
       replace h153 : n49 = n8 - 1 := by omega
       refine imp_i fun h154 => ?_
       refine imp_i fun h155 => ?_
       refine all_i fun n50 => ?_
       refine imp_i fun h156 => ?_
       simp only [wrap_u64] at h156
       replace h156 : n50 = n9 + y1 := by omega
       refine imp_i fun h157 => ?_
       refine imp_i fun h158 => ?_
       refine bR_dec (fun h159 => ?_) (fun h159 => ?_)
       ·
        have X1 := dg_break I1 G (by omega) (by omega) (by omega) (by omega) (by omega) (by omega) (by omega)
        rw [← h153] at X1
        refine all_i fun n51 => ?_
        refine imp_i fun h160 => ?_
        simp only [wrap_u64] at h160
        skip
        refine imp_i fun h161 => ?_
        refine imp_i fun h162 => ?_
        refine all_i fun n52 => ?_
        refine imp_i fun h163 => ?_
        simp only [wrap_u64] at h163
        skip
        refine imp_i fun h164 => ?_
        refine imp_i fun h165 => ?_
        refine all_i fun n53 => ?_
        refine imp_i fun h166 => ?_
        simp only [wrap_u64] at h166
        skip
        refine imp_i fun h167 => ?_
        refine imp_i fun h168 => ?_
        refine all_i fun n54 => ?_
        refine imp_i fun h169 => ?_
        simp only [wrap_u64] at h169
        rw [← YY] at X1
        have R1 := rem_wrap h160 h163 h166 h169 X1.1 (by omega)
        replace X1 : 0 ≤ n54 ∧ n54 < Y := by rw [R1]; exact X1
        clear h160 h163 h166 h169
        refine imp_i fun h170 => ?_
        refine imp_i fun h171 => ?_
        refine req_i ?_ ?_
        · -- r71
         first | omega | assumption | grind
        refine all_i fun n55 => ?_
        refine imp_i fun h172 => ?_
        simp only [wrap_u64] at h172
        replace h172 : n55 = n54 / y1 := q_div (by omega) (by omega) (by omega) h172
        refine imp_i fun h173 => ?_
        refine imp_i fun h174 => ?_
        refine all_i fun n56 => ?_
        refine imp_i fun h175 => ?_
        simp only [wrap_u64] at h175
        obtain ⟨h175, m2, m1⟩ := q_mul (V := n54) (by omega) (by omega) (by omega) h172 n56 h175
        refine imp_i fun h176 => ?_
        refine imp_i fun h177 => ?_
        refine all_i fun n57 => ?_
        refine imp_i fun h178 => ?_
        simp only [wrap_u64] at h178
        replace h178 : n57 = n54 - n55 * y1 := by omega
        have I0 := dg_init (V := n54) (y1 := y1) (y0 := y0) (u := u0) (by omega) (by omega) (by omega) (by omega) (by omega) h172 h178
        refine imp_i fun h179 => ?_
        refine imp_i fun h180 => ?_
        refine req_i ?_ ?_
        · -- r72
         first | omega | assumption | grind
        refine req_i ?_ ?_
        · -- r73
         first | omega | assumption | grind
        refine req_i ?_ ?_
        · -- r74
         first | omega | assumption | grind
        refine req_i ?_ ?_
        · -- r75
         first | omega | assumption | grind
        refine req_i ?_ ?_
        · -- r76
         first | omega | assumption | grind
        refine req_i ?_ ?_
        · -- r77
         first | omega | assumption | grind
        refine req_i ?_ ?_
        · -- r78
         first | omega | assumption | grind
        refine req_i ?_ ?_
        · -- r79
         first | omega | assumption | grind
        refine req_i ?_ ?_
        · -- r80
         first | omega | assumption | grind
        refine req_i ?_ ?_
        · -- r81
         first | omega | assumption | grind
        refine req_i ?_ ?_
        · -- r82
         first | omega | assumption | grind
        refine req_i ?_ ?_
        · -- r83
         first | omega | assumption | grind
        refine req_i ?_ ?_
        · -- r84
         first | exact IB | exact I0
        refine all_i fun n58 => ?_
        refine imp_i fun h181 => ?_
        refine imp_i fun h182 => ?_
        refine all_i fun n59 => ?_
        refine imp_i fun h183 => ?_
        refine imp_i fun h184 => ?_
        refine imp_i fun h185 => ?_
        try simp only [Int.toNat_natCast, List.length_set, List.length_replicate, List.length_take, List.length_drop, List.length_append, List.length_cons, List.length_nil, Nat.min_self, List.take_take, lenCols_i, lenCols_b, List.drop_zero, List.take_length, Nat.add_eq, Nat.mul_eq, Nat.sub_eq, Nat.zero_add, Nat.sub_zero, Nat.mul_one] at h185
        have I2 : dgI n54 y1 y0 u0 n58 n59 := h185
        have J := I2
        unfold dgI at J
        refine bR_dec (fun h186 => ?_) (fun h186 => ?_)
        ·
         have G := dg_big (V := n54) (y1 := y1) (y0 := y0) (u := u0) (q := n58) (by omega) (by omega) (by omega) h186
         refine all_i fun n60 => ?_
         refine imp_i fun h187 => ?_
         simp only [wrap_u64] at h187
         replace h187 : n60 = n58 - 1 := by omega
         refine imp_i fun h188 => ?_
         refine imp_i fun h189 => ?_
         refine all_i fun n61 => ?_
         refine imp_i fun h190 => ?_
         simp only [wrap_u64] at h190
         replace h190 : n61 = n59 + y1 := by omega
         refine imp_i fun h191 => ?_
         refine imp_i fun h192 => ?_
         refine bR_dec (fun h193 => ?_) (fun h193 => ?_)
         ·
          have X2 := dg_break I2 G (by omega) (by omega) (by omega) (by omega) (by omega) (by omega) (by omega)
          rw [← h187] at X2
          refine all_i fun n62 => ?_
          refine imp_i fun h194 => ?_
          simp only [wrap_u64] at h194
          skip
          refine imp_i fun h195 => ?_
          refine imp_i fun h196 => ?_
          refine all_i fun n63 => ?_
          refine imp_i fun h197 => ?_
          simp only [wrap_u64] at h197
          skip
          refine imp_i fun h198 => ?_
          refine imp_i fun h199 => ?_
          refine all_i fun n64 => ?_
          refine imp_i fun h200 => ?_
          simp only [wrap_u64] at h200
          skip
          refine imp_i fun h201 => ?_
          refine imp_i fun h202 => ?_
          refine all_i fun n65 => ?_
          refine imp_i fun h203 => ?_
          simp only [wrap_u64] at h203
          skip
          refine imp_i fun h204 => ?_
          refine imp_i fun h205 => ?_
          refine all_i fun n66 => ?_
          refine imp_i fun h206 => ?_
          simp only [wrap_u64] at h206
          skip
          refine imp_i fun h207 => ?_
          refine imp_i fun h208 => ?_
          refine all_i fun n67 => ?_
          refine imp_i fun h209 => ?_
          simp only [wrap_u64] at h209
          rw [← YY] at X2
          have R2 := rem_wrap h200 h203 h206 h209 X2.1 (by omega)
          replace X2 : 0 ≤ n67 ∧ n67 < Y := by rw [R2]; exact X2
          clear h200 h203 h206 h209
          have dq := div_q (V := V) (W := W) (Y := Y) (q1 := n49) (q0 := n60) (by omega) v2 WW w2 X1.1 R1 R2 X2.1
          have eQ := quo_wrap h194 h197 (by omega) (by omega) dq
          clear h194 h197
          rw [shrU_eq (a := n67) (n := n4) l2 (by omega)]
          have dr0 := Int.ediv_nonneg (a := n67) (b := p2 n4) X2.1 (Int.le_of_lt (p2_pos n4))
          have dr1 := Int.ediv_le_self (a := n67) (p2 n4) X2.1
          have DF := div_fin (P := p2 n4) eY2 (p2_pos n4) eX WW R1 R2 X2.1 X2.2 eQ rfl
          refine imp_i fun h210 => ?_
          refine imp_i fun h211 => ?_
          refine req_i ?_ ?_
          · -- r85
           first | omega | assumption | grind
          refine req_i ?_ ?_
          · -- r86
           first | omega | assumption | grind
          refine req_i ?_ ?_
          · -- r87
           first | omega | assumption | grind
          refine req_i ?_ ?_
          · -- r88
           first | omega | assumption | grind
          refine req_i ?_ ?_
          · -- r89
           exact DF
          rfl
         ·
          have IB := dg_back I2 G (by omega) (by omega)
          rw [← h187, ← h190] at IB
          refine bR_t ?_ ?_
          · -- g3
           first | rfl | (simp only [bR_iff, bR_iff_f, dec_iff, dec_f, beqB_iff', andB_iff', reduceCtorEq, imp_self, false_implies, and_true, true_and, implies_true, and_self]; done) | (simp [bR_iff, dec_iff, beqB_iff', andB_iff']; done) | (simp [bR_iff, dec_iff, beqB_iff', andB_iff']; omega)
          refine req_i ?_ ?_
          · -- r90
           first | omega | assumption | grind
          refine req_i ?_ ?_
          · -- r91
           first | omega | assumption | grind
          refine req_i ?_ ?_
          · -- r92
           first | omega | assumption | grind
          refine req_i ?_ ?_
          · -- r93
           first | omega | assumption | grind
          refine req_i ?_ ?_
          · -- r94
           first | exact IB | exact I0
          refine req_i ?_ ?_
          · -- r95
           show (4294967296 - n61).toNat < (4294967296 - n59).toNat; omega
          rfl
        ·
         skip
         refine all_i fun n68 => ?_
         refine imp_i fun h212 => ?_
         simp only [wrap_u64] at h212
         obtain ⟨h212, m3⟩ := b_mul (by omega) (by omega) (by omega) (by omega) n68 h212
         refine imp_i fun h213 => ?_
         refine imp_i fun h214 => ?_
         refine all_i fun n69 => ?_
         refine imp_i fun h215 => ?_
         simp only [wrap_u64] at h215
         replace h215 : n69 = 4294967296 * n59 := by omega
         refine imp_i fun h216 => ?_
         refine imp_i fun h217 => ?_
         refine all_i fun n70 => ?_
         refine imp_i fun h218 => ?_
         simp only [wrap_u64] at h218
         replace h218 : n70 = 4294967296 * n59 + u0 := by omega
         refine imp_i fun h219 => ?_
         refine imp_i fun h220 => ?_
         refine bR_dec (fun h221 => ?_) (fun h221 => ?_)
         ·
          have q1 : 1 ≤ n58 := pos_of (y := y0) (by omega) (by omega)
          have G := dg_big2 I2 (by rw [← h218, ← h212]; exact h221)
          refine all_i fun n71 => ?_
          refine imp_i fun h222 => ?_
          simp only [wrap_u64] at h222
          replace h222 : n71 = n58 - 1 := by omega
          refine imp_i fun h223 => ?_
          refine imp_i fun h224 => ?_
          refine all_i fun n72 => ?_
          refine imp_i fun h225 => ?_
          simp only [wrap_u64] at h225
          replace h225 : n72 = n59 + y1 := by omega
          refine imp_i fun h226 => ?_
          refine imp_i fun h227 => ?_
          refine bR_dec (fun h228 => ?_) (fun h228 => ?_)
          ·
           have X2 := dg_break I2 G (by omega) (by omega) (by omega) (by omega) (by omega) (by omega) (by omega)
           rw [← h222] at X2
           refine all_i fun n73 => ?_
           refine imp_i fun h229 => ?_
           simp only [wrap_u64] at h229
           skip
           refine imp_i fun h230 => ?_
           refine imp_i fun h231 => ?_
           refine all_i fun n74 => ?_
           refine imp_i fun h232 => ?_
           simp only [wrap_u64] at h232
           skip
           refine imp_i fun h233 => ?_
           refine imp_i fun h234 => ?_
           refine all_i fun n75 => ?_
           refine imp_i fun h235 => ?_
           simp only [wrap_u64] at h235
           skip
           refine imp_i fun h236 => ?_
           refine imp_i fun h237 => ?_
           refine all_i fun n76 => ?_
           refine imp_i fun h238 => ?_
           simp only [wrap_u64] at h238
           skip
           refine imp_i fun h239 => ?_
           refine imp_i fun h240 => ?_
           refine all_i fun n77 => ?_
           refine imp_i fun h241 => ?_
           simp only [wrap_u64] at h241
           skip
           refine imp_i fun h242 => ?_
           refine imp_i fun h243 => ?_
           refine all_i fun n78 => ?_
           refine imp_i fun h244 => ?_
           simp only [wrap_u64] at h244
           rw [← YY] at X2
           have R2 := rem_wrap h235 h238 h241 h244 X2.1 (by omega)
           replace X2 : 0 ≤ n78 ∧ n78 < Y := by rw [R2]; exact X2
           clear h235 h238 h241 h244
           have dq := div_q (V := V) (W := W) (Y := Y) (q1 := n49) (q0 := n71) (by omega) v2 WW w2 X1.1 R1 R2 X2.1
           have eQ := quo_wrap h229 h232 (by omega) (by omega) dq
           clear h229 h232
           rw [shrU_eq (a := n78) (n := n4) l2 (by omega)]
           have dr0 := Int.ediv_nonneg (a := n78) (b := p2 n4) X2.1 (Int.le_of_lt (p2_pos n4))
           have dr1 := Int.ediv_le_self (a := n78) (p2 n4) X2.1
           have DF := div_fin (P := p2 n4) eY2 (p2_pos n4) eX WW R1 R2 X2.1 X2.2 eQ rfl
           refine imp_i fun h245 => ?_
           refine imp_i fun h246 => ?_
           refine req_i ?_ ?_
           · -- r96
            first | omega | assumption | grind
           refine req_i ?_ ?_
           · -- r97
            first | omega | assumption | grind
           refine req_i ?_ ?_
           · -- r98
            first | omega | assumption | grind
           refine req_i ?_ ?_
           · -- r99
            first | omega | assumption | grind
           refine req_i ?_ ?_
           · -- r100
            exact DF
           rfl
          ·
           have IB := dg_back I2 G (by omega) (by omega)
           rw [← h222, ← h225] at IB
           refine bR_t ?_ ?_
           · -- g4
            first | rfl | (simp only [bR_iff, bR_iff_f, dec_iff, dec_f, beqB_iff', andB_iff', reduceCtorEq, imp_self, false_implies, and_true, true_and, implies_true, and_self]; done) | (simp [bR_iff, dec_iff, beqB_iff', andB_iff']; done) | (simp [bR_iff, dec_iff, beqB_iff', andB_iff']; omega)
           refine req_i ?_ ?_
           · -- r101
            first | omega | assumption | grind
           refine req_i ?_ ?_
           · -- r102
            first | omega | assumption | grind
           refine req_i ?_ ?_
           · -- r103
            first | omega | assumption | grind
           refine req_i ?_ ?_
           · -- r104
            first | omega | assumption | grind
           refine req_i ?_ ?_
           · -- r105
            first | exact IB | exact I0
           refine req_i ?_ ?_
           · -- r106
            show (4294967296 - n72).toNat < (4294967296 - n59).toNat; omega
           rfl
         ·
          have X2 := dg_exit I2 (by rw [← h218, ← h212]; exact h221)
          refine all_i fun n79 => ?_
          refine imp_i fun h247 => ?_
          simp only [wrap_u64] at h247
          skip
          refine imp_i fun h248 => ?_
          refine imp_i fun h249 => ?_
          refine all_i fun n80 => ?_
          refine imp_i fun h250 => ?_
          simp only [wrap_u64] at h250
          skip
          refine imp_i fun h251 => ?_
          refine imp_i fun h252 => ?_
          refine all_i fun n81 => ?_
          refine imp_i fun h253 => ?_
          simp only [wrap_u64] at h253
          skip
          refine imp_i fun h254 => ?_
          refine imp_i fun h255 => ?_
          refine all_i fun n82 => ?_
          refine imp_i fun h256 => ?_
          simp only [wrap_u64] at h256
          skip
          refine imp_i fun h257 => ?_
          refine imp_i fun h258 => ?_
          refine all_i fun n83 => ?_
          refine imp_i fun h259 => ?_
          simp only [wrap_u64] at h259
          skip
          refine imp_i fun h260 => ?_
          refine imp_i fun h261 => ?_
          refine all_i fun n84 => ?_
          refine imp_i fun h262 => ?_
          simp only [wrap_u64] at h262
          rw [← YY] at X2
          have R2 := rem_wrap h253 h256 h259 h262 X2.1 (by omega)
          replace X2 : 0 ≤ n84 ∧ n84 < Y := by rw [R2]; exact X2
          clear h253 h256 h259 h262
          have dq := div_q (V := V) (W := W) (Y := Y) (q1 := n49) (q0 := n58) (by omega) v2 WW w2 X1.1 R1 R2 X2.1
          have eQ := quo_wrap h247 h250 (by omega) (by omega) dq
          clear h247 h250
          rw [shrU_eq (a := n84) (n := n4) l2 (by omega)]
          have dr0 := Int.ediv_nonneg (a := n84) (b := p2 n4) X2.1 (Int.le_of_lt (p2_pos n4))
          have dr1 := Int.ediv_le_self (a := n84) (p2 n4) X2.1
          have DF := div_fin (P := p2 n4) eY2 (p2_pos n4) eX WW R1 R2 X2.1 X2.2 eQ rfl
          refine imp_i fun h263 => ?_
          refine imp_i fun h264 => ?_
          refine req_i ?_ ?_
          · -- r107
           first | omega | assumption | grind
          refine req_i ?_ ?_
          · -- r108
           first | omega | assumption | grind
          refine req_i ?_ ?_
          · -- r109
           first | omega | assumption | grind
          refine req_i ?_ ?_
          · -- r110
           first | omega | assumption | grind
          refine req_i ?_ ?_
          · -- r111
           exact DF
          rfl
       ·
        have IB := dg_back I1 G (by omega) (by omega)
        rw [← h153, ← h156] at IB
        refine bR_t ?_ ?_
        · -- g5
         first | rfl | (simp only [bR_iff, bR_iff_f, dec_iff, dec_f, beqB_iff', andB_iff', reduceCtorEq, imp_self, false_implies, and_true, true_and, implies_true, and_self]; done) | (simp [bR_iff, dec_iff, beqB_iff', andB_iff']; done) | (simp [bR_iff, dec_iff, beqB_iff', andB_iff']; omega)
        refine req_i ?_ ?_
        · -- r112
         first | omega | assumption | grind
        refine req_i ?_ ?_
        · -- r113
         first | omega | assumption | grind
        refine req_i ?_ ?_
        · -- r114
         first | omega | assumption | grind
        refine req_i ?_ ?_
        · -- r115
         first | omega | assumption | grind
        refine req_i ?_ ?_
        · -- r116
         first | exact IB | exact I0
        refine req_i ?_ ?_
        · -- r117
         show (4294967296 - n50).toNat < (4294967296 - n9).toNat; omega
        rfl
      ·
       have X1 := dg_exit I1 (by rw [← h149, ← h143]; exact h152)
       refine all_i fun n85 => ?_
       refine imp_i fun h265 => ?_
       simp only [wrap_u64] at h265
       skip
       refine imp_i fun h266 => ?_
       refine imp_i fun h267 => ?_
       refine all_i fun n86 => ?_
       refine imp_i fun h268 => ?_
       simp only [wrap_u64] at h268
       skip
       refine imp_i fun h269 => ?_
       refine imp_i fun h270 => ?_
       refine all_i fun n87 => ?_
       refine imp_i fun h271 => ?_
       simp only [wrap_u64] at h271
       skip
       refine imp_i fun h272 => ?_
       refine imp_i fun h273 => ?_
       refine all_i fun n88 => ?_
       refine imp_i fun h274 => ?_
       simp only [wrap_u64] at h274
       rw [← YY] at X1
       have R1 := rem_wrap h265 h268 h271 h274 X1.1 (by omega)
       replace X1 : 0 ≤ n88 ∧ n88 < Y := by rw [R1]; exact X1
       clear h265 h268 h271 h274
       refine imp_i fun h275 => ?_
       refine imp_i fun h276 => ?_
       refine req_i ?_ ?_
       · -- r118
        first | omega | assumption | grind
       refine all_i fun n89 => ?_
       refine imp_i fun h277 => ?_
       simp only [wrap_u64] at h277
       replace h277 : n89 = n88 / y1 := q_div (by omega) (by omega) (by omega) h277
       refine imp_i fun h278 => ?_
       refine imp_i fun h279 => ?_
       refine all_i fun n90 => ?_
       refine imp_i fun h280 => ?_
       simp only [wrap_u64] at h280
       obtain ⟨h280, m2, m1⟩ := q_mul (V := n88) (by omega) (by omega) (by omega) h277 n90 h280
       refine imp_i fun h281 => ?_
       refine imp_i fun h282 => ?_
       refine all_i fun n91 => ?_
       refine imp_i fun h283 => ?_
       simp only [wrap_u64] at h283
       replace h283 : n91 = n88 - n89 * y1 := by omega
       have I0 := dg_init (V := n88) (y1 := y1) (y0 := y0) (u := u0) (by omega) (by omega) (by omega) (by omega) (by omega) h277 h283
       refine imp_i fun h284 => ?_
       refine imp_i fun h285 => ?_
       refine req_i ?_ ?_
       · -- r119
        first | omega | assumption | grind
       refine req_i ?_ ?_
       · -- r120
        first | omega | assumption | grind
       refine req_i ?_ ?_
       · -- r121
        first | omega | assumption | grind
       refine req_i ?_ ?_
       · -- r122
        first | omega | assumption | grind
       refine req_i ?_ ?_
       · -- r123
        first | omega | assumption | grind
       refine req_i ?_ ?_
       · -- r124
        first | omega | assumption | grind
       refine req_i ?_ ?_
       · -- r125
        first | omega | assumption | grind
       refine req_i ?_ ?_
       · -- r126
        first | omega | assumption | grind
       refine req_i ?_ ?_
       · -- r127
        first | omega | assumption | grind
       refine req_i ?_ ?_
       · -- r128
        first | omega | assumption | grind
       refine req_i ?_ ?_
       · -- r129
        first | omega | assumption | grind
       refine req_i ?_ ?_
       · -- r130
        first | omega | assumption | grind
       refine req_i ?_ ?_
       · -- r131
        first | exact IB | exact I0
       refine all_i fun n92 => ?_
       refine imp_i fun h286 => ?_
       refine imp_i fun h287 => ?_
       refine all_i fun n93 => ?_
       refine imp_i fun h288 => ?_
       refine imp_i fun h289 => ?_
       refine imp_i fun h290 => ?_
       try simp only [Int.toNat_natCast, List.length_set, List.length_replicate, List.length_take, List.length_drop, List.length_append, List.length_cons, List.length_nil, Nat.min_self, List.take_take, lenCols_i, lenCols_b, List.drop_zero, List.take_length, Nat.add_eq, Nat.mul_eq, Nat.sub_eq, Nat.zero_add, Nat.sub_zero, Nat.mul_one] at h290
       have I2 : dgI n88 y1 y0 u0 n92 n93 := h290
       have J := I2
       unfold dgI at J
       refine bR_dec (fun h291 => ?_) (fun h291 => ?_)
       ·
        have G := dg_big (V := n88) (y1 := y1) (y0 := y0) (u := u0) (q := n92) (by omega) (by omega) (by omega) h291
        refine all_i fun n94 => ?_
        refine imp_i fun h292 => ?_
        simp only [wrap_u64] at h292
        replace h292 : n94 = n92 - 1 := by omega
        refine imp_i fun h293 => ?_
        refine imp_i fun h294 => ?_
        refine all_i fun n95 => ?_
        refine imp_i fun h295 => ?_
        simp only [wrap_u64] at h295
        replace h295 : n95 = n93 + y1 := by omega
        refine imp_i fun h296 => ?_
        refine imp_i fun h297 => ?_
        refine bR_dec (fun h298 => ?_) (fun h298 => ?_)
        ·
         have X2 := dg_break I2 G (by omega) (by omega) (by omega) (by omega) (by omega) (by omega) (by omega)
         rw [← h292] at X2
         refine all_i fun n96 => ?_
         refine imp_i fun h299 => ?_
         simp only [wrap_u64] at h299
         skip
         refine imp_i fun h300 => ?_
         refine imp_i fun h301 => ?_
         refine all_i fun n97 => ?_
         refine imp_i fun h302 => ?_
         simp only [wrap_u64] at h302
         skip
         refine imp_i fun h303 => ?_
         refine imp_i fun h304 => ?_
         refine all_i fun n98 => ?_
         refine imp_i fun h305 => ?_
         simp only [wrap_u64] at h305
         skip
         refine imp_i fun h306 => ?_
         refine imp_i fun h307 => ?_
         refine all_i fun n99 => ?_
         refine imp_i fun h308 => ?_
         simp only [wrap_u64] at h308
         skip
         refine imp_i fun h309 => ?_
         refine imp_i fun h310 => ?_
         refine all_i fun n100 => ?_
         refine imp_i fun h311 => ?_
         simp only [wrap_u64] at h311
         skip
         refine imp_i fun h312 => ?_
         refine imp_i fun h313 => ?_
         refine all_i fun n101 => ?_
         refine imp_i fun h314 => ?_
         simp only [wrap_u64] at h314
         rw [← YY] at X2
         have R2 := rem_wrap h305 h308 h311 h314 X2.1 (by omega)
         replace X2 : 0 ≤ n101 ∧ n101 < Y := by rw [R2]; exact X2
         clear h305 h308 h311 h314
         have dq := div_q (V := V) (W := W) (Y := Y) (q1 := n8) (q0 := n94) (by omega) v2 WW w2 X1.1 R1 R2 X2.1
         have eQ := quo_wrap h299 h302 (by omega) (by omega) dq
         clear h299 h302
         rw [shrU_eq (a := n101) (n := n4) l2 (by omega)]
         have dr0 := Int.ediv_nonneg (a := n101) (b := p2 n4) X2.1 (Int.le_of_lt (p2_pos n4))
         have dr1 := Int.ediv_le_self (a := n101) (p2 n4) X2.1
         have DF := div_fin (P := p2 n4) eY2 (p2_pos n4) eX WW R1 R2 X2.1 X2.2 eQ rfl
         refine imp_i fun h315 => ?_
         refine imp_i fun h316 => ?_
         refine req_i ?_ ?_
         · -- r132
          first | omega | assumption | grind
         refine req_i ?_ ?_
         · -- r133
          first | omega | assumption | grind
         refine req_i ?_ ?_
         · -- r134
          first | omega | assumption | grind
         refine req_i ?_ ?_
         · -- r135
          first | omega | assumption | grind
         refine req_i ?_ ?_
         · -- r136
          exact DF
         rfl
        ·
         have IB := dg_back I2 G (by omega) (by omega)
         rw [← h292, ← h295] at IB
         refine bR_t ?_ ?_
         · -- g6
          first | rfl | (simp only [bR_iff, bR_iff_f, dec_iff, dec_f, beqB_iff', andB_iff', reduceCtorEq, imp_self, false_implies, and_true, true_and, implies_true, and_self]; done) | (simp [bR_iff, dec_iff, beqB_iff', andB_iff']; done) | (simp [bR_iff, dec_iff, beqB_iff', andB_iff']; omega)
         refine req_i ?_ ?_
         · -- r137
          first | omega | assumption | grind
         refine req_i ?_ ?_
         · -- r138
          first | omega | assumption | grind
         refine req_i ?_ ?_
         · -- r139
          first | omega | assumption | grind
         refine req_i ?_ ?_
         · -- r140
          first | omega | assumption | grind
         refine req_i ?_ ?_
         · -- r141
          first | exact IB | exact I0
         refine req_i ?_ ?_
         · -- r142
          show (4294967296 - n95).toNat < (4294967296 - n93).toNat; omega
         rfl
       ·
        skip
        refine all_i fun n102 => ?_
        refine imp_i fun h317 => ?_
        simp only [wrap_u64] at h317
        obtain ⟨h317, m3⟩ := b_mul (by omega) (by omega) (by omega) (by omega) n102 h317
        refine imp_i fun h318 => ?_
        refine imp_i fun h319 => ?_
        refine all_i fun n103 => ?_
        refine imp_i fun h320 => ?_
        simp only [wrap_u64] at h320
        replace h320 : n103 = 4294967296 * n93 := by omega
        refine imp_i fun h321 => ?_
        refine imp_i fun h322 => ?_
        refine all_i fun n104 => ?_
        refine imp_i fun h323 => ?_
        simp only [wrap_u64] at h323
        replace h323 : n104 = 4294967296 * n93 + u0 := by omega
        refine imp_i fun h324 => ?_
        refine imp_i fun h325 => ?_
        refine bR_dec (fun h326 => ?_) (fun h326 => ?_)
        ·
         have q1 : 1 ≤ n92 := pos_of (y := y0) (by omega) (by omega)
         have G := dg_big2 I2 (by rw [← h323, ← h317]; exact h326)
         refine all_i fun n105 => ?_
         refine imp_i fun h327 => ?_
         simp only [wrap_u64] at h327
         replace h327 : n105 = n92 - 1 := by omega
         refine imp_i fun h328 => ?_
         refine imp_i fun h329 => ?_
         refine all_i fun n106 => ?_
         refine imp_i fun h330 => ?_
         simp only [wrap_u64] at h330
         replace h330 : n106 = n93 + y1 := by omega
         refine imp_i fun h331 => ?_
         refine imp_i fun h332 => ?_
         refine bR_dec (fun h333 => ?_) (fun h333 => ?_)
         ·
          have X2 := dg_break I2 G (by omega) (by omega) (by omega) (by omega) (by omega) (by omega) (by omega)
          rw [← h327] at X2
          refine all_i fun n107 => ?_
          refine imp_i fun h334 => ?_
          simp only [wrap_u64] at h334
          skip
          refine imp_i fun h335 => ?_
          refine imp_i fun h336 => ?_
          refine all_i fun n108 => ?_
          refine imp_i fun h337 => ?_
          simp only [wrap_u64] at h337
          skip
          refine imp_i fun h338 => ?_
          refine imp_i fun h339 => ?_
          refine all_i fun n109 => ?_
          refine imp_i fun h340 => ?_
          simp only [wrap_u64] at h340
          skip
          refine imp_i fun h341 => ?_
          refine imp_i fun h342 => ?_
          refine all_i fun n110 => ?_
          refine imp_i fun h343 => ?_
          simp only [wrap_u64] at h343
          skip
          refine imp_i fun h344 => ?_
          refine imp_i fun h345 => ?_
          refine all_i fun n111 => ?_
          refine imp_i fun h346 => ?_
          simp only [wrap_u64] at h346
          skip
          refine imp_i fun h347 => ?_
          refine imp_i fun h348 => ?_
          refine all_i fun n112 => ?_
          refine imp_i fun h349 => ?_
          simp only [wrap_u64] at h349
          rw [← YY] at X2
          have R2 := rem_wrap h340 h343 h346 h349 X2.1 (by omega)
          replace X2 : 0 ≤ n112 ∧ n112 < Y := by rw [R2]; exact X2
          clear h340 h343 h346 h349
          have dq := div_q (V := V) (W := W) (Y := Y) (q1 := n8) (q0 := n105) (by omega) v2 WW w2 X1.1 R1 R2 X2.1
          have eQ := quo_wrap h334 h337 (by omega) (by omega) dq
          clear h334 h337
          rw [shrU_eq (a := n112) (n := n4) l2 (by omega)]
          have dr0 := Int.ediv_nonneg (a := n112) (b := p2 n4) X2.1 (Int.le_of_lt (p2_pos n4))
          have dr1 := Int.ediv_le_self (a := n112) (p2 n4) X2.1
          have DF := div_fin (P := p2 n4) eY2 (p2_pos n4) eX WW R1 R2 X2.1 X2.2 eQ rfl
          refine imp_i fun h350 => ?_
          refine imp_i fun h351 => ?_
          refine req_i ?_ ?_
          · -- r143
           first | omega | assumption | grind
          refine req_i ?_ ?_
          · -- r144
           first | omega | assumption | grind
          refine req_i ?_ ?_
          · -- r145
           first | omega | assumption | grind
          refine req_i ?_ ?_
          · -- r146
           first | omega | assumption | grind
          refine req_i ?_ ?_
          · -- r147
           exact DF
          rfl
         ·
          have IB := dg_back I2 G (by omega) (by omega)
          rw [← h327, ← h330] at IB
          refine bR_t ?_ ?_
          · -- g7
           first | rfl | (simp only [bR_iff, bR_iff_f, dec_iff, dec_f, beqB_iff', andB_iff', reduceCtorEq, imp_self, false_implies, and_true, true_and, implies_true, and_self]; done) | (simp [bR_iff, dec_iff, beqB_iff', andB_iff']; done) | (simp [bR_iff, dec_iff, beqB_iff', andB_iff']; omega)
          refine req_i ?_ ?_
          · -- r148
           first | omega | assumption | grind
          refine req_i ?_ ?_
          · -- r149
           first | omega | assumption | grind
          refine req_i ?_ ?_
          · -- r150
           first | omega | assumption | grind
          refine req_i ?_ ?_
          · -- r151
           first | omega | assumption | grind
          refine req_i ?_ ?_
          · -- r152
           first | exact IB | exact I0
          refine req_i ?_ ?_
          · -- r153
           show (4294967296 - n106).toNat < (4294967296 - n93).toNat; omega
          rfl
        ·
         have X2 := dg_exit I2 (by rw [← h323, ← h317]; exact h326)
         refine all_i fun n113 => ?_
         refine imp_i fun h352 => ?_
         simp only [wrap_u64] at h352
         skip
         refine imp_i fun h353 => ?_
         refine imp_i fun h354 => ?_
         refine all_i fun n114 => ?_
         refine imp_i fun h355 => ?_
         simp only [wrap_u64] at h355
         skip
         refine imp_i fun h356 => ?_
         refine imp_i fun h357 => ?_
         refine all_i fun n115 => ?_
         refine imp_i fun h358 => ?_
         simp only [wrap_u64] at h358
         skip
         refine imp_i fun h359 => ?_
         refine imp_i fun h360 => ?_
         refine all_i fun n116 => ?_
         refine imp_i fun h361 => ?_
         simp only [wrap_u64] at h361
         skip
         refine imp_i fun h362 => ?_
         refine imp_i fun h363 => ?_
         refine all_i fun n117 => ?_
         refine imp_i fun h364 => ?_
         simp only [wrap_u64] at h364
         skip
         refine imp_i fun h365 => ?_
         refine imp_i fun h366 => ?_
         refine all_i fun n118 => ?_
         refine imp_i fun h367 => ?_
         simp only [wrap_u64] at h367
         rw [← YY] at X2
         have R2 := rem_wrap h358 h361 h364 h367 X2.1 (by omega)
         replace X2 : 0 ≤ n118 ∧ n118 < Y := by rw [R2]; exact X2
         clear h358 h361 h364 h367
         have dq := div_q (V := V) (W := W) (Y := Y) (q1 := n8) (q0 := n92) (by omega) v2 WW w2 X1.1 R1 R2 X2.1
         have eQ := quo_wrap h352 h355 (by omega) (by omega) dq
         clear h352 h355
         rw [shrU_eq (a := n118) (n := n4) l2 (by omega)]
         have dr0 := Int.ediv_nonneg (a := n118) (b := p2 n4) X2.1 (Int.le_of_lt (p2_pos n4))
         have dr1 := Int.ediv_le_self (a := n118) (p2 n4) X2.1
         have DF := div_fin (P := p2 n4) eY2 (p2_pos n4) eX WW R1 R2 X2.1 X2.2 eQ rfl
         refine imp_i fun h368 => ?_
         refine imp_i fun h369 => ?_
         refine req_i ?_ ?_
         · -- r154
          first | omega | assumption | grind
         refine req_i ?_ ?_
         · -- r155
          first | omega | assumption | grind
         refine req_i ?_ ?_
         · -- r156
          first | omega | assumption | grind
         refine req_i ?_ ?_
         · -- r157
          first | omega | assumption | grind
         refine req_i ?_ ?_
         · -- r158
          exact DF
         rfl
theorem ext_div64 : ∀ p ∈ ([(69, Ext.ctr (ctOf sigLz))] : List (Nat × Ext)), ExtRow Try.prog p.1 p.2 := by
  intro p hp
  simp only [List.mem_cons, List.not_mem_nil, or_false] at hp
  rcases hp with rfl
  · trivial
theorem cts_div64 : CtsOk Try.prog [(69, Ext.ctr (ctOf sigLz))] := ctsOk_of (cs := [(69, sigLz)])
  (fun p hp => by
    simp only [List.mem_cons, List.not_mem_nil, or_false] at hp
    rcases hp with rfl
    · exact fn_lz64
)
  (fun f c h => by
    simp only [List.lookup_cons] at h
    repeat' split at h
    all_goals first | (cases h; done) | (rename_i e; have e := beq_iff_eq.1 e; subst e; cases h; refine ⟨_, ?_, rfl⟩; simp))
theorem fn_div64 : FnOk Try.prog 66 sigDiv [] := fn_sound (by kernel_rfl) ext_div64 cts_div64 names vt_div64
end Go.Proofs.Ytcddopooofdgcaa

namespace Go.Proofs.Ytcddopooofdgcaa
open Go.Ev Go.Sp
set_option maxRecDepth 100000
theorem vc_over : vcFn Try.prog [(66, Ext.ctr (ctOf sigDiv)), (54, Ext.ctr (ctOf sigAdd64))] tab [] 100 53 sigOver = (allB fun n0 : Int => 
impB ((0 : Int) ≤ n0) (
impB (n0 ≤ (18446744073709551615 : Int)) (
allB fun n1 : Int => 
impB ((0 : Int) ≤ n1) (
impB (n1 ≤ (18446744073709551615 : Int)) (
allB fun n2 : Int => 
impB ((0 : Int) ≤ n2) (
impB (n2 ≤ (9223372036854775808 : Int)) (
impB (sigOver.pre [DV.n n0, DV.n n1, DV.n n2]) (
reqB ((0 : Int) ≤ n0) (
reqB (n0 ≤ (18446744073709551615 : Int)) (
reqB ((0 : Int) ≤ n2) (
reqB (n2 ≤ (18446744073709551615 : Int)) (
reqB (sigDiv.pre [DV.n (0 : Int), DV.n n0, DV.n n2]) (
allB fun n3 : Int => 
impB ((0 : Int) ≤ n3) (
impB (n3 ≤ (18446744073709551615 : Int)) (
allB fun n4 : Int => 
impB ((0 : Int) ≤ n4) (
impB (n4 ≤ (18446744073709551615 : Int)) (
impB (sigDiv.post [DV.n (0 : Int), DV.n n0, DV.n n2] [DV.n n3, DV.n n4]) (
reqB ((0 : Int) ≤ n4) (
reqB (n4 ≤ (18446744073709551615 : Int)) (
reqB ((0 : Int) ≤ n1) (
reqB (n1 ≤ (18446744073709551615 : Int)) (
reqB ((0 : Int) ≤ n2) (
reqB (n2 ≤ (18446744073709551615 : Int)) (
reqB (sigDiv.pre [DV.n n4, DV.n n1, DV.n n2]) (
allB fun n5 : Int => 
impB ((0 : Int) ≤ n5) (
impB (n5 ≤ (18446744073709551615 : Int)) (
allB fun n6 : Int => 
impB ((0 : Int) ≤ n6) (
impB (n6 ≤ (18446744073709551615 : Int)) (
impB (sigDiv.post [DV.n n4, DV.n n1, DV.n n2] [DV.n n5, DV.n n6]) (
allB fun n7 : Int => 
impB (n7 = Go.IntKind.u64.wrap (n2 - n6)) (
impB (Int.ofNat (0 : Nat) ≤ n7) (
impB (n7 ≤ Int.ofNat (18446744073709551615 : Nat)) (
bR (dec (n7 ≤ n6)) (
 reqB ((0 : Int) ≤ n5) (
 reqB (n5 ≤ (18446744073709551615 : Int)) (
 reqB (sigAdd64.pre [DV.n n5, DV.n (1 : Int), DV.n (0 : Int)]) (
 allB fun n8 : Int => 
 impB ((0 : Int) ≤ n8) (
 impB (n8 ≤ (18446744073709551615 : Int)) (
 allB fun n9 : Int => 
 impB ((0 : Int) ≤ n9) (
 impB (n9 ≤ (1 : Int)) (
 impB (sigAdd64.post [DV.n n5, DV.n (1 : Int), DV.n (0 : Int)] [DV.n n8, DV.n n9]) (
 allB fun n10 : Int => 
 impB (n10 = Go.IntKind.u64.wrap (n3 + n9)) (
 impB (Int.ofNat (0 : Nat) ≤ n10) (
 impB (n10 ≤ Int.ofNat (18446744073709551615 : Nat)) (
 reqB ((0 : Int) ≤ n10) (
 reqB (n10 ≤ (18446744073709551615 : Int)) (
 reqB ((0 : Int) ≤ n8) (
 reqB (n8 ≤ (18446744073709551615 : Int)) (
 reqB (sigOver.post [DV.n n0, DV.n n1, DV.n n2] [DV.n n10, DV.n n8]) (
 true))))))))))))))))) (
 reqB ((0 : Int) ≤ n5) (
 reqB (n5 ≤ (18446744073709551615 : Int)) (
 reqB (sigAdd64.pre [DV.n n5, DV.n (0 : Int), DV.n (0 : Int)]) (
 allB fun n11 : Int => 
 impB ((0 : Int) ≤ n11) (
 impB (n11 ≤ (18446744073709551615 : Int)) (
 allB fun n12 : Int => 
 impB ((0 : Int) ≤ n12) (
 impB (n12 ≤ (1 : Int)) (
 impB (sigAdd64.post [DV.n n5, DV.n (0 : Int), DV.n (0 : Int)] [DV.n n11, DV.n n12]) (
 allB fun n13 : Int => 
 impB (n13 = Go.IntKind.u64.wrap (n3 + n12)) (
 impB (Int.ofNat (0 : Nat) ≤ n13) (
 impB (n13 ≤ Int.ofNat (18446744073709551615 : Nat)) (
 reqB ((0 : Int) ≤ n13) (
 reqB (n13 ≤ (18446744073709551615 : Int)) (
 reqB ((0 : Int) ≤ n11) (
 reqB (n11 ≤ (18446744073709551615 : Int)) (
 reqB (sigOver.post [DV.n n0, DV.n n1, DV.n n2] [DV.n n13, DV.n n11]) (
 true)))))))))))))))))))))))))))))))))))))))))))))))))) := by kernel_rfl
set_option maxHeartbeats 8000000 in
theorem vt_over : vcFn Try.prog [(66, Ext.ctr (ctOf sigDiv)), (54, Ext.ctr (ctOf sigAdd64))] tab [] 100 53 sigOver = true := by
  rw [vc_over]
  try simp only [Int.toNat_natCast, List.length_set, List.length_replicate, List.length_take, List.length_drop, List.length_append, List.length_cons, List.length_nil, Nat.min_self, List.take_take, lenCols_i, lenCols_b, List.drop_zero, List.take_length, Nat.add_eq, Nat.mul_eq, Nat.sub_eq, Nat.zero_add, Nat.sub_zero, Nat.mul_one]
  refine all_i fun n0 => ?_
  refine imp_i fun h0 => ?_
  refine imp_i fun h1 => ?_
  refine all_i fun n1 => ?_
  refine imp_i fun h2 => ?_
  refine imp_i fun h3 => ?_
  refine all_i fun n2 => ?_
  refine imp_i fun h4 => ?_
  refine imp_i fun h5 => ?_
  refine imp_i fun h6 => ?_
  try simp only [sigOver, overPre, overPost, List.cons.injEq, DV.b.injEq, and_true, List.length_cons, List.length_nil] at h6
  refine req_i ?_ ?_
  · -- r0
   first | omega | assumption | grind
  refine req_i ?_ ?_
  · -- r1
   first | omega | assumption | grind
  refine req_i ?_ ?_
  · -- r2
   first | omega | assumption | grind
  refine req_i ?_ ?_
  · -- r3
   first | omega | assumption | grind
  refine req_i ?_ ?_
  · -- r4
   first | trivial | assumption | (simp only [sigDiv, divPre, divPost, List.cons.injEq, DV.b.injEq, and_true, List.length_cons, List.length_nil]; done) | ((try simp only [sigDiv, divPre, divPost, List.cons.injEq, DV.b.injEq, and_true, List.length_cons, List.length_nil]); first | omega | assumption | grind)
  refine all_i fun n3 => ?_
  refine imp_i fun h7 => ?_
  refine imp_i fun h8 => ?_
  refine all_i fun n4 => ?_
  refine imp_i fun h9 => ?_
  refine imp_i fun h10 => ?_
  refine imp_i fun h11 => ?_
  try simp only [sigDiv, divPre, divPost, List.cons.injEq, DV.b.injEq, and_true, List.length_cons, List.length_nil] at h11
  refine req_i ?_ ?_
  · -- r5
   first | omega | assumption | grind
  refine req_i ?_ ?_
  · -- r6
   first | omega | assumption | grind
  refine req_i ?_ ?_
  · -- r7
   first | omega | assumption | grind
  refine req_i ?_ ?_
  · -- r8
   first | omega | assumption | grind
  refine req_i ?_ ?_
  · -- r9
   first | omega | assumption | grind
  refine req_i ?_ ?_
  · -- r10
   first | omega | assumption | grind
  refine req_i ?_ ?_
  · -- r11
   first | trivial | assumption | (simp only [sigDiv, divPre, divPost, List.cons.injEq, DV.b.injEq, and_true, List.length_cons, List.length_nil]; done) | ((try simp only [sigDiv, divPre, divPost, List.cons.injEq, DV.b.injEq, and_true, List.length_cons, List.length_nil]); first | omega | assumption | grind)
  refine all_i fun n5 => ?_
  refine imp_i fun h12 => ?_
  refine imp_i fun h13 => ?_
  refine all_i fun n6 => ?_
  refine imp_i fun h14 => ?_
  refine imp_i fun h15 => ?_
  refine imp_i fun h16 => ?_
  try simp only [sigDiv, divPre, divPost, List.cons.injEq, DV.b.injEq, and_true, List.length_cons, List.length_nil] at h16
  refine all_i fun n7 => ?_
  refine imp_i fun h17 => ?_
  simp only [wrap_u64] at h17
  have W : (n0 * 18446744073709551616 + n1) = (n3 * 18446744073709551616 + n5) * n2 + n6 := by
    have e : (n3 * 18446744073709551616 + n5) * n2 = n3 * n2 * 18446744073709551616 + n5 * n2 := by grind
    omega
  have ro := rnd_of W (by omega) (by omega)
  have ql := q_le (q := n3) (b := n2) (r := n4) (n := n0) (by omega) (by omega) (by omega) (by omega)
  replace h17 : n7 = n2 - n6 := by omega
  refine imp_i fun h18 => ?_
  refine imp_i fun h19 => ?_
  refine bR_dec (fun h20 => ?_) (fun h20 => ?_)
  ·
   have ro := ro.1 (by omega)
   have qu := over_up (q := n3) (b := n2) (r := n4) (n := n0) (s := n6) (by omega) (by omega) (by omega) (by omega) (by omega) (by omega) (by omega)
   refine req_i ?_ ?_
   · -- r12
    first | omega | assumption | grind
   refine req_i ?_ ?_
   · -- r13
    first | omega | assumption | grind
   refine req_i ?_ ?_
   · -- r14
    first | trivial | assumption | (simp only [sigAdd64, add64Post, List.cons.injEq, DV.b.injEq, and_true, List.length_cons, List.length_nil]; done) | ((try simp only [sigAdd64, add64Post, List.cons.injEq, DV.b.injEq, and_true, List.length_cons, List.length_nil]); first | omega | assumption | grind)
   refine all_i fun n8 => ?_
   refine imp_i fun h21 => ?_
   refine imp_i fun h22 => ?_
   refine all_i fun n9 => ?_
   refine imp_i fun h23 => ?_
   refine imp_i fun h24 => ?_
   refine imp_i fun h25 => ?_
   try simp only [sigAdd64, add64Post, List.cons.injEq, DV.b.injEq, and_true, List.length_cons, List.length_nil] at h25
   refine all_i fun n10 => ?_
   refine imp_i fun h26 => ?_
   simp only [wrap_u64] at h26
   refine imp_i fun h27 => ?_
   refine imp_i fun h28 => ?_
   refine req_i ?_ ?_
   · -- r15
    first | omega | assumption | grind
   refine req_i ?_ ?_
   · -- r16
    first | omega | assumption | grind
   refine req_i ?_ ?_
   · -- r17
    first | omega | assumption | grind
   refine req_i ?_ ?_
   · -- r18
    first | omega | assumption | grind
   refine req_i ?_ ?_
   · -- r19
    simp only [sigOver, overPost]; rw [ro]; omega
   rfl
  ·
   have ro := ro.2 (by omega)
   refine req_i ?_ ?_
   · -- r20
    first | omega | assumption | grind
   refine req_i ?_ ?_
   · -- r21
    first | omega | assumption | grind
   refine req_i ?_ ?_
   · -- r22
    first | trivial | assumption | (simp only [sigAdd64, add64Post, List.cons.injEq, DV.b.injEq, and_true, List.length_cons, List.length_nil]; done) | ((try simp only [sigAdd64, add64Post, List.cons.injEq, DV.b.injEq, and_true, List.length_cons, List.length_nil]); first | omega | assumption | grind)
   refine all_i fun n11 => ?_
   refine imp_i fun h29 => ?_
   refine imp_i fun h30 => ?_
   refine all_i fun n12 => ?_
   refine imp_i fun h31 => ?_
   refine imp_i fun h32 => ?_
   refine imp_i fun h33 => ?_
   try simp only [sigAdd64, add64Post, List.cons.injEq, DV.b.injEq, and_true, List.length_cons, List.length_nil] at h33
   refine all_i fun n13 => ?_
   refine imp_i fun h34 => ?_
   simp only [wrap_u64] at h34
   refine imp_i fun h35 => ?_
   refine imp_i fun h36 => ?_
   refine req_i ?_ ?_
   · -- r23
    first | omega | assumption | grind
   refine req_i ?_ ?_
   · -- r24
    first | omega | assumption | grind
   refine req_i ?_ ?_
   · -- r25
    first | omega | assumption | grind
   refine req_i ?_ ?_
   · -- r26
    first | omega | assumption | grind
   refine req_i ?_ ?_
   · -- r27
    simp only [sigOver, overPost]; rw [ro]; omega
   rfl
theorem ext_over : ∀ p ∈ ([(66, Ext.ctr (ctOf sigDiv)), (54, Ext.ctr (ctOf sigAdd64))] : List (Nat × Ext)), ExtRow Try.prog p.1 p.2 := by
  intro p hp
  simp only [List.mem_cons, List.not_mem_nil, or_false] at hp
  rcases hp with rfl | rfl
  · trivial
  · trivial
theorem cts_over : CtsOk Try.prog [(66, Ext.ctr (ctOf sigDiv)), (54, Ext.ctr (ctOf sigAdd64))] := ctsOk_of (cs := [(66, sigDiv), (54, sigAdd64)])
  (fun p hp => by
    simp only [List.mem_cons, List.not_mem_nil, or_false] at hp
    rcases hp with rfl | rfl
    · exact fn_div64
    · exact fn_add64
)
  (fun f c h => by
    simp only [List.lookup_cons] at h
    repeat' split at h
    all_goals first | (cases h; done) | (rename_i e; have e := beq_iff_eq.1 e; subst e; cases h; refine ⟨_, ?_, rfl⟩; simp))
theorem fn_over : FnOk Try.prog 53 sigOver [] := fn_sound (by kernel_rfl) ext_over cts_over names vt_over
end Go.Proofs.Ytcddopooofdgcaa

namespace Go.Proofs.Ytcddopooofdgcaa
open Go.Ev Go.Sp
set_option maxRecDepth 100000
theorem vc_Div : vcFn Try.prog [(46, Ext.ctr (ctOf sigSize)), (48, Ext.ctr (ctOf sigUp)), (53, Ext.ctr (ctOf sigOver)), (44, Ext.ctr (ctOf sigSat))] noA [] 100 18 sigDivF = (allB fun n0 : Int => 
impB ((-9223372036854775808 : Int) ≤ n0) (
impB (n0 ≤ (9223372036854775807 : Int)) (
allB fun n1 : Int => 
impB ((-9223372036854775808 : Int) ≤ n1) (
impB (n1 ≤ (9223372036854775807 : Int)) (
allB fun n2 : Int => 
impB ((-9223372036854775808 : Int) ≤ n2) (
impB (n2 ≤ (9223372036854775807 : Int)) (
impB (sigDivF.pre [DV.n n0, DV.n n1, DV.n n2]) (
bR (dec (n2 < (0 : Int))) (
 reqB (sigDivF.post [DV.n n0, DV.n n1, DV.n n2] [DV.n (0 : Int), DV.n (2 : Int)]) (
 true)) (
 bR (dec ((62 : Int) < n2)) (
 reqB (sigDivF.post [DV.n n0, DV.n n1, DV.n n2] [DV.n (0 : Int), DV.n (2 : Int)]) (
 true)) (
 bR (dec (n1 = (0 : Int))) (
 reqB (sigDivF.post [DV.n n0, DV.n n1, DV.n n2] [DV.n (0 : Int), DV.n (6 : Int)]) (
 true)) (
 reqB ((-9223372036854775808 : Int) ≤ n0) (
 reqB (n0 ≤ (9223372036854775807 : Int)) (
 reqB (sigSize.pre [DV.n n0]) (
 allB fun n3 : Int => 
 impB ((0 : Int) ≤ n3) (
 impB (n3 ≤ (9223372036854775808 : Int)) (
 impB (sigSize.post [DV.n n0] [DV.n n3]) (
 allB fun n4 : Int => 
 impB (n4 = Go.IntKind.u64.wrap n2) (
 impB (Int.ofNat (0 : Nat) ≤ n4) (
 impB (n4 ≤ Int.ofNat (18446744073709551615 : Nat)) (
 reqB ((0 : Int) ≤ n3) (
 reqB (n3 ≤ (9223372036854775808 : Int)) (
 reqB ((0 : Int) ≤ n4) (
 reqB (n4 ≤ (64 : Int)) (
 reqB (sigUp.pre [DV.n (0 : Int), DV.n n3, DV.n n4]) (
 allB fun n5 : Int => 
 impB ((0 : Int) ≤ n5) (
 impB (n5 ≤ (18446744073709551615 : Int)) (
 allB fun n6 : Int => 
 impB ((0 : Int) ≤ n6) (
 impB (n6 ≤ (18446744073709551615 : Int)) (
 impB (sigUp.post [DV.n (0 : Int), DV.n n3, DV.n n4] [DV.n n5, DV.n n6]) (
 reqB ((-9223372036854775808 : Int) ≤ n1) (
 reqB (n1 ≤ (9223372036854775807 : Int)) (
 reqB (sigSize.pre [DV.n n1]) (
 allB fun n7 : Int => 
 impB ((0 : Int) ≤ n7) (
 impB (n7 ≤ (9223372036854775808 : Int)) (
 impB (sigSize.post [DV.n n1] [DV.n n7]) (
 reqB ((0 : Int) ≤ n5) (
 reqB (n5 ≤ (18446744073709551615 : Int)) (
 reqB ((0 : Int) ≤ n6) (
 reqB (n6 ≤ (18446744073709551615 : Int)) (
 reqB ((0 : Int) ≤ n7) (
 reqB (n7 ≤ (9223372036854775808 : Int)) (
 reqB (sigOver.pre [DV.n n5, DV.n n6, DV.n n7]) (
 allB fun n8 : Int => 
 impB ((0 : Int) ≤ n8) (
 impB (n8 ≤ (18446744073709551615 : Int)) (
 allB fun n9 : Int => 
 impB ((0 : Int) ≤ n9) (
 impB (n9 ≤ (18446744073709551615 : Int)) (
 impB (sigOver.post [DV.n n5, DV.n n6, DV.n n7] [DV.n n8, DV.n n9]) (
 reqB ((0 : Int) ≤ n8) (
 reqB (n8 ≤ (18446744073709551615 : Int)) (
 reqB ((0 : Int) ≤ n9) (
 reqB (n9 ≤ (18446744073709551615 : Int)) (
 reqB (sigSat.pre
 [DV.b !beqB (dec (n0 < (0 : Int))) (dec (n1 < (0 : Int))), DV.n n8, DV.n n9]) (
 allB fun n10 : Int => 
 impB ((-9223372036854775808 : Int) ≤ n10) (
 impB (n10 ≤ (9223372036854775807 : Int)) (
 impB (sigSat.post
 [DV.b !beqB (dec (n0 < (0 : Int))) (dec (n1 < (0 : Int))), DV.n n8, DV.n n9]
 [DV.n n10]) (
 reqB ((-9223372036854775808 : Int) ≤ n10) (
 reqB (n10 ≤ (9223372036854775807 : Int)) (
 reqB (sigDivF.post [DV.n n0, DV.n n1, DV.n n2] [DV.n n10, DV.n (0 : Int)]) (
 true))))))))))))))))))))))))))))))))))))))))))))))))))))))))))) := by kernel_rfl
set_option maxHeartbeats 8000000 in
theorem vt_Div : vcFn Try.prog [(46, Ext.ctr (ctOf sigSize)), (48, Ext.ctr (ctOf sigUp)), (53, Ext.ctr (ctOf sigOver)), (44, Ext.ctr (ctOf sigSat))] noA [] 100 18 sigDivF = true := by
  rw [vc_Div]
  try simp only [Int.toNat_natCast, List.length_set, List.length_replicate, List.length_take, List.length_drop, List.length_append, List.length_cons, List.length_nil, Nat.min_self, List.take_take, lenCols_i, lenCols_b, List.drop_zero, List.take_length, Nat.add_eq, Nat.mul_eq, Nat.sub_eq, Nat.zero_add, Nat.sub_zero, Nat.mul_one]
  refine all_i fun n0 => ?_
  refine imp_i fun h0 => ?_
  refine imp_i fun h1 => ?_
  refine all_i fun n1 => ?_
  refine imp_i fun h2 => ?_
  refine imp_i fun h3 => ?_
  refine all_i fun n2 => ?_
  refine imp_i fun h4 => ?_
  refine imp_i fun h5 => ?_
  refine imp_i fun h6 => ?_
  try simp only [sigDivF, divFPost, List.cons.injEq, DV.b.injEq, and_true, List.length_cons, List.length_nil] at h6
  refine bR_dec (fun h7 => ?_) (fun h7 => ?_)
  ·
   refine req_i ?_ ?_
   · -- r0
    exact .inl ⟨by omega, rfl, rfl⟩
   rfl
  ·
   refine bR_dec (fun h8 => ?_) (fun h8 => ?_)
   ·
    refine req_i ?_ ?_
    · -- r1
     exact .inl ⟨by omega, rfl, rfl⟩
    rfl
   ·
    refine bR_dec (fun h9 => ?_) (fun h9 => ?_)
    ·
     refine req_i ?_ ?_
     · -- r2
      exact .inr (.inl ⟨by omega, by omega, by omega, rfl, rfl⟩)
     rfl
    ·
     refine req_i ?_ ?_
     · -- r3
      first | omega | assumption | grind
     refine req_i ?_ ?_
     · -- r4
      first | omega | assumption | grind
     refine req_i ?_ ?_
     · -- r5
      first | trivial | assumption | (simp only [sigSize, sizePost, List.cons.injEq, DV.b.injEq, and_true, List.length_cons, List.length_nil]; done) | ((try simp only [sigSize, sizePost, List.cons.injEq, DV.b.injEq, and_true, List.length_cons, List.length_nil]); first | omega | assumption | grind)
     refine all_i fun n3 => ?_
     refine imp_i fun h10 => ?_
     refine imp_i fun h11 => ?_
     refine imp_i fun h12 => ?_
     try simp only [sigSize, sizePost, List.cons.injEq, DV.b.injEq, and_true, List.length_cons, List.length_nil] at h12
     have ah12 := abs_bd n0 (by omega) (by omega)
     refine all_i fun n4 => ?_
     refine imp_i fun h13 => ?_
     simp only [wrap_u64] at h13
     replace h13 : n4 = n2 := by omega
     refine imp_i fun h14 => ?_
     refine imp_i fun h15 => ?_
     refine req_i ?_ ?_
     · -- r6
      first | omega | assumption | grind
     refine req_i ?_ ?_
     · -- r7
      first | omega | assumption | grind
     refine req_i ?_ ?_
     · -- r8
      first | omega | assumption | grind
     refine req_i ?_ ?_
     · -- r9
      first | omega | assumption | grind
     refine req_i ?_ ?_
     · -- r10
      first | trivial | assumption | (simp only [sigUp, upPost, List.cons.injEq, DV.b.injEq, and_true, List.length_cons, List.length_nil]; done) | ((try simp only [sigUp, upPost, List.cons.injEq, DV.b.injEq, and_true, List.length_cons, List.length_nil]); first | omega | assumption | grind)
     refine all_i fun n5 => ?_
     refine imp_i fun h16 => ?_
     refine imp_i fun h17 => ?_
     refine all_i fun n6 => ?_
     refine imp_i fun h18 => ?_
     refine imp_i fun h19 => ?_
     refine imp_i fun h20 => ?_
     try simp only [sigUp, upPost, List.cons.injEq, DV.b.injEq, and_true, List.length_cons, List.length_nil] at h20
     refine req_i ?_ ?_
     · -- r11
      first | omega | assumption | grind
     refine req_i ?_ ?_
     · -- r12
      first | omega | assumption | grind
     refine req_i ?_ ?_
     · -- r13
      first | trivial | assumption | (simp only [sigSize, sizePost, List.cons.injEq, DV.b.injEq, and_true, List.length_cons, List.length_nil]; done) | ((try simp only [sigSize, sizePost, List.cons.injEq, DV.b.injEq, and_true, List.length_cons, List.length_nil]); first | omega | assumption | grind)
     refine all_i fun n7 => ?_
     refine imp_i fun h21 => ?_
     refine imp_i fun h22 => ?_
     refine imp_i fun h23 => ?_
     try simp only [sigSize, sizePost, List.cons.injEq, DV.b.injEq, and_true, List.length_cons, List.length_nil] at h23
     have ah23 := abs_bd n1 (by omega) (by omega)
     refine req_i ?_ ?_
     · -- r14
      first | omega | assumption | grind
     refine req_i ?_ ?_
     · -- r15
      first | omega | assumption | grind
     refine req_i ?_ ?_
     · -- r16
      first | omega | assumption | grind
     refine req_i ?_ ?_
     · -- r17
      first | omega | assumption | grind
     refine req_i ?_ ?_
     · -- r18
      first | omega | assumption | grind
     refine req_i ?_ ?_
     · -- r19
      first | omega | assumption | grind
     refine req_i ?_ ?_
     · -- r20
      first | trivial | assumption | (simp only [sigOver, overPre, overPost, List.cons.injEq, DV.b.injEq, and_true, List.length_cons, List.length_nil]; done) | ((try simp only [sigOver, overPre, overPost, List.cons.injEq, DV.b.injEq, and_true, List.length_cons, List.length_nil]); first | omega | assumption | grind)
     refine all_i fun n8 => ?_
     refine imp_i fun h24 => ?_
     refine imp_i fun h25 => ?_
     refine all_i fun n9 => ?_
     refine imp_i fun h26 => ?_
     refine imp_i fun h27 => ?_
     refine imp_i fun h28 => ?_
     try simp only [sigOver, overPre, overPost, List.cons.injEq, DV.b.injEq, and_true, List.length_cons, List.length_nil] at h28
     refine req_i ?_ ?_
     · -- r21
      first | omega | assumption | grind
     refine req_i ?_ ?_
     · -- r22
      first | omega | assumption | grind
     refine req_i ?_ ?_
     · -- r23
      first | omega | assumption | grind
     refine req_i ?_ ?_
     · -- r24
      first | omega | assumption | grind
     refine req_i ?_ ?_
     · -- r25
      first | omega | ((try simp only [sigSat, satPost, sat, List.cons.injEq, DV.b.injEq, and_true, List.length_cons, List.length_nil, dec_iff]); first | done | omega | assumption | grind [getD_set, getD_rep, toNat_succ, cntN_yes, cntN_no])
     refine all_i fun n10 => ?_
     refine imp_i fun h29 => ?_
     refine imp_i fun h30 => ?_
     refine imp_i fun h31 => ?_
     try simp only [Int.toNat_natCast, List.length_set, List.length_replicate, List.length_take, List.length_drop, List.length_append, List.length_cons, List.length_nil, Nat.min_self, List.take_take, lenCols_i, lenCols_b, List.drop_zero, List.take_length, Nat.add_eq, Nat.mul_eq, Nat.sub_eq, Nat.zero_add, Nat.sub_zero, Nat.mul_one] at h31
     have k := sg_sat xor_dec h31
     rw [h28, h20, h12, h13, h23] at k
     refine req_i ?_ ?_
     · -- r26
      first | omega | assumption | grind
     refine req_i ?_ ?_
     · -- r27
      first | omega | assumption | grind
     refine req_i ?_ ?_
     · -- r28
      exact .inr (.inr ⟨by omega, by omega, by omega, rfl, k⟩)
     rfl
theorem ext_Div : ∀ p ∈ ([(46, Ext.ctr (ctOf sigSize)), (48, Ext.ctr (ctOf sigUp)), (53, Ext.ctr (ctOf sigOver)), (44, Ext.ctr (ctOf sigSat))] : List (Nat × Ext)), ExtRow Try.prog p.1 p.2 := by
  intro p hp
  simp only [List.mem_cons, List.not_mem_nil, or_false] at hp
  rcases hp with rfl | rfl | rfl | rfl
  · trivial
  · trivial
  · trivial
  · trivial
theorem cts_Div : CtsOk Try.prog [(46, Ext.ctr (ctOf sigSize)), (48, Ext.ctr (ctOf sigUp)), (53, Ext.ctr (ctOf sigOver)), (44, Ext.ctr (ctOf sigSat))] := ctsOk_of (cs := [(46, sigSize), (48, sigUp), (53, sigOver), (44, sigSat)])
  (fun p hp => by
    simp only [List.mem_cons, List.not_mem_nil, or_false] at hp
    rcases hp with rfl | rfl | rfl | rfl
    · exact fn_size
    · exact fn_up
    · exact fn_over
    · exact fn_sat
)
  (fun f c h => by
    simp only [List.lookup_cons] at h
    repeat' split at h
    all_goals first | (cases h; done) | (rename_i e; have e := beq_iff_eq.1 e; subst e; cases h; refine ⟨_, ?_, rfl⟩; simp))
theorem fn_Div : FnOk Try.prog 18 sigDivF [] := fn_sound (by kernel_rfl) ext_Div cts_Div names vt_Div
end Go.Proofs.Ytcddopooofdgcaa

namespace Go.Proofs.Ytcddopooofdgcaa
open Go.Ev Go.Sp
set_option maxRecDepth 100000
theorem vc_Ratio : vcFn Try.prog [(51, Ext.ctr (ctOf sigTimes)), (46, Ext.ctr (ctOf sigSize)), (53, Ext.ctr (ctOf sigOver)), (44, Ext.ctr (ctOf sigSat))] noA [] 100 19 sigRatF = (allB fun n0 : Int => 
impB ((-9223372036854775808 : Int) ≤ n0) (
impB (n0 ≤ (9223372036854775807 : Int)) (
allB fun n1 : Int => 
impB ((-9223372036854775808 : Int) ≤ n1) (
impB (n1 ≤ (9223372036854775807 : Int)) (
allB fun n2 : Int => 
impB ((-9223372036854775808 : Int) ≤ n2) (
impB (n2 ≤ (9223372036854775807 : Int)) (
impB (sigRatF.pre [DV.n n0, DV.n n1, DV.n n2]) (
bR (dec (n2 = (0 : Int))) (
 reqB (sigRatF.post [DV.n n0, DV.n n1, DV.n n2] [DV.n (0 : Int), DV.n (6 : Int)]) (
 true)) (
 reqB ((-9223372036854775808 : Int) ≤ n0) (
 reqB (n0 ≤ (9223372036854775807 : Int)) (
 reqB ((-9223372036854775808 : Int) ≤ n1) (
 reqB (n1 ≤ (9223372036854775807 : Int)) (
 reqB (sigTimes.pre [DV.n n0, DV.n n1]) (
 allB fun n3 : Int => 
 impB ((0 : Int) ≤ n3) (
 impB (n3 ≤ (18446744073709551615 : Int)) (
 allB fun n4 : Int => 
 impB ((0 : Int) ≤ n4) (
 impB (n4 ≤ (18446744073709551615 : Int)) (
 impB (sigTimes.post [DV.n n0, DV.n n1] [DV.n n3, DV.n n4]) (
 reqB ((-9223372036854775808 : Int) ≤ n2) (
 reqB (n2 ≤ (9223372036854775807 : Int)) (
 reqB (sigSize.pre [DV.n n2]) (
 allB fun n5 : Int => 
 impB ((0 : Int) ≤ n5) (
 impB (n5 ≤ (9223372036854775808 : Int)) (
 impB (sigSize.post [DV.n n2] [DV.n n5]) (
 reqB ((0 : Int) ≤ n3) (
 reqB (n3 ≤ (18446744073709551615 : Int)) (
 reqB ((0 : Int) ≤ n4) (
 reqB (n4 ≤ (18446744073709551615 : Int)) (
 reqB ((0 : Int) ≤ n5) (
 reqB (n5 ≤ (9223372036854775808 : Int)) (
 reqB (sigOver.pre [DV.n n3, DV.n n4, DV.n n5]) (
 allB fun n6 : Int => 
 impB ((0 : Int) ≤ n6) (
 impB (n6 ≤ (18446744073709551615 : Int)) (
 allB fun n7 : Int => 
 impB ((0 : Int) ≤ n7) (
 impB (n7 ≤ (18446744073709551615 : Int)) (
 impB (sigOver.post [DV.n n3, DV.n n4, DV.n n5] [DV.n n6, DV.n n7]) (
 reqB ((0 : Int) ≤ n6) (
 reqB (n6 ≤ (18446744073709551615 : Int)) (
 reqB ((0 : Int) ≤ n7) (
 reqB (n7 ≤ (18446744073709551615 : Int)) (
 reqB (sigSat.pre
 [DV.b
 !beqB (!beqB (dec (n0 < (0 : Int))) (dec (n1 < (0 : Int)))) (dec (n2 < (0 : Int))),
 DV.n n6, DV.n n7]) (
 allB fun n8 : Int => 
 impB ((-9223372036854775808 : Int) ≤ n8) (
 impB (n8 ≤ (9223372036854775807 : Int)) (
 impB (sigSat.post
 [DV.b
 !beqB (!beqB (dec (n0 < (0 : Int))) (dec (n1 < (0 : Int)))) (dec (n2 < (0 : Int))),
 DV.n n6, DV.n n7]
 [DV.n n8]) (
 reqB ((-9223372036854775808 : Int) ≤ n8) (
 reqB (n8 ≤ (9223372036854775807 : Int)) (
 reqB (sigRatF.post [DV.n n0, DV.n n1, DV.n n2] [DV.n n8, DV.n (0 : Int)]) (
 true)))))))))))))))))))))))))))))))))))))))))))))))) := by kernel_rfl
set_option maxHeartbeats 8000000 in
theorem vt_Ratio : vcFn Try.prog [(51, Ext.ctr (ctOf sigTimes)), (46, Ext.ctr (ctOf sigSize)), (53, Ext.ctr (ctOf sigOver)), (44, Ext.ctr (ctOf sigSat))] noA [] 100 19 sigRatF = true := by
  rw [vc_Ratio]
  try simp only [Int.toNat_natCast, List.length_set, List.length_replicate, List.length_take, List.length_drop, List.length_append, List.length_cons, List.length_nil, Nat.min_self, List.take_take, lenCols_i, lenCols_b, List.drop_zero, List.take_length, Nat.add_eq, Nat.mul_eq, Nat.sub_eq, Nat.zero_add, Nat.sub_zero, Nat.mul_one]
  refine all_i fun n0 => ?_
  refine imp_i fun h0 => ?_
  refine imp_i fun h1 => ?_
  refine all_i fun n1 => ?_
  refine imp_i fun h2 => ?_
  refine imp_i fun h3 => ?_
  refine all_i fun n2 => ?_
  refine imp_i fun h4 => ?_
  refine imp_i fun h5 => ?_
  refine imp_i fun h6 => ?_
  try simp only [sigRatF, ratPost, List.cons.injEq, DV.b.injEq, and_true, List.length_cons, List.length_nil] at h6
  refine bR_dec (fun h7 => ?_) (fun h7 => ?_)
  ·
   refine req_i ?_ ?_
   · -- r0
    exact .inl ⟨by omega, rfl, rfl⟩
   rfl
  ·
   refine req_i ?_ ?_
   · -- r1
    first | omega | assumption | grind
   refine req_i ?_ ?_
   · -- r2
    first | omega | assumption | grind
   refine req_i ?_ ?_
   · -- r3
    first | omega | assumption | grind
   refine req_i ?_ ?_
   · -- r4
    first | omega | assumption | grind
   refine req_i ?_ ?_
   · -- r5
    first | trivial | assumption | (simp only [sigTimes, timesPost, List.cons.injEq, DV.b.injEq, and_true, List.length_cons, List.length_nil]; done) | ((try simp only [sigTimes, timesPost, List.cons.injEq, DV.b.injEq, and_true, List.length_cons, List.length_nil]); first | omega | assumption | grind)
   refine all_i fun n3 => ?_
   refine imp_i fun h8 => ?_
   refine imp_i fun h9 => ?_
   refine all_i fun n4 => ?_
   refine imp_i fun h10 => ?_
   refine imp_i fun h11 => ?_
   refine imp_i fun h12 => ?_
   try simp only [sigTimes, timesPost, List.cons.injEq, DV.b.injEq, and_true, List.length_cons, List.length_nil] at h12
   refine req_i ?_ ?_
   · -- r6
    first | omega | assumption | grind
   refine req_i ?_ ?_
   · -- r7
    first | omega | assumption | grind
   refine req_i ?_ ?_
   · -- r8
    first | trivial | assumption | (simp only [sigSize, sizePost, List.cons.injEq, DV.b.injEq, and_true, List.length_cons, List.length_nil]; done) | ((try simp only [sigSize, sizePost, List.cons.injEq, DV.b.injEq, and_true, List.length_cons, List.length_nil]); first | omega | assumption | grind)
   refine all_i fun n5 => ?_
   refine imp_i fun h13 => ?_
   refine imp_i fun h14 => ?_
   refine imp_i fun h15 => ?_
   try simp only [sigSize, sizePost, List.cons.injEq, DV.b.injEq, and_true, List.length_cons, List.length_nil] at h15
   have ah15 := abs_bd n2 (by omega) (by omega)
   refine req_i ?_ ?_
   · -- r9
    first | omega | assumption | grind
   refine req_i ?_ ?_
   · -- r10
    first | omega | assumption | grind
   refine req_i ?_ ?_
   · -- r11
    first | omega | assumption | grind
   refine req_i ?_ ?_
   · -- r12
    first | omega | assumption | grind
   refine req_i ?_ ?_
   · -- r13
    first | omega | assumption | grind
   refine req_i ?_ ?_
   · -- r14
    first | omega | assumption | grind
   refine req_i ?_ ?_
   · -- r15
    first | trivial | assumption | (simp only [sigOver, overPre, overPost, List.cons.injEq, DV.b.injEq, and_true, List.length_cons, List.length_nil]; done) | ((try simp only [sigOver, overPre, overPost, List.cons.injEq, DV.b.injEq, and_true, List.length_cons, List.length_nil]); first | omega | assumption | grind)
   refine all_i fun n6 => ?_
   refine imp_i fun h16 => ?_
   refine imp_i fun h17 => ?_
   refine all_i fun n7 => ?_
   refine imp_i fun h18 => ?_
   refine imp_i fun h19 => ?_
   refine imp_i fun h20 => ?_
   try simp only [sigOver, overPre, overPost, List.cons.injEq, DV.b.injEq, and_true, List.length_cons, List.length_nil] at h20
   refine req_i ?_ ?_
   · -- r16
    first | omega | assumption | grind
   refine req_i ?_ ?_
   · -- r17
    first | omega | assumption | grind
   refine req_i ?_ ?_
   · -- r18
    first | omega | assumption | grind
   refine req_i ?_ ?_
   · -- r19
    first | omega | assumption | grind
   refine req_i ?_ ?_
   · -- r20
    first | omega | ((try simp only [sigSat, satPost, sat, List.cons.injEq, DV.b.injEq, and_true, List.length_cons, List.length_nil, dec_iff]); first | done | omega | assumption | grind [getD_set, getD_rep, toNat_succ, cntN_yes, cntN_no])
   refine all_i fun n8 => ?_
   refine imp_i fun h21 => ?_
   refine imp_i fun h22 => ?_
   refine imp_i fun h23 => ?_
   try simp only [Int.toNat_natCast, List.length_set, List.length_replicate, List.length_take, List.length_drop, List.length_append, List.length_cons, List.length_nil, Nat.min_self, List.take_take, lenCols_i, lenCols_b, List.drop_zero, List.take_length, Nat.add_eq, Nat.mul_eq, Nat.sub_eq, Nat.zero_add, Nat.sub_zero, Nat.mul_one] at h23
   have k := sg_sat xor_dec3 h23
   rw [h20, h12, h15] at k
   refine req_i ?_ ?_
   · -- r21
    first | omega | assumption | grind
   refine req_i ?_ ?_
   · -- r22
    first | omega | assumption | grind
   refine req_i ?_ ?_
   · -- r23
    exact .inr ⟨by omega, rfl, k⟩
   rfl
theorem ext_Ratio : ∀ p ∈ ([(51, Ext.ctr (ctOf sigTimes)), (46, Ext.ctr (ctOf sigSize)), (53, Ext.ctr (ctOf sigOver)), (44, Ext.ctr (ctOf sigSat))] : List (Nat × Ext)), ExtRow Try.prog p.1 p.2 := by
  intro p hp
  simp only [List.mem_cons, List.not_mem_nil, or_false] at hp
  rcases hp with rfl | rfl | rfl | rfl
  · trivial
  · trivial
  · trivial
  · trivial
theorem cts_Ratio : CtsOk Try.prog [(51, Ext.ctr (ctOf sigTimes)), (46, Ext.ctr (ctOf sigSize)), (53, Ext.ctr (ctOf sigOver)), (44, Ext.ctr (ctOf sigSat))] := ctsOk_of (cs := [(51, sigTimes), (46, sigSize), (53, sigOver), (44, sigSat)])
  (fun p hp => by
    simp only [List.mem_cons, List.not_mem_nil, or_false] at hp
    rcases hp with rfl | rfl | rfl | rfl
    · exact fn_times
    · exact fn_size
    · exact fn_over
    · exact fn_sat
)
  (fun f c h => by
    simp only [List.lookup_cons] at h
    repeat' split at h
    all_goals first | (cases h; done) | (rename_i e; have e := beq_iff_eq.1 e; subst e; cases h; refine ⟨_, ?_, rfl⟩; simp))
theorem fn_Ratio : FnOk Try.prog 19 sigRatF [] := fn_sound (by kernel_rfl) ext_Ratio cts_Ratio names vt_Ratio
end Go.Proofs.Ytcddopooofdgcaa

