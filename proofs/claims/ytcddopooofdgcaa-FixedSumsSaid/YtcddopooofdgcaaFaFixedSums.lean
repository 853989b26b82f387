import Derived.Test.YtcddopooofdgcaaSpec01e
import Derived.Test.YtcddopooofdgcaaRows
import Derived.Test.YtcddopooofdgcaaEvSU
import Derived.Test.YtcddopooofdgcaaFnames
namespace Go.Proofs.Ytcddopooofdgcaa
open Go.Ev Go.Sp
set_option maxRecDepth 100000
theorem vc_lives : vcFn Try.prog [(54, Ext.add64), (55, Ext.sub64)] noA [] 1000 10 sigTrue0 = (impB (sigTrue0.pre []) (
reqB (sigTrue0.post []
  [DV.b
      (andB (eqI (Int.negSucc (0 : Nat)) (-1 : Int))
        (andB (eqI (Int.ofNat (18446744073709551615 : Nat)) (18446744073709551615 : Int)) Bool.true))]) (
true))) := by kernel_rfl
set_option maxHeartbeats 8000000 in
theorem vt_lives : vcFn Try.prog [(54, Ext.add64), (55, Ext.sub64)] noA [] 1000 10 sigTrue0 = true := by
  rw [vc_lives]
  try simp only [bR_same, dec_same, bR_true, bR_false]
  simp only [allB_iff, impB_iff, reqB_iff, bR_iff, bR_iff_f, dec_iff, dec_f, reduceCtorEq, imp_false, Classical.not_not, implies_true, true_and, and_true]
  intro _
  first | rfl | trivial | simp [sigTrue0]
theorem ext_lives : ∀ p ∈ ([(54, Ext.add64), (55, Ext.sub64)] : List (Nat × Ext)), ExtRow Try.prog p.1 p.2 := by
  intro p hp
  simp only [List.mem_cons, List.not_mem_nil, or_false] at hp
  rcases hp with rfl | rfl
  · exact ⟨Try.f54, Try.func54, by kernel_rfl, by kernel_rfl, by kernel_rfl, by kernel_rfl⟩
  · exact ⟨Try.f55, Try.func55, by kernel_rfl, by kernel_rfl, by kernel_rfl, by kernel_rfl⟩
theorem cts_lives : CtsOk Try.prog [(54, Ext.add64), (55, Ext.sub64)] := fun f c h => by
  simp only [List.lookup_cons, List.lookup_nil] at h
  repeat' split at h
  all_goals cases h
theorem fn_lives : FnOk Try.prog 10 sigTrue0 [] := fn_sound (by kernel_rfl) ext_lives cts_lives names vt_lives
end Go.Proofs.Ytcddopooofdgcaa

namespace Go.Proofs.Ytcddopooofdgcaa
open Go.Ev Go.Sp
set_option maxRecDepth 100000
theorem vc_clamp : vcFn Try.prog [] tab [] 100 20 sigClamp = (allB fun n0 : Int => 
impB ((-9223372036854775808 : Int) ≤ n0) (
impB (n0 ≤ (9223372036854775807 : Int)) (
allB fun n1 : Int => 
impB ((-9223372036854775808 : Int) ≤ n1) (
impB (n1 ≤ (9223372036854775807 : Int)) (
allB fun n2 : Int => 
impB ((-9223372036854775808 : Int) ≤ n2) (
impB (n2 ≤ (9223372036854775807 : Int)) (
impB (sigClamp.pre [DV.n n0, DV.n n1, DV.n n2]) (
bR (dec (n2 < n1)) (
 reqB (sigClamp.post [DV.n n0, DV.n n1, DV.n n2] [DV.n (0 : Int), DV.n (2 : Int)]) (
 true)) (
 reqB ((-9223372036854775808 : Int) ≤ Min.min (Max.max n0 n1) n2) (
 reqB (Min.min (Max.max n0 n1) n2 ≤ (9223372036854775807 : Int)) (
 reqB (sigClamp.post [DV.n n0, DV.n n1, DV.n n2]
  [DV.n (Min.min (Max.max n0 n1) n2), DV.n (0 : Int)]) (
 true)))))))))))) := by kernel_rfl
set_option maxHeartbeats 8000000 in
theorem vt_clamp : vcFn Try.prog [] tab [] 100 20 sigClamp = true := by
  rw [vc_clamp]
  try simp only [Int.toNat_natCast, List.length_set, List.length_replicate, List.length_take, List.length_drop, List.length_append, List.length_cons, List.length_nil, Nat.min_self, List.take_take, lenCols_i, lenCols_b, List.drop_zero, List.take_length, Nat.add_eq, Nat.mul_eq, Nat.sub_eq, Nat.zero_add, Nat.sub_zero, Nat.mul_one]
  refine all_i fun n0 => ?_
  refine imp_i fun h0 => ?_
  refine imp_i fun h1 => ?_
  refine all_i fun n1 => ?_
  refine imp_i fun h2 => ?_
  refine imp_i fun h3 => ?_
  refine all_i fun n2 => ?_
  refine imp_i fun h4 => ?_
  refine imp_i fun h5 => ?_
  refine imp_i fun h6 => ?_
  try simp only [sigClamp, clampP, List.cons.injEq, DV.b.injEq, and_true, List.length_cons, List.length_nil] at h6
  refine bR_dec (fun h7 => ?_) (fun h7 => ?_)
  ·
    refine req_i ?_ ?_
    · -- r0
      first | omega | ((try simp only [sigClamp, clampP, List.cons.injEq, DV.b.injEq, and_true, List.length_cons, List.length_nil]); first | done | omega | assumption | grind [getD_set, getD_rep, toNat_succ, cntN_yes, cntN_no])
    rfl
  ·
    refine req_i ?_ ?_
    · -- r1
      first | omega | assumption | grind
    refine req_i ?_ ?_
    · -- r2
      first | omega | assumption | grind
    refine req_i ?_ ?_
    · -- r3
      first | omega | ((try simp only [sigClamp, clampP, List.cons.injEq, DV.b.injEq, and_true, List.length_cons, List.length_nil]); first | done | omega | assumption | grind [getD_set, getD_rep, toNat_succ, cntN_yes, cntN_no])
    rfl
theorem ext_clamp : ∀ p ∈ ([] : List (Nat × Ext)), ExtRow Try.prog p.1 p.2 := by
  intro p hp
  cases hp
theorem cts_clamp : CtsOk Try.prog [] := fun f c h => by cases h
theorem fn_clamp : FnOk Try.prog 20 sigClamp [] := fn_sound (by kernel_rfl) ext_clamp cts_clamp names vt_clamp
end Go.Proofs.Ytcddopooofdgcaa

namespace Go.Proofs.Ytcddopooofdgcaa
open Go.Ev Go.Sp
set_option maxRecDepth 100000
theorem vc_clampR : vcFn Try.prog [] tab [] 100 26 sigClamp = (allB fun n0 : Int => 
impB ((-9223372036854775808 : Int) ≤ n0) (
impB (n0 ≤ (9223372036854775807 : Int)) (
allB fun n1 : Int => 
impB ((-9223372036854775808 : Int) ≤ n1) (
impB (n1 ≤ (9223372036854775807 : Int)) (
allB fun n2 : Int => 
impB ((-9223372036854775808 : Int) ≤ n2) (
impB (n2 ≤ (9223372036854775807 : Int)) (
impB (sigClamp.pre [DV.n n0, DV.n n1, DV.n n2]) (
bR (dec (n2 < n1)) (
 reqB (sigClamp.post [DV.n n0, DV.n n1, DV.n n2] [DV.n (0 : Int), DV.n (2 : Int)]) (
 true)) (
 reqB ((-9223372036854775808 : Int) ≤ Min.min (Max.max n0 n1) n2) (
 reqB (Min.min (Max.max n0 n1) n2 ≤ (9223372036854775807 : Int)) (
 reqB (sigClamp.post [DV.n n0, DV.n n1, DV.n n2]
  [DV.n (Min.min (Max.max n0 n1) n2), DV.n (0 : Int)]) (
 true)))))))))))) := by kernel_rfl
set_option maxHeartbeats 8000000 in
theorem vt_clampR : vcFn Try.prog [] tab [] 100 26 sigClamp = true := by
  rw [vc_clampR]
  try simp only [Int.toNat_natCast, List.length_set, List.length_replicate, List.length_take, List.length_drop, List.length_append, List.length_cons, List.length_nil, Nat.min_self, List.take_take, lenCols_i, lenCols_b, List.drop_zero, List.take_length, Nat.add_eq, Nat.mul_eq, Nat.sub_eq, Nat.zero_add, Nat.sub_zero, Nat.mul_one]
  refine all_i fun n0 => ?_
  refine imp_i fun h0 => ?_
  refine imp_i fun h1 => ?_
  refine all_i fun n1 => ?_
  refine imp_i fun h2 => ?_
  refine imp_i fun h3 => ?_
  refine all_i fun n2 => ?_
  refine imp_i fun h4 => ?_
  refine imp_i fun h5 => ?_
  refine imp_i fun h6 => ?_
  try simp only [sigClamp, clampP, List.cons.injEq, DV.b.injEq, and_true, List.length_cons, List.length_nil] at h6
  refine bR_dec (fun h7 => ?_) (fun h7 => ?_)
  ·
    refine req_i ?_ ?_
    · -- r0
      first | omega | ((try simp only [sigClamp, clampP, List.cons.injEq, DV.b.injEq, and_true, List.length_cons, List.length_nil]); first | done | omega | assumption | grind [getD_set, getD_rep, toNat_succ, cntN_yes, cntN_no])
    rfl
  ·
    refine req_i ?_ ?_
    · -- r1
      first | omega | assumption | grind
    refine req_i ?_ ?_
    · -- r2
      first | omega | assumption | grind
    refine req_i ?_ ?_
    · -- r3
      first | omega | ((try simp only [sigClamp, clampP, List.cons.injEq, DV.b.injEq, and_true, List.length_cons, List.length_nil]); first | done | omega | assumption | grind [getD_set, getD_rep, toNat_succ, cntN_yes, cntN_no])
    rfl
theorem ext_clampR : ∀ p ∈ ([] : List (Nat × Ext)), ExtRow Try.prog p.1 p.2 := by
  intro p hp
  cases hp
theorem cts_clampR : CtsOk Try.prog [] := fun f c h => by cases h
theorem fn_clampR : FnOk Try.prog 26 sigClamp [] := fn_sound (by kernel_rfl) ext_clampR cts_clampR names vt_clampR
end Go.Proofs.Ytcddopooofdgcaa

namespace Go.Proofs.Ytcddopooofdgcaa
open Go.Ev Go.Sp
set_option maxRecDepth 100000
theorem vc_sat : vcFn Try.prog [] tab [] 100 44 sigSat = (allB fun b0 : Bool => 
allB fun n1 : Int => 
impB ((0 : Int) ≤ n1) (
impB (n1 ≤ (18446744073709551615 : Int)) (
allB fun n2 : Int => 
impB ((0 : Int) ≤ n2) (
impB (n2 ≤ (18446744073709551615 : Int)) (
impB (sigSat.pre [DV.b b0, DV.n n1, DV.n n2]) (
bR (b0) (
 bR (dec (n1 ≠ (0 : Int))) (
  reqB (sigSat.post [DV.b b0, DV.n n1, DV.n n2] [DV.n (-9223372036854775808 : Int)]) (
  true)) (
  bR (dec ((9223372036854775808 : Int) ≤ n2)) (
   reqB (sigSat.post [DV.b b0, DV.n n1, DV.n n2] [DV.n (-9223372036854775808 : Int)]) (
   true)) (
   bR (b0) (
    allB fun n3 : Int => 
    impB (n3 = Go.IntKind.i64.wrap n2) (
    impB (Int.negSucc (9223372036854775807 : Nat) ≤ n3) (
    impB (n3 ≤ Int.ofNat (9223372036854775807 : Nat)) (
    allB fun n4 : Int => 
    impB (n4 = Go.IntKind.i64.wrap ((0 : Int) - n3)) (
    impB (Int.negSucc (9223372036854775807 : Nat) ≤ n4) (
    impB (n4 ≤ Int.ofNat (9223372036854775807 : Nat)) (
    reqB ((-9223372036854775808 : Int) ≤ n4) (
    reqB (n4 ≤ (9223372036854775807 : Int)) (
    reqB (sigSat.post [DV.b b0, DV.n n1, DV.n n2] [DV.n n4]) (
    true)))))))))) (
    bR (dec (n1 ≠ (0 : Int))) (
     reqB (sigSat.post [DV.b b0, DV.n n1, DV.n n2] [DV.n (9223372036854775807 : Int)]) (
     true)) (
     bR (dec ((9223372036854775808 : Int) ≤ n2)) (
      reqB (sigSat.post [DV.b b0, DV.n n1, DV.n n2] [DV.n (9223372036854775807 : Int)]) (
      true)) (
      allB fun n5 : Int => 
      impB (n5 = Go.IntKind.i64.wrap n2) (
      impB (Int.negSucc (9223372036854775807 : Nat) ≤ n5) (
      impB (n5 ≤ Int.ofNat (9223372036854775807 : Nat)) (
      reqB ((-9223372036854775808 : Int) ≤ n5) (
      reqB (n5 ≤ (9223372036854775807 : Int)) (
      reqB (sigSat.post [DV.b b0, DV.n n1, DV.n n2] [DV.n n5]) (
      true)))))))))))) (
 bR (b0) (
  allB fun n6 : Int => 
  impB (n6 = Go.IntKind.i64.wrap n2) (
  impB (Int.negSucc (9223372036854775807 : Nat) ≤ n6) (
  impB (n6 ≤ Int.ofNat (9223372036854775807 : Nat)) (
  allB fun n7 : Int => 
  impB (n7 = Go.IntKind.i64.wrap ((0 : Int) - n6)) (
  impB (Int.negSucc (9223372036854775807 : Nat) ≤ n7) (
  impB (n7 ≤ Int.ofNat (9223372036854775807 : Nat)) (
  reqB ((-9223372036854775808 : Int) ≤ n7) (
  reqB (n7 ≤ (9223372036854775807 : Int)) (
  reqB (sigSat.post [DV.b b0, DV.n n1, DV.n n2] [DV.n n7]) (
  true)))))))))) (
  bR (dec (n1 ≠ (0 : Int))) (
   reqB (sigSat.post [DV.b b0, DV.n n1, DV.n n2] [DV.n (9223372036854775807 : Int)]) (
   true)) (
   bR (dec ((9223372036854775808 : Int) ≤ n2)) (
    reqB (sigSat.post [DV.b b0, DV.n n1, DV.n n2] [DV.n (9223372036854775807 : Int)]) (
    true)) (
    allB fun n8 : Int => 
    impB (n8 = Go.IntKind.i64.wrap n2) (
    impB (Int.negSucc (9223372036854775807 : Nat) ≤ n8) (
    impB (n8 ≤ Int.ofNat (9223372036854775807 : Nat)) (
    reqB ((-9223372036854775808 : Int) ≤ n8) (
    reqB (n8 ≤ (9223372036854775807 : Int)) (
    reqB (sigSat.post [DV.b b0, DV.n n1, DV.n n2] [DV.n n8]) (
    true)))))))))))))))) := by kernel_rfl
set_option maxHeartbeats 8000000 in
theorem vt_sat : vcFn Try.prog [] tab [] 100 44 sigSat = true := by
  rw [vc_sat]
  try simp only [Int.toNat_natCast, List.length_set, List.length_replicate, List.length_take, List.length_drop, List.length_append, List.length_cons, List.length_nil, Nat.min_self, List.take_take, lenCols_i, lenCols_b, List.drop_zero, List.take_length, Nat.add_eq, Nat.mul_eq, Nat.sub_eq, Nat.zero_add, Nat.sub_zero, Nat.mul_one]
  refine all_i fun b0 => ?_
  refine all_i fun n1 => ?_
  refine imp_i fun h0 => ?_
  refine imp_i fun h1 => ?_
  refine all_i fun n2 => ?_
  refine imp_i fun h2 => ?_
  refine imp_i fun h3 => ?_
  refine imp_i fun h4 => ?_
  try simp only [sigSat, satPost, sat, List.cons.injEq, DV.b.injEq, and_true, List.length_cons, List.length_nil] at h4
  refine bR_i (fun h5 => ?_) (fun h5 => ?_)
  ·
    refine bR_dec (fun h6 => ?_) (fun h6 => ?_)
    ·
      refine req_i ?_ ?_
      · -- r0
        first | omega | ((try simp only [sigSat, satPost, sat, List.cons.injEq, DV.b.injEq, and_true, List.length_cons, List.length_nil]); first | done | omega | assumption | grind [getD_set, getD_rep, toNat_succ, cntN_yes, cntN_no])
      rfl
    ·
      refine bR_dec (fun h7 => ?_) (fun h7 => ?_)
      ·
        refine req_i ?_ ?_
        · -- r1
          first | omega | ((try simp only [sigSat, satPost, sat, List.cons.injEq, DV.b.injEq, and_true, List.length_cons, List.length_nil]); first | done | omega | assumption | grind [getD_set, getD_rep, toNat_succ, cntN_yes, cntN_no])
        rfl
      ·
        refine bR_i (fun h8 => ?_) (fun h8 => absurd (h5.symm.trans h8) (by decide))
        refine all_i fun n3 => ?_
        refine imp_i fun h9 => ?_
        simp only [wrap_i64] at h9
        refine imp_i fun h10 => ?_
        refine imp_i fun h11 => ?_
        refine all_i fun n4 => ?_
        refine imp_i fun h12 => ?_
        simp only [wrap_i64] at h12
        refine imp_i fun h13 => ?_
        refine imp_i fun h14 => ?_
        refine req_i ?_ ?_
        · -- r2
          first | omega | assumption | grind
        refine req_i ?_ ?_
        · -- r3
          first | omega | assumption | grind
        refine req_i ?_ ?_
        · -- r4
          first | omega | ((try simp only [sigSat, satPost, sat, List.cons.injEq, DV.b.injEq, and_true, List.length_cons, List.length_nil]); first | done | omega | assumption | grind [getD_set, getD_rep, toNat_succ, cntN_yes, cntN_no])
        rfl
  ·
    refine bR_i (fun h15 => absurd (h15.symm.trans h5) (by decide)) (fun h15 => ?_)
    refine bR_dec (fun h16 => ?_) (fun h16 => ?_)
    ·
      refine req_i ?_ ?_
      · -- r5
        first | omega | ((try simp only [sigSat, satPost, sat, List.cons.injEq, DV.b.injEq, and_true, List.length_cons, List.length_nil]); first | done | omega | assumption | grind [getD_set, getD_rep, toNat_succ, cntN_yes, cntN_no])
      rfl
    ·
      refine bR_dec (fun h17 => ?_) (fun h17 => ?_)
      ·
        refine req_i ?_ ?_
        · -- r6
          first | omega | ((try simp only [sigSat, satPost, sat, List.cons.injEq, DV.b.injEq, and_true, List.length_cons, List.length_nil]); first | done | omega | assumption | grind [getD_set, getD_rep, toNat_succ, cntN_yes, cntN_no])
        rfl
      ·
        refine all_i fun n8 => ?_
        refine imp_i fun h18 => ?_
        simp only [wrap_i64] at h18
        refine imp_i fun h19 => ?_
        refine imp_i fun h20 => ?_
        refine req_i ?_ ?_
        · -- r7
          first | omega | assumption | grind
        refine req_i ?_ ?_
        · -- r8
          first | omega | assumption | grind
        refine req_i ?_ ?_
        · -- r9
          first | omega | ((try simp only [sigSat, satPost, sat, List.cons.injEq, DV.b.injEq, and_true, List.length_cons, List.length_nil]); first | done | omega | assumption | grind [getD_set, getD_rep, toNat_succ, cntN_yes, cntN_no])
        rfl
theorem ext_sat : ∀ p ∈ ([] : List (Nat × Ext)), ExtRow Try.prog p.1 p.2 := by
  intro p hp
  cases hp
theorem cts_sat : CtsOk Try.prog [] := fun f c h => by cases h
theorem fn_sat : FnOk Try.prog 44 sigSat [] := fn_sound (by kernel_rfl) ext_sat cts_sat names vt_sat
end Go.Proofs.Ytcddopooofdgcaa

namespace Go.Proofs.Ytcddopooofdgcaa
open Go.Ev Go.Sp
set_option maxRecDepth 100000
theorem vc_size : vcFn Try.prog [] tab [] 100 46 sigSize = (allB fun n0 : Int => 
impB ((-9223372036854775808 : Int) ≤ n0) (
impB (n0 ≤ (9223372036854775807 : Int)) (
impB (sigSize.pre [DV.n n0]) (
bR (dec (n0 < (0 : Int))) (
 allB fun n1 : Int => 
 impB (n1 = Go.IntKind.u64.wrap n0) (
 impB (Int.ofNat (0 : Nat) ≤ n1) (
 impB (n1 ≤ Int.ofNat (18446744073709551615 : Nat)) (
 allB fun n2 : Int => 
 impB (n2 = Go.IntKind.u64.wrap ((0 : Int) - n1)) (
 impB (Int.ofNat (0 : Nat) ≤ n2) (
 impB (n2 ≤ Int.ofNat (18446744073709551615 : Nat)) (
 reqB ((0 : Int) ≤ n2) (
 reqB (n2 ≤ (9223372036854775808 : Int)) (
 reqB (sigSize.post [DV.n n0] [DV.n n2]) (
 true)))))))))) (
 allB fun n3 : Int => 
 impB (n3 = Go.IntKind.u64.wrap n0) (
 impB (Int.ofNat (0 : Nat) ≤ n3) (
 impB (n3 ≤ Int.ofNat (18446744073709551615 : Nat)) (
 reqB ((0 : Int) ≤ n3) (
 reqB (n3 ≤ (9223372036854775808 : Int)) (
 reqB (sigSize.post [DV.n n0] [DV.n n3]) (
 true))))))))))) := by kernel_rfl
set_option maxHeartbeats 8000000 in
theorem vt_size : vcFn Try.prog [] tab [] 100 46 sigSize = true := by
  rw [vc_size]
  try simp only [Int.toNat_natCast, List.length_set, List.length_replicate, List.length_take, List.length_drop, List.length_append, List.length_cons, List.length_nil, Nat.min_self, List.take_take, lenCols_i, lenCols_b, List.drop_zero, List.take_length, Nat.add_eq, Nat.mul_eq, Nat.sub_eq, Nat.zero_add, Nat.sub_zero, Nat.mul_one]
  refine all_i fun n0 => ?_
  refine imp_i fun h0 => ?_
  refine imp_i fun h1 => ?_
  refine imp_i fun h2 => ?_
  try simp only [sigSize, sizePost, absI, List.cons.injEq, DV.b.injEq, and_true, List.length_cons, List.length_nil] at h2
  refine bR_dec (fun h3 => ?_) (fun h3 => ?_)
  ·
    refine all_i fun n1 => ?_
    refine imp_i fun h4 => ?_
    simp only [wrap_u64] at h4
    refine imp_i fun h5 => ?_
    refine imp_i fun h6 => ?_
    refine all_i fun n2 => ?_
    refine imp_i fun h7 => ?_
    simp only [wrap_u64] at h7
    refine imp_i fun h8 => ?_
    refine imp_i fun h9 => ?_
    refine req_i ?_ ?_
    · -- r0
      first | omega | assumption | grind
    refine req_i ?_ ?_
    · -- r1
      first | omega | assumption | grind
    refine req_i ?_ ?_
    · -- r2
      first | omega | ((try simp only [sigSize, sizePost, absI, List.cons.injEq, DV.b.injEq, and_true, List.length_cons, List.length_nil]); first | done | omega | assumption | grind [getD_set, getD_rep, toNat_succ, cntN_yes, cntN_no])
    rfl
  ·
    refine all_i fun n3 => ?_
    refine imp_i fun h10 => ?_
    simp only [wrap_u64] at h10
    refine imp_i fun h11 => ?_
    refine imp_i fun h12 => ?_
    refine req_i ?_ ?_
    · -- r3
      first | omega | assumption | grind
    refine req_i ?_ ?_
    · -- r4
      first | omega | assumption | grind
    refine req_i ?_ ?_
    · -- r5
      first | omega | ((try simp only [sigSize, sizePost, absI, List.cons.injEq, DV.b.injEq, and_true, List.length_cons, List.length_nil]); first | done | omega | assumption | grind [getD_set, getD_rep, toNat_succ, cntN_yes, cntN_no])
    rfl
theorem ext_size : ∀ p ∈ ([] : List (Nat × Ext)), ExtRow Try.prog p.1 p.2 := by
  intro p hp
  cases hp
theorem cts_size : CtsOk Try.prog [] := fun f c h => by cases h
theorem fn_size : FnOk Try.prog 46 sigSize [] := fn_sound (by kernel_rfl) ext_size cts_size names vt_size
end Go.Proofs.Ytcddopooofdgcaa

namespace Go.Proofs.Ytcddopooofdgcaa
open Go.Ev Go.Sp
theorem fn_add64 : FnOk Try.prog 54 sigAdd64 [] := Go.Ev.fn_add64 ⟨Try.f54, Try.func54, by kernel_rfl, by kernel_rfl, by kernel_rfl, by kernel_rfl⟩
end Go.Proofs.Ytcddopooofdgcaa

namespace Go.Proofs.Ytcddopooofdgcaa
open Go.Ev Go.Sp
set_option maxRecDepth 100000
theorem vc_tog : vcFn Try.prog [(46, Ext.ctr (ctOf sigSize)), (54, Ext.ctr (ctOf sigAdd64))] tab [] 100 45 sigTog = (allB fun n0 : Int => 
impB ((-9223372036854775808 : Int) ≤ n0) (
impB (n0 ≤ (9223372036854775807 : Int)) (
allB fun n1 : Int => 
impB ((-9223372036854775808 : Int) ≤ n1) (
impB (n1 ≤ (9223372036854775807 : Int)) (
impB (sigTog.pre [DV.n n0, DV.n n1]) (
reqB ((-9223372036854775808 : Int) ≤ n0) (
reqB (n0 ≤ (9223372036854775807 : Int)) (
reqB (sigSize.pre [DV.n n0]) (
allB fun n2 : Int => 
impB ((0 : Int) ≤ n2) (
impB (n2 ≤ (9223372036854775808 : Int)) (
impB (sigSize.post [DV.n n0] [DV.n n2]) (
reqB ((-9223372036854775808 : Int) ≤ n1) (
reqB (n1 ≤ (9223372036854775807 : Int)) (
reqB (sigSize.pre [DV.n n1]) (
allB fun n3 : Int => 
impB ((0 : Int) ≤ n3) (
impB (n3 ≤ (9223372036854775808 : Int)) (
impB (sigSize.post [DV.n n1] [DV.n n3]) (
reqB ((0 : Int) ≤ n2) (
reqB (n2 ≤ (18446744073709551615 : Int)) (
reqB ((0 : Int) ≤ n3) (
reqB (n3 ≤ (18446744073709551615 : Int)) (
reqB (sigAdd64.pre [DV.n n2, DV.n n3, DV.n (0 : Int)]) (
allB fun n4 : Int => 
impB ((0 : Int) ≤ n4) (
impB (n4 ≤ (18446744073709551615 : Int)) (
allB fun n5 : Int => 
impB ((0 : Int) ≤ n5) (
impB (n5 ≤ (1 : Int)) (
impB (sigAdd64.post [DV.n n2, DV.n n3, DV.n (0 : Int)] [DV.n n4, DV.n n5]) (
reqB ((0 : Int) ≤ n5) (
reqB (n5 ≤ (1 : Int)) (
reqB ((0 : Int) ≤ n4) (
reqB (n4 ≤ (18446744073709551615 : Int)) (
reqB (sigTog.post [DV.n n0, DV.n n1] [DV.n n5, DV.n n4]) (
true))))))))))))))))))))))))))))))))) := by kernel_rfl
set_option maxHeartbeats 8000000 in
theorem vt_tog : vcFn Try.prog [(46, Ext.ctr (ctOf sigSize)), (54, Ext.ctr (ctOf sigAdd64))] tab [] 100 45 sigTog = true := by
  rw [vc_tog]
  try simp only [Int.toNat_natCast, List.length_set, List.length_replicate, List.length_take, List.length_drop, List.length_append, List.length_cons, List.length_nil, Nat.min_self, List.take_take, lenCols_i, lenCols_b, List.drop_zero, List.take_length, Nat.add_eq, Nat.mul_eq, Nat.sub_eq, Nat.zero_add, Nat.sub_zero, Nat.mul_one]
  refine all_i fun n0 => ?_
  refine imp_i fun h0 => ?_
  refine imp_i fun h1 => ?_
  refine all_i fun n1 => ?_
  refine imp_i fun h2 => ?_
  refine imp_i fun h3 => ?_
  refine imp_i fun h4 => ?_
  try simp only [sigTog, togPost, absI, List.cons.injEq, DV.b.injEq, and_true, List.length_cons, List.length_nil] at h4
  refine req_i ?_ ?_
  · -- r0
    first | omega | assumption | grind
  refine req_i ?_ ?_
  · -- r1
    first | omega | assumption | grind
  refine req_i ?_ ?_
  · -- r2
    first | trivial | assumption | (simp only [sigSize, sizePost, absI, List.cons.injEq, DV.b.injEq, and_true, List.length_cons, List.length_nil]; done) | ((try simp only [sigSize, sizePost, absI, List.cons.injEq, DV.b.injEq, and_true, List.length_cons, List.length_nil]); first | omega | assumption | grind)
  refine all_i fun n2 => ?_
  refine imp_i fun h5 => ?_
  refine imp_i fun h6 => ?_
  refine imp_i fun h7 => ?_
  try simp only [sigSize, sizePost, absI, List.cons.injEq, DV.b.injEq, and_true, List.length_cons, List.length_nil] at h7
  refine req_i ?_ ?_
  · -- r3
    first | omega | assumption | grind
  refine req_i ?_ ?_
  · -- r4
    first | omega | assumption | grind
  refine req_i ?_ ?_
  · -- r5
    first | trivial | assumption | (simp only [sigSize, sizePost, absI, List.cons.injEq, DV.b.injEq, and_true, List.length_cons, List.length_nil]; done) | ((try simp only [sigSize, sizePost, absI, List.cons.injEq, DV.b.injEq, and_true, List.length_cons, List.length_nil]); first | omega | assumption | grind)
  refine all_i fun n3 => ?_
  refine imp_i fun h8 => ?_
  refine imp_i fun h9 => ?_
  refine imp_i fun h10 => ?_
  try simp only [sigSize, sizePost, absI, List.cons.injEq, DV.b.injEq, and_true, List.length_cons, List.length_nil] at h10
  refine req_i ?_ ?_
  · -- r6
    first | omega | assumption | grind
  refine req_i ?_ ?_
  · -- r7
    first | omega | assumption | grind
  refine req_i ?_ ?_
  · -- r8
    first | omega | assumption | grind
  refine req_i ?_ ?_
  · -- r9
    first | omega | assumption | grind
  refine req_i ?_ ?_
  · -- r10
    first | trivial | assumption | (simp only [sigAdd64, add64Post, List.cons.injEq, DV.b.injEq, and_true, List.length_cons, List.length_nil]; done) | ((try simp only [sigAdd64, add64Post, List.cons.injEq, DV.b.injEq, and_true, List.length_cons, List.length_nil]); first | omega | assumption | grind)
  refine all_i fun n4 => ?_
  refine imp_i fun h11 => ?_
  refine imp_i fun h12 => ?_
  refine all_i fun n5 => ?_
  refine imp_i fun h13 => ?_
  refine imp_i fun h14 => ?_
  refine imp_i fun h15 => ?_
  try simp only [sigAdd64, add64Post, List.cons.injEq, DV.b.injEq, and_true, List.length_cons, List.length_nil] at h15
  refine req_i ?_ ?_
  · -- r11
    first | omega | assumption | grind
  refine req_i ?_ ?_
  · -- r12
    first | omega | assumption | grind
  refine req_i ?_ ?_
  · -- r13
    first | omega | assumption | grind
  refine req_i ?_ ?_
  · -- r14
    first | omega | assumption | grind
  refine req_i ?_ ?_
  · -- r15
    first | omega | ((try simp only [sigTog, togPost, absI, List.cons.injEq, DV.b.injEq, and_true, List.length_cons, List.length_nil]); first | done | omega | assumption | grind [getD_set, getD_rep, toNat_succ, cntN_yes, cntN_no])
  rfl
theorem ext_tog : ∀ p ∈ ([(46, Ext.ctr (ctOf sigSize)), (54, Ext.ctr (ctOf sigAdd64))] : List (Nat × Ext)), ExtRow Try.prog p.1 p.2 := by
  intro p hp
  simp only [List.mem_cons, List.not_mem_nil, or_false] at hp
  rcases hp with rfl | rfl
  · trivial
  · trivial
theorem cts_tog : CtsOk Try.prog [(46, Ext.ctr (ctOf sigSize)), (54, Ext.ctr (ctOf sigAdd64))] := ctsOk_of (cs := [(46, sigSize), (54, sigAdd64)])
  (fun p hp => by
    simp only [List.mem_cons, List.not_mem_nil, or_false] at hp
    rcases hp with rfl | rfl
    · exact fn_size
    · exact fn_add64
)
  (fun f c h => by
    simp only [List.lookup_cons] at h
    repeat' split at h
    all_goals first | (cases h; done) | (rename_i e; have e := beq_iff_eq.1 e; subst e; cases h; exact ⟨_, by simp, rfl⟩))
theorem fn_tog : FnOk Try.prog 45 sigTog [] := fn_sound (by kernel_rfl) ext_tog cts_tog names vt_tog
end Go.Proofs.Ytcddopooofdgcaa

namespace Go.Proofs.Ytcddopooofdgcaa
open Go.Ev Go.Sp
set_option maxRecDepth 100000
theorem vc_add : vcFn Try.prog [(44, Ext.ctr (ctOf sigSat)), (45, Ext.ctr (ctOf sigTog))] tab [] 100 13 sigAdd = (allB fun n0 : Int => 
impB ((-9223372036854775808 : Int) ≤ n0) (
impB (n0 ≤ (9223372036854775807 : Int)) (
allB fun n1 : Int => 
impB ((-9223372036854775808 : Int) ≤ n1) (
impB (n1 ≤ (9223372036854775807 : Int)) (
impB (sigAdd.pre [DV.n n0, DV.n n1]) (
bR (bR (bR (dec (n0 < (0 : Int))) (
 dec (n1 < (0 : Int))) (
 bR (dec (n1 < (0 : Int))) (
  false) (
  true))) (
 false) (
 true)) (
 allB fun n2 : Int => 
 impB (n2 = Go.IntKind.i64.wrap (n0 + n1)) (
 impB (Int.negSucc (9223372036854775807 : Nat) ≤ n2) (
 impB (n2 ≤ Int.ofNat (9223372036854775807 : Nat)) (
 reqB ((-9223372036854775808 : Int) ≤ n2) (
 reqB (n2 ≤ (9223372036854775807 : Int)) (
 reqB (sigAdd.post [DV.n n0, DV.n n1] [DV.n n2]) (
 true))))))) (
 reqB ((-9223372036854775808 : Int) ≤ n0) (
 reqB (n0 ≤ (9223372036854775807 : Int)) (
 reqB ((-9223372036854775808 : Int) ≤ n1) (
 reqB (n1 ≤ (9223372036854775807 : Int)) (
 reqB (sigTog.pre [DV.n n0, DV.n n1]) (
 allB fun n3 : Int => 
 impB ((0 : Int) ≤ n3) (
 impB (n3 ≤ (1 : Int)) (
 allB fun n4 : Int => 
 impB ((0 : Int) ≤ n4) (
 impB (n4 ≤ (18446744073709551615 : Int)) (
 impB (sigTog.post [DV.n n0, DV.n n1] [DV.n n3, DV.n n4]) (
 reqB ((0 : Int) ≤ n3) (
 reqB (n3 ≤ (18446744073709551615 : Int)) (
 reqB ((0 : Int) ≤ n4) (
 reqB (n4 ≤ (18446744073709551615 : Int)) (
 reqB (sigSat.pre [DV.b (dec (n0 < (0 : Int))), DV.n n3, DV.n n4]) (
 allB fun n5 : Int => 
 impB ((-9223372036854775808 : Int) ≤ n5) (
 impB (n5 ≤ (9223372036854775807 : Int)) (
 impB (sigSat.post [DV.b (dec (n0 < (0 : Int))), DV.n n3, DV.n n4] [DV.n n5]) (
 reqB ((-9223372036854775808 : Int) ≤ n5) (
 reqB (n5 ≤ (9223372036854775807 : Int)) (
 reqB (sigAdd.post [DV.n n0, DV.n n1] [DV.n n5]) (
 true)))))))))))))))))))))))))))) := by kernel_rfl
set_option maxHeartbeats 8000000 in
theorem vt_add : vcFn Try.prog [(44, Ext.ctr (ctOf sigSat)), (45, Ext.ctr (ctOf sigTog))] tab [] 100 13 sigAdd = true := by
  rw [vc_add]
  try simp only [Int.toNat_natCast, List.length_set, List.length_replicate, List.length_take, List.length_drop, List.length_append, List.length_cons, List.length_nil, Nat.min_self, List.take_take, lenCols_i, lenCols_b, List.drop_zero, List.take_length, Nat.add_eq, Nat.mul_eq, Nat.sub_eq, Nat.zero_add, Nat.sub_zero, Nat.mul_one]
  refine all_i fun n0 => ?_
  refine imp_i fun h0 => ?_
  refine imp_i fun h1 => ?_
  refine all_i fun n1 => ?_
  refine imp_i fun h2 => ?_
  refine imp_i fun h3 => ?_
  refine imp_i fun h4 => ?_
  try simp only [sigAdd, addP, sat, List.cons.injEq, DV.b.injEq, and_true, List.length_cons, List.length_nil] at h4
  refine bR_i (fun h5 => ?_) (fun h5 => ?_)
  ·
    simp only [bR_iff, bR_iff_f, dec_iff, dec_f, Bool.false_eq_true, Bool.true_eq_false, false_implies, imp_false, and_true, true_and, implies_true, Classical.not_not] at h5
    refine all_i fun n2 => ?_
    refine imp_i fun h6 => ?_
    simp only [wrap_i64] at h6
    refine imp_i fun h7 => ?_
    refine imp_i fun h8 => ?_
    refine req_i ?_ ?_
    · -- r0
      first | omega | assumption | grind
    refine req_i ?_ ?_
    · -- r1
      first | omega | assumption | grind
    refine req_i ?_ ?_
    · -- r2
      first | omega | ((try simp only [sigAdd, addP, sat, List.cons.injEq, DV.b.injEq, and_true, List.length_cons, List.length_nil]); first | done | omega | assumption | grind [getD_set, getD_rep, toNat_succ, cntN_yes, cntN_no])
    rfl
  ·
    simp only [bR_iff, bR_iff_f, dec_iff, dec_f, Bool.false_eq_true, Bool.true_eq_false, false_implies, imp_false, and_true, true_and, implies_true, Classical.not_not] at h5
    refine req_i ?_ ?_
    · -- r3
      first | omega | assumption | grind
    refine req_i ?_ ?_
    · -- r4
      first | omega | assumption | grind
    refine req_i ?_ ?_
    · -- r5
      first | omega | assumption | grind
    refine req_i ?_ ?_
    · -- r6
      first | omega | assumption | grind
    refine req_i ?_ ?_
    · -- r7
      first | trivial | assumption | (simp only [sigTog, togPost, absI, List.cons.injEq, DV.b.injEq, and_true, List.length_cons, List.length_nil]; done) | ((try simp only [sigTog, togPost, absI, List.cons.injEq, DV.b.injEq, and_true, List.length_cons, List.length_nil]); first | omega | assumption | grind)
    refine all_i fun n3 => ?_
    refine imp_i fun h9 => ?_
    refine imp_i fun h10 => ?_
    refine all_i fun n4 => ?_
    refine imp_i fun h11 => ?_
    refine imp_i fun h12 => ?_
    refine imp_i fun h13 => ?_
    try simp only [sigTog, togPost, absI, List.cons.injEq, DV.b.injEq, and_true, List.length_cons, List.length_nil] at h13
    refine req_i ?_ ?_
    · -- r8
      first | omega | assumption | grind
    refine req_i ?_ ?_
    · -- r9
      first | omega | assumption | grind
    refine req_i ?_ ?_
    · -- r10
      first | omega | assumption | grind
    refine req_i ?_ ?_
    · -- r11
      first | omega | assumption | grind
    refine req_i ?_ ?_
    · -- r12
      first | trivial | assumption | (simp only [sigSat, satPost, sat, List.cons.injEq, DV.b.injEq, and_true, List.length_cons, List.length_nil, dec_iff]; done) | ((try simp only [sigSat, satPost, sat, List.cons.injEq, DV.b.injEq, and_true, List.length_cons, List.length_nil, dec_iff]); first | omega | assumption | grind)
    refine all_i fun n5 => ?_
    refine imp_i fun h14 => ?_
    refine imp_i fun h15 => ?_
    refine imp_i fun h16 => ?_
    try simp only [sigSat, satPost, sat, List.cons.injEq, DV.b.injEq, and_true, List.length_cons, List.length_nil, dec_iff] at h16
    refine req_i ?_ ?_
    · -- r13
      first | omega | assumption | grind
    refine req_i ?_ ?_
    · -- r14
      first | omega | assumption | grind
    refine req_i ?_ ?_
    · -- r15
      first | omega | ((try simp only [sigAdd, addP, sat, List.cons.injEq, DV.b.injEq, and_true, List.length_cons, List.length_nil]); first | done | omega | assumption | grind [getD_set, getD_rep, toNat_succ, cntN_yes, cntN_no])
    rfl
theorem ext_add : ∀ p ∈ ([(44, Ext.ctr (ctOf sigSat)), (45, Ext.ctr (ctOf sigTog))] : List (Nat × Ext)), ExtRow Try.prog p.1 p.2 := by
  intro p hp
  simp only [List.mem_cons, List.not_mem_nil, or_false] at hp
  rcases hp with rfl | rfl
  · trivial
  · trivial
theorem cts_add : CtsOk Try.prog [(44, Ext.ctr (ctOf sigSat)), (45, Ext.ctr (ctOf sigTog))] := ctsOk_of (cs := [(44, sigSat), (45, sigTog)])
  (fun p hp => by
    simp only [List.mem_cons, List.not_mem_nil, or_false] at hp
    rcases hp with rfl | rfl
    · exact fn_sat
    · exact fn_tog
)
  (fun f c h => by
    simp only [List.lookup_cons] at h
    repeat' split at h
    all_goals first | (cases h; done) | (rename_i e; have e := beq_iff_eq.1 e; subst e; cases h; exact ⟨_, by simp, rfl⟩))
theorem fn_add : FnOk Try.prog 13 sigAdd [] := fn_sound (by kernel_rfl) ext_add cts_add names vt_add
end Go.Proofs.Ytcddopooofdgcaa

namespace Go.Proofs.Ytcddopooofdgcaa
open Go.Ev Go.Sp
set_option maxRecDepth 100000
theorem vc_addR : vcFn Try.prog [] tab [] 100 27 sigAdd = (allB fun n0 : Int => 
impB ((-9223372036854775808 : Int) ≤ n0) (
impB (n0 ≤ (9223372036854775807 : Int)) (
allB fun n1 : Int => 
impB ((-9223372036854775808 : Int) ≤ n1) (
impB (n1 ≤ (9223372036854775807 : Int)) (
impB (sigAdd.pre [DV.n n0, DV.n n1]) (
bR (dec ((0 : Int) < n1)) (
 allB fun n2 : Int => 
 impB (n2 = Go.IntKind.i64.wrap ((9223372036854775807 : Int) - n1)) (
 impB (Int.negSucc (9223372036854775807 : Nat) ≤ n2) (
 impB (n2 ≤ Int.ofNat (9223372036854775807 : Nat)) (
 bR (dec (n2 < n0)) (
  reqB (sigAdd.post [DV.n n0, DV.n n1] [DV.n (9223372036854775807 : Int)]) (
  true)) (
  bR (dec (n1 < (0 : Int))) (
   allB fun n3 : Int => 
   impB (n3 = Go.IntKind.i64.wrap ((-9223372036854775808 : Int) - n1)) (
   impB (Int.negSucc (9223372036854775807 : Nat) ≤ n3) (
   impB (n3 ≤ Int.ofNat (9223372036854775807 : Nat)) (
   bR (dec (n0 < n3)) (
    reqB (sigAdd.post [DV.n n0, DV.n n1] [DV.n (-9223372036854775808 : Int)]) (
    true)) (
    allB fun n4 : Int => 
    impB (n4 = Go.IntKind.i64.wrap (n0 + n1)) (
    impB (Int.negSucc (9223372036854775807 : Nat) ≤ n4) (
    impB (n4 ≤ Int.ofNat (9223372036854775807 : Nat)) (
    reqB ((-9223372036854775808 : Int) ≤ n4) (
    reqB (n4 ≤ (9223372036854775807 : Int)) (
    reqB (sigAdd.post [DV.n n0, DV.n n1] [DV.n n4]) (
    true))))))))))) (
   allB fun n5 : Int => 
   impB (n5 = Go.IntKind.i64.wrap (n0 + n1)) (
   impB (Int.negSucc (9223372036854775807 : Nat) ≤ n5) (
   impB (n5 ≤ Int.ofNat (9223372036854775807 : Nat)) (
   reqB ((-9223372036854775808 : Int) ≤ n5) (
   reqB (n5 ≤ (9223372036854775807 : Int)) (
   reqB (sigAdd.post [DV.n n0, DV.n n1] [DV.n n5]) (
   true)))))))))))) (
 bR (dec (n1 < (0 : Int))) (
  allB fun n6 : Int => 
  impB (n6 = Go.IntKind.i64.wrap ((-9223372036854775808 : Int) - n1)) (
  impB (Int.negSucc (9223372036854775807 : Nat) ≤ n6) (
  impB (n6 ≤ Int.ofNat (9223372036854775807 : Nat)) (
  bR (dec (n0 < n6)) (
   reqB (sigAdd.post [DV.n n0, DV.n n1] [DV.n (-9223372036854775808 : Int)]) (
   true)) (
   allB fun n7 : Int => 
   impB (n7 = Go.IntKind.i64.wrap (n0 + n1)) (
   impB (Int.negSucc (9223372036854775807 : Nat) ≤ n7) (
   impB (n7 ≤ Int.ofNat (9223372036854775807 : Nat)) (
   reqB ((-9223372036854775808 : Int) ≤ n7) (
   reqB (n7 ≤ (9223372036854775807 : Int)) (
   reqB (sigAdd.post [DV.n n0, DV.n n1] [DV.n n7]) (
   true))))))))))) (
  allB fun n8 : Int => 
  impB (n8 = Go.IntKind.i64.wrap (n0 + n1)) (
  impB (Int.negSucc (9223372036854775807 : Nat) ≤ n8) (
  impB (n8 ≤ Int.ofNat (9223372036854775807 : Nat)) (
  reqB ((-9223372036854775808 : Int) ≤ n8) (
  reqB (n8 ≤ (9223372036854775807 : Int)) (
  reqB (sigAdd.post [DV.n n0, DV.n n1] [DV.n n8]) (
  true)))))))))))))) := by kernel_rfl
set_option maxHeartbeats 8000000 in
theorem vt_addR : vcFn Try.prog [] tab [] 100 27 sigAdd = true := by
  rw [vc_addR]
  try simp only [Int.toNat_natCast, List.length_set, List.length_replicate, List.length_take, List.length_drop, List.length_append, List.length_cons, List.length_nil, Nat.min_self, List.take_take, lenCols_i, lenCols_b, List.drop_zero, List.take_length, Nat.add_eq, Nat.mul_eq, Nat.sub_eq, Nat.zero_add, Nat.sub_zero, Nat.mul_one]
  refine all_i fun n0 => ?_
  refine imp_i fun h0 => ?_
  refine imp_i fun h1 => ?_
  refine all_i fun n1 => ?_
  refine imp_i fun h2 => ?_
  refine imp_i fun h3 => ?_
  refine imp_i fun h4 => ?_
  try simp only [sigAdd, addP, sat, List.cons.injEq, DV.b.injEq, and_true, List.length_cons, List.length_nil] at h4
  refine bR_dec (fun h5 => ?_) (fun h5 => ?_)
  ·
    refine all_i fun n2 => ?_
    refine imp_i fun h6 => ?_
    simp only [wrap_i64] at h6
    refine imp_i fun h7 => ?_
    refine imp_i fun h8 => ?_
    refine bR_dec (fun h9 => ?_) (fun h9 => ?_)
    ·
      refine req_i ?_ ?_
      · -- r0
        first | omega | ((try simp only [sigAdd, addP, sat, List.cons.injEq, DV.b.injEq, and_true, List.length_cons, List.length_nil]); first | done | omega | assumption | grind [getD_set, getD_rep, toNat_succ, cntN_yes, cntN_no])
      rfl
    ·
      refine bR_dec (fun h10 => ?_) (fun h10 => ?_)
      ·
        refine all_i fun n3 => ?_
        refine imp_i fun h11 => ?_
        simp only [wrap_i64] at h11
        refine imp_i fun h12 => ?_
        refine imp_i fun h13 => ?_
        refine bR_dec (fun h14 => ?_) (fun h14 => ?_)
        ·
          refine req_i ?_ ?_
          · -- r1
            first | omega | ((try simp only [sigAdd, addP, sat, List.cons.injEq, DV.b.injEq, and_true, List.length_cons, List.length_nil]); first | done | omega | assumption | grind [getD_set, getD_rep, toNat_succ, cntN_yes, cntN_no])
          rfl
        ·
          refine all_i fun n4 => ?_
          refine imp_i fun h15 => ?_
          simp only [wrap_i64] at h15
          refine imp_i fun h16 => ?_
          refine imp_i fun h17 => ?_
          refine req_i ?_ ?_
          · -- r2
            first | omega | assumption | grind
          refine req_i ?_ ?_
          · -- r3
            first | omega | assumption | grind
          refine req_i ?_ ?_
          · -- r4
            first | omega | ((try simp only [sigAdd, addP, sat, List.cons.injEq, DV.b.injEq, and_true, List.length_cons, List.length_nil]); first | done | omega | assumption | grind [getD_set, getD_rep, toNat_succ, cntN_yes, cntN_no])
          rfl
      ·
        refine all_i fun n5 => ?_
        refine imp_i fun h18 => ?_
        simp only [wrap_i64] at h18
        refine imp_i fun h19 => ?_
        refine imp_i fun h20 => ?_
        refine req_i ?_ ?_
        · -- r5
          first | omega | assumption | grind
        refine req_i ?_ ?_
        · -- r6
          first | omega | assumption | grind
        refine req_i ?_ ?_
        · -- r7
          first | omega | ((try simp only [sigAdd, addP, sat, List.cons.injEq, DV.b.injEq, and_true, List.length_cons, List.length_nil]); first | done | omega | assumption | grind [getD_set, getD_rep, toNat_succ, cntN_yes, cntN_no])
        rfl
  ·
    refine bR_dec (fun h21 => ?_) (fun h21 => ?_)
    ·
      refine all_i fun n6 => ?_
      refine imp_i fun h22 => ?_
      simp only [wrap_i64] at h22
      refine imp_i fun h23 => ?_
      refine imp_i fun h24 => ?_
      refine bR_dec (fun h25 => ?_) (fun h25 => ?_)
      ·
        refine req_i ?_ ?_
        · -- r8
          first | omega | ((try simp only [sigAdd, addP, sat, List.cons.injEq, DV.b.injEq, and_true, List.length_cons, List.length_nil]); first | done | omega | assumption | grind [getD_set, getD_rep, toNat_succ, cntN_yes, cntN_no])
        rfl
      ·
        refine all_i fun n7 => ?_
        refine imp_i fun h26 => ?_
        simp only [wrap_i64] at h26
        refine imp_i fun h27 => ?_
        refine imp_i fun h28 => ?_
        refine req_i ?_ ?_
        · -- r9
          first | omega | assumption | grind
        refine req_i ?_ ?_
        · -- r10
          first | omega | assumption | grind
        refine req_i ?_ ?_
        · -- r11
          first | omega | ((try simp only [sigAdd, addP, sat, List.cons.injEq, DV.b.injEq, and_true, List.length_cons, List.length_nil]); first | done | omega | assumption | grind [getD_set, getD_rep, toNat_succ, cntN_yes, cntN_no])
        rfl
    ·
      refine all_i fun n8 => ?_
      refine imp_i fun h29 => ?_
      simp only [wrap_i64] at h29
      refine imp_i fun h30 => ?_
      refine imp_i fun h31 => ?_
      refine req_i ?_ ?_
      · -- r12
        first | omega | assumption | grind
      refine req_i ?_ ?_
      · -- r13
        first | omega | assumption | grind
      refine req_i ?_ ?_
      · -- r14
        first | omega | ((try simp only [sigAdd, addP, sat, List.cons.injEq, DV.b.injEq, and_true, List.length_cons, List.length_nil]); first | done | omega | assumption | grind [getD_set, getD_rep, toNat_succ, cntN_yes, cntN_no])
      rfl
theorem ext_addR : ∀ p ∈ ([] : List (Nat × Ext)), ExtRow Try.prog p.1 p.2 := by
  intro p hp
  cases hp
theorem cts_addR : CtsOk Try.prog [] := fun f c h => by cases h
theorem fn_addR : FnOk Try.prog 27 sigAdd [] := fn_sound (by kernel_rfl) ext_addR cts_addR names vt_addR
end Go.Proofs.Ytcddopooofdgcaa

namespace Go.Proofs.Ytcddopooofdgcaa
open Go.Ev Go.Sp
set_option maxRecDepth 100000
theorem vc_sub : vcFn Try.prog [(44, Ext.ctr (ctOf sigSat)), (45, Ext.ctr (ctOf sigTog))] tab [] 100 11 sigSub = (allB fun n0 : Int => 
impB ((-9223372036854775808 : Int) ≤ n0) (
impB (n0 ≤ (9223372036854775807 : Int)) (
allB fun n1 : Int => 
impB ((-9223372036854775808 : Int) ≤ n1) (
impB (n1 ≤ (9223372036854775807 : Int)) (
impB (sigSub.pre [DV.n n0, DV.n n1]) (
bR (bR (dec (n0 < (0 : Int))) (
 dec (n1 < (0 : Int))) (
 bR (dec (n1 < (0 : Int))) (
  false) (
  true))) (
 allB fun n2 : Int => 
 impB (n2 = Go.IntKind.i64.wrap (n0 - n1)) (
 impB (Int.negSucc (9223372036854775807 : Nat) ≤ n2) (
 impB (n2 ≤ Int.ofNat (9223372036854775807 : Nat)) (
 reqB ((-9223372036854775808 : Int) ≤ n2) (
 reqB (n2 ≤ (9223372036854775807 : Int)) (
 reqB (sigSub.post [DV.n n0, DV.n n1] [DV.n n2]) (
 true))))))) (
 reqB ((-9223372036854775808 : Int) ≤ n0) (
 reqB (n0 ≤ (9223372036854775807 : Int)) (
 reqB ((-9223372036854775808 : Int) ≤ n1) (
 reqB (n1 ≤ (9223372036854775807 : Int)) (
 reqB (sigTog.pre [DV.n n0, DV.n n1]) (
 allB fun n3 : Int => 
 impB ((0 : Int) ≤ n3) (
 impB (n3 ≤ (1 : Int)) (
 allB fun n4 : Int => 
 impB ((0 : Int) ≤ n4) (
 impB (n4 ≤ (18446744073709551615 : Int)) (
 impB (sigTog.post [DV.n n0, DV.n n1] [DV.n n3, DV.n n4]) (
 reqB ((0 : Int) ≤ n3) (
 reqB (n3 ≤ (18446744073709551615 : Int)) (
 reqB ((0 : Int) ≤ n4) (
 reqB (n4 ≤ (18446744073709551615 : Int)) (
 reqB (sigSat.pre [DV.b (dec (n0 < (0 : Int))), DV.n n3, DV.n n4]) (
 allB fun n5 : Int => 
 impB ((-9223372036854775808 : Int) ≤ n5) (
 impB (n5 ≤ (9223372036854775807 : Int)) (
 impB (sigSat.post [DV.b (dec (n0 < (0 : Int))), DV.n n3, DV.n n4] [DV.n n5]) (
 reqB ((-9223372036854775808 : Int) ≤ n5) (
 reqB (n5 ≤ (9223372036854775807 : Int)) (
 reqB (sigSub.post [DV.n n0, DV.n n1] [DV.n n5]) (
 true)))))))))))))))))))))))))))) := by kernel_rfl
set_option maxHeartbeats 8000000 in
theorem vt_sub : vcFn Try.prog [(44, Ext.ctr (ctOf sigSat)), (45, Ext.ctr (ctOf sigTog))] tab [] 100 11 sigSub = true := by
  rw [vc_sub]
  try simp only [Int.toNat_natCast, List.length_set, List.length_replicate, List.length_take, List.length_drop, List.length_append, List.length_cons, List.length_nil, Nat.min_self, List.take_take, lenCols_i, lenCols_b, List.drop_zero, List.take_length, Nat.add_eq, Nat.mul_eq, Nat.sub_eq, Nat.zero_add, Nat.sub_zero, Nat.mul_one]
  refine all_i fun n0 => ?_
  refine imp_i fun h0 => ?_
  refine imp_i fun h1 => ?_
  refine all_i fun n1 => ?_
  refine imp_i fun h2 => ?_
  refine imp_i fun h3 => ?_
  refine imp_i fun h4 => ?_
  try simp only [sigSub, subP, sat, List.cons.injEq, DV.b.injEq, and_true, List.length_cons, List.length_nil] at h4
  refine bR_i (fun h5 => ?_) (fun h5 => ?_)
  ·
    simp only [bR_iff, bR_iff_f, dec_iff, dec_f, Bool.false_eq_true, Bool.true_eq_false, false_implies, imp_false, and_true, true_and, implies_true, Classical.not_not] at h5
    refine all_i fun n2 => ?_
    refine imp_i fun h6 => ?_
    simp only [wrap_i64] at h6
    refine imp_i fun h7 => ?_
    refine imp_i fun h8 => ?_
    refine req_i ?_ ?_
    · -- r0
      first | omega | assumption | grind
    refine req_i ?_ ?_
    · -- r1
      first | omega | assumption | grind
    refine req_i ?_ ?_
    · -- r2
      first | omega | ((try simp only [sigSub, subP, sat, List.cons.injEq, DV.b.injEq, and_true, List.length_cons, List.length_nil]); first | done | omega | assumption | grind [getD_set, getD_rep, toNat_succ, cntN_yes, cntN_no])
    rfl
  ·
    simp only [bR_iff, bR_iff_f, dec_iff, dec_f, Bool.false_eq_true, Bool.true_eq_false, false_implies, imp_false, and_true, true_and, implies_true, Classical.not_not] at h5
    refine req_i ?_ ?_
    · -- r3
      first | omega | assumption | grind
    refine req_i ?_ ?_
    · -- r4
      first | omega | assumption | grind
    refine req_i ?_ ?_
    · -- r5
      first | omega | assumption | grind
    refine req_i ?_ ?_
    · -- r6
      first | omega | assumption | grind
    refine req_i ?_ ?_
    · -- r7
      first | trivial | assumption | (simp only [sigTog, togPost, absI, List.cons.injEq, DV.b.injEq, and_true, List.length_cons, List.length_nil]; done) | ((try simp only [sigTog, togPost, absI, List.cons.injEq, DV.b.injEq, and_true, List.length_cons, List.length_nil]); first | omega | assumption | grind)
    refine all_i fun n3 => ?_
    refine imp_i fun h9 => ?_
    refine imp_i fun h10 => ?_
    refine all_i fun n4 => ?_
    refine imp_i fun h11 => ?_
    refine imp_i fun h12 => ?_
    refine imp_i fun h13 => ?_
    try simp only [sigTog, togPost, absI, List.cons.injEq, DV.b.injEq, and_true, List.length_cons, List.length_nil] at h13
    refine req_i ?_ ?_
    · -- r8
      first | omega | assumption | grind
    refine req_i ?_ ?_
    · -- r9
      first | omega | assumption | grind
    refine req_i ?_ ?_
    · -- r10
      first | omega | assumption | grind
    refine req_i ?_ ?_
    · -- r11
      first | omega | assumption | grind
    refine req_i ?_ ?_
    · -- r12
      first | trivial | assumption | (simp only [sigSat, satPost, sat, List.cons.injEq, DV.b.injEq, and_true, List.length_cons, List.length_nil, dec_iff]; done) | ((try simp only [sigSat, satPost, sat, List.cons.injEq, DV.b.injEq, and_true, List.length_cons, List.length_nil, dec_iff]); first | omega | assumption | grind)
    refine all_i fun n5 => ?_
    refine imp_i fun h14 => ?_
    refine imp_i fun h15 => ?_
    refine imp_i fun h16 => ?_
    try simp only [sigSat, satPost, sat, List.cons.injEq, DV.b.injEq, and_true, List.length_cons, List.length_nil, dec_iff] at h16
    refine req_i ?_ ?_
    · -- r13
      first | omega | assumption | grind
    refine req_i ?_ ?_
    · -- r14
      first | omega | assumption | grind
    refine req_i ?_ ?_
    · -- r15
      first | omega | ((try simp only [sigSub, subP, sat, List.cons.injEq, DV.b.injEq, and_true, List.length_cons, List.length_nil]); first | done | omega | assumption | grind [getD_set, getD_rep, toNat_succ, cntN_yes, cntN_no])
    rfl
theorem ext_sub : ∀ p ∈ ([(44, Ext.ctr (ctOf sigSat)), (45, Ext.ctr (ctOf sigTog))] : List (Nat × Ext)), ExtRow Try.prog p.1 p.2 := by
  intro p hp
  simp only [List.mem_cons, List.not_mem_nil, or_false] at hp
  rcases hp with rfl | rfl
  · trivial
  · trivial
theorem cts_sub : CtsOk Try.prog [(44, Ext.ctr (ctOf sigSat)), (45, Ext.ctr (ctOf sigTog))] := ctsOk_of (cs := [(44, sigSat), (45, sigTog)])
  (fun p hp => by
    simp only [List.mem_cons, List.not_mem_nil, or_false] at hp
    rcases hp with rfl | rfl
    · exact fn_sat
    · exact fn_tog
)
  (fun f c h => by
    simp only [List.lookup_cons] at h
    repeat' split at h
    all_goals first | (cases h; done) | (rename_i e; have e := beq_iff_eq.1 e; subst e; cases h; exact ⟨_, by simp, rfl⟩))
theorem fn_sub : FnOk Try.prog 11 sigSub [] := fn_sound (by kernel_rfl) ext_sub cts_sub names vt_sub
end Go.Proofs.Ytcddopooofdgcaa

namespace Go.Proofs.Ytcddopooofdgcaa
open Go.Ev Go.Sp
set_option maxRecDepth 100000
theorem vc_subR : vcFn Try.prog [] tab [] 100 28 sigSub = (allB fun n0 : Int => 
impB ((-9223372036854775808 : Int) ≤ n0) (
impB (n0 ≤ (9223372036854775807 : Int)) (
allB fun n1 : Int => 
impB ((-9223372036854775808 : Int) ≤ n1) (
impB (n1 ≤ (9223372036854775807 : Int)) (
impB (sigSub.pre [DV.n n0, DV.n n1]) (
bR (dec (n1 < (0 : Int))) (
 allB fun n2 : Int => 
 impB (n2 = Go.IntKind.i64.wrap ((9223372036854775807 : Int) + n1)) (
 impB (Int.negSucc (9223372036854775807 : Nat) ≤ n2) (
 impB (n2 ≤ Int.ofNat (9223372036854775807 : Nat)) (
 bR (dec (n2 < n0)) (
  reqB (sigSub.post [DV.n n0, DV.n n1] [DV.n (9223372036854775807 : Int)]) (
  true)) (
  bR (dec ((0 : Int) < n1)) (
   allB fun n3 : Int => 
   impB (n3 = Go.IntKind.i64.wrap ((-9223372036854775808 : Int) + n1)) (
   impB (Int.negSucc (9223372036854775807 : Nat) ≤ n3) (
   impB (n3 ≤ Int.ofNat (9223372036854775807 : Nat)) (
   bR (dec (n0 < n3)) (
    reqB (sigSub.post [DV.n n0, DV.n n1] [DV.n (-9223372036854775808 : Int)]) (
    true)) (
    allB fun n4 : Int => 
    impB (n4 = Go.IntKind.i64.wrap (n0 - n1)) (
    impB (Int.negSucc (9223372036854775807 : Nat) ≤ n4) (
    impB (n4 ≤ Int.ofNat (9223372036854775807 : Nat)) (
    reqB ((-9223372036854775808 : Int) ≤ n4) (
    reqB (n4 ≤ (9223372036854775807 : Int)) (
    reqB (sigSub.post [DV.n n0, DV.n n1] [DV.n n4]) (
    true))))))))))) (
   allB fun n5 : Int => 
   impB (n5 = Go.IntKind.i64.wrap (n0 - n1)) (
   impB (Int.negSucc (9223372036854775807 : Nat) ≤ n5) (
   impB (n5 ≤ Int.ofNat (9223372036854775807 : Nat)) (
   reqB ((-9223372036854775808 : Int) ≤ n5) (
   reqB (n5 ≤ (9223372036854775807 : Int)) (
   reqB (sigSub.post [DV.n n0, DV.n n1] [DV.n n5]) (
   true)))))))))))) (
 bR (dec ((0 : Int) < n1)) (
  allB fun n6 : Int => 
  impB (n6 = Go.IntKind.i64.wrap ((-9223372036854775808 : Int) + n1)) (
  impB (Int.negSucc (9223372036854775807 : Nat) ≤ n6) (
  impB (n6 ≤ Int.ofNat (9223372036854775807 : Nat)) (
  bR (dec (n0 < n6)) (
   reqB (sigSub.post [DV.n n0, DV.n n1] [DV.n (-9223372036854775808 : Int)]) (
   true)) (
   allB fun n7 : Int => 
   impB (n7 = Go.IntKind.i64.wrap (n0 - n1)) (
   impB (Int.negSucc (9223372036854775807 : Nat) ≤ n7) (
   impB (n7 ≤ Int.ofNat (9223372036854775807 : Nat)) (
   reqB ((-9223372036854775808 : Int) ≤ n7) (
   reqB (n7 ≤ (9223372036854775807 : Int)) (
   reqB (sigSub.post [DV.n n0, DV.n n1] [DV.n n7]) (
   true))))))))))) (
  allB fun n8 : Int => 
  impB (n8 = Go.IntKind.i64.wrap (n0 - n1)) (
  impB (Int.negSucc (9223372036854775807 : Nat) ≤ n8) (
  impB (n8 ≤ Int.ofNat (9223372036854775807 : Nat)) (
  reqB ((-9223372036854775808 : Int) ≤ n8) (
  reqB (n8 ≤ (9223372036854775807 : Int)) (
  reqB (sigSub.post [DV.n n0, DV.n n1] [DV.n n8]) (
  true)))))))))))))) := by kernel_rfl
set_option maxHeartbeats 8000000 in
theorem vt_subR : vcFn Try.prog [] tab [] 100 28 sigSub = true := by
  rw [vc_subR]
  try simp only [Int.toNat_natCast, List.length_set, List.length_replicate, List.length_take, List.length_drop, List.length_append, List.length_cons, List.length_nil, Nat.min_self, List.take_take, lenCols_i, lenCols_b, List.drop_zero, List.take_length, Nat.add_eq, Nat.mul_eq, Nat.sub_eq, Nat.zero_add, Nat.sub_zero, Nat.mul_one]
  refine all_i fun n0 => ?_
  refine imp_i fun h0 => ?_
  refine imp_i fun h1 => ?_
  refine all_i fun n1 => ?_
  refine imp_i fun h2 => ?_
  refine imp_i fun h3 => ?_
  refine imp_i fun h4 => ?_
  try simp only [sigSub, subP, sat, List.cons.injEq, DV.b.injEq, and_true, List.length_cons, List.length_nil] at h4
  refine bR_dec (fun h5 => ?_) (fun h5 => ?_)
  ·
    refine all_i fun n2 => ?_
    refine imp_i fun h6 => ?_
    simp only [wrap_i64] at h6
    refine imp_i fun h7 => ?_
    refine imp_i fun h8 => ?_
    refine bR_dec (fun h9 => ?_) (fun h9 => ?_)
    ·
      refine req_i ?_ ?_
      · -- r0
        first | omega | ((try simp only [sigSub, subP, sat, List.cons.injEq, DV.b.injEq, and_true, List.length_cons, List.length_nil]); first | done | omega | assumption | grind [getD_set, getD_rep, toNat_succ, cntN_yes, cntN_no])
      rfl
    ·
      refine bR_dec (fun h10 => ?_) (fun h10 => ?_)
      ·
        refine all_i fun n3 => ?_
        refine imp_i fun h11 => ?_
        simp only [wrap_i64] at h11
        refine imp_i fun h12 => ?_
        refine imp_i fun h13 => ?_
        refine bR_dec (fun h14 => ?_) (fun h14 => ?_)
        ·
          refine req_i ?_ ?_
          · -- r1
            first | omega | ((try simp only [sigSub, subP, sat, List.cons.injEq, DV.b.injEq, and_true, List.length_cons, List.length_nil]); first | done | omega | assumption | grind [getD_set, getD_rep, toNat_succ, cntN_yes, cntN_no])
          rfl
        ·
          refine all_i fun n4 => ?_
          refine imp_i fun h15 => ?_
          simp only [wrap_i64] at h15
          refine imp_i fun h16 => ?_
          refine imp_i fun h17 => ?_
          refine req_i ?_ ?_
          · -- r2
            first | omega | assumption | grind
          refine req_i ?_ ?_
          · -- r3
            first | omega | assumption | grind
          refine req_i ?_ ?_
          · -- r4
            first | omega | ((try simp only [sigSub, subP, sat, List.cons.injEq, DV.b.injEq, and_true, List.length_cons, List.length_nil]); first | done | omega | assumption | grind [getD_set, getD_rep, toNat_succ, cntN_yes, cntN_no])
          rfl
      ·
        refine all_i fun n5 => ?_
        refine imp_i fun h18 => ?_
        simp only [wrap_i64] at h18
        refine imp_i fun h19 => ?_
        refine imp_i fun h20 => ?_
        refine req_i ?_ ?_
        · -- r5
          first | omega | assumption | grind
        refine req_i ?_ ?_
        · -- r6
          first | omega | assumption | grind
        refine req_i ?_ ?_
        · -- r7
          first | omega | ((try simp only [sigSub, subP, sat, List.cons.injEq, DV.b.injEq, and_true, List.length_cons, List.length_nil]); first | done | omega | assumption | grind [getD_set, getD_rep, toNat_succ, cntN_yes, cntN_no])
        rfl
  ·
    refine bR_dec (fun h21 => ?_) (fun h21 => ?_)
    ·
      refine all_i fun n6 => ?_
      refine imp_i fun h22 => ?_
      simp only [wrap_i64] at h22
      refine imp_i fun h23 => ?_
      refine imp_i fun h24 => ?_
      refine bR_dec (fun h25 => ?_) (fun h25 => ?_)
      ·
        refine req_i ?_ ?_
        · -- r8
          first | omega | ((try simp only [sigSub, subP, sat, List.cons.injEq, DV.b.injEq, and_true, List.length_cons, List.length_nil]); first | done | omega | assumption | grind [getD_set, getD_rep, toNat_succ, cntN_yes, cntN_no])
        rfl
      ·
        refine all_i fun n7 => ?_
        refine imp_i fun h26 => ?_
        simp only [wrap_i64] at h26
        refine imp_i fun h27 => ?_
        refine imp_i fun h28 => ?_
        refine req_i ?_ ?_
        · -- r9
          first | omega | assumption | grind
        refine req_i ?_ ?_
        · -- r10
          first | omega | assumption | grind
        refine req_i ?_ ?_
        · -- r11
          first | omega | ((try simp only [sigSub, subP, sat, List.cons.injEq, DV.b.injEq, and_true, List.length_cons, List.length_nil]); first | done | omega | assumption | grind [getD_set, getD_rep, toNat_succ, cntN_yes, cntN_no])
        rfl
    ·
      refine all_i fun n8 => ?_
      refine imp_i fun h29 => ?_
      simp only [wrap_i64] at h29
      refine imp_i fun h30 => ?_
      refine imp_i fun h31 => ?_
      refine req_i ?_ ?_
      · -- r12
        first | omega | assumption | grind
      refine req_i ?_ ?_
      · -- r13
        first | omega | assumption | grind
      refine req_i ?_ ?_
      · -- r14
        first | omega | ((try simp only [sigSub, subP, sat, List.cons.injEq, DV.b.injEq, and_true, List.length_cons, List.length_nil]); first | done | omega | assumption | grind [getD_set, getD_rep, toNat_succ, cntN_yes, cntN_no])
      rfl
theorem ext_subR : ∀ p ∈ ([] : List (Nat × Ext)), ExtRow Try.prog p.1 p.2 := by
  intro p hp
  cases hp
theorem cts_subR : CtsOk Try.prog [] := fun f c h => by cases h
theorem fn_subR : FnOk Try.prog 28 sigSub [] := fn_sound (by kernel_rfl) ext_subR cts_subR names vt_subR
end Go.Proofs.Ytcddopooofdgcaa

namespace Go.Proofs.Ytcddopooofdgcaa
open Go.Ev Go.Sp
set_option maxRecDepth 100000
theorem vc_neg : vcFn Try.prog [(44, Ext.ctr (ctOf sigSat)), (46, Ext.ctr (ctOf sigSize))] tab [] 100 12 sigNeg = (allB fun n0 : Int => 
impB ((-9223372036854775808 : Int) ≤ n0) (
impB (n0 ≤ (9223372036854775807 : Int)) (
impB (sigNeg.pre [DV.n n0]) (
reqB ((-9223372036854775808 : Int) ≤ n0) (
reqB (n0 ≤ (9223372036854775807 : Int)) (
reqB (sigSize.pre [DV.n n0]) (
allB fun n1 : Int => 
impB ((0 : Int) ≤ n1) (
impB (n1 ≤ (9223372036854775808 : Int)) (
impB (sigSize.post [DV.n n0] [DV.n n1]) (
reqB ((0 : Int) ≤ n1) (
reqB (n1 ≤ (18446744073709551615 : Int)) (
reqB (sigSat.pre [DV.b (dec ((0 : Int) < n0)), DV.n (0 : Int), DV.n n1]) (
allB fun n2 : Int => 
impB ((-9223372036854775808 : Int) ≤ n2) (
impB (n2 ≤ (9223372036854775807 : Int)) (
impB (sigSat.post [DV.b (dec ((0 : Int) < n0)), DV.n (0 : Int), DV.n n1] [DV.n n2]) (
reqB ((-9223372036854775808 : Int) ≤ n2) (
reqB (n2 ≤ (9223372036854775807 : Int)) (
reqB (sigNeg.post [DV.n n0] [DV.n n2]) (
true))))))))))))))))))) := by kernel_rfl
set_option maxHeartbeats 8000000 in
theorem vt_neg : vcFn Try.prog [(44, Ext.ctr (ctOf sigSat)), (46, Ext.ctr (ctOf sigSize))] tab [] 100 12 sigNeg = true := by
  rw [vc_neg]
  try simp only [Int.toNat_natCast, List.length_set, List.length_replicate, List.length_take, List.length_drop, List.length_append, List.length_cons, List.length_nil, Nat.min_self, List.take_take, lenCols_i, lenCols_b, List.drop_zero, List.take_length, Nat.add_eq, Nat.mul_eq, Nat.sub_eq, Nat.zero_add, Nat.sub_zero, Nat.mul_one]
  refine all_i fun n0 => ?_
  refine imp_i fun h0 => ?_
  refine imp_i fun h1 => ?_
  refine imp_i fun h2 => ?_
  try simp only [sigNeg, negP, sat, List.cons.injEq, DV.b.injEq, and_true, List.length_cons, List.length_nil] at h2
  refine req_i ?_ ?_
  · -- r0
    first | omega | assumption | grind
  refine req_i ?_ ?_
  · -- r1
    first | omega | assumption | grind
  refine req_i ?_ ?_
  · -- r2
    first | trivial | assumption | (simp only [sigSize, sizePost, absI, List.cons.injEq, DV.b.injEq, and_true, List.length_cons, List.length_nil]; done) | ((try simp only [sigSize, sizePost, absI, List.cons.injEq, DV.b.injEq, and_true, List.length_cons, List.length_nil]); first | omega | assumption | grind)
  refine all_i fun n1 => ?_
  refine imp_i fun h3 => ?_
  refine imp_i fun h4 => ?_
  refine imp_i fun h5 => ?_
  try simp only [sigSize, sizePost, absI, List.cons.injEq, DV.b.injEq, and_true, List.length_cons, List.length_nil] at h5
  refine req_i ?_ ?_
  · -- r3
    first | omega | assumption | grind
  refine req_i ?_ ?_
  · -- r4
    first | omega | assumption | grind
  refine req_i ?_ ?_
  · -- r5
    first | trivial | assumption | (simp only [sigSat, satPost, sat, List.cons.injEq, DV.b.injEq, and_true, List.length_cons, List.length_nil, dec_iff]; done) | ((try simp only [sigSat, satPost, sat, List.cons.injEq, DV.b.injEq, and_true, List.length_cons, List.length_nil, dec_iff]); first | omega | assumption | grind)
  refine all_i fun n2 => ?_
  refine imp_i fun h6 => ?_
  refine imp_i fun h7 => ?_
  refine imp_i fun h8 => ?_
  try simp only [sigSat, satPost, sat, List.cons.injEq, DV.b.injEq, and_true, List.length_cons, List.length_nil, dec_iff] at h8
  refine req_i ?_ ?_
  · -- r6
    first | omega | assumption | grind
  refine req_i ?_ ?_
  · -- r7
    first | omega | assumption | grind
  refine req_i ?_ ?_
  · -- r8
    first | omega | ((try simp only [sigNeg, negP, sat, List.cons.injEq, DV.b.injEq, and_true, List.length_cons, List.length_nil]); first | done | omega | assumption | grind [getD_set, getD_rep, toNat_succ, cntN_yes, cntN_no])
  rfl
theorem ext_neg : ∀ p ∈ ([(44, Ext.ctr (ctOf sigSat)), (46, Ext.ctr (ctOf sigSize))] : List (Nat × Ext)), ExtRow Try.prog p.1 p.2 := by
  intro p hp
  simp only [List.mem_cons, List.not_mem_nil, or_false] at hp
  rcases hp with rfl | rfl
  · trivial
  · trivial
theorem cts_neg : CtsOk Try.prog [(44, Ext.ctr (ctOf sigSat)), (46, Ext.ctr (ctOf sigSize))] := ctsOk_of (cs := [(44, sigSat), (46, sigSize)])
  (fun p hp => by
    simp only [List.mem_cons, List.not_mem_nil, or_false] at hp
    rcases hp with rfl | rfl
    · exact fn_sat
    · exact fn_size
)
  (fun f c h => by
    simp only [List.lookup_cons] at h
    repeat' split at h
    all_goals first | (cases h; done) | (rename_i e; have e := beq_iff_eq.1 e; subst e; cases h; exact ⟨_, by simp, rfl⟩))
theorem fn_neg : FnOk Try.prog 12 sigNeg [] := fn_sound (by kernel_rfl) ext_neg cts_neg names vt_neg
end Go.Proofs.Ytcddopooofdgcaa

namespace Go.Proofs.Ytcddopooofdgcaa
open Go.Ev Go.Sp
set_option maxRecDepth 100000
theorem vc_negR : vcFn Try.prog [] tab [] 100 29 sigNeg = (allB fun n0 : Int => 
impB ((-9223372036854775808 : Int) ≤ n0) (
impB (n0 ≤ (9223372036854775807 : Int)) (
impB (sigNeg.pre [DV.n n0]) (
bR (dec (n0 < (0 : Int))) (
 allB fun n1 : Int => 
 impB (n1 = Go.IntKind.i64.wrap ((9223372036854775807 : Int) + n0)) (
 impB (Int.negSucc (9223372036854775807 : Nat) ≤ n1) (
 impB (n1 ≤ Int.ofNat (9223372036854775807 : Nat)) (
 bR (dec (n1 < (0 : Int))) (
  reqB (sigNeg.post [DV.n n0] [DV.n (9223372036854775807 : Int)]) (
  true)) (
  bR (dec ((0 : Int) < n0)) (
   allB fun n2 : Int => 
   impB (n2 = Go.IntKind.i64.wrap ((-9223372036854775808 : Int) + n0)) (
   impB (Int.negSucc (9223372036854775807 : Nat) ≤ n2) (
   impB (n2 ≤ Int.ofNat (9223372036854775807 : Nat)) (
   bR (dec ((0 : Int) < n2)) (
    reqB (sigNeg.post [DV.n n0] [DV.n (-9223372036854775808 : Int)]) (
    true)) (
    allB fun n3 : Int => 
    impB (n3 = Go.IntKind.i64.wrap ((0 : Int) - n0)) (
    impB (Int.negSucc (9223372036854775807 : Nat) ≤ n3) (
    impB (n3 ≤ Int.ofNat (9223372036854775807 : Nat)) (
    reqB ((-9223372036854775808 : Int) ≤ n3) (
    reqB (n3 ≤ (9223372036854775807 : Int)) (
    reqB (sigNeg.post [DV.n n0] [DV.n n3]) (
    true))))))))))) (
   allB fun n4 : Int => 
   impB (n4 = Go.IntKind.i64.wrap ((0 : Int) - n0)) (
   impB (Int.negSucc (9223372036854775807 : Nat) ≤ n4) (
   impB (n4 ≤ Int.ofNat (9223372036854775807 : Nat)) (
   reqB ((-9223372036854775808 : Int) ≤ n4) (
   reqB (n4 ≤ (9223372036854775807 : Int)) (
   reqB (sigNeg.post [DV.n n0] [DV.n n4]) (
   true)))))))))))) (
 bR (dec ((0 : Int) < n0)) (
  allB fun n5 : Int => 
  impB (n5 = Go.IntKind.i64.wrap ((-9223372036854775808 : Int) + n0)) (
  impB (Int.negSucc (9223372036854775807 : Nat) ≤ n5) (
  impB (n5 ≤ Int.ofNat (9223372036854775807 : Nat)) (
  bR (dec ((0 : Int) < n5)) (
   reqB (sigNeg.post [DV.n n0] [DV.n (-9223372036854775808 : Int)]) (
   true)) (
   allB fun n6 : Int => 
   impB (n6 = Go.IntKind.i64.wrap ((0 : Int) - n0)) (
   impB (Int.negSucc (9223372036854775807 : Nat) ≤ n6) (
   impB (n6 ≤ Int.ofNat (9223372036854775807 : Nat)) (
   reqB ((-9223372036854775808 : Int) ≤ n6) (
   reqB (n6 ≤ (9223372036854775807 : Int)) (
   reqB (sigNeg.post [DV.n n0] [DV.n n6]) (
   true))))))))))) (
  allB fun n7 : Int => 
  impB (n7 = Go.IntKind.i64.wrap ((0 : Int) - n0)) (
  impB (Int.negSucc (9223372036854775807 : Nat) ≤ n7) (
  impB (n7 ≤ Int.ofNat (9223372036854775807 : Nat)) (
  reqB ((-9223372036854775808 : Int) ≤ n7) (
  reqB (n7 ≤ (9223372036854775807 : Int)) (
  reqB (sigNeg.post [DV.n n0] [DV.n n7]) (
  true)))))))))))) := by kernel_rfl
set_option maxHeartbeats 8000000 in
theorem vt_negR : vcFn Try.prog [] tab [] 100 29 sigNeg = true := by
  rw [vc_negR]
  try simp only [Int.toNat_natCast, List.length_set, List.length_replicate, List.length_take, List.length_drop, List.length_append, List.length_cons, List.length_nil, Nat.min_self, List.take_take, lenCols_i, lenCols_b, List.drop_zero, List.take_length, Nat.add_eq, Nat.mul_eq, Nat.sub_eq, Nat.zero_add, Nat.sub_zero, Nat.mul_one]
  refine all_i fun n0 => ?_
  refine imp_i fun h0 => ?_
  refine imp_i fun h1 => ?_
  refine imp_i fun h2 => ?_
  try simp only [sigNeg, negP, sat, List.cons.injEq, DV.b.injEq, and_true, List.length_cons, List.length_nil] at h2
  refine bR_dec (fun h3 => ?_) (fun h3 => ?_)
  ·
    refine all_i fun n1 => ?_
    refine imp_i fun h4 => ?_
    simp only [wrap_i64] at h4
    refine imp_i fun h5 => ?_
    refine imp_i fun h6 => ?_
    refine bR_dec (fun h7 => ?_) (fun h7 => ?_)
    ·
      refine req_i ?_ ?_
      · -- r0
        first | omega | ((try simp only [sigNeg, negP, sat, List.cons.injEq, DV.b.injEq, and_true, List.length_cons, List.length_nil]); first | done | omega | assumption | grind [getD_set, getD_rep, toNat_succ, cntN_yes, cntN_no])
      rfl
    ·
      refine bR_dec (fun h8 => ?_) (fun h8 => ?_)
      ·
        refine all_i fun n2 => ?_
        refine imp_i fun h9 => ?_
        simp only [wrap_i64] at h9
        refine imp_i fun h10 => ?_
        refine imp_i fun h11 => ?_
        refine bR_dec (fun h12 => ?_) (fun h12 => ?_)
        ·
          refine req_i ?_ ?_
          · -- r1
            first | omega | ((try simp only [sigNeg, negP, sat, List.cons.injEq, DV.b.injEq, and_true, List.length_cons, List.length_nil]); first | done | omega | assumption | grind [getD_set, getD_rep, toNat_succ, cntN_yes, cntN_no])
          rfl
        ·
          refine all_i fun n3 => ?_
          refine imp_i fun h13 => ?_
          simp only [wrap_i64] at h13
          refine imp_i fun h14 => ?_
          refine imp_i fun h15 => ?_
          refine req_i ?_ ?_
          · -- r2
            first | omega | assumption | grind
          refine req_i ?_ ?_
          · -- r3
            first | omega | assumption | grind
          refine req_i ?_ ?_
          · -- r4
            first | omega | ((try simp only [sigNeg, negP, sat, List.cons.injEq, DV.b.injEq, and_true, List.length_cons, List.length_nil]); first | done | omega | assumption | grind [getD_set, getD_rep, toNat_succ, cntN_yes, cntN_no])
          rfl
      ·
        refine all_i fun n4 => ?_
        refine imp_i fun h16 => ?_
        simp only [wrap_i64] at h16
        refine imp_i fun h17 => ?_
        refine imp_i fun h18 => ?_
        refine req_i ?_ ?_
        · -- r5
          first | omega | assumption | grind
        refine req_i ?_ ?_
        · -- r6
          first | omega | assumption | grind
        refine req_i ?_ ?_
        · -- r7
          first | omega | ((try simp only [sigNeg, negP, sat, List.cons.injEq, DV.b.injEq, and_true, List.length_cons, List.length_nil]); first | done | omega | assumption | grind [getD_set, getD_rep, toNat_succ, cntN_yes, cntN_no])
        rfl
  ·
    refine bR_dec (fun h19 => ?_) (fun h19 => ?_)
    ·
      refine all_i fun n5 => ?_
      refine imp_i fun h20 => ?_
      simp only [wrap_i64] at h20
      refine imp_i fun h21 => ?_
      refine imp_i fun h22 => ?_
      refine bR_dec (fun h23 => ?_) (fun h23 => ?_)
      ·
        refine req_i ?_ ?_
        · -- r8
          first | omega | ((try simp only [sigNeg, negP, sat, List.cons.injEq, DV.b.injEq, and_true, List.length_cons, List.length_nil]); first | done | omega | assumption | grind [getD_set, getD_rep, toNat_succ, cntN_yes, cntN_no])
        rfl
      ·
        refine all_i fun n6 => ?_
        refine imp_i fun h24 => ?_
        simp only [wrap_i64] at h24
        refine imp_i fun h25 => ?_
        refine imp_i fun h26 => ?_
        refine req_i ?_ ?_
        · -- r9
          first | omega | assumption | grind
        refine req_i ?_ ?_
        · -- r10
          first | omega | assumption | grind
        refine req_i ?_ ?_
        · -- r11
          first | omega | ((try simp only [sigNeg, negP, sat, List.cons.injEq, DV.b.injEq, and_true, List.length_cons, List.length_nil]); first | done | omega | assumption | grind [getD_set, getD_rep, toNat_succ, cntN_yes, cntN_no])
        rfl
    ·
      refine all_i fun n7 => ?_
      refine imp_i fun h27 => ?_
      simp only [wrap_i64] at h27
      refine imp_i fun h28 => ?_
      refine imp_i fun h29 => ?_
      refine req_i ?_ ?_
      · -- r12
        first | omega | assumption | grind
      refine req_i ?_ ?_
      · -- r13
        first | omega | assumption | grind
      refine req_i ?_ ?_
      · -- r14
        first | omega | ((try simp only [sigNeg, negP, sat, List.cons.injEq, DV.b.injEq, and_true, List.length_cons, List.length_nil]); first | done | omega | assumption | grind [getD_set, getD_rep, toNat_succ, cntN_yes, cntN_no])
      rfl
theorem ext_negR : ∀ p ∈ ([] : List (Nat × Ext)), ExtRow Try.prog p.1 p.2 := by
  intro p hp
  cases hp
theorem cts_negR : CtsOk Try.prog [] := fun f c h => by cases h
theorem fn_negR : FnOk Try.prog 29 sigNeg [] := fn_sound (by kernel_rfl) ext_negR cts_negR names vt_negR
end Go.Proofs.Ytcddopooofdgcaa

namespace Go.Proofs.Ytcddopooofdgcaa
open Go.Ev Go.Sp
set_option maxRecDepth 100000
theorem vc_down : vcFn Try.prog [(54, Ext.ctr (ctOf sigAdd64))] tab [] 100 47 sigDown = (allB fun n0 : Int => 
impB ((0 : Int) ≤ n0) (
impB (n0 ≤ (18446744073709551615 : Int)) (
allB fun n1 : Int => 
impB ((0 : Int) ≤ n1) (
impB (n1 ≤ (18446744073709551615 : Int)) (
allB fun n2 : Int => 
impB ((0 : Int) ≤ n2) (
impB (n2 ≤ (126 : Int)) (
impB (sigDown.pre [DV.n n0, DV.n n1, DV.n n2]) (
bR (dec (n2 = (0 : Int))) (
 reqB ((0 : Int) ≤ n0) (
 reqB (n0 ≤ (18446744073709551615 : Int)) (
 reqB ((0 : Int) ≤ n1) (
 reqB (n1 ≤ (18446744073709551615 : Int)) (
 reqB (sigDown.post [DV.n n0, DV.n n1, DV.n n2] [DV.n n0, DV.n n1]) (
 true)))))) (
 bR (dec ((64 : Int) < n2)) (
  allB fun n3 : Int => 
  impB (n3 = Go.IntKind.u64.wrap (n2 - (65 : Int))) (
  impB (Int.ofNat (0 : Nat) ≤ n3) (
  impB (n3 ≤ Int.ofNat (18446744073709551615 : Nat)) (
  reqB ((0 : Int) ≤ n1) (
  reqB (n1 ≤ (18446744073709551615 : Int)) (
  reqB (sigAdd64.pre [DV.n n1, DV.n (0 : Int), DV.n (0 : Int)]) (
  allB fun n4 : Int => 
  impB ((0 : Int) ≤ n4) (
  impB (n4 ≤ (18446744073709551615 : Int)) (
  allB fun n5 : Int => 
  impB ((0 : Int) ≤ n5) (
  impB (n5 ≤ (1 : Int)) (
  impB (sigAdd64.post [DV.n n1, DV.n (0 : Int), DV.n (0 : Int)] [DV.n n4, DV.n n5]) (
  reqB ((0 : Int) ≤ n0) (
  reqB (n0 ≤ (18446744073709551615 : Int)) (
  reqB ((0 : Int) ≤ opI (SO.shl Go.IntKind.u64) (1 : Int) n3) (
  reqB (opI (SO.shl Go.IntKind.u64) (1 : Int) n3 ≤ (18446744073709551615 : Int)) (
  reqB ((0 : Int) ≤ n5) (
  reqB (n5 ≤ (1 : Int)) (
  reqB (sigAdd64.pre [DV.n n0, DV.n (opI (SO.shl Go.IntKind.u64) (1 : Int) n3), DV.n n5]) (
  allB fun n6 : Int => 
  impB ((0 : Int) ≤ n6) (
  impB (n6 ≤ (18446744073709551615 : Int)) (
  allB fun n7 : Int => 
  impB ((0 : Int) ≤ n7) (
  impB (n7 ≤ (1 : Int)) (
  impB (sigAdd64.post [DV.n n0, DV.n (opI (SO.shl Go.IntKind.u64) (1 : Int) n3), DV.n n5]
  [DV.n n6, DV.n n7]) (
  bR (dec ((64 : Int) ≤ n2)) (
   allB fun n8 : Int => 
   impB (n8 = Go.IntKind.u64.wrap (n2 - (64 : Int))) (
   impB (Int.ofNat (0 : Nat) ≤ n8) (
   impB (n8 ≤ Int.ofNat (18446744073709551615 : Nat)) (
   reqB ((0 : Int) ≤ opI (SO.shr Go.IntKind.u64) n6 n8) (
   reqB (opI (SO.shr Go.IntKind.u64) n6 n8 ≤ (18446744073709551615 : Int)) (
   reqB (sigDown.post [DV.n n0, DV.n n1, DV.n n2]
  [DV.n (0 : Int), DV.n (opI (SO.shr Go.IntKind.u64) n6 n8)]) (
   true))))))) (
   allB fun n9 : Int => 
   impB (n9 = Go.IntKind.u64.wrap ((64 : Int) - n2)) (
   impB (Int.ofNat (0 : Nat) ≤ n9) (
   impB (n9 ≤ Int.ofNat (18446744073709551615 : Nat)) (
   reqB ((0 : Int) ≤ opI (SO.shr Go.IntKind.u64) n6 n2) (
   reqB (opI (SO.shr Go.IntKind.u64) n6 n2 ≤ (18446744073709551615 : Int)) (
   reqB ((0 : Int) ≤
  opI (SO.or Go.IntKind.u64) (opI (SO.shr Go.IntKind.u64) n4 n2)
    (opI (SO.shl Go.IntKind.u64) n6 n9)) (
   reqB (opI (SO.or Go.IntKind.u64) (opI (SO.shr Go.IntKind.u64) n4 n2)
    (opI (SO.shl Go.IntKind.u64) n6 n9) ≤
  (18446744073709551615 : Int)) (
   reqB (sigDown.post [DV.n n0, DV.n n1, DV.n n2]
  [DV.n (opI (SO.shr Go.IntKind.u64) n6 n2),
    DV.n
      (opI (SO.or Go.IntKind.u64) (opI (SO.shr Go.IntKind.u64) n4 n2)
        (opI (SO.shl Go.IntKind.u64) n6 n9))]) (
   true))))))))))))))))))))))))))))))))) (
  allB fun n10 : Int => 
  impB (n10 = Go.IntKind.u64.wrap (n2 - (1 : Int))) (
  impB (Int.ofNat (0 : Nat) ≤ n10) (
  impB (n10 ≤ Int.ofNat (18446744073709551615 : Nat)) (
  reqB ((0 : Int) ≤ n1) (
  reqB (n1 ≤ (18446744073709551615 : Int)) (
  reqB ((0 : Int) ≤ opI (SO.shl Go.IntKind.u64) (1 : Int) n10) (
  reqB (opI (SO.shl Go.IntKind.u64) (1 : Int) n10 ≤ (18446744073709551615 : Int)) (
  reqB (sigAdd64.pre
  [DV.n n1, DV.n (opI (SO.shl Go.IntKind.u64) (1 : Int) n10), DV.n (0 : Int)]) (
  allB fun n11 : Int => 
  impB ((0 : Int) ≤ n11) (
  impB (n11 ≤ (18446744073709551615 : Int)) (
  allB fun n12 : Int => 
  impB ((0 : Int) ≤ n12) (
  impB (n12 ≤ (1 : Int)) (
  impB (sigAdd64.post
  [DV.n n1, DV.n (opI (SO.shl Go.IntKind.u64) (1 : Int) n10), DV.n (0 : Int)]
  [DV.n n11, DV.n n12]) (
  reqB ((0 : Int) ≤ n0) (
  reqB (n0 ≤ (18446744073709551615 : Int)) (
  reqB ((0 : Int) ≤ n12) (
  reqB (n12 ≤ (1 : Int)) (
  reqB (sigAdd64.pre [DV.n n0, DV.n (0 : Int), DV.n n12]) (
  allB fun n13 : Int => 
  impB ((0 : Int) ≤ n13) (
  impB (n13 ≤ (18446744073709551615 : Int)) (
  allB fun n14 : Int => 
  impB ((0 : Int) ≤ n14) (
  impB (n14 ≤ (1 : Int)) (
  impB (sigAdd64.post [DV.n n0, DV.n (0 : Int), DV.n n12] [DV.n n13, DV.n n14]) (
  bR (dec ((64 : Int) ≤ n2)) (
   allB fun n15 : Int => 
   impB (n15 = Go.IntKind.u64.wrap (n2 - (64 : Int))) (
   impB (Int.ofNat (0 : Nat) ≤ n15) (
   impB (n15 ≤ Int.ofNat (18446744073709551615 : Nat)) (
   reqB ((0 : Int) ≤ opI (SO.shr Go.IntKind.u64) n13 n15) (
   reqB (opI (SO.shr Go.IntKind.u64) n13 n15 ≤ (18446744073709551615 : Int)) (
   reqB (sigDown.post [DV.n n0, DV.n n1, DV.n n2]
  [DV.n (0 : Int), DV.n (opI (SO.shr Go.IntKind.u64) n13 n15)]) (
   true))))))) (
   allB fun n16 : Int => 
   impB (n16 = Go.IntKind.u64.wrap ((64 : Int) - n2)) (
   impB (Int.ofNat (0 : Nat) ≤ n16) (
   impB (n16 ≤ Int.ofNat (18446744073709551615 : Nat)) (
   reqB ((0 : Int) ≤ opI (SO.shr Go.IntKind.u64) n13 n2) (
   reqB (opI (SO.shr Go.IntKind.u64) n13 n2 ≤ (18446744073709551615 : Int)) (
   reqB ((0 : Int) ≤
  opI (SO.or Go.IntKind.u64) (opI (SO.shr Go.IntKind.u64) n11 n2)
    (opI (SO.shl Go.IntKind.u64) n13 n16)) (
   reqB (opI (SO.or Go.IntKind.u64) (opI (SO.shr Go.IntKind.u64) n11 n2)
    (opI (SO.shl Go.IntKind.u64) n13 n16) ≤
  (18446744073709551615 : Int)) (
   reqB (sigDown.post [DV.n n0, DV.n n1, DV.n n2]
  [DV.n (opI (SO.shr Go.IntKind.u64) n13 n2),
    DV.n
      (opI (SO.or Go.IntKind.u64) (opI (SO.shr Go.IntKind.u64) n11 n2)
        (opI (SO.shl Go.IntKind.u64) n13 n16))]) (
   true)))))))))))))))))))))))))))))))))))))))))) := by kernel_rfl
set_option maxHeartbeats 8000000 in
theorem vt_down : vcFn Try.prog [(54, Ext.ctr (ctOf sigAdd64))] tab [] 100 47 sigDown = true := by
  rw [vc_down]
  try simp only [Int.toNat_natCast, List.length_set, List.length_replicate, List.length_take, List.length_drop, List.length_append, List.length_cons, List.length_nil, Nat.min_self, List.take_take, lenCols_i, lenCols_b, List.drop_zero, List.take_length, Nat.add_eq, Nat.mul_eq, Nat.sub_eq, Nat.zero_add, Nat.sub_zero, Nat.mul_one]
  refine all_i fun n0 => ?_
  refine imp_i fun h0 => ?_
  refine imp_i fun h1 => ?_
  refine all_i fun n1 => ?_
  refine imp_i fun h2 => ?_
  refine imp_i fun h3 => ?_
  refine all_i fun n2 => ?_
  refine imp_i fun h4 => ?_
  refine imp_i fun h5 => ?_
  refine imp_i fun h6 => ?_
  try simp only [sigDown, downPre, downPost, List.cons.injEq, DV.b.injEq, and_true, List.length_cons, List.length_nil] at h6
  refine bR_dec (fun h7 => ?_) (fun h7 => ?_)
  ·
    refine req_i ?_ ?_
    · -- r0
      first | omega | assumption | grind
    refine req_i ?_ ?_
    · -- r1
      first | omega | assumption | grind
    refine req_i ?_ ?_
    · -- r2
      first | omega | assumption | grind
    refine req_i ?_ ?_
    · -- r3
      first | omega | assumption | grind
    refine req_i ?_ ?_
    · -- r4
      simp only [sigDown, downPost, shR]; rw [if_pos h7]
    rfl
  ·
    have hp := p2_pos (n2 - 1)
    have es : shR (n0 * 18446744073709551616 + n1) n2 = (n0 * 18446744073709551616 + n1 + p2 (n2 - 1)) / p2 n2 := by rw [shR, if_neg h7]
    refine bR_dec (fun h8 => ?_) (fun h8 => ?_)
    ·
      refine all_i fun n3 => ?_
      refine imp_i fun h9 => ?_
      simp only [wrap_u64] at h9
      have e3 : n3 = n2 - 65 := by omega
      rw [e3, shlU_one (by omega) (by omega)]
      have q1 : p2 (n2 - 65) ≤ p2 61 := p2_mono (by omega)
      rw [show p2 61 = 2305843009213693952 by decide] at q1
      have q2 := p2_pos (n2 - 65)
      have q3 : p2 (n2 - 1) = p2 (n2 - 65) * 18446744073709551616 := by rw [show (18446744073709551616 : Int) = p2 64 by decide, ← p2_add (by omega) (by omega), show n2 - 65 + 64 = n2 - 1 by omega]
      refine imp_i fun h10 => ?_
      refine imp_i fun h11 => ?_
      refine req_i ?_ ?_
      · -- r5
        first | omega | assumption | grind
      refine req_i ?_ ?_
      · -- r6
        first | omega | assumption | grind
      refine req_i ?_ ?_
      · -- r7
        first | trivial | assumption | (simp only [sigAdd64, add64Post, List.cons.injEq, DV.b.injEq, and_true, List.length_cons, List.length_nil]; done) | ((try simp only [sigAdd64, add64Post, List.cons.injEq, DV.b.injEq, and_true, List.length_cons, List.length_nil]); first | omega | assumption | grind)
      refine all_i fun n4 => ?_
      refine imp_i fun h12 => ?_
      refine imp_i fun h13 => ?_
      refine all_i fun n5 => ?_
      refine imp_i fun h14 => ?_
      refine imp_i fun h15 => ?_
      refine imp_i fun h16 => ?_
      try simp only [sigAdd64, add64Post, List.cons.injEq, DV.b.injEq, and_true, List.length_cons, List.length_nil] at h16
      refine req_i ?_ ?_
      · -- r8
        first | omega | assumption | grind
      refine req_i ?_ ?_
      · -- r9
        first | omega | assumption | grind
      refine req_i ?_ ?_
      · -- r10
        first | omega | assumption | grind
      refine req_i ?_ ?_
      · -- r11
        first | omega | assumption | grind
      refine req_i ?_ ?_
      · -- r12
        first | omega | assumption | grind
      refine req_i ?_ ?_
      · -- r13
        first | omega | assumption | grind
      refine req_i ?_ ?_
      · -- r14
        first | trivial | assumption | (simp only [sigAdd64, add64Post, List.cons.injEq, DV.b.injEq, and_true, List.length_cons, List.length_nil]; done) | ((try simp only [sigAdd64, add64Post, List.cons.injEq, DV.b.injEq, and_true, List.length_cons, List.length_nil]); first | omega | assumption | grind)
      refine all_i fun n6 => ?_
      refine imp_i fun h17 => ?_
      refine imp_i fun h18 => ?_
      refine all_i fun n7 => ?_
      refine imp_i fun h19 => ?_
      refine imp_i fun h20 => ?_
      refine imp_i fun h21 => ?_
      try simp only [sigAdd64, add64Post, List.cons.injEq, DV.b.injEq, and_true, List.length_cons, List.length_nil] at h21
      refine bR_dec (fun h22 => ?_) (fun h22 => ?_)
      ·
        refine all_i fun n8 => ?_
        refine imp_i fun h23 => ?_
        simp only [wrap_u64] at h23
        have e8 : n8 = n2 - 64 := by omega
        have wh := words_high (h := n6) (l := n4) (n := n2) (by omega) (by omega) (by omega)
        rw [e8, shrU_eq (by omega) (by omega), ← wh, show n6 * 18446744073709551616 + n4 = n0 * 18446744073709551616 + n1 + p2 (n2 - 1) by omega, ← es]
        have bd := shR_bd (W := n0 * 18446744073709551616 + n1) (n := n2) (by omega) (by omega) (by omega)
        refine imp_i fun h24 => ?_
        refine imp_i fun h25 => ?_
        refine req_i ?_ ?_
        · -- r15
          first | omega | assumption | grind
        refine req_i ?_ ?_
        · -- r16
          first | omega | assumption | grind
        refine req_i ?_ ?_
        · -- r17
          (simp only [sigDown, downPost]) <;> omega
        rfl
      ·
        refine all_i fun n9 => ?_
        refine imp_i fun h26 => ?_
        simp only [wrap_u64] at h26
        skip
        refine imp_i fun h27 => ?_
        refine imp_i fun h28 => ?_
        refine req_i ?_ ?_
        · -- r18
          first | omega | assumption | grind
        refine req_i ?_ ?_
        · -- r19
          first | omega | assumption | grind
        refine req_i ?_ ?_
        · -- r20
          first | omega | assumption | grind
        refine req_i ?_ ?_
        · -- r21
          first | omega | assumption | grind
        refine req_i ?_ ?_
        · -- r22
          first | omega | ((try simp only [sigDown, downPre, downPost, List.cons.injEq, DV.b.injEq, and_true, List.length_cons, List.length_nil]); first | done | omega | assumption | grind [getD_set, getD_rep, toNat_succ, cntN_yes, cntN_no])
        rfl
    ·
      refine all_i fun n10 => ?_
      refine imp_i fun h29 => ?_
      simp only [wrap_u64] at h29
      have e10 : n10 = n2 - 1 := by omega
      rw [e10, shlU_one (by omega) (by omega)]
      have q1 : p2 (n2 - 1) ≤ p2 63 := p2_mono (by omega)
      rw [show p2 63 = 9223372036854775808 by decide] at q1
      refine imp_i fun h30 => ?_
      refine imp_i fun h31 => ?_
      refine req_i ?_ ?_
      · -- r23
        first | omega | assumption | grind
      refine req_i ?_ ?_
      · -- r24
        first | omega | assumption | grind
      refine req_i ?_ ?_
      · -- r25
        first | omega | assumption | grind
      refine req_i ?_ ?_
      · -- r26
        first | omega | assumption | grind
      refine req_i ?_ ?_
      · -- r27
        first | omega | ((try simp only [sigAdd64, add64Post, List.cons.injEq, DV.b.injEq, and_true, List.length_cons, List.length_nil]); first | done | omega | assumption | grind [getD_set, getD_rep, toNat_succ, cntN_yes, cntN_no])
      refine all_i fun n11 => ?_
      refine imp_i fun h32 => ?_
      refine imp_i fun h33 => ?_
      refine all_i fun n12 => ?_
      refine imp_i fun h34 => ?_
      refine imp_i fun h35 => ?_
      refine imp_i fun h36 => ?_
      try simp only [sigAdd64, add64Post, List.cons.injEq, DV.b.injEq, and_true, List.length_cons, List.length_nil] at h36
      refine req_i ?_ ?_
      · -- r28
        first | omega | assumption | grind
      refine req_i ?_ ?_
      · -- r29
        first | omega | assumption | grind
      refine req_i ?_ ?_
      · -- r30
        first | omega | assumption | grind
      refine req_i ?_ ?_
      · -- r31
        first | omega | assumption | grind
      refine req_i ?_ ?_
      · -- r32
        first | trivial | assumption | (simp only [sigAdd64, add64Post, List.cons.injEq, DV.b.injEq, and_true, List.length_cons, List.length_nil]; done) | ((try simp only [sigAdd64, add64Post, List.cons.injEq, DV.b.injEq, and_true, List.length_cons, List.length_nil]); first | omega | assumption | grind)
      refine all_i fun n13 => ?_
      refine imp_i fun h37 => ?_
      refine imp_i fun h38 => ?_
      refine all_i fun n14 => ?_
      refine imp_i fun h39 => ?_
      refine imp_i fun h40 => ?_
      refine imp_i fun h41 => ?_
      try simp only [sigAdd64, add64Post, List.cons.injEq, DV.b.injEq, and_true, List.length_cons, List.length_nil] at h41
      refine bR_dec (fun h42 => ?_) (fun h42 => ?_)
      ·
        refine all_i fun n15 => ?_
        refine imp_i fun h43 => ?_
        simp only [wrap_u64] at h43
        have e15 : n15 = n2 - 64 := by omega
        have wh := words_high (h := n13) (l := n11) (n := n2) (by omega) (by omega) (by omega)
        rw [e15, shrU_eq (by omega) (by omega), ← wh, show n13 * 18446744073709551616 + n11 = n0 * 18446744073709551616 + n1 + p2 (n2 - 1) by omega, ← es]
        have bd := shR_bd (W := n0 * 18446744073709551616 + n1) (n := n2) (by omega) (by omega) (by omega)
        refine imp_i fun h44 => ?_
        refine imp_i fun h45 => ?_
        refine req_i ?_ ?_
        · -- r33
          first | omega | assumption | grind
        refine req_i ?_ ?_
        · -- r34
          first | omega | assumption | grind
        refine req_i ?_ ?_
        · -- r35
          (simp only [sigDown, downPost]) <;> omega
        rfl
      ·
        refine all_i fun n16 => ?_
        refine imp_i fun h46 => ?_
        simp only [wrap_u64] at h46
        have e16 : n16 = 64 - n2 := by omega
        obtain ⟨w1, w2, w3⟩ := words_down (h := n13) (l := n11) (n := n2) (by omega) (by omega) (by omega) (by omega) (by omega)
        rw [e16, shrU_eq (by omega) (by omega), shrU_eq (by omega) (by omega), shlU_eq (by omega) (by omega)]
        rw [show n13 * 18446744073709551616 + n11 = n0 * 18446744073709551616 + n1 + p2 (n2 - 1) by omega, ← es] at w1
        have d1 := Int.ediv_nonneg (a := n13) (b := p2 n2) (by omega) (Int.le_of_lt (p2_pos n2))
        have d2 := Int.ediv_le_self (p2 n2) (show 0 ≤ n13 by omega)
        refine imp_i fun h47 => ?_
        refine imp_i fun h48 => ?_
        refine req_i ?_ ?_
        · -- r36
          first | omega | assumption | grind
        refine req_i ?_ ?_
        · -- r37
          first | omega | assumption | grind
        refine req_i ?_ ?_
        · -- r38
          first | omega | assumption | grind
        refine req_i ?_ ?_
        · -- r39
          first | omega | assumption | grind
        refine req_i ?_ ?_
        · -- r40
          simp only [sigDown, downPost]; exact w1
        rfl
theorem ext_down : ∀ p ∈ ([(54, Ext.ctr (ctOf sigAdd64))] : List (Nat × Ext)), ExtRow Try.prog p.1 p.2 := by
  intro p hp
  simp only [List.mem_cons, List.not_mem_nil, or_false] at hp
  rcases hp with rfl
  · trivial
theorem cts_down : CtsOk Try.prog [(54, Ext.ctr (ctOf sigAdd64))] := ctsOk_of (cs := [(54, sigAdd64)])
  (fun p hp => by
    simp only [List.mem_cons, List.not_mem_nil, or_false] at hp
    rcases hp with rfl
    · exact fn_add64
)
  (fun f c h => by
    simp only [List.lookup_cons] at h
    repeat' split at h
    all_goals first | (cases h; done) | (rename_i e; have e := beq_iff_eq.1 e; subst e; cases h; exact ⟨_, by simp, rfl⟩))
theorem fn_down : FnOk Try.prog 47 sigDown [] := fn_sound (by kernel_rfl) ext_down cts_down names vt_down
end Go.Proofs.Ytcddopooofdgcaa

namespace Go.Proofs.Ytcddopooofdgcaa
open Go.Ev Go.Sp
set_option maxRecDepth 100000
theorem vc_up : vcFn Try.prog [] tab [] 100 48 sigUp = (allB fun n0 : Int => 
impB ((0 : Int) ≤ n0) (
impB (n0 ≤ (0 : Int)) (
allB fun n1 : Int => 
impB ((0 : Int) ≤ n1) (
impB (n1 ≤ (9223372036854775808 : Int)) (
allB fun n2 : Int => 
impB ((0 : Int) ≤ n2) (
impB (n2 ≤ (64 : Int)) (
impB (sigUp.pre [DV.n n0, DV.n n1, DV.n n2]) (
reqB ((0 : Int) ≤
  opI (SO.or Go.IntKind.u64) (Int.ofNat (0 : Nat))
    (opI (SO.shr Go.IntKind.u64) n1 ((64 : Int) - n2))) (
reqB (opI (SO.or Go.IntKind.u64) (Int.ofNat (0 : Nat))
    (opI (SO.shr Go.IntKind.u64) n1 ((64 : Int) - n2)) ≤
  (18446744073709551615 : Int)) (
reqB ((0 : Int) ≤ opI (SO.shl Go.IntKind.u64) n1 n2) (
reqB (opI (SO.shl Go.IntKind.u64) n1 n2 ≤ (18446744073709551615 : Int)) (
reqB (sigUp.post [DV.n n0, DV.n n1, DV.n n2]
  [DV.n
      (opI (SO.or Go.IntKind.u64) (Int.ofNat (0 : Nat))
        (opI (SO.shr Go.IntKind.u64) n1 ((64 : Int) - n2))),
    DV.n (opI (SO.shl Go.IntKind.u64) n1 n2)]) (
true))))))))))))) := by kernel_rfl
set_option maxHeartbeats 8000000 in
theorem vt_up : vcFn Try.prog [] tab [] 100 48 sigUp = true := by
  rw [vc_up]
  try simp only [Int.toNat_natCast, List.length_set, List.length_replicate, List.length_take, List.length_drop, List.length_append, List.length_cons, List.length_nil, Nat.min_self, List.take_take, lenCols_i, lenCols_b, List.drop_zero, List.take_length, Nat.add_eq, Nat.mul_eq, Nat.sub_eq, Nat.zero_add, Nat.sub_zero, Nat.mul_one]
  refine all_i fun n0 => ?_
  refine imp_i fun h0 => ?_
  refine imp_i fun h1 => ?_
  refine all_i fun n1 => ?_
  refine imp_i fun h2 => ?_
  refine imp_i fun h3 => ?_
  refine all_i fun n2 => ?_
  refine imp_i fun h4 => ?_
  refine imp_i fun h5 => ?_
  refine imp_i fun h6 => ?_
  try simp only [sigUp, upPost, List.cons.injEq, DV.b.injEq, and_true, List.length_cons, List.length_nil] at h6
  have e1 : opI (.shr .u64) n1 (64 - n2) = n1 / p2 (64 - n2) := shrU_eq (by omega) (by omega)
  have e2 : opI (.shl .u64) n1 n2 = n1 * p2 n2 % 18446744073709551616 := shlU_eq (by omega) (by omega)
  have d1 := Int.ediv_nonneg (a := n1) (b := p2 (64 - n2)) (by omega) (Int.le_of_lt (p2_pos (64 - n2)))
  have d2 := Int.ediv_le_self (p2 (64 - n2)) (show 0 ≤ n1 by omega)
  rw [e1, e2, or0 d1 (by omega)]
  have um := up_math (l := n1) (n := n2) (by omega) (by omega) (by omega)
  refine req_i ?_ ?_
  · -- r0
    first | omega | assumption | grind
  refine req_i ?_ ?_
  · -- r1
    first | omega | assumption | grind
  refine req_i ?_ ?_
  · -- r2
    first | omega | assumption | grind
  refine req_i ?_ ?_
  · -- r3
    first | omega | assumption | grind
  refine req_i ?_ ?_
  · -- r4
    first | omega | ((try simp only [sigUp, upPost, List.cons.injEq, DV.b.injEq, and_true, List.length_cons, List.length_nil]); first | done | omega | assumption | grind [getD_set, getD_rep, toNat_succ, cntN_yes, cntN_no])
  rfl
theorem ext_up : ∀ p ∈ ([] : List (Nat × Ext)), ExtRow Try.prog p.1 p.2 := by
  intro p hp
  cases hp
theorem cts_up : CtsOk Try.prog [] := fun f c h => by cases h
theorem fn_up : FnOk Try.prog 48 sigUp [] := fn_sound (by kernel_rfl) ext_up cts_up names vt_up
end Go.Proofs.Ytcddopooofdgcaa

namespace Go.Proofs.Ytcddopooofdgcaa
open Go.Ev Go.Sp
set_option maxRecDepth 100000
theorem vc_shift : vcFn Try.prog [(46, Ext.ctr (ctOf sigSize)), (47, Ext.ctr (ctOf sigDown)), (48, Ext.ctr (ctOf sigUp)), (44, Ext.ctr (ctOf sigSat))] tab [] 100 14 sigShift = (allB fun n0 : Int => 
impB ((-9223372036854775808 : Int) ≤ n0) (
impB (n0 ≤ (9223372036854775807 : Int)) (
allB fun n1 : Int => 
impB ((-9223372036854775808 : Int) ≤ n1) (
impB (n1 ≤ (9223372036854775807 : Int)) (
impB (sigShift.pre [DV.n n0, DV.n n1]) (
reqB ((-9223372036854775808 : Int) ≤ n0) (
reqB (n0 ≤ (9223372036854775807 : Int)) (
reqB (sigSize.pre [DV.n n0]) (
allB fun n2 : Int => 
impB ((0 : Int) ≤ n2) (
impB (n2 ≤ (9223372036854775808 : Int)) (
impB (sigSize.post [DV.n n0] [DV.n n2]) (
bR (dec (n1 < (-126 : Int))) (
 reqB (sigShift.post [DV.n n0, DV.n n1] [DV.n (0 : Int)]) (
 true)) (
 bR (dec (n1 < (0 : Int))) (
  allB fun n3 : Int => 
  impB (n3 = Go.IntKind.i64.wrap ((0 : Int) - n1)) (
  impB (Int.negSucc (9223372036854775807 : Nat) ≤ n3) (
  impB (n3 ≤ Int.ofNat (9223372036854775807 : Nat)) (
  allB fun n4 : Int => 
  impB (n4 = Go.IntKind.u64.wrap n3) (
  impB (Int.ofNat (0 : Nat) ≤ n4) (
  impB (n4 ≤ Int.ofNat (18446744073709551615 : Nat)) (
  reqB ((0 : Int) ≤ n2) (
  reqB (n2 ≤ (18446744073709551615 : Int)) (
  reqB ((0 : Int) ≤ n4) (
  reqB (n4 ≤ (126 : Int)) (
  reqB (sigDown.pre [DV.n (0 : Int), DV.n n2, DV.n n4]) (
  allB fun n5 : Int => 
  impB ((0 : Int) ≤ n5) (
  impB (n5 ≤ (18446744073709551615 : Int)) (
  allB fun n6 : Int => 
  impB ((0 : Int) ≤ n6) (
  impB (n6 ≤ (18446744073709551615 : Int)) (
  impB (sigDown.post [DV.n (0 : Int), DV.n n2, DV.n n4] [DV.n n5, DV.n n6]) (
  reqB ((0 : Int) ≤ n5) (
  reqB (n5 ≤ (18446744073709551615 : Int)) (
  reqB ((0 : Int) ≤ n6) (
  reqB (n6 ≤ (18446744073709551615 : Int)) (
  reqB (sigSat.pre [DV.b (dec (n0 < (0 : Int))), DV.n n5, DV.n n6]) (
  allB fun n7 : Int => 
  impB ((-9223372036854775808 : Int) ≤ n7) (
  impB (n7 ≤ (9223372036854775807 : Int)) (
  impB (sigSat.post [DV.b (dec (n0 < (0 : Int))), DV.n n5, DV.n n6] [DV.n n7]) (
  reqB ((-9223372036854775808 : Int) ≤ n7) (
  reqB (n7 ≤ (9223372036854775807 : Int)) (
  reqB (sigShift.post [DV.n n0, DV.n n1] [DV.n n7]) (
  true)))))))))))))))))))))))))))) (
  allB fun n8 : Int => 
  impB (n8 = Go.IntKind.u64.wrap (Min.min n1 (64 : Int))) (
  impB (Int.ofNat (0 : Nat) ≤ n8) (
  impB (n8 ≤ Int.ofNat (18446744073709551615 : Nat)) (
  reqB ((0 : Int) ≤ n2) (
  reqB (n2 ≤ (9223372036854775808 : Int)) (
  reqB ((0 : Int) ≤ n8) (
  reqB (n8 ≤ (64 : Int)) (
  reqB (sigUp.pre [DV.n (0 : Int), DV.n n2, DV.n n8]) (
  allB fun n9 : Int => 
  impB ((0 : Int) ≤ n9) (
  impB (n9 ≤ (18446744073709551615 : Int)) (
  allB fun n10 : Int => 
  impB ((0 : Int) ≤ n10) (
  impB (n10 ≤ (18446744073709551615 : Int)) (
  impB (sigUp.post [DV.n (0 : Int), DV.n n2, DV.n n8] [DV.n n9, DV.n n10]) (
  reqB ((0 : Int) ≤ n9) (
  reqB (n9 ≤ (18446744073709551615 : Int)) (
  reqB ((0 : Int) ≤ n10) (
  reqB (n10 ≤ (18446744073709551615 : Int)) (
  reqB (sigSat.pre [DV.b (dec (n0 < (0 : Int))), DV.n n9, DV.n n10]) (
  allB fun n11 : Int => 
  impB ((-9223372036854775808 : Int) ≤ n11) (
  impB (n11 ≤ (9223372036854775807 : Int)) (
  impB (sigSat.post [DV.b (dec (n0 < (0 : Int))), DV.n n9, DV.n n10] [DV.n n11]) (
  reqB ((-9223372036854775808 : Int) ≤ n11) (
  reqB (n11 ≤ (9223372036854775807 : Int)) (
  reqB (sigShift.post [DV.n n0, DV.n n1] [DV.n n11]) (
  true)))))))))))))))))))))))))))))))))))))) := by kernel_rfl
set_option maxHeartbeats 8000000 in
theorem vt_shift : vcFn Try.prog [(46, Ext.ctr (ctOf sigSize)), (47, Ext.ctr (ctOf sigDown)), (48, Ext.ctr (ctOf sigUp)), (44, Ext.ctr (ctOf sigSat))] tab [] 100 14 sigShift = true := by
  rw [vc_shift]
  try simp only [Int.toNat_natCast, List.length_set, List.length_replicate, List.length_take, List.length_drop, List.length_append, List.length_cons, List.length_nil, Nat.min_self, List.take_take, lenCols_i, lenCols_b, List.drop_zero, List.take_length, Nat.add_eq, Nat.mul_eq, Nat.sub_eq, Nat.zero_add, Nat.sub_zero, Nat.mul_one]
  refine all_i fun n0 => ?_
  refine imp_i fun h0 => ?_
  refine imp_i fun h1 => ?_
  refine all_i fun n1 => ?_
  refine imp_i fun h2 => ?_
  refine imp_i fun h3 => ?_
  refine imp_i fun h4 => ?_
  try simp only [sigShift, shiftPost, List.cons.injEq, DV.b.injEq, and_true, List.length_cons, List.length_nil] at h4
  refine req_i ?_ ?_
  · -- r0
    first | omega | assumption | grind
  refine req_i ?_ ?_
  · -- r1
    first | omega | assumption | grind
  refine req_i ?_ ?_
  · -- r2
    first | trivial | assumption | (simp only [sigSize, sizePost, List.cons.injEq, DV.b.injEq, and_true, List.length_cons, List.length_nil]; done) | ((try simp only [sigSize, sizePost, List.cons.injEq, DV.b.injEq, and_true, List.length_cons, List.length_nil]); first | omega | assumption | grind)
  refine all_i fun n2 => ?_
  refine imp_i fun h5 => ?_
  refine imp_i fun h6 => ?_
  refine imp_i fun h7 => ?_
  try simp only [sigSize, sizePost, List.cons.injEq, DV.b.injEq, and_true, List.length_cons, List.length_nil] at h7
  have ab : 0 ≤ absI n0 := by omega
  refine bR_dec (fun h8 => ?_) (fun h8 => ?_)
  ·
    refine req_i ?_ ?_
    · -- r3
      simp only [sigShift, shiftPost]; rw [shF_zero (by omega) (by omega) (by omega)]
    rfl
  ·
    refine bR_dec (fun h9 => ?_) (fun h9 => ?_)
    ·
      refine all_i fun n3 => ?_
      refine imp_i fun h10 => ?_
      simp only [wrap_i64] at h10
      refine imp_i fun h11 => ?_
      refine imp_i fun h12 => ?_
      refine all_i fun n4 => ?_
      refine imp_i fun h13 => ?_
      simp only [wrap_u64] at h13
      refine imp_i fun h14 => ?_
      refine imp_i fun h15 => ?_
      refine req_i ?_ ?_
      · -- r4
        first | omega | assumption | grind
      refine req_i ?_ ?_
      · -- r5
        first | omega | assumption | grind
      refine req_i ?_ ?_
      · -- r6
        first | omega | assumption | grind
      refine req_i ?_ ?_
      · -- r7
        first | omega | assumption | grind
      refine req_i ?_ ?_
      · -- r8
        first | trivial | assumption | (simp only [sigDown, downPre, downPost, List.cons.injEq, DV.b.injEq, and_true, List.length_cons, List.length_nil]; done) | ((try simp only [sigDown, downPre, downPost, List.cons.injEq, DV.b.injEq, and_true, List.length_cons, List.length_nil]); first | omega | assumption | grind)
      refine all_i fun n5 => ?_
      refine imp_i fun h16 => ?_
      refine imp_i fun h17 => ?_
      refine all_i fun n6 => ?_
      refine imp_i fun h18 => ?_
      refine imp_i fun h19 => ?_
      refine imp_i fun h20 => ?_
      try simp only [sigDown, downPre, downPost, List.cons.injEq, DV.b.injEq, and_true, List.length_cons, List.length_nil] at h20
      refine req_i ?_ ?_
      · -- r9
        first | omega | assumption | grind
      refine req_i ?_ ?_
      · -- r10
        first | omega | assumption | grind
      refine req_i ?_ ?_
      · -- r11
        first | omega | assumption | grind
      refine req_i ?_ ?_
      · -- r12
        first | omega | assumption | grind
      refine req_i ?_ ?_
      · -- r13
        first | trivial | assumption | (simp only [sigSat, satPost, sat, List.cons.injEq, DV.b.injEq, and_true, List.length_cons, List.length_nil, dec_iff]; done) | ((try simp only [sigSat, satPost, sat, List.cons.injEq, DV.b.injEq, and_true, List.length_cons, List.length_nil, dec_iff]); first | omega | assumption | grind)
      refine all_i fun n7 => ?_
      refine imp_i fun h21 => ?_
      refine imp_i fun h22 => ?_
      refine imp_i fun h23 => ?_
      try simp only [Int.toNat_natCast, List.length_set, List.length_replicate, List.length_take, List.length_drop, List.length_append, List.length_cons, List.length_nil, Nat.min_self, List.take_take, lenCols_i, lenCols_b, List.drop_zero, List.take_length, Nat.add_eq, Nat.mul_eq, Nat.sub_eq, Nat.zero_add, Nat.sub_zero, Nat.mul_one] at h23
      have q : n7 = sat (if (dec (n0 < 0)) = true then -(n5 * 18446744073709551616 + n6) else n5 * 18446744073709551616 + n6) := h23
      simp only [dec_iff] at q
      rw [h20, Int.zero_mul, Int.zero_add, h7] at q
      have sd := shift_dn (a := n0) (n := n1) (k := n4) (r := n7) (by omega) (by omega) (by omega) (by omega) q
      refine req_i ?_ ?_
      · -- r14
        first | omega | assumption | grind
      refine req_i ?_ ?_
      · -- r15
        first | omega | assumption | grind
      refine req_i ?_ ?_
      · -- r16
        exact sd
      rfl
    ·
      refine all_i fun n8 => ?_
      refine imp_i fun h24 => ?_
      simp only [wrap_u64] at h24
      refine imp_i fun h25 => ?_
      refine imp_i fun h26 => ?_
      refine req_i ?_ ?_
      · -- r17
        first | omega | assumption | grind
      refine req_i ?_ ?_
      · -- r18
        first | omega | assumption | grind
      refine req_i ?_ ?_
      · -- r19
        first | omega | assumption | grind
      refine req_i ?_ ?_
      · -- r20
        first | omega | assumption | grind
      refine req_i ?_ ?_
      · -- r21
        first | trivial | assumption | (simp only [sigUp, upPost, List.cons.injEq, DV.b.injEq, and_true, List.length_cons, List.length_nil]; done) | ((try simp only [sigUp, upPost, List.cons.injEq, DV.b.injEq, and_true, List.length_cons, List.length_nil]); first | omega | assumption | grind)
      refine all_i fun n9 => ?_
      refine imp_i fun h27 => ?_
      refine imp_i fun h28 => ?_
      refine all_i fun n10 => ?_
      refine imp_i fun h29 => ?_
      refine imp_i fun h30 => ?_
      refine imp_i fun h31 => ?_
      try simp only [sigUp, upPost, List.cons.injEq, DV.b.injEq, and_true, List.length_cons, List.length_nil] at h31
      refine req_i ?_ ?_
      · -- r22
        first | omega | assumption | grind
      refine req_i ?_ ?_
      · -- r23
        first | omega | assumption | grind
      refine req_i ?_ ?_
      · -- r24
        first | omega | assumption | grind
      refine req_i ?_ ?_
      · -- r25
        first | omega | assumption | grind
      refine req_i ?_ ?_
      · -- r26
        first | trivial | assumption | (simp only [sigSat, satPost, sat, List.cons.injEq, DV.b.injEq, and_true, List.length_cons, List.length_nil, dec_iff]; done) | ((try simp only [sigSat, satPost, sat, List.cons.injEq, DV.b.injEq, and_true, List.length_cons, List.length_nil, dec_iff]); first | omega | assumption | grind)
      refine all_i fun n11 => ?_
      refine imp_i fun h32 => ?_
      refine imp_i fun h33 => ?_
      refine imp_i fun h34 => ?_
      try simp only [Int.toNat_natCast, List.length_set, List.length_replicate, List.length_take, List.length_drop, List.length_append, List.length_cons, List.length_nil, Nat.min_self, List.take_take, lenCols_i, lenCols_b, List.drop_zero, List.take_length, Nat.add_eq, Nat.mul_eq, Nat.sub_eq, Nat.zero_add, Nat.sub_zero, Nat.mul_one] at h34
      have q : n11 = sat (if (dec (n0 < 0)) = true then -(n9 * 18446744073709551616 + n10) else n9 * 18446744073709551616 + n10) := h34
      simp only [dec_iff] at q
      rw [h31, h7] at q
      have su := shift_up (a := n0) (n := n1) (k := n8) (r := n11) (by omega) (by omega) q
      refine req_i ?_ ?_
      · -- r27
        first | omega | assumption | grind
      refine req_i ?_ ?_
      · -- r28
        first | omega | assumption | grind
      refine req_i ?_ ?_
      · -- r29
        exact su
      rfl
theorem ext_shift : ∀ p ∈ ([(46, Ext.ctr (ctOf sigSize)), (47, Ext.ctr (ctOf sigDown)), (48, Ext.ctr (ctOf sigUp)), (44, Ext.ctr (ctOf sigSat))] : List (Nat × Ext)), ExtRow Try.prog p.1 p.2 := by
  intro p hp
  simp only [List.mem_cons, List.not_mem_nil, or_false] at hp
  rcases hp with rfl | rfl | rfl | rfl
  · trivial
  · trivial
  · trivial
  · trivial
theorem cts_shift : CtsOk Try.prog [(46, Ext.ctr (ctOf sigSize)), (47, Ext.ctr (ctOf sigDown)), (48, Ext.ctr (ctOf sigUp)), (44, Ext.ctr (ctOf sigSat))] := ctsOk_of (cs := [(46, sigSize), (47, sigDown), (48, sigUp), (44, sigSat)])
  (fun p hp => by
    simp only [List.mem_cons, List.not_mem_nil, or_false] at hp
    rcases hp with rfl | rfl | rfl | rfl
    · exact fn_size
    · exact fn_down
    · exact fn_up
    · exact fn_sat
)
  (fun f c h => by
    simp only [List.lookup_cons] at h
    repeat' split at h
    all_goals first | (cases h; done) | (rename_i e; have e := beq_iff_eq.1 e; subst e; cases h; exact ⟨_, by simp, rfl⟩))
theorem fn_shift : FnOk Try.prog 14 sigShift [] := fn_sound (by kernel_rfl) ext_shift cts_shift names vt_shift
end Go.Proofs.Ytcddopooofdgcaa

namespace Go.Proofs.Ytcddopooofdgcaa
open Go.Ev Go.Sp
set_option maxRecDepth 100000
theorem vc_sizeR : vcFn Try.prog [] tab [] 100 60 sigSize = (allB fun n0 : Int => 
impB ((-9223372036854775808 : Int) ≤ n0) (
impB (n0 ≤ (9223372036854775807 : Int)) (
impB (sigSize.pre [DV.n n0]) (
bR (dec (n0 < (0 : Int))) (
 allB fun n1 : Int => 
 impB (n1 = Go.IntKind.u64.wrap n0) (
 impB (Int.ofNat (0 : Nat) ≤ n1) (
 impB (n1 ≤ Int.ofNat (18446744073709551615 : Nat)) (
 allB fun n2 : Int => 
 impB (n2 = Go.IntKind.u64.wrap ((0 : Int) - n1)) (
 impB (Int.ofNat (0 : Nat) ≤ n2) (
 impB (n2 ≤ Int.ofNat (18446744073709551615 : Nat)) (
 reqB ((0 : Int) ≤ n2) (
 reqB (n2 ≤ (9223372036854775808 : Int)) (
 reqB (sigSize.post [DV.n n0] [DV.n n2]) (
 true)))))))))) (
 allB fun n3 : Int => 
 impB (n3 = Go.IntKind.u64.wrap n0) (
 impB (Int.ofNat (0 : Nat) ≤ n3) (
 impB (n3 ≤ Int.ofNat (18446744073709551615 : Nat)) (
 reqB ((0 : Int) ≤ n3) (
 reqB (n3 ≤ (9223372036854775808 : Int)) (
 reqB (sigSize.post [DV.n n0] [DV.n n3]) (
 true))))))))))) := by kernel_rfl
set_option maxHeartbeats 8000000 in
theorem vt_sizeR : vcFn Try.prog [] tab [] 100 60 sigSize = true := by
  rw [vc_sizeR]
  try simp only [Int.toNat_natCast, List.length_set, List.length_replicate, List.length_take, List.length_drop, List.length_append, List.length_cons, List.length_nil, Nat.min_self, List.take_take, lenCols_i, lenCols_b, List.drop_zero, List.take_length, Nat.add_eq, Nat.mul_eq, Nat.sub_eq, Nat.zero_add, Nat.sub_zero, Nat.mul_one]
  refine all_i fun n0 => ?_
  refine imp_i fun h0 => ?_
  refine imp_i fun h1 => ?_
  refine imp_i fun h2 => ?_
  try simp only [sigSize, sizePost, absI, List.cons.injEq, DV.b.injEq, and_true, List.length_cons, List.length_nil] at h2
  refine bR_dec (fun h3 => ?_) (fun h3 => ?_)
  ·
    refine all_i fun n1 => ?_
    refine imp_i fun h4 => ?_
    simp only [wrap_u64] at h4
    refine imp_i fun h5 => ?_
    refine imp_i fun h6 => ?_
    refine all_i fun n2 => ?_
    refine imp_i fun h7 => ?_
    simp only [wrap_u64] at h7
    refine imp_i fun h8 => ?_
    refine imp_i fun h9 => ?_
    refine req_i ?_ ?_
    · -- r0
      first | omega | assumption | grind
    refine req_i ?_ ?_
    · -- r1
      first | omega | assumption | grind
    refine req_i ?_ ?_
    · -- r2
      first | omega | ((try simp only [sigSize, sizePost, absI, List.cons.injEq, DV.b.injEq, and_true, List.length_cons, List.length_nil]); first | done | omega | assumption | grind [getD_set, getD_rep, toNat_succ, cntN_yes, cntN_no])
    rfl
  ·
    refine all_i fun n3 => ?_
    refine imp_i fun h10 => ?_
    simp only [wrap_u64] at h10
    refine imp_i fun h11 => ?_
    refine imp_i fun h12 => ?_
    refine req_i ?_ ?_
    · -- r3
      first | omega | assumption | grind
    refine req_i ?_ ?_
    · -- r4
      first | omega | assumption | grind
    refine req_i ?_ ?_
    · -- r5
      first | omega | ((try simp only [sigSize, sizePost, absI, List.cons.injEq, DV.b.injEq, and_true, List.length_cons, List.length_nil]); first | done | omega | assumption | grind [getD_set, getD_rep, toNat_succ, cntN_yes, cntN_no])
    rfl
theorem ext_sizeR : ∀ p ∈ ([] : List (Nat × Ext)), ExtRow Try.prog p.1 p.2 := by
  intro p hp
  cases hp
theorem cts_sizeR : CtsOk Try.prog [] := fun f c h => by cases h
theorem fn_sizeR : FnOk Try.prog 60 sigSize [] := fn_sound (by kernel_rfl) ext_sizeR cts_sizeR names vt_sizeR
end Go.Proofs.Ytcddopooofdgcaa

namespace Go.Proofs.Ytcddopooofdgcaa
open Go.Ev Go.Sp
set_option maxRecDepth 100000
theorem vc_hal : vcFn Try.prog [(54, Ext.ctr (ctOf sigAdd64))] tab [] 100 59 sigHal = (allB fun n0 : Int => 
impB ((0 : Int) ≤ n0) (
impB (n0 ≤ (18446744073709551615 : Int)) (
allB fun n1 : Int => 
impB ((0 : Int) ≤ n1) (
impB (n1 ≤ (18446744073709551615 : Int)) (
allB fun n2 : Int => 
impB ((0 : Int) ≤ n2) (
impB (n2 ≤ (126 : Int)) (
impB (sigHal.pre [DV.n n0, DV.n n1, DV.n n2]) (
reqB ((0 : Int) ≤ n0) (
reqB (n0 ≤ (18446744073709551615 : Int)) (
reqB ((0 : Int) ≤ n1) (
reqB (n1 ≤ (18446744073709551615 : Int)) (
reqB ((0 : Int) ≤ n2) (
reqB (n2 ≤ (126 : Int)) (
reqB ((0 : Int) ≤ n0) (
reqB (n0 ≤ (18446744073709551615 : Int)) (
reqB ((0 : Int) ≤ n1) (
reqB (n1 ≤ (18446744073709551615 : Int)) (
reqB ((0 : Int) ≤ n2) (
reqB (n2 ≤ (126 : Int)) (
reqB (halL.inv [DV.n n0, DV.n n1, DV.n n2] [DV.n n0, DV.n n1, DV.n n2]) (
allB fun n3 : Int => 
impB ((0 : Int) ≤ n3) (
impB (n3 ≤ (18446744073709551615 : Int)) (
allB fun n4 : Int => 
impB ((0 : Int) ≤ n4) (
impB (n4 ≤ (18446744073709551615 : Int)) (
allB fun n5 : Int => 
impB ((0 : Int) ≤ n5) (
impB (n5 ≤ (126 : Int)) (
impB (halL.inv [DV.n n0, DV.n n1, DV.n n2] [DV.n n3, DV.n n4, DV.n n5]) (
bR (dec ((1 : Int) < n5)) (
 allB fun n6 : Int => 
 impB (n6 = Go.IntKind.u64.wrap (n3 * Int.ofNat (9223372036854775808 : Nat))) (
 impB (Int.ofNat (0 : Nat) ≤ n6) (
 impB (n6 ≤ Int.ofNat (18446744073709551615 : Nat)) (
 reqB ((0 : Int) ≤ n3 / Int.ofNat (2 : Nat)) (
 reqB (n3 / Int.ofNat (2 : Nat) ≤ (18446744073709551615 : Int)) (
 reqB ((0 : Int) ≤ opI (SO.or Go.IntKind.u64) (n4 / Int.ofNat (2 : Nat)) n6) (
 reqB (opI (SO.or Go.IntKind.u64) (n4 / Int.ofNat (2 : Nat)) n6 ≤ (18446744073709551615 : Int)) (
 reqB ((0 : Int) ≤ n5 - (1 : Int)) (
 reqB (n5 - (1 : Int) ≤ (126 : Int)) (
 reqB (halL.inv [DV.n n0, DV.n n1, DV.n n2]
  [DV.n (n3 / Int.ofNat (2 : Nat)),
    DV.n (opI (SO.or Go.IntKind.u64) (n4 / Int.ofNat (2 : Nat)) n6), DV.n (n5 - (1 : Int))]) (
 reqB (halL.mea [DV.n n0, DV.n n1, DV.n n2]
    [DV.n (n3 / Int.ofNat (2 : Nat)),
      DV.n (opI (SO.or Go.IntKind.u64) (n4 / Int.ofNat (2 : Nat)) n6), DV.n (n5 - (1 : Int))] <
  halL.mea [DV.n n0, DV.n n1, DV.n n2] [DV.n n3, DV.n n4, DV.n n5]) (
 true)))))))))))) (
 bR (dec (n5 = (1 : Int))) (
  allB fun n7 : Int => 
  impB (n7 = Go.IntKind.u64.wrap (n3 * Int.ofNat (9223372036854775808 : Nat))) (
  impB (Int.ofNat (0 : Nat) ≤ n7) (
  impB (n7 ≤ Int.ofNat (18446744073709551615 : Nat)) (
  reqB ((0 : Int) ≤ opI (SO.or Go.IntKind.u64) (n4 / Int.ofNat (2 : Nat)) n7) (
  reqB (opI (SO.or Go.IntKind.u64) (n4 / Int.ofNat (2 : Nat)) n7 ≤ (18446744073709551615 : Int)) (
  reqB ((0 : Int) ≤ n4 % Int.ofNat (2 : Nat)) (
  reqB (n4 % Int.ofNat (2 : Nat) ≤ (18446744073709551615 : Int)) (
  reqB (sigAdd64.pre
  [DV.n (opI (SO.or Go.IntKind.u64) (n4 / Int.ofNat (2 : Nat)) n7),
    DV.n (n4 % Int.ofNat (2 : Nat)), DV.n (0 : Int)]) (
  allB fun n8 : Int => 
  impB ((0 : Int) ≤ n8) (
  impB (n8 ≤ (18446744073709551615 : Int)) (
  allB fun n9 : Int => 
  impB ((0 : Int) ≤ n9) (
  impB (n9 ≤ (1 : Int)) (
  impB (sigAdd64.post
  [DV.n (opI (SO.or Go.IntKind.u64) (n4 / Int.ofNat (2 : Nat)) n7),
    DV.n (n4 % Int.ofNat (2 : Nat)), DV.n (0 : Int)]
  [DV.n n8, DV.n n9]) (
  reqB ((0 : Int) ≤ n3 / Int.ofNat (2 : Nat) + n9) (
  reqB (n3 / Int.ofNat (2 : Nat) + n9 ≤ (18446744073709551615 : Int)) (
  reqB ((0 : Int) ≤ n8) (
  reqB (n8 ≤ (18446744073709551615 : Int)) (
  reqB (sigHal.post [DV.n n0, DV.n n1, DV.n n2]
  [DV.n (n3 / Int.ofNat (2 : Nat) + n9), DV.n n8]) (
  true))))))))))))))))))) (
  reqB ((0 : Int) ≤ n3) (
  reqB (n3 ≤ (18446744073709551615 : Int)) (
  reqB ((0 : Int) ≤ n4) (
  reqB (n4 ≤ (18446744073709551615 : Int)) (
  reqB (sigHal.post [DV.n n0, DV.n n1, DV.n n2] [DV.n n3, DV.n n4]) (
  true))))))))))))))))))))))))))))))))))) := by kernel_rfl
set_option maxHeartbeats 8000000 in
theorem vt_hal : vcFn Try.prog [(54, Ext.ctr (ctOf sigAdd64))] tab [] 100 59 sigHal = true := by
  rw [vc_hal]
  try simp only [Int.toNat_natCast, List.length_set, List.length_replicate, List.length_take, List.length_drop, List.length_append, List.length_cons, List.length_nil, Nat.min_self, List.take_take, lenCols_i, lenCols_b, List.drop_zero, List.take_length, Nat.add_eq, Nat.mul_eq, Nat.sub_eq, Nat.zero_add, Nat.sub_zero, Nat.mul_one]
  refine all_i fun n0 => ?_
  refine imp_i fun h0 => ?_
  refine imp_i fun h1 => ?_
  refine all_i fun n1 => ?_
  refine imp_i fun h2 => ?_
  refine imp_i fun h3 => ?_
  refine all_i fun n2 => ?_
  refine imp_i fun h4 => ?_
  refine imp_i fun h5 => ?_
  refine imp_i fun h6 => ?_
  try simp only [sigHal, halPre, downPost, List.cons.injEq, DV.b.injEq, and_true, List.length_cons, List.length_nil] at h6
  have z0 : (n0 * 18446744073709551616 + n1) / p2 (n2 - n2) = n0 * 18446744073709551616 + n1 := by rw [show n2 - n2 = 0 by omega, show p2 0 = 1 by decide, Int.ediv_one]
  refine req_i ?_ ?_
  · -- r0
    first | omega | assumption | grind
  refine req_i ?_ ?_
  · -- r1
    first | omega | assumption | grind
  refine req_i ?_ ?_
  · -- r2
    first | omega | assumption | grind
  refine req_i ?_ ?_
  · -- r3
    first | omega | assumption | grind
  refine req_i ?_ ?_
  · -- r4
    first | omega | assumption | grind
  refine req_i ?_ ?_
  · -- r5
    first | omega | assumption | grind
  refine req_i ?_ ?_
  · -- r6
    first | omega | assumption | grind
  refine req_i ?_ ?_
  · -- r7
    first | omega | assumption | grind
  refine req_i ?_ ?_
  · -- r8
    first | omega | assumption | grind
  refine req_i ?_ ?_
  · -- r9
    first | omega | assumption | grind
  refine req_i ?_ ?_
  · -- r10
    first | omega | assumption | grind
  refine req_i ?_ ?_
  · -- r11
    first | omega | assumption | grind
  refine req_i ?_ ?_
  · -- r12
    simp only [halL, halInv]; exact ⟨by omega, by omega, by simp, z0.symm⟩
  refine all_i fun n3 => ?_
  refine imp_i fun h7 => ?_
  refine imp_i fun h8 => ?_
  refine all_i fun n4 => ?_
  refine imp_i fun h9 => ?_
  refine imp_i fun h10 => ?_
  refine all_i fun n5 => ?_
  refine imp_i fun h11 => ?_
  refine imp_i fun h12 => ?_
  refine imp_i fun h13 => ?_
  try simp only [halL, halInv, halMea, List.cons.injEq, DV.b.injEq, and_true, List.length_cons, List.length_nil] at h13
  refine bR_dec (fun h14 => ?_) (fun h14 => ?_)
  ·
    refine all_i fun n6 => ?_
    refine imp_i fun h15 => ?_
    simp only [wrap_u64] at h15
    simp only [show Int.ofNat 9223372036854775808 = 9223372036854775808 from rfl] at h15
    have wd := words_one (h := n3) (l := n4) (by omega) (by omega) (by omega)
    rw [← h15] at wd
    simp only [show Int.ofNat 2 = 2 from rfl]
    have ds := div_step (W := n0 * 18446744073709551616 + n1) (a := n2 - n5) (by omega)
    rw [show n2 - n5 + 1 = n2 - (n5 - 1) by omega] at ds
    refine imp_i fun h16 => ?_
    refine imp_i fun h17 => ?_
    refine req_i ?_ ?_
    · -- r13
      first | omega | assumption | grind
    refine req_i ?_ ?_
    · -- r14
      first | omega | assumption | grind
    refine req_i ?_ ?_
    · -- r15
      first | omega | assumption | grind
    refine req_i ?_ ?_
    · -- r16
      first | omega | assumption | grind
    refine req_i ?_ ?_
    · -- r17
      first | omega | assumption | grind
    refine req_i ?_ ?_
    · -- r18
      first | omega | assumption | grind
    refine req_i ?_ ?_
    · -- r19
      first | omega | ((try simp only [halL, halInv, halMea, List.cons.injEq, DV.b.injEq, and_true, List.length_cons, List.length_nil]); first | done | omega | assumption | grind [getD_set, getD_rep, toNat_succ, cntN_yes, cntN_no])
    refine req_i ?_ ?_
    · -- r20
      first | omega | ((try simp only [halL, halInv, halMea, List.cons.injEq, DV.b.injEq, and_true, List.length_cons, List.length_nil]); first | done | omega | assumption | grind [getD_set, getD_rep, toNat_succ, cntN_yes, cntN_no])
    rfl
  ·
    refine bR_dec (fun h18 => ?_) (fun h18 => ?_)
    ·
      refine all_i fun n7 => ?_
      refine imp_i fun h19 => ?_
      simp only [wrap_u64] at h19
      simp only [show Int.ofNat 9223372036854775808 = 9223372036854775808 from rfl] at h19
      have wd := words_one (h := n3) (l := n4) (by omega) (by omega) (by omega)
      rw [← h19] at wd
      simp only [show Int.ofNat 2 = 2 from rfl]
      have s2 := shR_two (W := n0 * 18446744073709551616 + n1) (n := n2) (by omega)
      rw [h18] at h13
      have dl := Int.ediv_le_self (a := n0 * 18446744073709551616 + n1) (p2 (n2 - 1)) (by omega)
      refine imp_i fun h20 => ?_
      refine imp_i fun h21 => ?_
      refine req_i ?_ ?_
      · -- r21
        first | omega | assumption | grind
      refine req_i ?_ ?_
      · -- r22
        first | omega | assumption | grind
      refine req_i ?_ ?_
      · -- r23
        first | omega | assumption | grind
      refine req_i ?_ ?_
      · -- r24
        first | omega | assumption | grind
      refine req_i ?_ ?_
      · -- r25
        first | omega | ((try simp only [sigAdd64, add64Post, List.cons.injEq, DV.b.injEq, and_true, List.length_cons, List.length_nil]); first | done | omega | assumption | grind [getD_set, getD_rep, toNat_succ, cntN_yes, cntN_no])
      refine all_i fun n8 => ?_
      refine imp_i fun h22 => ?_
      refine imp_i fun h23 => ?_
      refine all_i fun n9 => ?_
      refine imp_i fun h24 => ?_
      refine imp_i fun h25 => ?_
      refine imp_i fun h26 => ?_
      try simp only [sigAdd64, add64Post, List.cons.injEq, DV.b.injEq, and_true, List.length_cons, List.length_nil] at h26
      refine req_i ?_ ?_
      · -- r26
        first | omega | assumption | grind
      refine req_i ?_ ?_
      · -- r27
        first | omega | assumption | grind
      refine req_i ?_ ?_
      · -- r28
        first | omega | assumption | grind
      refine req_i ?_ ?_
      · -- r29
        first | omega | assumption | grind
      refine req_i ?_ ?_
      · -- r30
        first | omega | ((try simp only [sigHal, halPre, downPost, List.cons.injEq, DV.b.injEq, and_true, List.length_cons, List.length_nil]); first | done | omega | assumption | grind [getD_set, getD_rep, toNat_succ, cntN_yes, cntN_no])
      rfl
    ·
      have e5 : n5 = n2 := by omega
      have e2 : n2 = 0 := by omega
      rw [e5, z0] at h13
      have es : shR (n0 * 18446744073709551616 + n1) n2 = n0 * 18446744073709551616 + n1 := by rw [shR, if_pos e2]
      refine req_i ?_ ?_
      · -- r31
        first | omega | assumption | grind
      refine req_i ?_ ?_
      · -- r32
        first | omega | assumption | grind
      refine req_i ?_ ?_
      · -- r33
        first | omega | assumption | grind
      refine req_i ?_ ?_
      · -- r34
        first | omega | assumption | grind
      refine req_i ?_ ?_
      · -- r35
        first | omega | ((try simp only [sigHal, halPre, downPost, List.cons.injEq, DV.b.injEq, and_true, List.length_cons, List.length_nil]); first | done | omega | assumption | grind [getD_set, getD_rep, toNat_succ, cntN_yes, cntN_no])
      rfl
theorem ext_hal : ∀ p ∈ ([(54, Ext.ctr (ctOf sigAdd64))] : List (Nat × Ext)), ExtRow Try.prog p.1 p.2 := by
  intro p hp
  simp only [List.mem_cons, List.not_mem_nil, or_false] at hp
  rcases hp with rfl
  · trivial
theorem cts_hal : CtsOk Try.prog [(54, Ext.ctr (ctOf sigAdd64))] := ctsOk_of (cs := [(54, sigAdd64)])
  (fun p hp => by
    simp only [List.mem_cons, List.not_mem_nil, or_false] at hp
    rcases hp with rfl
    · exact fn_add64
)
  (fun f c h => by
    simp only [List.lookup_cons] at h
    repeat' split at h
    all_goals first | (cases h; done) | (rename_i e; have e := beq_iff_eq.1 e; subst e; cases h; exact ⟨_, by simp, rfl⟩))
theorem fn_hal : FnOk Try.prog 59 sigHal [] := fn_sound (by kernel_rfl) ext_hal cts_hal names vt_hal
end Go.Proofs.Ytcddopooofdgcaa

namespace Go.Proofs.Ytcddopooofdgcaa
open Go.Ev Go.Sp
set_option maxRecDepth 100000
theorem vc_sgn : vcFn Try.prog [] tab [] 100 61 sigSgn = (allB fun n0 : Int => 
impB ((0 : Int) ≤ n0) (
impB (n0 ≤ (18446744073709551615 : Int)) (
allB fun b1 : Bool => 
allB fun b2 : Bool => 
impB (sigSgn.pre [DV.n n0, DV.b b1, DV.b b2]) (
bR (b2) (
 bR (b1) (
  reqB (sigSgn.post [DV.n n0, DV.b b1, DV.b b2] [DV.n (-9223372036854775808 : Int)]) (
  true)) (
  bR (dec ((9223372036854775808 : Int) ≤ n0)) (
   reqB (sigSgn.post [DV.n n0, DV.b b1, DV.b b2] [DV.n (-9223372036854775808 : Int)]) (
   true)) (
   bR (b2) (
    allB fun n3 : Int => 
    impB (n3 = Go.IntKind.i64.wrap n0) (
    impB (Int.negSucc (9223372036854775807 : Nat) ≤ n3) (
    impB (n3 ≤ Int.ofNat (9223372036854775807 : Nat)) (
    allB fun n4 : Int => 
    impB (n4 = Go.IntKind.i64.wrap ((0 : Int) - n3)) (
    impB (Int.negSucc (9223372036854775807 : Nat) ≤ n4) (
    impB (n4 ≤ Int.ofNat (9223372036854775807 : Nat)) (
    reqB ((-9223372036854775808 : Int) ≤ n4) (
    reqB (n4 ≤ (9223372036854775807 : Int)) (
    reqB (sigSgn.post [DV.n n0, DV.b b1, DV.b b2] [DV.n n4]) (
    true)))))))))) (
    bR (b1) (
     reqB (sigSgn.post [DV.n n0, DV.b b1, DV.b b2] [DV.n (9223372036854775807 : Int)]) (
     true)) (
     bR (dec ((9223372036854775807 : Int) < n0)) (
      reqB (sigSgn.post [DV.n n0, DV.b b1, DV.b b2] [DV.n (9223372036854775807 : Int)]) (
      true)) (
      allB fun n5 : Int => 
      impB (n5 = Go.IntKind.i64.wrap n0) (
      impB (Int.negSucc (9223372036854775807 : Nat) ≤ n5) (
      impB (n5 ≤ Int.ofNat (9223372036854775807 : Nat)) (
      reqB ((-9223372036854775808 : Int) ≤ n5) (
      reqB (n5 ≤ (9223372036854775807 : Int)) (
      reqB (sigSgn.post [DV.n n0, DV.b b1, DV.b b2] [DV.n n5]) (
      true)))))))))))) (
 bR (b2) (
  allB fun n6 : Int => 
  impB (n6 = Go.IntKind.i64.wrap n0) (
  impB (Int.negSucc (9223372036854775807 : Nat) ≤ n6) (
  impB (n6 ≤ Int.ofNat (9223372036854775807 : Nat)) (
  allB fun n7 : Int => 
  impB (n7 = Go.IntKind.i64.wrap ((0 : Int) - n6)) (
  impB (Int.negSucc (9223372036854775807 : Nat) ≤ n7) (
  impB (n7 ≤ Int.ofNat (9223372036854775807 : Nat)) (
  reqB ((-9223372036854775808 : Int) ≤ n7) (
  reqB (n7 ≤ (9223372036854775807 : Int)) (
  reqB (sigSgn.post [DV.n n0, DV.b b1, DV.b b2] [DV.n n7]) (
  true)))))))))) (
  bR (b1) (
   reqB (sigSgn.post [DV.n n0, DV.b b1, DV.b b2] [DV.n (9223372036854775807 : Int)]) (
   true)) (
   bR (dec ((9223372036854775807 : Int) < n0)) (
    reqB (sigSgn.post [DV.n n0, DV.b b1, DV.b b2] [DV.n (9223372036854775807 : Int)]) (
    true)) (
    allB fun n8 : Int => 
    impB (n8 = Go.IntKind.i64.wrap n0) (
    impB (Int.negSucc (9223372036854775807 : Nat) ≤ n8) (
    impB (n8 ≤ Int.ofNat (9223372036854775807 : Nat)) (
    reqB ((-9223372036854775808 : Int) ≤ n8) (
    reqB (n8 ≤ (9223372036854775807 : Int)) (
    reqB (sigSgn.post [DV.n n0, DV.b b1, DV.b b2] [DV.n n8]) (
    true)))))))))))))) := by kernel_rfl
set_option maxHeartbeats 8000000 in
theorem vt_sgn : vcFn Try.prog [] tab [] 100 61 sigSgn = true := by
  rw [vc_sgn]
  try simp only [Int.toNat_natCast, List.length_set, List.length_replicate, List.length_take, List.length_drop, List.length_append, List.length_cons, List.length_nil, Nat.min_self, List.take_take, lenCols_i, lenCols_b, List.drop_zero, List.take_length, Nat.add_eq, Nat.mul_eq, Nat.sub_eq, Nat.zero_add, Nat.sub_zero, Nat.mul_one]
  refine all_i fun n0 => ?_
  refine imp_i fun h0 => ?_
  refine imp_i fun h1 => ?_
  refine all_i fun b1 => ?_
  refine all_i fun b2 => ?_
  refine imp_i fun h2 => ?_
  try simp only [sigSgn, sgnPost, sat, List.cons.injEq, DV.b.injEq, and_true, List.length_cons, List.length_nil] at h2
  refine bR_i (fun h3 => ?_) (fun h3 => ?_)
  ·
    refine bR_i (fun h4 => ?_) (fun h4 => ?_)
    ·
      refine req_i ?_ ?_
      · -- r0
        first | omega | ((try simp only [sigSgn, sgnPost, sat, List.cons.injEq, DV.b.injEq, and_true, List.length_cons, List.length_nil]); first | done | omega | assumption | grind [getD_set, getD_rep, toNat_succ, cntN_yes, cntN_no])
      rfl
    ·
      refine bR_dec (fun h5 => ?_) (fun h5 => ?_)
      ·
        refine req_i ?_ ?_
        · -- r1
          first | omega | ((try simp only [sigSgn, sgnPost, sat, List.cons.injEq, DV.b.injEq, and_true, List.length_cons, List.length_nil]); first | done | omega | assumption | grind [getD_set, getD_rep, toNat_succ, cntN_yes, cntN_no])
        rfl
      ·
        refine bR_i (fun h6 => ?_) (fun h6 => absurd (h3.symm.trans h6) (by decide))
        refine all_i fun n3 => ?_
        refine imp_i fun h7 => ?_
        simp only [wrap_i64] at h7
        refine imp_i fun h8 => ?_
        refine imp_i fun h9 => ?_
        refine all_i fun n4 => ?_
        refine imp_i fun h10 => ?_
        simp only [wrap_i64] at h10
        refine imp_i fun h11 => ?_
        refine imp_i fun h12 => ?_
        refine req_i ?_ ?_
        · -- r2
          first | omega | assumption | grind
        refine req_i ?_ ?_
        · -- r3
          first | omega | assumption | grind
        refine req_i ?_ ?_
        · -- r4
          first | omega | ((try simp only [sigSgn, sgnPost, sat, List.cons.injEq, DV.b.injEq, and_true, List.length_cons, List.length_nil]); first | done | omega | assumption | grind [getD_set, getD_rep, toNat_succ, cntN_yes, cntN_no])
        rfl
  ·
    refine bR_i (fun h13 => absurd (h13.symm.trans h3) (by decide)) (fun h13 => ?_)
    refine bR_i (fun h14 => ?_) (fun h14 => ?_)
    ·
      refine req_i ?_ ?_
      · -- r5
        first | omega | ((try simp only [sigSgn, sgnPost, sat, List.cons.injEq, DV.b.injEq, and_true, List.length_cons, List.length_nil]); first | done | omega | assumption | grind [getD_set, getD_rep, toNat_succ, cntN_yes, cntN_no])
      rfl
    ·
      refine bR_dec (fun h15 => ?_) (fun h15 => ?_)
      ·
        refine req_i ?_ ?_
        · -- r6
          first | omega | ((try simp only [sigSgn, sgnPost, sat, List.cons.injEq, DV.b.injEq, and_true, List.length_cons, List.length_nil]); first | done | omega | assumption | grind [getD_set, getD_rep, toNat_succ, cntN_yes, cntN_no])
        rfl
      ·
        refine all_i fun n8 => ?_
        refine imp_i fun h16 => ?_
        simp only [wrap_i64] at h16
        refine imp_i fun h17 => ?_
        refine imp_i fun h18 => ?_
        refine req_i ?_ ?_
        · -- r7
          first | omega | assumption | grind
        refine req_i ?_ ?_
        · -- r8
          first | omega | assumption | grind
        refine req_i ?_ ?_
        · -- r9
          first | omega | ((try simp only [sigSgn, sgnPost, sat, List.cons.injEq, DV.b.injEq, and_true, List.length_cons, List.length_nil]); first | done | omega | assumption | grind [getD_set, getD_rep, toNat_succ, cntN_yes, cntN_no])
        rfl
theorem ext_sgn : ∀ p ∈ ([] : List (Nat × Ext)), ExtRow Try.prog p.1 p.2 := by
  intro p hp
  cases hp
theorem cts_sgn : CtsOk Try.prog [] := fun f c h => by cases h
theorem fn_sgn : FnOk Try.prog 61 sigSgn [] := fn_sound (by kernel_rfl) ext_sgn cts_sgn names vt_sgn
end Go.Proofs.Ytcddopooofdgcaa

namespace Go.Proofs.Ytcddopooofdgcaa
open Go.Ev Go.Sp
set_option maxRecDepth 100000
theorem vc_shiftR : vcFn Try.prog [(27, Ext.ctr (ctOf sigAdd)), (60, Ext.ctr (ctOf sigSize)), (59, Ext.ctr (ctOf sigHal)), (61, Ext.ctr (ctOf sigSgn))] tab [] 100 30 sigShift = (allB fun n0 : Int => 
impB ((-9223372036854775808 : Int) ≤ n0) (
impB (n0 ≤ (9223372036854775807 : Int)) (
allB fun n1 : Int => 
impB ((-9223372036854775808 : Int) ≤ n1) (
impB (n1 ≤ (9223372036854775807 : Int)) (
impB (sigShift.pre [DV.n n0, DV.n n1]) (
bR (dec ((64 : Int) < n1)) (
 reqB ((-9223372036854775808 : Int) ≤ n0) (
 reqB (n0 ≤ (9223372036854775807 : Int)) (
 reqB ((-9223372036854775808 : Int) ≤ n0) (
 reqB (n0 ≤ (9223372036854775807 : Int)) (
 reqB (shLL.inv [DV.n n0, DV.n (64 : Int)] [DV.n n0, DV.n (64 : Int)]) (
 allB fun n2 : Int => 
 impB ((-9223372036854775808 : Int) ≤ n2) (
 impB (n2 ≤ (9223372036854775807 : Int)) (
 allB fun n3 : Int => 
 impB ((0 : Int) ≤ n3) (
 impB (n3 ≤ (64 : Int)) (
 impB (shLL.inv [DV.n n0, DV.n (64 : Int)] [DV.n n2, DV.n n3]) (
 bR (dec ((0 : Int) < n3)) (
  reqB ((-9223372036854775808 : Int) ≤ n2) (
  reqB (n2 ≤ (9223372036854775807 : Int)) (
  reqB ((-9223372036854775808 : Int) ≤ n2) (
  reqB (n2 ≤ (9223372036854775807 : Int)) (
  reqB (sigAdd.pre [DV.n n2, DV.n n2]) (
  allB fun n4 : Int => 
  impB ((-9223372036854775808 : Int) ≤ n4) (
  impB (n4 ≤ (9223372036854775807 : Int)) (
  impB (sigAdd.post [DV.n n2, DV.n n2] [DV.n n4]) (
  reqB ((-9223372036854775808 : Int) ≤ n4) (
  reqB (n4 ≤ (9223372036854775807 : Int)) (
  reqB ((0 : Int) ≤ n3 - (1 : Int)) (
  reqB (n3 - (1 : Int) ≤ (64 : Int)) (
  reqB (shLL.inv [DV.n n0, DV.n (64 : Int)] [DV.n n4, DV.n (n3 - (1 : Int))]) (
  reqB (shLL.mea [DV.n n0, DV.n (64 : Int)] [DV.n n4, DV.n (n3 - (1 : Int))] <
  shLL.mea [DV.n n0, DV.n (64 : Int)] [DV.n n2, DV.n n3]) (
  true))))))))))))))) (
  reqB ((-9223372036854775808 : Int) ≤ n2) (
  reqB (n2 ≤ (9223372036854775807 : Int)) (
  reqB (sigShift.post [DV.n n0, DV.n n1] [DV.n n2]) (
  true))))))))))))))) (
 bR (dec ((0 : Int) ≤ n1)) (
  reqB ((-9223372036854775808 : Int) ≤ n0) (
  reqB (n0 ≤ (9223372036854775807 : Int)) (
  reqB ((0 : Int) ≤ n1) (
  reqB (n1 ≤ (64 : Int)) (
  reqB ((-9223372036854775808 : Int) ≤ n0) (
  reqB (n0 ≤ (9223372036854775807 : Int)) (
  reqB ((0 : Int) ≤ n1) (
  reqB (n1 ≤ (64 : Int)) (
  reqB (shLL.inv [DV.n n0, DV.n n1] [DV.n n0, DV.n n1]) (
  allB fun n5 : Int => 
  impB ((-9223372036854775808 : Int) ≤ n5) (
  impB (n5 ≤ (9223372036854775807 : Int)) (
  allB fun n6 : Int => 
  impB ((0 : Int) ≤ n6) (
  impB (n6 ≤ (64 : Int)) (
  impB (shLL.inv [DV.n n0, DV.n n1] [DV.n n5, DV.n n6]) (
  bR (dec ((0 : Int) < n6)) (
   reqB ((-9223372036854775808 : Int) ≤ n5) (
   reqB (n5 ≤ (9223372036854775807 : Int)) (
   reqB ((-9223372036854775808 : Int) ≤ n5) (
   reqB (n5 ≤ (9223372036854775807 : Int)) (
   reqB (sigAdd.pre [DV.n n5, DV.n n5]) (
   allB fun n7 : Int => 
   impB ((-9223372036854775808 : Int) ≤ n7) (
   impB (n7 ≤ (9223372036854775807 : Int)) (
   impB (sigAdd.post [DV.n n5, DV.n n5] [DV.n n7]) (
   reqB ((-9223372036854775808 : Int) ≤ n7) (
   reqB (n7 ≤ (9223372036854775807 : Int)) (
   reqB ((0 : Int) ≤ n6 - (1 : Int)) (
   reqB (n6 - (1 : Int) ≤ (64 : Int)) (
   reqB (shLL.inv [DV.n n0, DV.n n1] [DV.n n7, DV.n (n6 - (1 : Int))]) (
   reqB (shLL.mea [DV.n n0, DV.n n1] [DV.n n7, DV.n (n6 - (1 : Int))] <
  shLL.mea [DV.n n0, DV.n n1] [DV.n n5, DV.n n6]) (
   true))))))))))))))) (
   reqB ((-9223372036854775808 : Int) ≤ n5) (
   reqB (n5 ≤ (9223372036854775807 : Int)) (
   reqB (sigShift.post [DV.n n0, DV.n n1] [DV.n n5]) (
   true))))))))))))))))))) (
  bR (dec (n1 < (-70 : Int))) (
   reqB (sigShift.post [DV.n n0, DV.n n1] [DV.n (0 : Int)]) (
   true)) (
   reqB ((-9223372036854775808 : Int) ≤ n0) (
   reqB (n0 ≤ (9223372036854775807 : Int)) (
   reqB (sigSize.pre [DV.n n0]) (
   allB fun n8 : Int => 
   impB ((0 : Int) ≤ n8) (
   impB (n8 ≤ (9223372036854775808 : Int)) (
   impB (sigSize.post [DV.n n0] [DV.n n8]) (
   allB fun n9 : Int => 
   impB (n9 = Go.IntKind.i64.wrap ((0 : Int) - n1)) (
   impB (Int.negSucc (9223372036854775807 : Nat) ≤ n9) (
   impB (n9 ≤ Int.ofNat (9223372036854775807 : Nat)) (
   reqB ((0 : Int) ≤ n8) (
   reqB (n8 ≤ (18446744073709551615 : Int)) (
   reqB ((0 : Int) ≤ n9) (
   reqB (n9 ≤ (126 : Int)) (
   reqB (sigHal.pre [DV.n (0 : Int), DV.n n8, DV.n n9]) (
   allB fun n10 : Int => 
   impB ((0 : Int) ≤ n10) (
   impB (n10 ≤ (18446744073709551615 : Int)) (
   allB fun n11 : Int => 
   impB ((0 : Int) ≤ n11) (
   impB (n11 ≤ (18446744073709551615 : Int)) (
   impB (sigHal.post [DV.n (0 : Int), DV.n n8, DV.n n9] [DV.n n10, DV.n n11]) (
   reqB ((0 : Int) ≤ n11) (
   reqB (n11 ≤ (18446744073709551615 : Int)) (
   reqB (sigSgn.pre [DV.n n11, DV.b Bool.false, DV.b (dec (n0 < (0 : Int)))]) (
   allB fun n12 : Int => 
   impB ((-9223372036854775808 : Int) ≤ n12) (
   impB (n12 ≤ (9223372036854775807 : Int)) (
   impB (sigSgn.post [DV.n n11, DV.b Bool.false, DV.b (dec (n0 < (0 : Int)))] [DV.n n12]) (
   reqB ((-9223372036854775808 : Int) ≤ n12) (
   reqB (n12 ≤ (9223372036854775807 : Int)) (
   reqB (sigShift.post [DV.n n0, DV.n n1] [DV.n n12]) (
   true))))))))))))))))))))))))))))))))))))) := by kernel_rfl
set_option maxHeartbeats 8000000 in
theorem vt_shiftR : vcFn Try.prog [(27, Ext.ctr (ctOf sigAdd)), (60, Ext.ctr (ctOf sigSize)), (59, Ext.ctr (ctOf sigHal)), (61, Ext.ctr (ctOf sigSgn))] tab [] 100 30 sigShift = true := by
  rw [vc_shiftR]
  try simp only [Int.toNat_natCast, List.length_set, List.length_replicate, List.length_take, List.length_drop, List.length_append, List.length_cons, List.length_nil, Nat.min_self, List.take_take, lenCols_i, lenCols_b, List.drop_zero, List.take_length, Nat.add_eq, Nat.mul_eq, Nat.sub_eq, Nat.zero_add, Nat.sub_zero, Nat.mul_one]
  refine all_i fun n0 => ?_
  refine imp_i fun h0 => ?_
  refine imp_i fun h1 => ?_
  refine all_i fun n1 => ?_
  refine imp_i fun h2 => ?_
  refine imp_i fun h3 => ?_
  refine imp_i fun h4 => ?_
  try simp only [sigShift, shiftPost, List.cons.injEq, DV.b.injEq, and_true, List.length_cons, List.length_nil] at h4
  have z0 : ∀ k : Int, sat (n0 * p2 (k - k)) = n0 := fun k => by rw [show k - k = 0 by omega, show p2 0 = 1 by decide, Int.mul_one]; unfold sat; omega
  refine bR_dec (fun h5 => ?_) (fun h5 => ?_)
  ·
    refine req_i ?_ ?_
    · -- r0
      first | omega | assumption | grind
    refine req_i ?_ ?_
    · -- r1
      first | omega | assumption | grind
    refine req_i ?_ ?_
    · -- r2
      first | omega | assumption | grind
    refine req_i ?_ ?_
    · -- r3
      first | omega | assumption | grind
    refine req_i ?_ ?_
    · -- r4
      simp only [shLL, shLInv]; exact ⟨by omega, by omega, (z0 64).symm⟩
    refine all_i fun n2 => ?_
    refine imp_i fun h6 => ?_
    refine imp_i fun h7 => ?_
    refine all_i fun n3 => ?_
    refine imp_i fun h8 => ?_
    refine imp_i fun h9 => ?_
    refine imp_i fun h10 => ?_
    try simp only [shLL, shLInv, shLMea, List.cons.injEq, DV.b.injEq, and_true, List.length_cons, List.length_nil] at h10
    refine bR_dec (fun h11 => ?_) (fun h11 => ?_)
    ·
      refine req_i ?_ ?_
      · -- r5
        first | omega | assumption | grind
      refine req_i ?_ ?_
      · -- r6
        first | omega | assumption | grind
      refine req_i ?_ ?_
      · -- r7
        first | omega | assumption | grind
      refine req_i ?_ ?_
      · -- r8
        first | omega | assumption | grind
      refine req_i ?_ ?_
      · -- r9
        first | trivial | assumption | (simp only [sigAdd, addP, List.cons.injEq, DV.b.injEq, and_true, List.length_cons, List.length_nil]; done) | ((try simp only [sigAdd, addP, List.cons.injEq, DV.b.injEq, and_true, List.length_cons, List.length_nil]); first | omega | assumption | grind)
      refine all_i fun n4 => ?_
      refine imp_i fun h12 => ?_
      refine imp_i fun h13 => ?_
      refine imp_i fun h14 => ?_
      try simp only [sigAdd, addP, List.cons.injEq, DV.b.injEq, and_true, List.length_cons, List.length_nil] at h14
      have ps := p2_succ (a := 64 - n3) (by omega)
      rw [show 64 - n3 + 1 = 64 - (n3 - 1) by omega] at ps
      have st := sat_two (x := n0 * p2 (64 - n3)) (y := n0 * p2 (64 - (n3 - 1))) (by rw [ps, Int.mul_assoc])
      rw [← h10.2.2, ← h14] at st
      refine req_i ?_ ?_
      · -- r10
        first | omega | assumption | grind
      refine req_i ?_ ?_
      · -- r11
        first | omega | assumption | grind
      refine req_i ?_ ?_
      · -- r12
        first | omega | assumption | grind
      refine req_i ?_ ?_
      · -- r13
        first | omega | assumption | grind
      refine req_i ?_ ?_
      · -- r14
        simp only [shLL, shLInv]; exact ⟨by omega, by omega, st⟩
      refine req_i ?_ ?_
      · -- r15
        first | omega | ((try simp only [shLL, shLInv, shLMea, List.cons.injEq, DV.b.injEq, and_true, List.length_cons, List.length_nil]); first | done | omega | assumption | grind [getD_set, getD_rep, toNat_succ, cntN_yes, cntN_no])
      rfl
    ·
      have e3 : n3 = 0 := by omega
      rw [e3] at h10
      have sf : n2 = shF n0 n1 := by rw [shF, if_pos (by omega), show min n1 64 = 64 - 0 by omega]; exact h10.2.2
      refine req_i ?_ ?_
      · -- r16
        first | omega | assumption | grind
      refine req_i ?_ ?_
      · -- r17
        first | omega | assumption | grind
      refine req_i ?_ ?_
      · -- r18
        exact sf
      rfl
  ·
    refine bR_dec (fun h15 => ?_) (fun h15 => ?_)
    ·
      refine req_i ?_ ?_
      · -- r19
        first | omega | assumption | grind
      refine req_i ?_ ?_
      · -- r20
        first | omega | assumption | grind
      refine req_i ?_ ?_
      · -- r21
        first | omega | assumption | grind
      refine req_i ?_ ?_
      · -- r22
        first | omega | assumption | grind
      refine req_i ?_ ?_
      · -- r23
        first | omega | assumption | grind
      refine req_i ?_ ?_
      · -- r24
        first | omega | assumption | grind
      refine req_i ?_ ?_
      · -- r25
        first | omega | assumption | grind
      refine req_i ?_ ?_
      · -- r26
        first | omega | assumption | grind
      refine req_i ?_ ?_
      · -- r27
        simp only [shLL, shLInv]; exact ⟨by omega, by omega, (z0 n1).symm⟩
      refine all_i fun n5 => ?_
      refine imp_i fun h16 => ?_
      refine imp_i fun h17 => ?_
      refine all_i fun n6 => ?_
      refine imp_i fun h18 => ?_
      refine imp_i fun h19 => ?_
      refine imp_i fun h20 => ?_
      try simp only [shLL, shLInv, shLMea, List.cons.injEq, DV.b.injEq, and_true, List.length_cons, List.length_nil] at h20
      refine bR_dec (fun h21 => ?_) (fun h21 => ?_)
      ·
        refine req_i ?_ ?_
        · -- r28
          first | omega | assumption | grind
        refine req_i ?_ ?_
        · -- r29
          first | omega | assumption | grind
        refine req_i ?_ ?_
        · -- r30
          first | omega | assumption | grind
        refine req_i ?_ ?_
        · -- r31
          first | omega | assumption | grind
        refine req_i ?_ ?_
        · -- r32
          first | trivial | assumption | (simp only [sigAdd, addP, List.cons.injEq, DV.b.injEq, and_true, List.length_cons, List.length_nil]; done) | ((try simp only [sigAdd, addP, List.cons.injEq, DV.b.injEq, and_true, List.length_cons, List.length_nil]); first | omega | assumption | grind)
        refine all_i fun n7 => ?_
        refine imp_i fun h22 => ?_
        refine imp_i fun h23 => ?_
        refine imp_i fun h24 => ?_
        try simp only [sigAdd, addP, List.cons.injEq, DV.b.injEq, and_true, List.length_cons, List.length_nil] at h24
        have ps := p2_succ (a := n1 - n6) (by omega)
        rw [show n1 - n6 + 1 = n1 - (n6 - 1) by omega] at ps
        have st := sat_two (x := n0 * p2 (n1 - n6)) (y := n0 * p2 (n1 - (n6 - 1))) (by rw [ps, Int.mul_assoc])
        rw [← h20.2.2, ← h24] at st
        refine req_i ?_ ?_
        · -- r33
          first | omega | assumption | grind
        refine req_i ?_ ?_
        · -- r34
          first | omega | assumption | grind
        refine req_i ?_ ?_
        · -- r35
          first | omega | assumption | grind
        refine req_i ?_ ?_
        · -- r36
          first | omega | assumption | grind
        refine req_i ?_ ?_
        · -- r37
          simp only [shLL, shLInv]; exact ⟨by omega, by omega, st⟩
        refine req_i ?_ ?_
        · -- r38
          first | omega | ((try simp only [shLL, shLInv, shLMea, List.cons.injEq, DV.b.injEq, and_true, List.length_cons, List.length_nil]); first | done | omega | assumption | grind [getD_set, getD_rep, toNat_succ, cntN_yes, cntN_no])
        rfl
      ·
        have e3 : n6 = 0 := by omega
        rw [e3] at h20
        have sf : n5 = shF n0 n1 := by rw [shF, if_pos (by omega), show min n1 64 = n1 - 0 by omega]; exact h20.2.2
        refine req_i ?_ ?_
        · -- r39
          first | omega | assumption | grind
        refine req_i ?_ ?_
        · -- r40
          first | omega | assumption | grind
        refine req_i ?_ ?_
        · -- r41
          exact sf
        rfl
    ·
      refine bR_dec (fun h25 => ?_) (fun h25 => ?_)
      ·
        have sz := shF_zero (a := n0) (n := n1) (by omega) (by omega) (by omega)
        refine req_i ?_ ?_
        · -- r42
          exact sz.symm
        rfl
      ·
        refine req_i ?_ ?_
        · -- r43
          first | omega | assumption | grind
        refine req_i ?_ ?_
        · -- r44
          first | omega | assumption | grind
        refine req_i ?_ ?_
        · -- r45
          first | trivial | assumption | (simp only [sigSize, sizePost, List.cons.injEq, DV.b.injEq, and_true, List.length_cons, List.length_nil]; done) | ((try simp only [sigSize, sizePost, List.cons.injEq, DV.b.injEq, and_true, List.length_cons, List.length_nil]); first | omega | assumption | grind)
        refine all_i fun n8 => ?_
        refine imp_i fun h26 => ?_
        refine imp_i fun h27 => ?_
        refine imp_i fun h28 => ?_
        try simp only [sigSize, sizePost, List.cons.injEq, DV.b.injEq, and_true, List.length_cons, List.length_nil] at h28
        have ab : 0 ≤ absI n0 := by omega
        refine all_i fun n9 => ?_
        refine imp_i fun h29 => ?_
        simp only [wrap_i64] at h29
        refine imp_i fun h30 => ?_
        refine imp_i fun h31 => ?_
        refine req_i ?_ ?_
        · -- r46
          first | omega | assumption | grind
        refine req_i ?_ ?_
        · -- r47
          first | omega | assumption | grind
        refine req_i ?_ ?_
        · -- r48
          first | omega | assumption | grind
        refine req_i ?_ ?_
        · -- r49
          first | omega | assumption | grind
        refine req_i ?_ ?_
        · -- r50
          first | trivial | assumption | (simp only [sigHal, halPre, downPost, List.cons.injEq, DV.b.injEq, and_true, List.length_cons, List.length_nil]; done) | ((try simp only [sigHal, halPre, downPost, List.cons.injEq, DV.b.injEq, and_true, List.length_cons, List.length_nil]); first | omega | assumption | grind)
        refine all_i fun n10 => ?_
        refine imp_i fun h32 => ?_
        refine imp_i fun h33 => ?_
        refine all_i fun n11 => ?_
        refine imp_i fun h34 => ?_
        refine imp_i fun h35 => ?_
        refine imp_i fun h36 => ?_
        try simp only [sigHal, halPre, downPost, List.cons.injEq, DV.b.injEq, and_true, List.length_cons, List.length_nil] at h36
        rw [Int.zero_mul, Int.zero_add, h28] at h36
        have sl := shR_le (W := absI n0) (n := n9) ab (by omega)
        have e11 : n11 = shR (absI n0) n9 := by omega
        refine req_i ?_ ?_
        · -- r51
          first | omega | assumption | grind
        refine req_i ?_ ?_
        · -- r52
          first | omega | assumption | grind
        refine req_i ?_ ?_
        · -- r53
          first | trivial | assumption | (simp only [sigSgn, sgnPost, List.cons.injEq, DV.b.injEq, and_true, List.length_cons, List.length_nil, dec_iff]; done) | ((try simp only [sigSgn, sgnPost, List.cons.injEq, DV.b.injEq, and_true, List.length_cons, List.length_nil, dec_iff]); first | omega | assumption | grind)
        refine all_i fun n12 => ?_
        refine imp_i fun h37 => ?_
        refine imp_i fun h38 => ?_
        refine imp_i fun h39 => ?_
        try simp only [Int.toNat_natCast, List.length_set, List.length_replicate, List.length_take, List.length_drop, List.length_append, List.length_cons, List.length_nil, Nat.min_self, List.take_take, lenCols_i, lenCols_b, List.drop_zero, List.take_length, Nat.add_eq, Nat.mul_eq, Nat.sub_eq, Nat.zero_add, Nat.sub_zero, Nat.mul_one] at h39
        have q : n12 = sat (if (dec (n0 < 0)) = true then -(if false = true then 18446744073709551616 else n11) else if false = true then 18446744073709551616 else n11) := h39
        simp only [dec_iff, Bool.false_eq_true, if_false] at q
        rw [e11] at q
        have sd := shift_dn (a := n0) (n := n1) (k := n9) (r := n12) (by omega) (by omega) (by omega) (by omega) q
        refine req_i ?_ ?_
        · -- r54
          first | omega | assumption | grind
        refine req_i ?_ ?_
        · -- r55
          first | omega | assumption | grind
        refine req_i ?_ ?_
        · -- r56
          exact sd
        rfl
theorem ext_shiftR : ∀ p ∈ ([(27, Ext.ctr (ctOf sigAdd)), (60, Ext.ctr (ctOf sigSize)), (59, Ext.ctr (ctOf sigHal)), (61, Ext.ctr (ctOf sigSgn))] : List (Nat × Ext)), ExtRow Try.prog p.1 p.2 := by
  intro p hp
  simp only [List.mem_cons, List.not_mem_nil, or_false] at hp
  rcases hp with rfl | rfl | rfl | rfl
  · trivial
  · trivial
  · trivial
  · trivial
theorem cts_shiftR : CtsOk Try.prog [(27, Ext.ctr (ctOf sigAdd)), (60, Ext.ctr (ctOf sigSize)), (59, Ext.ctr (ctOf sigHal)), (61, Ext.ctr (ctOf sigSgn))] := ctsOk_of (cs := [(27, sigAdd), (60, sigSize), (59, sigHal), (61, sigSgn)])
  (fun p hp => by
    simp only [List.mem_cons, List.not_mem_nil, or_false] at hp
    rcases hp with rfl | rfl | rfl | rfl
    · exact fn_addR
    · exact fn_sizeR
    · exact fn_hal
    · exact fn_sgn
)
  (fun f c h => by
    simp only [List.lookup_cons] at h
    repeat' split at h
    all_goals first | (cases h; done) | (rename_i e; have e := beq_iff_eq.1 e; subst e; cases h; exact ⟨_, by simp, rfl⟩))
theorem fn_shiftR : FnOk Try.prog 30 sigShift [] := fn_sound (by kernel_rfl) ext_shiftR cts_shiftR names vt_shiftR
end Go.Proofs.Ytcddopooofdgcaa

namespace Go.Proofs.Ytcddopooofdgcaa
open Go.Ev Go.Sp
set_option maxRecDepth 100000
theorem vc_FixedSums : vcFn Try.prog [(10, Ext.ctr (ctOf sigTrue0)), (20, Ext.ctr (ctOf sigClamp)), (26, Ext.ctr (ctOf sigClamp)), (13, Ext.ctr (ctOf sigAdd)), (27, Ext.ctr (ctOf sigAdd)), (11, Ext.ctr (ctOf sigSub)), (28, Ext.ctr (ctOf sigSub)), (12, Ext.ctr (ctOf sigNeg)), (29, Ext.ctr (ctOf sigNeg)), (14, Ext.ctr (ctOf sigShift)), (30, Ext.ctr (ctOf sigShift))] tab [] 100 4 sigL3 = (allB fun n0 : Int => 
impB ((-9223372036854775808 : Int) ≤ n0) (
impB (n0 ≤ (9223372036854775807 : Int)) (
allB fun n1 : Int => 
impB ((-9223372036854775808 : Int) ≤ n1) (
impB (n1 ≤ (9223372036854775807 : Int)) (
allB fun n2 : Int => 
impB ((-9223372036854775808 : Int) ≤ n2) (
impB (n2 ≤ (9223372036854775807 : Int)) (
impB (sigL3.pre [DV.n n0, DV.n n1, DV.n n2]) (
reqB ((-9223372036854775808 : Int) ≤ n0) (
reqB (n0 ≤ (9223372036854775807 : Int)) (
reqB ((-9223372036854775808 : Int) ≤ n1) (
reqB (n1 ≤ (9223372036854775807 : Int)) (
reqB ((-9223372036854775808 : Int) ≤ n2) (
reqB (n2 ≤ (9223372036854775807 : Int)) (
reqB (sigClamp.pre [DV.n n0, DV.n n1, DV.n n2]) (
allB fun n3 : Int => 
impB ((-9223372036854775808 : Int) ≤ n3) (
impB (n3 ≤ (9223372036854775807 : Int)) (
allB fun n4 : Int => 
impB ((0 : Int) ≤ n4) (
impB (n4 ≤ (18 : Int)) (
impB (sigClamp.post [DV.n n0, DV.n n1, DV.n n2] [DV.n n3, DV.n n4]) (
reqB ((-9223372036854775808 : Int) ≤ n0) (
reqB (n0 ≤ (9223372036854775807 : Int)) (
reqB ((-9223372036854775808 : Int) ≤ n1) (
reqB (n1 ≤ (9223372036854775807 : Int)) (
reqB ((-9223372036854775808 : Int) ≤ n2) (
reqB (n2 ≤ (9223372036854775807 : Int)) (
reqB (sigClamp.pre [DV.n n0, DV.n n1, DV.n n2]) (
allB fun n5 : Int => 
impB ((-9223372036854775808 : Int) ≤ n5) (
impB (n5 ≤ (9223372036854775807 : Int)) (
allB fun n6 : Int => 
impB ((0 : Int) ≤ n6) (
impB (n6 ≤ (18 : Int)) (
impB (sigClamp.post [DV.n n0, DV.n n1, DV.n n2] [DV.n n5, DV.n n6]) (
reqB (sigTrue0.pre []) (
allB fun b7 : Bool => 
impB (sigTrue0.post [] [DV.b b7]) (
bR (b7) (
 reqB ((-9223372036854775808 : Int) ≤ n0) (
 reqB (n0 ≤ (9223372036854775807 : Int)) (
 reqB ((-9223372036854775808 : Int) ≤ n1) (
 reqB (n1 ≤ (9223372036854775807 : Int)) (
 reqB (sigAdd.pre [DV.n n0, DV.n n1]) (
 allB fun n8 : Int => 
 impB ((-9223372036854775808 : Int) ≤ n8) (
 impB (n8 ≤ (9223372036854775807 : Int)) (
 impB (sigAdd.post [DV.n n0, DV.n n1] [DV.n n8]) (
 reqB ((-9223372036854775808 : Int) ≤ n0) (
 reqB (n0 ≤ (9223372036854775807 : Int)) (
 reqB ((-9223372036854775808 : Int) ≤ n1) (
 reqB (n1 ≤ (9223372036854775807 : Int)) (
 reqB (sigAdd.pre [DV.n n0, DV.n n1]) (
 allB fun n9 : Int => 
 impB ((-9223372036854775808 : Int) ≤ n9) (
 impB (n9 ≤ (9223372036854775807 : Int)) (
 impB (sigAdd.post [DV.n n0, DV.n n1] [DV.n n9]) (
 bR (dec (n8 = n9)) (
  reqB ((-9223372036854775808 : Int) ≤ n0) (
  reqB (n0 ≤ (9223372036854775807 : Int)) (
  reqB ((-9223372036854775808 : Int) ≤ n1) (
  reqB (n1 ≤ (9223372036854775807 : Int)) (
  reqB (sigSub.pre [DV.n n0, DV.n n1]) (
  allB fun n10 : Int => 
  impB ((-9223372036854775808 : Int) ≤ n10) (
  impB (n10 ≤ (9223372036854775807 : Int)) (
  impB (sigSub.post [DV.n n0, DV.n n1] [DV.n n10]) (
  reqB ((-9223372036854775808 : Int) ≤ n0) (
  reqB (n0 ≤ (9223372036854775807 : Int)) (
  reqB ((-9223372036854775808 : Int) ≤ n1) (
  reqB (n1 ≤ (9223372036854775807 : Int)) (
  reqB (sigSub.pre [DV.n n0, DV.n n1]) (
  allB fun n11 : Int => 
  impB ((-9223372036854775808 : Int) ≤ n11) (
  impB (n11 ≤ (9223372036854775807 : Int)) (
  impB (sigSub.post [DV.n n0, DV.n n1] [DV.n n11]) (
  bR (dec (n10 = n11)) (
   reqB ((-9223372036854775808 : Int) ≤ n0) (
   reqB (n0 ≤ (9223372036854775807 : Int)) (
   reqB (sigNeg.pre [DV.n n0]) (
   allB fun n12 : Int => 
   impB ((-9223372036854775808 : Int) ≤ n12) (
   impB (n12 ≤ (9223372036854775807 : Int)) (
   impB (sigNeg.post [DV.n n0] [DV.n n12]) (
   reqB ((-9223372036854775808 : Int) ≤ n0) (
   reqB (n0 ≤ (9223372036854775807 : Int)) (
   reqB (sigNeg.pre [DV.n n0]) (
   allB fun n13 : Int => 
   impB ((-9223372036854775808 : Int) ≤ n13) (
   impB (n13 ≤ (9223372036854775807 : Int)) (
   impB (sigNeg.post [DV.n n0] [DV.n n13]) (
   bR (dec (n12 = n13)) (
    reqB ((-9223372036854775808 : Int) ≤ n0) (
    reqB (n0 ≤ (9223372036854775807 : Int)) (
    reqB ((-9223372036854775808 : Int) ≤ n2) (
    reqB (n2 ≤ (9223372036854775807 : Int)) (
    reqB (sigShift.pre [DV.n n0, DV.n n2]) (
    allB fun n14 : Int => 
    impB ((-9223372036854775808 : Int) ≤ n14) (
    impB (n14 ≤ (9223372036854775807 : Int)) (
    impB (sigShift.post [DV.n n0, DV.n n2] [DV.n n14]) (
    reqB ((-9223372036854775808 : Int) ≤ n0) (
    reqB (n0 ≤ (9223372036854775807 : Int)) (
    reqB ((-9223372036854775808 : Int) ≤ n2) (
    reqB (n2 ≤ (9223372036854775807 : Int)) (
    reqB (sigShift.pre [DV.n n0, DV.n n2]) (
    allB fun n15 : Int => 
    impB ((-9223372036854775808 : Int) ≤ n15) (
    impB (n15 ≤ (9223372036854775807 : Int)) (
    impB (sigShift.post [DV.n n0, DV.n n2] [DV.n n15]) (
    bR (dec (n14 = n15)) (
     bR (dec (n3 = n5)) (
      reqB (sigL3.post [DV.n n0, DV.n n1, DV.n n2] [DV.b (dec (n4 = n6))]) (
      true)) (
      reqB (sigL3.post [DV.n n0, DV.n n1, DV.n n2] [DV.b Bool.false]) (
      true))) (
     reqB (sigL3.post [DV.n n0, DV.n n1, DV.n n2] [DV.b Bool.false]) (
     true))))))))))))))))))) (
    reqB (sigL3.post [DV.n n0, DV.n n1, DV.n n2] [DV.b Bool.false]) (
    true))))))))))))))) (
   reqB (sigL3.post [DV.n n0, DV.n n1, DV.n n2] [DV.b Bool.false]) (
   true))))))))))))))))))) (
  reqB (sigL3.post [DV.n n0, DV.n n1, DV.n n2] [DV.b Bool.false]) (
  true))))))))))))))))))) (
 reqB (sigL3.post [DV.n n0, DV.n n1, DV.n n2] [DV.b Bool.false]) (
 true)))))))))))))))))))))))))))))))))))) := by kernel_rfl
set_option maxHeartbeats 8000000 in
theorem vt_FixedSums : vcFn Try.prog [(10, Ext.ctr (ctOf sigTrue0)), (20, Ext.ctr (ctOf sigClamp)), (26, Ext.ctr (ctOf sigClamp)), (13, Ext.ctr (ctOf sigAdd)), (27, Ext.ctr (ctOf sigAdd)), (11, Ext.ctr (ctOf sigSub)), (28, Ext.ctr (ctOf sigSub)), (12, Ext.ctr (ctOf sigNeg)), (29, Ext.ctr (ctOf sigNeg)), (14, Ext.ctr (ctOf sigShift)), (30, Ext.ctr (ctOf sigShift))] tab [] 100 4 sigL3 = true := by
  rw [vc_FixedSums]
  try simp only [Int.toNat_natCast, List.length_set, List.length_replicate, List.length_take, List.length_drop, List.length_append, List.length_cons, List.length_nil, Nat.min_self, List.take_take, lenCols_i, lenCols_b, List.drop_zero, List.take_length, Nat.add_eq, Nat.mul_eq, Nat.sub_eq, Nat.zero_add, Nat.sub_zero, Nat.mul_one]
  refine all_i fun n0 => ?_
  refine imp_i fun h0 => ?_
  refine imp_i fun h1 => ?_
  refine all_i fun n1 => ?_
  refine imp_i fun h2 => ?_
  refine imp_i fun h3 => ?_
  refine all_i fun n2 => ?_
  refine imp_i fun h4 => ?_
  refine imp_i fun h5 => ?_
  refine imp_i fun h6 => ?_
  try simp only [sigL3, List.cons.injEq, DV.b.injEq, and_true, List.length_cons, List.length_nil] at h6
  refine req_i ?_ ?_
  · -- r0
    first | omega | assumption | grind
  refine req_i ?_ ?_
  · -- r1
    first | omega | assumption | grind
  refine req_i ?_ ?_
  · -- r2
    first | omega | assumption | grind
  refine req_i ?_ ?_
  · -- r3
    first | omega | assumption | grind
  refine req_i ?_ ?_
  · -- r4
    first | omega | assumption | grind
  refine req_i ?_ ?_
  · -- r5
    first | omega | assumption | grind
  refine req_i ?_ ?_
  · -- r6
    first | trivial | assumption | (simp only [sigClamp, clampP, List.cons.injEq, DV.b.injEq, and_true, List.length_cons, List.length_nil]; done) | ((try simp only [sigClamp, clampP, List.cons.injEq, DV.b.injEq, and_true, List.length_cons, List.length_nil]); first | omega | assumption | grind)
  refine all_i fun n3 => ?_
  refine imp_i fun h7 => ?_
  refine imp_i fun h8 => ?_
  refine all_i fun n4 => ?_
  refine imp_i fun h9 => ?_
  refine imp_i fun h10 => ?_
  refine imp_i fun h11 => ?_
  try simp only [sigClamp, clampP, List.cons.injEq, DV.b.injEq, and_true, List.length_cons, List.length_nil] at h11
  refine req_i ?_ ?_
  · -- r7
    first | omega | assumption | grind
  refine req_i ?_ ?_
  · -- r8
    first | omega | assumption | grind
  refine req_i ?_ ?_
  · -- r9
    first | omega | assumption | grind
  refine req_i ?_ ?_
  · -- r10
    first | omega | assumption | grind
  refine req_i ?_ ?_
  · -- r11
    first | omega | assumption | grind
  refine req_i ?_ ?_
  · -- r12
    first | omega | assumption | grind
  refine req_i ?_ ?_
  · -- r13
    first | trivial | assumption | (simp only [sigClamp, clampP, List.cons.injEq, DV.b.injEq, and_true, List.length_cons, List.length_nil]; done) | ((try simp only [sigClamp, clampP, List.cons.injEq, DV.b.injEq, and_true, List.length_cons, List.length_nil]); first | omega | assumption | grind)
  refine all_i fun n5 => ?_
  refine imp_i fun h12 => ?_
  refine imp_i fun h13 => ?_
  refine all_i fun n6 => ?_
  refine imp_i fun h14 => ?_
  refine imp_i fun h15 => ?_
  refine imp_i fun h16 => ?_
  try simp only [sigClamp, clampP, List.cons.injEq, DV.b.injEq, and_true, List.length_cons, List.length_nil] at h16
  refine req_i ?_ ?_
  · -- r14
    first | omega | assumption | grind
  refine all_i fun b7 => ?_
  refine imp_i fun h17 => ?_
  try simp only [sigTrue0, List.cons.injEq, DV.b.injEq, and_true, List.length_cons, List.length_nil] at h17
  refine bR_i (fun h18 => ?_) (fun h18 => ?_)
  ·
    refine req_i ?_ ?_
    · -- r15
      first | omega | assumption | grind
    refine req_i ?_ ?_
    · -- r16
      first | omega | assumption | grind
    refine req_i ?_ ?_
    · -- r17
      first | omega | assumption | grind
    refine req_i ?_ ?_
    · -- r18
      first | omega | assumption | grind
    refine req_i ?_ ?_
    · -- r19
      first | trivial | assumption | (simp only [sigAdd, addP, sat, List.cons.injEq, DV.b.injEq, and_true, List.length_cons, List.length_nil]; done) | ((try simp only [sigAdd, addP, sat, List.cons.injEq, DV.b.injEq, and_true, List.length_cons, List.length_nil]); first | omega | assumption | grind)
    refine all_i fun n8 => ?_
    refine imp_i fun h19 => ?_
    refine imp_i fun h20 => ?_
    refine imp_i fun h21 => ?_
    try simp only [sigAdd, addP, sat, List.cons.injEq, DV.b.injEq, and_true, List.length_cons, List.length_nil] at h21
    refine req_i ?_ ?_
    · -- r20
      first | omega | assumption | grind
    refine req_i ?_ ?_
    · -- r21
      first | omega | assumption | grind
    refine req_i ?_ ?_
    · -- r22
      first | omega | assumption | grind
    refine req_i ?_ ?_
    · -- r23
      first | omega | assumption | grind
    refine req_i ?_ ?_
    · -- r24
      first | trivial | assumption | (simp only [sigAdd, addP, sat, List.cons.injEq, DV.b.injEq, and_true, List.length_cons, List.length_nil]; done) | ((try simp only [sigAdd, addP, sat, List.cons.injEq, DV.b.injEq, and_true, List.length_cons, List.length_nil]); first | omega | assumption | grind)
    refine all_i fun n9 => ?_
    refine imp_i fun h22 => ?_
    refine imp_i fun h23 => ?_
    refine imp_i fun h24 => ?_
    try simp only [sigAdd, addP, sat, List.cons.injEq, DV.b.injEq, and_true, List.length_cons, List.length_nil] at h24
    refine bR_dec (fun h25 => ?_) (fun h25 => ?_)
    ·
      refine req_i ?_ ?_
      · -- r25
        first | omega | assumption | grind
      refine req_i ?_ ?_
      · -- r26
        first | omega | assumption | grind
      refine req_i ?_ ?_
      · -- r27
        first | omega | assumption | grind
      refine req_i ?_ ?_
      · -- r28
        first | omega | assumption | grind
      refine req_i ?_ ?_
      · -- r29
        first | trivial | assumption | (simp only [sigSub, subP, sat, List.cons.injEq, DV.b.injEq, and_true, List.length_cons, List.length_nil]; done) | ((try simp only [sigSub, subP, sat, List.cons.injEq, DV.b.injEq, and_true, List.length_cons, List.length_nil]); first | omega | assumption | grind)
      refine all_i fun n10 => ?_
      refine imp_i fun h26 => ?_
      refine imp_i fun h27 => ?_
      refine imp_i fun h28 => ?_
      try simp only [sigSub, subP, sat, List.cons.injEq, DV.b.injEq, and_true, List.length_cons, List.length_nil] at h28
      refine req_i ?_ ?_
      · -- r30
        first | omega | assumption | grind
      refine req_i ?_ ?_
      · -- r31
        first | omega | assumption | grind
      refine req_i ?_ ?_
      · -- r32
        first | omega | assumption | grind
      refine req_i ?_ ?_
      · -- r33
        first | omega | assumption | grind
      refine req_i ?_ ?_
      · -- r34
        first | trivial | assumption | (simp only [sigSub, subP, sat, List.cons.injEq, DV.b.injEq, and_true, List.length_cons, List.length_nil]; done) | ((try simp only [sigSub, subP, sat, List.cons.injEq, DV.b.injEq, and_true, List.length_cons, List.length_nil]); first | omega | assumption | grind)
      refine all_i fun n11 => ?_
      refine imp_i fun h29 => ?_
      refine imp_i fun h30 => ?_
      refine imp_i fun h31 => ?_
      try simp only [sigSub, subP, sat, List.cons.injEq, DV.b.injEq, and_true, List.length_cons, List.length_nil] at h31
      refine bR_dec (fun h32 => ?_) (fun h32 => ?_)
      ·
        refine req_i ?_ ?_
        · -- r35
          first | omega | assumption | grind
        refine req_i ?_ ?_
        · -- r36
          first | omega | assumption | grind
        refine req_i ?_ ?_
        · -- r37
          first | trivial | assumption | (simp only [sigNeg, negP, sat, List.cons.injEq, DV.b.injEq, and_true, List.length_cons, List.length_nil]; done) | ((try simp only [sigNeg, negP, sat, List.cons.injEq, DV.b.injEq, and_true, List.length_cons, List.length_nil]); first | omega | assumption | grind)
        refine all_i fun n12 => ?_
        refine imp_i fun h33 => ?_
        refine imp_i fun h34 => ?_
        refine imp_i fun h35 => ?_
        try simp only [sigNeg, negP, sat, List.cons.injEq, DV.b.injEq, and_true, List.length_cons, List.length_nil] at h35
        refine req_i ?_ ?_
        · -- r38
          first | omega | assumption | grind
        refine req_i ?_ ?_
        · -- r39
          first | omega | assumption | grind
        refine req_i ?_ ?_
        · -- r40
          first | trivial | assumption | (simp only [sigNeg, negP, sat, List.cons.injEq, DV.b.injEq, and_true, List.length_cons, List.length_nil]; done) | ((try simp only [sigNeg, negP, sat, List.cons.injEq, DV.b.injEq, and_true, List.length_cons, List.length_nil]); first | omega | assumption | grind)
        refine all_i fun n13 => ?_
        refine imp_i fun h36 => ?_
        refine imp_i fun h37 => ?_
        refine imp_i fun h38 => ?_
        try simp only [sigNeg, negP, sat, List.cons.injEq, DV.b.injEq, and_true, List.length_cons, List.length_nil] at h38
        refine bR_dec (fun h39 => ?_) (fun h39 => ?_)
        ·
          refine req_i ?_ ?_
          · -- r41
            first | omega | assumption | grind
          refine req_i ?_ ?_
          · -- r42
            first | omega | assumption | grind
          refine req_i ?_ ?_
          · -- r43
            first | omega | assumption | grind
          refine req_i ?_ ?_
          · -- r44
            first | omega | assumption | grind
          refine req_i ?_ ?_
          · -- r45
            first | trivial | assumption | (simp only [sigShift, shiftPost, List.cons.injEq, DV.b.injEq, and_true, List.length_cons, List.length_nil]; done) | ((try simp only [sigShift, shiftPost, List.cons.injEq, DV.b.injEq, and_true, List.length_cons, List.length_nil]); first | omega | assumption | grind)
          refine all_i fun n14 => ?_
          refine imp_i fun h40 => ?_
          refine imp_i fun h41 => ?_
          refine imp_i fun h42 => ?_
          try simp only [sigShift, shiftPost, List.cons.injEq, DV.b.injEq, and_true, List.length_cons, List.length_nil] at h42
          refine req_i ?_ ?_
          · -- r46
            first | omega | assumption | grind
          refine req_i ?_ ?_
          · -- r47
            first | omega | assumption | grind
          refine req_i ?_ ?_
          · -- r48
            first | omega | assumption | grind
          refine req_i ?_ ?_
          · -- r49
            first | omega | assumption | grind
          refine req_i ?_ ?_
          · -- r50
            first | trivial | assumption | (simp only [sigShift, shiftPost, List.cons.injEq, DV.b.injEq, and_true, List.length_cons, List.length_nil]; done) | ((try simp only [sigShift, shiftPost, List.cons.injEq, DV.b.injEq, and_true, List.length_cons, List.length_nil]); first | omega | assumption | grind)
          refine all_i fun n15 => ?_
          refine imp_i fun h43 => ?_
          refine imp_i fun h44 => ?_
          refine imp_i fun h45 => ?_
          try simp only [sigShift, shiftPost, List.cons.injEq, DV.b.injEq, and_true, List.length_cons, List.length_nil] at h45
          refine bR_dec (fun h46 => ?_) (fun h46 => ?_)
          ·
            refine bR_dec (fun h47 => ?_) (fun h47 => ?_)
            ·
              refine req_i ?_ ?_
              · -- r51
                first | omega | ((try simp only [sigL3, List.cons.injEq, DV.b.injEq, and_true, List.length_cons, List.length_nil, dec_iff]); first | done | omega | assumption | grind [getD_set, getD_rep, toNat_succ, cntN_yes, cntN_no])
              rfl
            ·
              refine req_i ?_ ?_
              · -- r52
                first | omega | ((try simp only [sigL3, List.cons.injEq, DV.b.injEq, and_true, List.length_cons, List.length_nil]); first | done | omega | assumption | grind [getD_set, getD_rep, toNat_succ, cntN_yes, cntN_no])
              rfl
          ·
            refine req_i ?_ ?_
            · -- r53
              first | omega | ((try simp only [sigL3, List.cons.injEq, DV.b.injEq, and_true, List.length_cons, List.length_nil]); first | done | omega | assumption | grind [getD_set, getD_rep, toNat_succ, cntN_yes, cntN_no])
            rfl
        ·
          refine req_i ?_ ?_
          · -- r54
            first | omega | ((try simp only [sigL3, List.cons.injEq, DV.b.injEq, and_true, List.length_cons, List.length_nil]); first | done | omega | assumption | grind [getD_set, getD_rep, toNat_succ, cntN_yes, cntN_no])
          rfl
      ·
        refine req_i ?_ ?_
        · -- r55
          first | omega | ((try simp only [sigL3, List.cons.injEq, DV.b.injEq, and_true, List.length_cons, List.length_nil]); first | done | omega | assumption | grind [getD_set, getD_rep, toNat_succ, cntN_yes, cntN_no])
        rfl
    ·
      refine req_i ?_ ?_
      · -- r56
        first | omega | ((try simp only [sigL3, List.cons.injEq, DV.b.injEq, and_true, List.length_cons, List.length_nil]); first | done | omega | assumption | grind [getD_set, getD_rep, toNat_succ, cntN_yes, cntN_no])
      rfl
  ·
    refine req_i ?_ ?_
    · -- r57
      first | omega | ((try simp only [sigL3, List.cons.injEq, DV.b.injEq, and_true, List.length_cons, List.length_nil]); first | done | omega | assumption | grind [getD_set, getD_rep, toNat_succ, cntN_yes, cntN_no])
    rfl
theorem ext_FixedSums : ∀ p ∈ ([(10, Ext.ctr (ctOf sigTrue0)), (20, Ext.ctr (ctOf sigClamp)), (26, Ext.ctr (ctOf sigClamp)), (13, Ext.ctr (ctOf sigAdd)), (27, Ext.ctr (ctOf sigAdd)), (11, Ext.ctr (ctOf sigSub)), (28, Ext.ctr (ctOf sigSub)), (12, Ext.ctr (ctOf sigNeg)), (29, Ext.ctr (ctOf sigNeg)), (14, Ext.ctr (ctOf sigShift)), (30, Ext.ctr (ctOf sigShift))] : List (Nat × Ext)), ExtRow Try.prog p.1 p.2 := by
  intro p hp
  simp only [List.mem_cons, List.not_mem_nil, or_false] at hp
  rcases hp with rfl | rfl | rfl | rfl | rfl | rfl | rfl | rfl | rfl | rfl | rfl
  · trivial
  · trivial
  · trivial
  · trivial
  · trivial
  · trivial
  · trivial
  · trivial
  · trivial
  · trivial
  · trivial
theorem cts_FixedSums : CtsOk Try.prog [(10, Ext.ctr (ctOf sigTrue0)), (20, Ext.ctr (ctOf sigClamp)), (26, Ext.ctr (ctOf sigClamp)), (13, Ext.ctr (ctOf sigAdd)), (27, Ext.ctr (ctOf sigAdd)), (11, Ext.ctr (ctOf sigSub)), (28, Ext.ctr (ctOf sigSub)), (12, Ext.ctr (ctOf sigNeg)), (29, Ext.ctr (ctOf sigNeg)), (14, Ext.ctr (ctOf sigShift)), (30, Ext.ctr (ctOf sigShift))] := ctsOk_of (cs := [(10, sigTrue0), (20, sigClamp), (26, sigClamp), (13, sigAdd), (27, sigAdd), (11, sigSub), (28, sigSub), (12, sigNeg), (29, sigNeg), (14, sigShift), (30, sigShift)])
  (fun p hp => by
    simp only [List.mem_cons, List.not_mem_nil, or_false] at hp
    rcases hp with rfl | rfl | rfl | rfl | rfl | rfl | rfl | rfl | rfl | rfl | rfl
    · exact fn_lives
    · exact fn_clamp
    · exact fn_clampR
    · exact fn_add
    · exact fn_addR
    · exact fn_sub
    · exact fn_subR
    · exact fn_neg
    · exact fn_negR
    · exact fn_shift
    · exact fn_shiftR
)
  (fun f c h => by
    simp only [List.lookup_cons] at h
    repeat' split at h
    all_goals first | (cases h; done) | (rename_i e; have e := beq_iff_eq.1 e; subst e; cases h; exact ⟨_, by simp, rfl⟩))
theorem fn_FixedSums : FnOk Try.prog 4 sigL3 [] := fn_sound (by kernel_rfl) ext_FixedSums cts_FixedSums names vt_FixedSums
end Go.Proofs.Ytcddopooofdgcaa

