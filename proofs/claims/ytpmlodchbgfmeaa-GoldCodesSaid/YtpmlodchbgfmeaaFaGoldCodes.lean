import Derived.Test.YtpmlodchbgfmeaaSpec08e
import Derived.Test.YtpmlodchbgfmeaaRows
import Derived.Test.YtpmlodchbgfmeaaEvSS
import Derived.Test.YtpmlodchbgfmeaaFnames
namespace Go.Proofs.Ytpmlodchbgfmeaa
open Go.Ev Go.Sp
set_option maxRecDepth 100000
theorem vc_len0 : vcFn Try.prog [] noA [] 100 11 (sigLenR 5 5) = (impB ((sigLenR (5 : Int) (5 : Int)).pre [DV.n (5 : Int)]) (
reqB ((sigLenR (5 : Int) (5 : Int)).post [DV.n (5 : Int)]
 [DV.n (Int.ofNat (31 : Nat)), DV.n (0 : Int)]) (
true))) := by kernel_rfl
set_option maxHeartbeats 8000000 in
theorem vt_len0 : vcFn Try.prog [] noA [] 100 11 (sigLenR 5 5) = true := by
  rw [vc_len0]
  try simp only [Int.toNat_natCast, List.length_set, List.length_replicate, List.length_take, List.length_drop, List.length_append, List.length_cons, List.length_nil, Nat.min_self, List.take_take, lenCols_i, lenCols_b, List.drop_zero, List.take_length, Nat.add_eq, Nat.mul_eq, Nat.sub_eq, Nat.zero_add, Nat.sub_zero, Nat.mul_one]
  refine imp_i fun h0 => ?_
  try simp only [sigLenR, iR, lenPost, List.cons.injEq, DV.b.injEq, and_true, List.length_cons, List.length_nil] at h0
  refine req_i ?_ ?_
  · -- r0
   first | exact ⟨rfl, rfl⟩ | exact ⟨rfl, by decide +kernel⟩
  rfl
theorem ext_len0 : ∀ p ∈ ([] : List (Nat × Ext)), ExtRow Try.prog p.1 p.2 := by
  intro p hp
  cases hp
theorem cts_len0 : CtsOk Try.prog [] := fun f c h => by cases h
theorem fn_len0 : FnOk Try.prog 11 (sigLenR 5 5) [] := fn_sound (by kernel_rfl) ext_len0 cts_len0 names vt_len0
end Go.Proofs.Ytpmlodchbgfmeaa

namespace Go.Proofs.Ytpmlodchbgfmeaa
open Go.Ev Go.Sp
set_option maxRecDepth 100000
theorem vc_len1 : vcFn Try.prog [] noA [] 100 11 (sigLenR 6 6) = (impB ((sigLenR (6 : Int) (6 : Int)).pre [DV.n (6 : Int)]) (
reqB ((sigLenR (6 : Int) (6 : Int)).post [DV.n (6 : Int)]
 [DV.n (Int.ofNat (63 : Nat)), DV.n (0 : Int)]) (
true))) := by kernel_rfl
set_option maxHeartbeats 8000000 in
theorem vt_len1 : vcFn Try.prog [] noA [] 100 11 (sigLenR 6 6) = true := by
  rw [vc_len1]
  try simp only [Int.toNat_natCast, List.length_set, List.length_replicate, List.length_take, List.length_drop, List.length_append, List.length_cons, List.length_nil, Nat.min_self, List.take_take, lenCols_i, lenCols_b, List.drop_zero, List.take_length, Nat.add_eq, Nat.mul_eq, Nat.sub_eq, Nat.zero_add, Nat.sub_zero, Nat.mul_one]
  refine imp_i fun h0 => ?_
  try simp only [sigLenR, iR, lenPost, List.cons.injEq, DV.b.injEq, and_true, List.length_cons, List.length_nil] at h0
  refine req_i ?_ ?_
  · -- r0
   first | exact ⟨rfl, rfl⟩ | exact ⟨rfl, by decide +kernel⟩
  rfl
theorem ext_len1 : ∀ p ∈ ([] : List (Nat × Ext)), ExtRow Try.prog p.1 p.2 := by
  intro p hp
  cases hp
theorem cts_len1 : CtsOk Try.prog [] := fun f c h => by cases h
theorem fn_len1 : FnOk Try.prog 11 (sigLenR 6 6) [] := fn_sound (by kernel_rfl) ext_len1 cts_len1 names vt_len1
end Go.Proofs.Ytpmlodchbgfmeaa

namespace Go.Proofs.Ytpmlodchbgfmeaa
open Go.Ev Go.Sp
set_option maxRecDepth 100000
theorem vc_len2 : vcFn Try.prog [] noA [] 100 11 (sigLenR 7 7) = (impB ((sigLenR (7 : Int) (7 : Int)).pre [DV.n (7 : Int)]) (
reqB ((sigLenR (7 : Int) (7 : Int)).post [DV.n (7 : Int)]
 [DV.n (Int.ofNat (127 : Nat)), DV.n (0 : Int)]) (
true))) := by kernel_rfl
set_option maxHeartbeats 8000000 in
theorem vt_len2 : vcFn Try.prog [] noA [] 100 11 (sigLenR 7 7) = true := by
  rw [vc_len2]
  try simp only [Int.toNat_natCast, List.length_set, List.length_replicate, List.length_take, List.length_drop, List.length_append, List.length_cons, List.length_nil, Nat.min_self, List.take_take, lenCols_i, lenCols_b, List.drop_zero, List.take_length, Nat.add_eq, Nat.mul_eq, Nat.sub_eq, Nat.zero_add, Nat.sub_zero, Nat.mul_one]
  refine imp_i fun h0 => ?_
  try simp only [sigLenR, iR, lenPost, List.cons.injEq, DV.b.injEq, and_true, List.length_cons, List.length_nil] at h0
  refine req_i ?_ ?_
  · -- r0
   first | exact ⟨rfl, rfl⟩ | exact ⟨rfl, by decide +kernel⟩
  rfl
theorem ext_len2 : ∀ p ∈ ([] : List (Nat × Ext)), ExtRow Try.prog p.1 p.2 := by
  intro p hp
  cases hp
theorem cts_len2 : CtsOk Try.prog [] := fun f c h => by cases h
theorem fn_len2 : FnOk Try.prog 11 (sigLenR 7 7) [] := fn_sound (by kernel_rfl) ext_len2 cts_len2 names vt_len2
end Go.Proofs.Ytpmlodchbgfmeaa

namespace Go.Proofs.Ytpmlodchbgfmeaa
open Go.Ev Go.Sp
set_option maxRecDepth 100000
theorem vc_len3 : vcFn Try.prog [] noA [] 100 11 (sigLenR 9 9) = (impB ((sigLenR (9 : Int) (9 : Int)).pre [DV.n (9 : Int)]) (
reqB ((sigLenR (9 : Int) (9 : Int)).post [DV.n (9 : Int)]
 [DV.n (Int.ofNat (511 : Nat)), DV.n (0 : Int)]) (
true))) := by kernel_rfl
set_option maxHeartbeats 8000000 in
theorem vt_len3 : vcFn Try.prog [] noA [] 100 11 (sigLenR 9 9) = true := by
  rw [vc_len3]
  try simp only [Int.toNat_natCast, List.length_set, List.length_replicate, List.length_take, List.length_drop, List.length_append, List.length_cons, List.length_nil, Nat.min_self, List.take_take, lenCols_i, lenCols_b, List.drop_zero, List.take_length, Nat.add_eq, Nat.mul_eq, Nat.sub_eq, Nat.zero_add, Nat.sub_zero, Nat.mul_one]
  refine imp_i fun h0 => ?_
  try simp only [sigLenR, iR, lenPost, List.cons.injEq, DV.b.injEq, and_true, List.length_cons, List.length_nil] at h0
  refine req_i ?_ ?_
  · -- r0
   first | exact ⟨rfl, rfl⟩ | exact ⟨rfl, by decide +kernel⟩
  rfl
theorem ext_len3 : ∀ p ∈ ([] : List (Nat × Ext)), ExtRow Try.prog p.1 p.2 := by
  intro p hp
  cases hp
theorem cts_len3 : CtsOk Try.prog [] := fun f c h => by cases h
theorem fn_len3 : FnOk Try.prog 11 (sigLenR 9 9) [] := fn_sound (by kernel_rfl) ext_len3 cts_len3 names vt_len3
end Go.Proofs.Ytpmlodchbgfmeaa

namespace Go.Proofs.Ytpmlodchbgfmeaa
open Go.Ev Go.Sp
set_option maxRecDepth 100000
theorem vc_len4 : vcFn Try.prog [] noA [] 100 11 (sigLenR 10 10) = (impB ((sigLenR (10 : Int) (10 : Int)).pre [DV.n (10 : Int)]) (
reqB ((sigLenR (10 : Int) (10 : Int)).post [DV.n (10 : Int)]
 [DV.n (Int.ofNat (1023 : Nat)), DV.n (0 : Int)]) (
true))) := by kernel_rfl
set_option maxHeartbeats 8000000 in
theorem vt_len4 : vcFn Try.prog [] noA [] 100 11 (sigLenR 10 10) = true := by
  rw [vc_len4]
  try simp only [Int.toNat_natCast, List.length_set, List.length_replicate, List.length_take, List.length_drop, List.length_append, List.length_cons, List.length_nil, Nat.min_self, List.take_take, lenCols_i, lenCols_b, List.drop_zero, List.take_length, Nat.add_eq, Nat.mul_eq, Nat.sub_eq, Nat.zero_add, Nat.sub_zero, Nat.mul_one]
  refine imp_i fun h0 => ?_
  try simp only [sigLenR, iR, lenPost, List.cons.injEq, DV.b.injEq, and_true, List.length_cons, List.length_nil] at h0
  refine req_i ?_ ?_
  · -- r0
   first | exact ⟨rfl, rfl⟩ | exact ⟨rfl, by decide +kernel⟩
  rfl
theorem ext_len4 : ∀ p ∈ ([] : List (Nat × Ext)), ExtRow Try.prog p.1 p.2 := by
  intro p hp
  cases hp
theorem cts_len4 : CtsOk Try.prog [] := fun f c h => by cases h
theorem fn_len4 : FnOk Try.prog 11 (sigLenR 10 10) [] := fn_sound (by kernel_rfl) ext_len4 cts_len4 names vt_len4
end Go.Proofs.Ytpmlodchbgfmeaa

namespace Go.Proofs.Ytpmlodchbgfmeaa
open Go.Ev Go.Sp
set_option maxRecDepth 100000
theorem vc_len5 : vcFn Try.prog [] noA [] 100 11 (sigLenR (-9223372036854775808) 4) = (allB fun n0 : Int => 
impB ((-9223372036854775808 : Int) ≤ n0) (
impB (n0 ≤ (4 : Int)) (
impB ((sigLenR (-9223372036854775808 : Int) (4 : Int)).pre [DV.n n0]) (
reqB ((sigLenR (-9223372036854775808 : Int) (4 : Int)).post [DV.n n0] [DV.n (0 : Int), DV.n (2 : Int)]) (
true))))) := by kernel_rfl
set_option maxHeartbeats 8000000 in
theorem vt_len5 : vcFn Try.prog [] noA [] 100 11 (sigLenR (-9223372036854775808) 4) = true := by
  rw [vc_len5]
  try simp only [Int.toNat_natCast, List.length_set, List.length_replicate, List.length_take, List.length_drop, List.length_append, List.length_cons, List.length_nil, Nat.min_self, List.take_take, lenCols_i, lenCols_b, List.drop_zero, List.take_length, Nat.add_eq, Nat.mul_eq, Nat.sub_eq, Nat.zero_add, Nat.sub_zero, Nat.mul_one]
  refine all_i fun n0 => ?_
  refine imp_i fun h0 => ?_
  refine imp_i fun h1 => ?_
  refine imp_i fun h2 => ?_
  try simp only [sigLenR, iR, lenPost, List.cons.injEq, DV.b.injEq, and_true, List.length_cons, List.length_nil] at h2
  refine req_i ?_ ?_
  · -- r0
   (simp only [sigBitsR, bitsPost, sigTapsR, tapsPost, sigLenR, lenPost]; exact ite_no (by unfold okD; omega) (by simp))
  rfl
theorem ext_len5 : ∀ p ∈ ([] : List (Nat × Ext)), ExtRow Try.prog p.1 p.2 := by
  intro p hp
  cases hp
theorem cts_len5 : CtsOk Try.prog [] := fun f c h => by cases h
theorem fn_len5 : FnOk Try.prog 11 (sigLenR (-9223372036854775808) 4) [] := fn_sound (by kernel_rfl) ext_len5 cts_len5 names vt_len5
end Go.Proofs.Ytpmlodchbgfmeaa

namespace Go.Proofs.Ytpmlodchbgfmeaa
open Go.Ev Go.Sp
set_option maxRecDepth 100000
theorem vc_len6 : vcFn Try.prog [] noA [] 100 11 (sigLenR 8 8) = (impB ((sigLenR (8 : Int) (8 : Int)).pre [DV.n (8 : Int)]) (
reqB ((sigLenR (8 : Int) (8 : Int)).post [DV.n (8 : Int)] [DV.n (0 : Int), DV.n (2 : Int)]) (
true))) := by kernel_rfl
set_option maxHeartbeats 8000000 in
theorem vt_len6 : vcFn Try.prog [] noA [] 100 11 (sigLenR 8 8) = true := by
  rw [vc_len6]
  try simp only [Int.toNat_natCast, List.length_set, List.length_replicate, List.length_take, List.length_drop, List.length_append, List.length_cons, List.length_nil, Nat.min_self, List.take_take, lenCols_i, lenCols_b, List.drop_zero, List.take_length, Nat.add_eq, Nat.mul_eq, Nat.sub_eq, Nat.zero_add, Nat.sub_zero, Nat.mul_one]
  refine imp_i fun h0 => ?_
  try simp only [sigLenR, iR, lenPost, List.cons.injEq, DV.b.injEq, and_true, List.length_cons, List.length_nil] at h0
  refine req_i ?_ ?_
  · -- r0
   (simp only [sigBitsR, bitsPost, sigTapsR, tapsPost, sigLenR, lenPost]; exact ite_no (by unfold okD; omega) (by simp))
  rfl
theorem ext_len6 : ∀ p ∈ ([] : List (Nat × Ext)), ExtRow Try.prog p.1 p.2 := by
  intro p hp
  cases hp
theorem cts_len6 : CtsOk Try.prog [] := fun f c h => by cases h
theorem fn_len6 : FnOk Try.prog 11 (sigLenR 8 8) [] := fn_sound (by kernel_rfl) ext_len6 cts_len6 names vt_len6
end Go.Proofs.Ytpmlodchbgfmeaa

namespace Go.Proofs.Ytpmlodchbgfmeaa
open Go.Ev Go.Sp
set_option maxRecDepth 100000
theorem vc_len7 : vcFn Try.prog [] noA [] 100 11 (sigLenR 11 9223372036854775807) = (allB fun n0 : Int => 
impB ((11 : Int) ≤ n0) (
impB (n0 ≤ (9223372036854775807 : Int)) (
impB ((sigLenR (11 : Int) (9223372036854775807 : Int)).pre [DV.n n0]) (
reqB ((sigLenR (11 : Int) (9223372036854775807 : Int)).post [DV.n n0] [DV.n (0 : Int), DV.n (2 : Int)]) (
true))))) := by kernel_rfl
set_option maxHeartbeats 8000000 in
theorem vt_len7 : vcFn Try.prog [] noA [] 100 11 (sigLenR 11 9223372036854775807) = true := by
  rw [vc_len7]
  try simp only [Int.toNat_natCast, List.length_set, List.length_replicate, List.length_take, List.length_drop, List.length_append, List.length_cons, List.length_nil, Nat.min_self, List.take_take, lenCols_i, lenCols_b, List.drop_zero, List.take_length, Nat.add_eq, Nat.mul_eq, Nat.sub_eq, Nat.zero_add, Nat.sub_zero, Nat.mul_one]
  refine all_i fun n0 => ?_
  refine imp_i fun h0 => ?_
  refine imp_i fun h1 => ?_
  refine imp_i fun h2 => ?_
  try simp only [sigLenR, iR, lenPost, List.cons.injEq, DV.b.injEq, and_true, List.length_cons, List.length_nil] at h2
  refine req_i ?_ ?_
  · -- r0
   (simp only [sigBitsR, bitsPost, sigTapsR, tapsPost, sigLenR, lenPost]; exact ite_no (by unfold okD; omega) (by simp))
  rfl
theorem ext_len7 : ∀ p ∈ ([] : List (Nat × Ext)), ExtRow Try.prog p.1 p.2 := by
  intro p hp
  cases hp
theorem cts_len7 : CtsOk Try.prog [] := fun f c h => by cases h
theorem fn_len7 : FnOk Try.prog 11 (sigLenR 11 9223372036854775807) [] := fn_sound (by kernel_rfl) ext_len7 cts_len7 names vt_len7
end Go.Proofs.Ytpmlodchbgfmeaa

namespace Go.Proofs.Ytpmlodchbgfmeaa
open Go.Ev Go.Sp
theorem fn_len : FnOk Try.prog 11 sigLen [] := by
  exact (fn_cover1 covD covD_ok fun t ht => by
    simp only [covD, List.mem_cons, List.not_mem_nil, or_false] at ht
    rcases ht with rfl | rfl | rfl | rfl | rfl | rfl | rfl | rfl
    · exact fn_len0
    · exact fn_len1
    · exact fn_len2
    · exact fn_len3
    · exact fn_len4
    · exact fn_len5
    · exact fn_len6
    · exact fn_len7)
end Go.Proofs.Ytpmlodchbgfmeaa

namespace Go.Proofs.Ytpmlodchbgfmeaa
open Go.Ev Go.Sp
set_option maxRecDepth 100000
theorem vc_lenR0 : vcFn Try.prog [] noA [] 100 24 (sigLenR 5 5) = (impB ((sigLenR (5 : Int) (5 : Int)).pre [DV.n (5 : Int)]) (
reqB ((sigLenR (5 : Int) (5 : Int)).post [DV.n (5 : Int)]
 [DV.n (Int.ofNat (31 : Nat)), DV.n (0 : Int)]) (
true))) := by kernel_rfl
set_option maxHeartbeats 8000000 in
theorem vt_lenR0 : vcFn Try.prog [] noA [] 100 24 (sigLenR 5 5) = true := by
  rw [vc_lenR0]
  try simp only [Int.toNat_natCast, List.length_set, List.length_replicate, List.length_take, List.length_drop, List.length_append, List.length_cons, List.length_nil, Nat.min_self, List.take_take, lenCols_i, lenCols_b, List.drop_zero, List.take_length, Nat.add_eq, Nat.mul_eq, Nat.sub_eq, Nat.zero_add, Nat.sub_zero, Nat.mul_one]
  refine imp_i fun h0 => ?_
  try simp only [sigLenR, iR, lenPost, List.cons.injEq, DV.b.injEq, and_true, List.length_cons, List.length_nil] at h0
  refine req_i ?_ ?_
  · -- r0
   first | exact ⟨rfl, rfl⟩ | exact ⟨rfl, by decide +kernel⟩
  rfl
theorem ext_lenR0 : ∀ p ∈ ([] : List (Nat × Ext)), ExtRow Try.prog p.1 p.2 := by
  intro p hp
  cases hp
theorem cts_lenR0 : CtsOk Try.prog [] := fun f c h => by cases h
theorem fn_lenR0 : FnOk Try.prog 24 (sigLenR 5 5) [] := fn_sound (by kernel_rfl) ext_lenR0 cts_lenR0 names vt_lenR0
end Go.Proofs.Ytpmlodchbgfmeaa

namespace Go.Proofs.Ytpmlodchbgfmeaa
open Go.Ev Go.Sp
set_option maxRecDepth 100000
theorem vc_lenR1 : vcFn Try.prog [] noA [] 100 24 (sigLenR 6 6) = (impB ((sigLenR (6 : Int) (6 : Int)).pre [DV.n (6 : Int)]) (
reqB ((sigLenR (6 : Int) (6 : Int)).post [DV.n (6 : Int)]
 [DV.n (Int.ofNat (63 : Nat)), DV.n (0 : Int)]) (
true))) := by kernel_rfl
set_option maxHeartbeats 8000000 in
theorem vt_lenR1 : vcFn Try.prog [] noA [] 100 24 (sigLenR 6 6) = true := by
  rw [vc_lenR1]
  try simp only [Int.toNat_natCast, List.length_set, List.length_replicate, List.length_take, List.length_drop, List.length_append, List.length_cons, List.length_nil, Nat.min_self, List.take_take, lenCols_i, lenCols_b, List.drop_zero, List.take_length, Nat.add_eq, Nat.mul_eq, Nat.sub_eq, Nat.zero_add, Nat.sub_zero, Nat.mul_one]
  refine imp_i fun h0 => ?_
  try simp only [sigLenR, iR, lenPost, List.cons.injEq, DV.b.injEq, and_true, List.length_cons, List.length_nil] at h0
  refine req_i ?_ ?_
  · -- r0
   first | exact ⟨rfl, rfl⟩ | exact ⟨rfl, by decide +kernel⟩
  rfl
theorem ext_lenR1 : ∀ p ∈ ([] : List (Nat × Ext)), ExtRow Try.prog p.1 p.2 := by
  intro p hp
  cases hp
theorem cts_lenR1 : CtsOk Try.prog [] := fun f c h => by cases h
theorem fn_lenR1 : FnOk Try.prog 24 (sigLenR 6 6) [] := fn_sound (by kernel_rfl) ext_lenR1 cts_lenR1 names vt_lenR1
end Go.Proofs.Ytpmlodchbgfmeaa

namespace Go.Proofs.Ytpmlodchbgfmeaa
open Go.Ev Go.Sp
set_option maxRecDepth 100000
theorem vc_lenR2 : vcFn Try.prog [] noA [] 100 24 (sigLenR 7 7) = (impB ((sigLenR (7 : Int) (7 : Int)).pre [DV.n (7 : Int)]) (
reqB ((sigLenR (7 : Int) (7 : Int)).post [DV.n (7 : Int)]
 [DV.n (Int.ofNat (127 : Nat)), DV.n (0 : Int)]) (
true))) := by kernel_rfl
set_option maxHeartbeats 8000000 in
theorem vt_lenR2 : vcFn Try.prog [] noA [] 100 24 (sigLenR 7 7) = true := by
  rw [vc_lenR2]
  try simp only [Int.toNat_natCast, List.length_set, List.length_replicate, List.length_take, List.length_drop, List.length_append, List.length_cons, List.length_nil, Nat.min_self, List.take_take, lenCols_i, lenCols_b, List.drop_zero, List.take_length, Nat.add_eq, Nat.mul_eq, Nat.sub_eq, Nat.zero_add, Nat.sub_zero, Nat.mul_one]
  refine imp_i fun h0 => ?_
  try simp only [sigLenR, iR, lenPost, List.cons.injEq, DV.b.injEq, and_true, List.length_cons, List.length_nil] at h0
  refine req_i ?_ ?_
  · -- r0
   first | exact ⟨rfl, rfl⟩ | exact ⟨rfl, by decide +kernel⟩
  rfl
theorem ext_lenR2 : ∀ p ∈ ([] : List (Nat × Ext)), ExtRow Try.prog p.1 p.2 := by
  intro p hp
  cases hp
theorem cts_lenR2 : CtsOk Try.prog [] := fun f c h => by cases h
theorem fn_lenR2 : FnOk Try.prog 24 (sigLenR 7 7) [] := fn_sound (by kernel_rfl) ext_lenR2 cts_lenR2 names vt_lenR2
end Go.Proofs.Ytpmlodchbgfmeaa

namespace Go.Proofs.Ytpmlodchbgfmeaa
open Go.Ev Go.Sp
set_option maxRecDepth 100000
theorem vc_lenR3 : vcFn Try.prog [] noA [] 100 24 (sigLenR 9 9) = (impB ((sigLenR (9 : Int) (9 : Int)).pre [DV.n (9 : Int)]) (
reqB ((sigLenR (9 : Int) (9 : Int)).post [DV.n (9 : Int)]
 [DV.n (Int.ofNat (511 : Nat)), DV.n (0 : Int)]) (
true))) := by kernel_rfl
set_option maxHeartbeats 8000000 in
theorem vt_lenR3 : vcFn Try.prog [] noA [] 100 24 (sigLenR 9 9) = true := by
  rw [vc_lenR3]
  try simp only [Int.toNat_natCast, List.length_set, List.length_replicate, List.length_take, List.length_drop, List.length_append, List.length_cons, List.length_nil, Nat.min_self, List.take_take, lenCols_i, lenCols_b, List.drop_zero, List.take_length, Nat.add_eq, Nat.mul_eq, Nat.sub_eq, Nat.zero_add, Nat.sub_zero, Nat.mul_one]
  refine imp_i fun h0 => ?_
  try simp only [sigLenR, iR, lenPost, List.cons.injEq, DV.b.injEq, and_true, List.length_cons, List.length_nil] at h0
  refine req_i ?_ ?_
  · -- r0
   first | exact ⟨rfl, rfl⟩ | exact ⟨rfl, by decide +kernel⟩
  rfl
theorem ext_lenR3 : ∀ p ∈ ([] : List (Nat × Ext)), ExtRow Try.prog p.1 p.2 := by
  intro p hp
  cases hp
theorem cts_lenR3 : CtsOk Try.prog [] := fun f c h => by cases h
theorem fn_lenR3 : FnOk Try.prog 24 (sigLenR 9 9) [] := fn_sound (by kernel_rfl) ext_lenR3 cts_lenR3 names vt_lenR3
end Go.Proofs.Ytpmlodchbgfmeaa

namespace Go.Proofs.Ytpmlodchbgfmeaa
open Go.Ev Go.Sp
set_option maxRecDepth 100000
theorem vc_lenR4 : vcFn Try.prog [] noA [] 100 24 (sigLenR 10 10) = (impB ((sigLenR (10 : Int) (10 : Int)).pre [DV.n (10 : Int)]) (
reqB ((sigLenR (10 : Int) (10 : Int)).post [DV.n (10 : Int)]
 [DV.n (Int.ofNat (1023 : Nat)), DV.n (0 : Int)]) (
true))) := by kernel_rfl
set_option maxHeartbeats 8000000 in
theorem vt_lenR4 : vcFn Try.prog [] noA [] 100 24 (sigLenR 10 10) = true := by
  rw [vc_lenR4]
  try simp only [Int.toNat_natCast, List.length_set, List.length_replicate, List.length_take, List.length_drop, List.length_append, List.length_cons, List.length_nil, Nat.min_self, List.take_take, lenCols_i, lenCols_b, List.drop_zero, List.take_length, Nat.add_eq, Nat.mul_eq, Nat.sub_eq, Nat.zero_add, Nat.sub_zero, Nat.mul_one]
  refine imp_i fun h0 => ?_
  try simp only [sigLenR, iR, lenPost, List.cons.injEq, DV.b.injEq, and_true, List.length_cons, List.length_nil] at h0
  refine req_i ?_ ?_
  · -- r0
   first | exact ⟨rfl, rfl⟩ | exact ⟨rfl, by decide +kernel⟩
  rfl
theorem ext_lenR4 : ∀ p ∈ ([] : List (Nat × Ext)), ExtRow Try.prog p.1 p.2 := by
  intro p hp
  cases hp
theorem cts_lenR4 : CtsOk Try.prog [] := fun f c h => by cases h
theorem fn_lenR4 : FnOk Try.prog 24 (sigLenR 10 10) [] := fn_sound (by kernel_rfl) ext_lenR4 cts_lenR4 names vt_lenR4
end Go.Proofs.Ytpmlodchbgfmeaa

namespace Go.Proofs.Ytpmlodchbgfmeaa
open Go.Ev Go.Sp
set_option maxRecDepth 100000
theorem vc_lenR5 : vcFn Try.prog [] noA [] 100 24 (sigLenR (-9223372036854775808) 4) = (allB fun n0 : Int => 
impB ((-9223372036854775808 : Int) ≤ n0) (
impB (n0 ≤ (4 : Int)) (
impB ((sigLenR (-9223372036854775808 : Int) (4 : Int)).pre [DV.n n0]) (
reqB ((sigLenR (-9223372036854775808 : Int) (4 : Int)).post [DV.n n0] [DV.n (0 : Int), DV.n (2 : Int)]) (
true))))) := by kernel_rfl
set_option maxHeartbeats 8000000 in
theorem vt_lenR5 : vcFn Try.prog [] noA [] 100 24 (sigLenR (-9223372036854775808) 4) = true := by
  rw [vc_lenR5]
  try simp only [Int.toNat_natCast, List.length_set, List.length_replicate, List.length_take, List.length_drop, List.length_append, List.length_cons, List.length_nil, Nat.min_self, List.take_take, lenCols_i, lenCols_b, List.drop_zero, List.take_length, Nat.add_eq, Nat.mul_eq, Nat.sub_eq, Nat.zero_add, Nat.sub_zero, Nat.mul_one]
  refine all_i fun n0 => ?_
  refine imp_i fun h0 => ?_
  refine imp_i fun h1 => ?_
  refine imp_i fun h2 => ?_
  try simp only [sigLenR, iR, lenPost, List.cons.injEq, DV.b.injEq, and_true, List.length_cons, List.length_nil] at h2
  refine req_i ?_ ?_
  · -- r0
   (simp only [sigBitsR, bitsPost, sigTapsR, tapsPost, sigLenR, lenPost]; exact ite_no (by unfold okD; omega) (by simp))
  rfl
theorem ext_lenR5 : ∀ p ∈ ([] : List (Nat × Ext)), ExtRow Try.prog p.1 p.2 := by
  intro p hp
  cases hp
theorem cts_lenR5 : CtsOk Try.prog [] := fun f c h => by cases h
theorem fn_lenR5 : FnOk Try.prog 24 (sigLenR (-9223372036854775808) 4) [] := fn_sound (by kernel_rfl) ext_lenR5 cts_lenR5 names vt_lenR5
end Go.Proofs.Ytpmlodchbgfmeaa

namespace Go.Proofs.Ytpmlodchbgfmeaa
open Go.Ev Go.Sp
set_option maxRecDepth 100000
theorem vc_lenR6 : vcFn Try.prog [] noA [] 100 24 (sigLenR 8 8) = (impB ((sigLenR (8 : Int) (8 : Int)).pre [DV.n (8 : Int)]) (
reqB ((sigLenR (8 : Int) (8 : Int)).post [DV.n (8 : Int)] [DV.n (0 : Int), DV.n (2 : Int)]) (
true))) := by kernel_rfl
set_option maxHeartbeats 8000000 in
theorem vt_lenR6 : vcFn Try.prog [] noA [] 100 24 (sigLenR 8 8) = true := by
  rw [vc_lenR6]
  try simp only [Int.toNat_natCast, List.length_set, List.length_replicate, List.length_take, List.length_drop, List.length_append, List.length_cons, List.length_nil, Nat.min_self, List.take_take, lenCols_i, lenCols_b, List.drop_zero, List.take_length, Nat.add_eq, Nat.mul_eq, Nat.sub_eq, Nat.zero_add, Nat.sub_zero, Nat.mul_one]
  refine imp_i fun h0 => ?_
  try simp only [sigLenR, iR, lenPost, List.cons.injEq, DV.b.injEq, and_true, List.length_cons, List.length_nil] at h0
  refine req_i ?_ ?_
  · -- r0
   (simp only [sigBitsR, bitsPost, sigTapsR, tapsPost, sigLenR, lenPost]; exact ite_no (by unfold okD; omega) (by simp))
  rfl
theorem ext_lenR6 : ∀ p ∈ ([] : List (Nat × Ext)), ExtRow Try.prog p.1 p.2 := by
  intro p hp
  cases hp
theorem cts_lenR6 : CtsOk Try.prog [] := fun f c h => by cases h
theorem fn_lenR6 : FnOk Try.prog 24 (sigLenR 8 8) [] := fn_sound (by kernel_rfl) ext_lenR6 cts_lenR6 names vt_lenR6
end Go.Proofs.Ytpmlodchbgfmeaa

namespace Go.Proofs.Ytpmlodchbgfmeaa
open Go.Ev Go.Sp
set_option maxRecDepth 100000
theorem vc_lenR7 : vcFn Try.prog [] noA [] 100 24 (sigLenR 11 9223372036854775807) = (allB fun n0 : Int => 
impB ((11 : Int) ≤ n0) (
impB (n0 ≤ (9223372036854775807 : Int)) (
impB ((sigLenR (11 : Int) (9223372036854775807 : Int)).pre [DV.n n0]) (
reqB ((sigLenR (11 : Int) (9223372036854775807 : Int)).post [DV.n n0] [DV.n (0 : Int), DV.n (2 : Int)]) (
true))))) := by kernel_rfl
set_option maxHeartbeats 8000000 in
theorem vt_lenR7 : vcFn Try.prog [] noA [] 100 24 (sigLenR 11 9223372036854775807) = true := by
  rw [vc_lenR7]
  try simp only [Int.toNat_natCast, List.length_set, List.length_replicate, List.length_take, List.length_drop, List.length_append, List.length_cons, List.length_nil, Nat.min_self, List.take_take, lenCols_i, lenCols_b, List.drop_zero, List.take_length, Nat.add_eq, Nat.mul_eq, Nat.sub_eq, Nat.zero_add, Nat.sub_zero, Nat.mul_one]
  refine all_i fun n0 => ?_
  refine imp_i fun h0 => ?_
  refine imp_i fun h1 => ?_
  refine imp_i fun h2 => ?_
  try simp only [sigLenR, iR, lenPost, List.cons.injEq, DV.b.injEq, and_true, List.length_cons, List.length_nil] at h2
  refine req_i ?_ ?_
  · -- r0
   (simp only [sigBitsR, bitsPost, sigTapsR, tapsPost, sigLenR, lenPost]; exact ite_no (by unfold okD; omega) (by simp))
  rfl
theorem ext_lenR7 : ∀ p ∈ ([] : List (Nat × Ext)), ExtRow Try.prog p.1 p.2 := by
  intro p hp
  cases hp
theorem cts_lenR7 : CtsOk Try.prog [] := fun f c h => by cases h
theorem fn_lenR7 : FnOk Try.prog 24 (sigLenR 11 9223372036854775807) [] := fn_sound (by kernel_rfl) ext_lenR7 cts_lenR7 names vt_lenR7
end Go.Proofs.Ytpmlodchbgfmeaa

namespace Go.Proofs.Ytpmlodchbgfmeaa
open Go.Ev Go.Sp
theorem fn_lenR : FnOk Try.prog 24 sigLen [] := by
  exact (fn_cover1 covD covD_ok fun t ht => by
    simp only [covD, List.mem_cons, List.not_mem_nil, or_false] at ht
    rcases ht with rfl | rfl | rfl | rfl | rfl | rfl | rfl | rfl
    · exact fn_lenR0
    · exact fn_lenR1
    · exact fn_lenR2
    · exact fn_lenR3
    · exact fn_lenR4
    · exact fn_lenR5
    · exact fn_lenR6
    · exact fn_lenR7)
end Go.Proofs.Ytpmlodchbgfmeaa

namespace Go.Proofs.Ytpmlodchbgfmeaa
open Go.Ev Go.Sp
set_option maxRecDepth 100000
theorem vc_taps0 : vcFn Try.prog [] noA [] 200 17 (sigTapsR 5 5 1 1) = (impB ((sigTapsR (5 : Int) (5 : Int) (1 : Int) (1 : Int)).pre [DV.n (5 : Int), DV.n (1 : Int)]) (
reqB ((2 : Nat) ≤ (4 : Nat)) (
reqB ([(0 : Int), (2 : Int)].length = (2 : Nat)) (
reqB (∀ (y : Int), y ∈ [(0 : Int), (2 : Int)] → (0 : Int) ≤ y ∧ y ≤ (9 : Int)) (
reqB ((sigTapsR (5 : Int) (5 : Int) (1 : Int) (1 : Int)).post [DV.n (5 : Int), DV.n (1 : Int)]
 [DV.l [(0 : Int), (2 : Int)], DV.n (0 : Int)]) (
true)))))) := by kernel_rfl
set_option maxHeartbeats 8000000 in
theorem vt_taps0 : vcFn Try.prog [] noA [] 200 17 (sigTapsR 5 5 1 1) = true := by
  rw [vc_taps0]
  try simp only [Int.toNat_natCast, List.length_set, List.length_replicate, List.length_take, List.length_drop, List.length_append, List.length_cons, List.length_nil, Nat.min_self, List.take_take, lenCols_i, lenCols_b, List.drop_zero, List.take_length, Nat.add_eq, Nat.mul_eq, Nat.sub_eq, Nat.zero_add, Nat.sub_zero, Nat.mul_one]
  refine imp_i fun h0 => ?_
  try simp only [sigTapsR, iR, cTp, tapsPost, List.cons.injEq, DV.b.injEq, and_true, List.length_cons, List.length_nil] at h0
  refine req_i ?_ ?_
  · -- r0
   first | omega | assumption | grind
  refine req_i ?_ ?_
  · -- r1
   first | omega | ((try simp only [List.length_cons, List.length_nil]); first | done | omega | assumption | grind [getD_set, getD_rep, toNat_succ, cntN_yes, cntN_no])
  refine req_i ?_ ?_
  · -- r2
   exact all09 (by decide +kernel)
  refine req_i ?_ ?_
  · -- r3
   first | exact ⟨rfl, rfl⟩ | exact ⟨rfl, by decide +kernel⟩
  rfl
theorem ext_taps0 : ∀ p ∈ ([] : List (Nat × Ext)), ExtRow Try.prog p.1 p.2 := by
  intro p hp
  cases hp
theorem cts_taps0 : CtsOk Try.prog [] := fun f c h => by cases h
theorem fn_taps0 : FnOk Try.prog 17 (sigTapsR 5 5 1 1) [] := fn_sound (by kernel_rfl) ext_taps0 cts_taps0 names vt_taps0
end Go.Proofs.Ytpmlodchbgfmeaa

namespace Go.Proofs.Ytpmlodchbgfmeaa
open Go.Ev Go.Sp
set_option maxRecDepth 100000
theorem vc_taps1 : vcFn Try.prog [] noA [] 200 17 (sigTapsR 5 5 2 2) = (impB ((sigTapsR (5 : Int) (5 : Int) (2 : Int) (2 : Int)).pre [DV.n (5 : Int), DV.n (2 : Int)]) (
reqB ((4 : Nat) ≤ (4 : Nat)) (
reqB ([(0 : Int), (2 : Int), (3 : Int), (4 : Int)].length = (4 : Nat)) (
reqB (∀ (y : Int), y ∈ [(0 : Int), (2 : Int), (3 : Int), (4 : Int)] → (0 : Int) ≤ y ∧ y ≤ (9 : Int)) (
reqB ((sigTapsR (5 : Int) (5 : Int) (2 : Int) (2 : Int)).post [DV.n (5 : Int), DV.n (2 : Int)]
 [DV.l [(0 : Int), (2 : Int), (3 : Int), (4 : Int)], DV.n (0 : Int)]) (
true)))))) := by kernel_rfl
set_option maxHeartbeats 8000000 in
theorem vt_taps1 : vcFn Try.prog [] noA [] 200 17 (sigTapsR 5 5 2 2) = true := by
  rw [vc_taps1]
  try simp only [Int.toNat_natCast, List.length_set, List.length_replicate, List.length_take, List.length_drop, List.length_append, List.length_cons, List.length_nil, Nat.min_self, List.take_take, lenCols_i, lenCols_b, List.drop_zero, List.take_length, Nat.add_eq, Nat.mul_eq, Nat.sub_eq, Nat.zero_add, Nat.sub_zero, Nat.mul_one]
  refine imp_i fun h0 => ?_
  try simp only [sigTapsR, iR, cTp, tapsPost, List.cons.injEq, DV.b.injEq, and_true, List.length_cons, List.length_nil] at h0
  refine req_i ?_ ?_
  · -- r0
   first | omega | assumption | grind
  refine req_i ?_ ?_
  · -- r1
   first | omega | ((try simp only [List.length_cons, List.length_nil]); first | done | omega | assumption | grind [getD_set, getD_rep, toNat_succ, cntN_yes, cntN_no])
  refine req_i ?_ ?_
  · -- r2
   exact all09 (by decide +kernel)
  refine req_i ?_ ?_
  · -- r3
   first | exact ⟨rfl, rfl⟩ | exact ⟨rfl, by decide +kernel⟩
  rfl
theorem ext_taps1 : ∀ p ∈ ([] : List (Nat × Ext)), ExtRow Try.prog p.1 p.2 := by
  intro p hp
  cases hp
theorem cts_taps1 : CtsOk Try.prog [] := fun f c h => by cases h
theorem fn_taps1 : FnOk Try.prog 17 (sigTapsR 5 5 2 2) [] := fn_sound (by kernel_rfl) ext_taps1 cts_taps1 names vt_taps1
end Go.Proofs.Ytpmlodchbgfmeaa

namespace Go.Proofs.Ytpmlodchbgfmeaa
open Go.Ev Go.Sp
set_option maxRecDepth 100000
theorem vc_taps2 : vcFn Try.prog [] noA [] 400 17 (sigTapsR 6 6 1 1) = (impB ((sigTapsR (6 : Int) (6 : Int) (1 : Int) (1 : Int)).pre [DV.n (6 : Int), DV.n (1 : Int)]) (
reqB ((2 : Nat) ≤ (4 : Nat)) (
reqB ([(0 : Int), (1 : Int)].length = (2 : Nat)) (
reqB (∀ (y : Int), y ∈ [(0 : Int), (1 : Int)] → (0 : Int) ≤ y ∧ y ≤ (9 : Int)) (
reqB ((sigTapsR (6 : Int) (6 : Int) (1 : Int) (1 : Int)).post [DV.n (6 : Int), DV.n (1 : Int)]
 [DV.l [(0 : Int), (1 : Int)], DV.n (0 : Int)]) (
true)))))) := by kernel_rfl
set_option maxHeartbeats 8000000 in
theorem vt_taps2 : vcFn Try.prog [] noA [] 400 17 (sigTapsR 6 6 1 1) = true := by
  rw [vc_taps2]
  try simp only [Int.toNat_natCast, List.length_set, List.length_replicate, List.length_take, List.length_drop, List.length_append, List.length_cons, List.length_nil, Nat.min_self, List.take_take, lenCols_i, lenCols_b, List.drop_zero, List.take_length, Nat.add_eq, Nat.mul_eq, Nat.sub_eq, Nat.zero_add, Nat.sub_zero, Nat.mul_one]
  refine imp_i fun h0 => ?_
  try simp only [sigTapsR, iR, cTp, tapsPost, List.cons.injEq, DV.b.injEq, and_true, List.length_cons, List.length_nil] at h0
  refine req_i ?_ ?_
  · -- r0
   first | omega | assumption | grind
  refine req_i ?_ ?_
  · -- r1
   first | omega | ((try simp only [List.length_cons, List.length_nil]); first | done | omega | assumption | grind [getD_set, getD_rep, toNat_succ, cntN_yes, cntN_no])
  refine req_i ?_ ?_
  · -- r2
   exact all09 (by decide +kernel)
  refine req_i ?_ ?_
  · -- r3
   first | exact ⟨rfl, rfl⟩ | exact ⟨rfl, by decide +kernel⟩
  rfl
theorem ext_taps2 : ∀ p ∈ ([] : List (Nat × Ext)), ExtRow Try.prog p.1 p.2 := by
  intro p hp
  cases hp
theorem cts_taps2 : CtsOk Try.prog [] := fun f c h => by cases h
theorem fn_taps2 : FnOk Try.prog 17 (sigTapsR 6 6 1 1) [] := fn_sound (by kernel_rfl) ext_taps2 cts_taps2 names vt_taps2
end Go.Proofs.Ytpmlodchbgfmeaa

namespace Go.Proofs.Ytpmlodchbgfmeaa
open Go.Ev Go.Sp
set_option maxRecDepth 100000
theorem vc_taps3 : vcFn Try.prog [] noA [] 400 17 (sigTapsR 6 6 2 2) = (impB ((sigTapsR (6 : Int) (6 : Int) (2 : Int) (2 : Int)).pre [DV.n (6 : Int), DV.n (2 : Int)]) (
reqB ((4 : Nat) ≤ (4 : Nat)) (
reqB ([(0 : Int), (1 : Int), (2 : Int), (5 : Int)].length = (4 : Nat)) (
reqB (∀ (y : Int), y ∈ [(0 : Int), (1 : Int), (2 : Int), (5 : Int)] → (0 : Int) ≤ y ∧ y ≤ (9 : Int)) (
reqB ((sigTapsR (6 : Int) (6 : Int) (2 : Int) (2 : Int)).post [DV.n (6 : Int), DV.n (2 : Int)]
 [DV.l [(0 : Int), (1 : Int), (2 : Int), (5 : Int)], DV.n (0 : Int)]) (
true)))))) := by kernel_rfl
set_option maxHeartbeats 8000000 in
theorem vt_taps3 : vcFn Try.prog [] noA [] 400 17 (sigTapsR 6 6 2 2) = true := by
  rw [vc_taps3]
  try simp only [Int.toNat_natCast, List.length_set, List.length_replicate, List.length_take, List.length_drop, List.length_append, List.length_cons, List.length_nil, Nat.min_self, List.take_take, lenCols_i, lenCols_b, List.drop_zero, List.take_length, Nat.add_eq, Nat.mul_eq, Nat.sub_eq, Nat.zero_add, Nat.sub_zero, Nat.mul_one]
  refine imp_i fun h0 => ?_
  try simp only [sigTapsR, iR, cTp, tapsPost, List.cons.injEq, DV.b.injEq, and_true, List.length_cons, List.length_nil] at h0
  refine req_i ?_ ?_
  · -- r0
   first | omega | assumption | grind
  refine req_i ?_ ?_
  · -- r1
   first | omega | ((try simp only [List.length_cons, List.length_nil]); first | done | omega | assumption | grind [getD_set, getD_rep, toNat_succ, cntN_yes, cntN_no])
  refine req_i ?_ ?_
  · -- r2
   exact all09 (by decide +kernel)
  refine req_i ?_ ?_
  · -- r3
   first | exact ⟨rfl, rfl⟩ | exact ⟨rfl, by decide +kernel⟩
  rfl
theorem ext_taps3 : ∀ p ∈ ([] : List (Nat × Ext)), ExtRow Try.prog p.1 p.2 := by
  intro p hp
  cases hp
theorem cts_taps3 : CtsOk Try.prog [] := fun f c h => by cases h
theorem fn_taps3 : FnOk Try.prog 17 (sigTapsR 6 6 2 2) [] := fn_sound (by kernel_rfl) ext_taps3 cts_taps3 names vt_taps3
end Go.Proofs.Ytpmlodchbgfmeaa

namespace Go.Proofs.Ytpmlodchbgfmeaa
open Go.Ev Go.Sp
set_option maxRecDepth 100000
theorem vc_taps4 : vcFn Try.prog [] noA [] 1000 17 (sigTapsR 7 7 1 1) = (impB ((sigTapsR (7 : Int) (7 : Int) (1 : Int) (1 : Int)).pre [DV.n (7 : Int), DV.n (1 : Int)]) (
reqB ((2 : Nat) ≤ (4 : Nat)) (
reqB ([(0 : Int), (3 : Int)].length = (2 : Nat)) (
reqB (∀ (y : Int), y ∈ [(0 : Int), (3 : Int)] → (0 : Int) ≤ y ∧ y ≤ (9 : Int)) (
reqB ((sigTapsR (7 : Int) (7 : Int) (1 : Int) (1 : Int)).post [DV.n (7 : Int), DV.n (1 : Int)]
 [DV.l [(0 : Int), (3 : Int)], DV.n (0 : Int)]) (
true)))))) := by kernel_rfl
set_option maxHeartbeats 8000000 in
theorem vt_taps4 : vcFn Try.prog [] noA [] 1000 17 (sigTapsR 7 7 1 1) = true := by
  rw [vc_taps4]
  try simp only [Int.toNat_natCast, List.length_set, List.length_replicate, List.length_take, List.length_drop, List.length_append, List.length_cons, List.length_nil, Nat.min_self, List.take_take, lenCols_i, lenCols_b, List.drop_zero, List.take_length, Nat.add_eq, Nat.mul_eq, Nat.sub_eq, Nat.zero_add, Nat.sub_zero, Nat.mul_one]
  refine imp_i fun h0 => ?_
  try simp only [sigTapsR, iR, cTp, tapsPost, List.cons.injEq, DV.b.injEq, and_true, List.length_cons, List.length_nil] at h0
  refine req_i ?_ ?_
  · -- r0
   first | omega | assumption | grind
  refine req_i ?_ ?_
  · -- r1
   first | omega | ((try simp only [List.length_cons, List.length_nil]); first | done | omega | assumption | grind [getD_set, getD_rep, toNat_succ, cntN_yes, cntN_no])
  refine req_i ?_ ?_
  · -- r2
   exact all09 (by decide +kernel)
  refine req_i ?_ ?_
  · -- r3
   first | exact ⟨rfl, rfl⟩ | exact ⟨rfl, by decide +kernel⟩
  rfl
theorem ext_taps4 : ∀ p ∈ ([] : List (Nat × Ext)), ExtRow Try.prog p.1 p.2 := by
  intro p hp
  cases hp
theorem cts_taps4 : CtsOk Try.prog [] := fun f c h => by cases h
theorem fn_taps4 : FnOk Try.prog 17 (sigTapsR 7 7 1 1) [] := fn_sound (by kernel_rfl) ext_taps4 cts_taps4 names vt_taps4
end Go.Proofs.Ytpmlodchbgfmeaa

namespace Go.Proofs.Ytpmlodchbgfmeaa
open Go.Ev Go.Sp
set_option maxRecDepth 100000
theorem vc_taps5 : vcFn Try.prog [] noA [] 1000 17 (sigTapsR 7 7 2 2) = (impB ((sigTapsR (7 : Int) (7 : Int) (2 : Int) (2 : Int)).pre [DV.n (7 : Int), DV.n (2 : Int)]) (
reqB ((4 : Nat) ≤ (4 : Nat)) (
reqB ([(0 : Int), (1 : Int), (2 : Int), (3 : Int)].length = (4 : Nat)) (
reqB (∀ (y : Int), y ∈ [(0 : Int), (1 : Int), (2 : Int), (3 : Int)] → (0 : Int) ≤ y ∧ y ≤ (9 : Int)) (
reqB ((sigTapsR (7 : Int) (7 : Int) (2 : Int) (2 : Int)).post [DV.n (7 : Int), DV.n (2 : Int)]
 [DV.l [(0 : Int), (1 : Int), (2 : Int), (3 : Int)], DV.n (0 : Int)]) (
true)))))) := by kernel_rfl
set_option maxHeartbeats 8000000 in
theorem vt_taps5 : vcFn Try.prog [] noA [] 1000 17 (sigTapsR 7 7 2 2) = true := by
  rw [vc_taps5]
  try simp only [Int.toNat_natCast, List.length_set, List.length_replicate, List.length_take, List.length_drop, List.length_append, List.length_cons, List.length_nil, Nat.min_self, List.take_take, lenCols_i, lenCols_b, List.drop_zero, List.take_length, Nat.add_eq, Nat.mul_eq, Nat.sub_eq, Nat.zero_add, Nat.sub_zero, Nat.mul_one]
  refine imp_i fun h0 => ?_
  try simp only [sigTapsR, iR, cTp, tapsPost, List.cons.injEq, DV.b.injEq, and_true, List.length_cons, List.length_nil] at h0
  refine req_i ?_ ?_
  · -- r0
   first | omega | assumption | grind
  refine req_i ?_ ?_
  · -- r1
   first | omega | ((try simp only [List.length_cons, List.length_nil]); first | done | omega | assumption | grind [getD_set, getD_rep, toNat_succ, cntN_yes, cntN_no])
  refine req_i ?_ ?_
  · -- r2
   exact all09 (by decide +kernel)
  refine req_i ?_ ?_
  · -- r3
   first | exact ⟨rfl, rfl⟩ | exact ⟨rfl, by decide +kernel⟩
  rfl
theorem ext_taps5 : ∀ p ∈ ([] : List (Nat × Ext)), ExtRow Try.prog p.1 p.2 := by
  intro p hp
  cases hp
theorem cts_taps5 : CtsOk Try.prog [] := fun f c h => by cases h
theorem fn_taps5 : FnOk Try.prog 17 (sigTapsR 7 7 2 2) [] := fn_sound (by kernel_rfl) ext_taps5 cts_taps5 names vt_taps5
end Go.Proofs.Ytpmlodchbgfmeaa

namespace Go.Proofs.Ytpmlodchbgfmeaa
open Go.Ev Go.Sp
set_option maxRecDepth 100000
theorem vc_taps6 : vcFn Try.prog [] noA [] 2500 17 (sigTapsR 9 9 1 1) = (impB ((sigTapsR (9 : Int) (9 : Int) (1 : Int) (1 : Int)).pre [DV.n (9 : Int), DV.n (1 : Int)]) (
reqB ((2 : Nat) ≤ (4 : Nat)) (
reqB ([(0 : Int), (4 : Int)].length = (2 : Nat)) (
reqB (∀ (y : Int), y ∈ [(0 : Int), (4 : Int)] → (0 : Int) ≤ y ∧ y ≤ (9 : Int)) (
reqB ((sigTapsR (9 : Int) (9 : Int) (1 : Int) (1 : Int)).post [DV.n (9 : Int), DV.n (1 : Int)]
 [DV.l [(0 : Int), (4 : Int)], DV.n (0 : Int)]) (
true)))))) := by kernel_rfl
set_option maxHeartbeats 8000000 in
theorem vt_taps6 : vcFn Try.prog [] noA [] 2500 17 (sigTapsR 9 9 1 1) = true := by
  rw [vc_taps6]
  try simp only [Int.toNat_natCast, List.length_set, List.length_replicate, List.length_take, List.length_drop, List.length_append, List.length_cons, List.length_nil, Nat.min_self, List.take_take, lenCols_i, lenCols_b, List.drop_zero, List.take_length, Nat.add_eq, Nat.mul_eq, Nat.sub_eq, Nat.zero_add, Nat.sub_zero, Nat.mul_one]
  refine imp_i fun h0 => ?_
  try simp only [sigTapsR, iR, cTp, tapsPost, List.cons.injEq, DV.b.injEq, and_true, List.length_cons, List.length_nil] at h0
  refine req_i ?_ ?_
  · -- r0
   first | omega | assumption | grind
  refine req_i ?_ ?_
  · -- r1
   first | omega | ((try simp only [List.length_cons, List.length_nil]); first | done | omega | assumption | grind [getD_set, getD_rep, toNat_succ, cntN_yes, cntN_no])
  refine req_i ?_ ?_
  · -- r2
   exact all09 (by decide +kernel)
  refine req_i ?_ ?_
  · -- r3
   first | exact ⟨rfl, rfl⟩ | exact ⟨rfl, by decide +kernel⟩
  rfl
theorem ext_taps6 : ∀ p ∈ ([] : List (Nat × Ext)), ExtRow Try.prog p.1 p.2 := by
  intro p hp
  cases hp
theorem cts_taps6 : CtsOk Try.prog [] := fun f c h => by cases h
theorem fn_taps6 : FnOk Try.prog 17 (sigTapsR 9 9 1 1) [] := fn_sound (by kernel_rfl) ext_taps6 cts_taps6 names vt_taps6
end Go.Proofs.Ytpmlodchbgfmeaa

namespace Go.Proofs.Ytpmlodchbgfmeaa
open Go.Ev Go.Sp
set_option maxRecDepth 100000
theorem vc_taps7 : vcFn Try.prog [] noA [] 2500 17 (sigTapsR 9 9 2 2) = (impB ((sigTapsR (9 : Int) (9 : Int) (2 : Int) (2 : Int)).pre [DV.n (9 : Int), DV.n (2 : Int)]) (
reqB ((4 : Nat) ≤ (4 : Nat)) (
reqB ([(0 : Int), (3 : Int), (4 : Int), (6 : Int)].length = (4 : Nat)) (
reqB (∀ (y : Int), y ∈ [(0 : Int), (3 : Int), (4 : Int), (6 : Int)] → (0 : Int) ≤ y ∧ y ≤ (9 : Int)) (
reqB ((sigTapsR (9 : Int) (9 : Int) (2 : Int) (2 : Int)).post [DV.n (9 : Int), DV.n (2 : Int)]
 [DV.l [(0 : Int), (3 : Int), (4 : Int), (6 : Int)], DV.n (0 : Int)]) (
true)))))) := by kernel_rfl
set_option maxHeartbeats 8000000 in
theorem vt_taps7 : vcFn Try.prog [] noA [] 2500 17 (sigTapsR 9 9 2 2) = true := by
  rw [vc_taps7]
  try simp only [Int.toNat_natCast, List.length_set, List.length_replicate, List.length_take, List.length_drop, List.length_append, List.length_cons, List.length_nil, Nat.min_self, List.take_take, lenCols_i, lenCols_b, List.drop_zero, List.take_length, Nat.add_eq, Nat.mul_eq, Nat.sub_eq, Nat.zero_add, Nat.sub_zero, Nat.mul_one]
  refine imp_i fun h0 => ?_
  try simp only [sigTapsR, iR, cTp, tapsPost, List.cons.injEq, DV.b.injEq, and_true, List.length_cons, List.length_nil] at h0
  refine req_i ?_ ?_
  · -- r0
   first | omega | assumption | grind
  refine req_i ?_ ?_
  · -- r1
   first | omega | ((try simp only [List.length_cons, List.length_nil]); first | done | omega | assumption | grind [getD_set, getD_rep, toNat_succ, cntN_yes, cntN_no])
  refine req_i ?_ ?_
  · -- r2
   exact all09 (by decide +kernel)
  refine req_i ?_ ?_
  · -- r3
   first | exact ⟨rfl, rfl⟩ | exact ⟨rfl, by decide +kernel⟩
  rfl
theorem ext_taps7 : ∀ p ∈ ([] : List (Nat × Ext)), ExtRow Try.prog p.1 p.2 := by
  intro p hp
  cases hp
theorem cts_taps7 : CtsOk Try.prog [] := fun f c h => by cases h
theorem fn_taps7 : FnOk Try.prog 17 (sigTapsR 9 9 2 2) [] := fn_sound (by kernel_rfl) ext_taps7 cts_taps7 names vt_taps7
end Go.Proofs.Ytpmlodchbgfmeaa

namespace Go.Proofs.Ytpmlodchbgfmeaa
open Go.Ev Go.Sp
set_option maxRecDepth 100000
theorem vc_taps8 : vcFn Try.prog [] noA [] 4000 17 (sigTapsR 10 10 1 1) = (impB ((sigTapsR (10 : Int) (10 : Int) (1 : Int) (1 : Int)).pre [DV.n (10 : Int), DV.n (1 : Int)]) (
reqB ((2 : Nat) ≤ (4 : Nat)) (
reqB ([(0 : Int), (3 : Int)].length = (2 : Nat)) (
reqB (∀ (y : Int), y ∈ [(0 : Int), (3 : Int)] → (0 : Int) ≤ y ∧ y ≤ (9 : Int)) (
reqB ((sigTapsR (10 : Int) (10 : Int) (1 : Int) (1 : Int)).post [DV.n (10 : Int), DV.n (1 : Int)]
 [DV.l [(0 : Int), (3 : Int)], DV.n (0 : Int)]) (
true)))))) := by kernel_rfl
set_option maxHeartbeats 8000000 in
theorem vt_taps8 : vcFn Try.prog [] noA [] 4000 17 (sigTapsR 10 10 1 1) = true := by
  rw [vc_taps8]
  try simp only [Int.toNat_natCast, List.length_set, List.length_replicate, List.length_take, List.length_drop, List.length_append, List.length_cons, List.length_nil, Nat.min_self, List.take_take, lenCols_i, lenCols_b, List.drop_zero, List.take_length, Nat.add_eq, Nat.mul_eq, Nat.sub_eq, Nat.zero_add, Nat.sub_zero, Nat.mul_one]
  refine imp_i fun h0 => ?_
  try simp only [sigTapsR, iR, cTp, tapsPost, List.cons.injEq, DV.b.injEq, and_true, List.length_cons, List.length_nil] at h0
  refine req_i ?_ ?_
  · -- r0
   first | omega | assumption | grind
  refine req_i ?_ ?_
  · -- r1
   first | omega | ((try simp only [List.length_cons, List.length_nil]); first | done | omega | assumption | grind [getD_set, getD_rep, toNat_succ, cntN_yes, cntN_no])
  refine req_i ?_ ?_
  · -- r2
   exact all09 (by decide +kernel)
  refine req_i ?_ ?_
  · -- r3
   first | exact ⟨rfl, rfl⟩ | exact ⟨rfl, by decide +kernel⟩
  rfl
theorem ext_taps8 : ∀ p ∈ ([] : List (Nat × Ext)), ExtRow Try.prog p.1 p.2 := by
  intro p hp
  cases hp
theorem cts_taps8 : CtsOk Try.prog [] := fun f c h => by cases h
theorem fn_taps8 : FnOk Try.prog 17 (sigTapsR 10 10 1 1) [] := fn_sound (by kernel_rfl) ext_taps8 cts_taps8 names vt_taps8
end Go.Proofs.Ytpmlodchbgfmeaa

namespace Go.Proofs.Ytpmlodchbgfmeaa
open Go.Ev Go.Sp
set_option maxRecDepth 100000
theorem vc_taps9 : vcFn Try.prog [] noA [] 4000 17 (sigTapsR 10 10 2 2) = (impB ((sigTapsR (10 : Int) (10 : Int) (2 : Int) (2 : Int)).pre [DV.n (10 : Int), DV.n (2 : Int)]) (
reqB ((4 : Nat) ≤ (4 : Nat)) (
reqB ([(0 : Int), (2 : Int), (3 : Int), (8 : Int)].length = (4 : Nat)) (
reqB (∀ (y : Int), y ∈ [(0 : Int), (2 : Int), (3 : Int), (8 : Int)] → (0 : Int) ≤ y ∧ y ≤ (9 : Int)) (
reqB ((sigTapsR (10 : Int) (10 : Int) (2 : Int) (2 : Int)).post [DV.n (10 : Int), DV.n (2 : Int)]
 [DV.l [(0 : Int), (2 : Int), (3 : Int), (8 : Int)], DV.n (0 : Int)]) (
true)))))) := by kernel_rfl
set_option maxHeartbeats 8000000 in
theorem vt_taps9 : vcFn Try.prog [] noA [] 4000 17 (sigTapsR 10 10 2 2) = true := by
  rw [vc_taps9]
  try simp only [Int.toNat_natCast, List.length_set, List.length_replicate, List.length_take, List.length_drop, List.length_append, List.length_cons, List.length_nil, Nat.min_self, List.take_take, lenCols_i, lenCols_b, List.drop_zero, List.take_length, Nat.add_eq, Nat.mul_eq, Nat.sub_eq, Nat.zero_add, Nat.sub_zero, Nat.mul_one]
  refine imp_i fun h0 => ?_
  try simp only [sigTapsR, iR, cTp, tapsPost, List.cons.injEq, DV.b.injEq, and_true, List.length_cons, List.length_nil] at h0
  refine req_i ?_ ?_
  · -- r0
   first | omega | assumption | grind
  refine req_i ?_ ?_
  · -- r1
   first | omega | ((try simp only [List.length_cons, List.length_nil]); first | done | omega | assumption | grind [getD_set, getD_rep, toNat_succ, cntN_yes, cntN_no])
  refine req_i ?_ ?_
  · -- r2
   exact all09 (by decide +kernel)
  refine req_i ?_ ?_
  · -- r3
   first | exact ⟨rfl, rfl⟩ | exact ⟨rfl, by decide +kernel⟩
  rfl
theorem ext_taps9 : ∀ p ∈ ([] : List (Nat × Ext)), ExtRow Try.prog p.1 p.2 := by
  intro p hp
  cases hp
theorem cts_taps9 : CtsOk Try.prog [] := fun f c h => by cases h
theorem fn_taps9 : FnOk Try.prog 17 (sigTapsR 10 10 2 2) [] := fn_sound (by kernel_rfl) ext_taps9 cts_taps9 names vt_taps9
end Go.Proofs.Ytpmlodchbgfmeaa

namespace Go.Proofs.Ytpmlodchbgfmeaa
open Go.Ev Go.Sp
set_option maxRecDepth 100000
theorem vc_taps10 : vcFn Try.prog [] noA [] 100 17 (sigTapsR (-9223372036854775808) 4 (-9223372036854775808) 9223372036854775807) = (allB fun n0 : Int => 
impB ((-9223372036854775808 : Int) ≤ n0) (
impB (n0 ≤ (4 : Int)) (
allB fun n1 : Int => 
impB ((-9223372036854775808 : Int) ≤ n1) (
impB (n1 ≤ (9223372036854775807 : Int)) (
impB ((sigTapsR (-9223372036854775808 : Int) (4 : Int) (-9223372036854775808 : Int) (9223372036854775807 : Int)).pre
 [DV.n n0, DV.n n1]) (
reqB ((sigTapsR (-9223372036854775808 : Int) (4 : Int) (-9223372036854775808 : Int) (9223372036854775807 : Int)).post
 [DV.n n0, DV.n n1] [DV.l [], DV.n (2 : Int)]) (
true))))))) := by kernel_rfl
set_option maxHeartbeats 8000000 in
theorem vt_taps10 : vcFn Try.prog [] noA [] 100 17 (sigTapsR (-9223372036854775808) 4 (-9223372036854775808) 9223372036854775807) = true := by
  rw [vc_taps10]
  try simp only [Int.toNat_natCast, List.length_set, List.length_replicate, List.length_take, List.length_drop, List.length_append, List.length_cons, List.length_nil, Nat.min_self, List.take_take, lenCols_i, lenCols_b, List.drop_zero, List.take_length, Nat.add_eq, Nat.mul_eq, Nat.sub_eq, Nat.zero_add, Nat.sub_zero, Nat.mul_one]
  refine all_i fun n0 => ?_
  refine imp_i fun h0 => ?_
  refine imp_i fun h1 => ?_
  refine all_i fun n1 => ?_
  refine imp_i fun h2 => ?_
  refine imp_i fun h3 => ?_
  refine imp_i fun h4 => ?_
  try simp only [sigTapsR, iR, cTp, tapsPost, List.cons.injEq, DV.b.injEq, and_true, List.length_cons, List.length_nil] at h4
  refine req_i ?_ ?_
  · -- r0
   (simp only [sigBitsR, bitsPost, sigTapsR, tapsPost, sigLenR, lenPost]; exact ite_no (by unfold okD; omega) (by simp))
  rfl
theorem ext_taps10 : ∀ p ∈ ([] : List (Nat × Ext)), ExtRow Try.prog p.1 p.2 := by
  intro p hp
  cases hp
theorem cts_taps10 : CtsOk Try.prog [] := fun f c h => by cases h
theorem fn_taps10 : FnOk Try.prog 17 (sigTapsR (-9223372036854775808) 4 (-9223372036854775808) 9223372036854775807) [] := fn_sound (by kernel_rfl) ext_taps10 cts_taps10 names vt_taps10
end Go.Proofs.Ytpmlodchbgfmeaa

namespace Go.Proofs.Ytpmlodchbgfmeaa
open Go.Ev Go.Sp
set_option maxRecDepth 100000
theorem vc_taps11 : vcFn Try.prog [] noA [] 100 17 (sigTapsR 8 8 (-9223372036854775808) 9223372036854775807) = (allB fun n0 : Int => 
impB ((-9223372036854775808 : Int) ≤ n0) (
impB (n0 ≤ (9223372036854775807 : Int)) (
impB ((sigTapsR (8 : Int) (8 : Int) (-9223372036854775808 : Int) (9223372036854775807 : Int)).pre
 [DV.n (8 : Int), DV.n n0]) (
reqB ((sigTapsR (8 : Int) (8 : Int) (-9223372036854775808 : Int) (9223372036854775807 : Int)).post
 [DV.n (8 : Int), DV.n n0] [DV.l [], DV.n (2 : Int)]) (
true))))) := by kernel_rfl
set_option maxHeartbeats 8000000 in
theorem vt_taps11 : vcFn Try.prog [] noA [] 100 17 (sigTapsR 8 8 (-9223372036854775808) 9223372036854775807) = true := by
  rw [vc_taps11]
  try simp only [Int.toNat_natCast, List.length_set, List.length_replicate, List.length_take, List.length_drop, List.length_append, List.length_cons, List.length_nil, Nat.min_self, List.take_take, lenCols_i, lenCols_b, List.drop_zero, List.take_length, Nat.add_eq, Nat.mul_eq, Nat.sub_eq, Nat.zero_add, Nat.sub_zero, Nat.mul_one]
  refine all_i fun n0 => ?_
  refine imp_i fun h0 => ?_
  refine imp_i fun h1 => ?_
  refine imp_i fun h2 => ?_
  try simp only [sigTapsR, iR, cTp, tapsPost, List.cons.injEq, DV.b.injEq, and_true, List.length_cons, List.length_nil] at h2
  refine req_i ?_ ?_
  · -- r0
   (simp only [sigBitsR, bitsPost, sigTapsR, tapsPost, sigLenR, lenPost]; exact ite_no (by unfold okD; omega) (by simp))
  rfl
theorem ext_taps11 : ∀ p ∈ ([] : List (Nat × Ext)), ExtRow Try.prog p.1 p.2 := by
  intro p hp
  cases hp
theorem cts_taps11 : CtsOk Try.prog [] := fun f c h => by cases h
theorem fn_taps11 : FnOk Try.prog 17 (sigTapsR 8 8 (-9223372036854775808) 9223372036854775807) [] := fn_sound (by kernel_rfl) ext_taps11 cts_taps11 names vt_taps11
end Go.Proofs.Ytpmlodchbgfmeaa

namespace Go.Proofs.Ytpmlodchbgfmeaa
open Go.Ev Go.Sp
set_option maxRecDepth 100000
theorem vc_taps12 : vcFn Try.prog [] noA [] 100 17 (sigTapsR 11 9223372036854775807 (-9223372036854775808) 9223372036854775807) = (allB fun n0 : Int => 
impB ((11 : Int) ≤ n0) (
impB (n0 ≤ (9223372036854775807 : Int)) (
allB fun n1 : Int => 
impB ((-9223372036854775808 : Int) ≤ n1) (
impB (n1 ≤ (9223372036854775807 : Int)) (
impB ((sigTapsR (11 : Int) (9223372036854775807 : Int) (-9223372036854775808 : Int) (9223372036854775807 : Int)).pre
 [DV.n n0, DV.n n1]) (
reqB ((sigTapsR (11 : Int) (9223372036854775807 : Int) (-9223372036854775808 : Int) (9223372036854775807 : Int)).post
 [DV.n n0, DV.n n1] [DV.l [], DV.n (2 : Int)]) (
true))))))) := by kernel_rfl
set_option maxHeartbeats 8000000 in
theorem vt_taps12 : vcFn Try.prog [] noA [] 100 17 (sigTapsR 11 9223372036854775807 (-9223372036854775808) 9223372036854775807) = true := by
  rw [vc_taps12]
  try simp only [Int.toNat_natCast, List.length_set, List.length_replicate, List.length_take, List.length_drop, List.length_append, List.length_cons, List.length_nil, Nat.min_self, List.take_take, lenCols_i, lenCols_b, List.drop_zero, List.take_length, Nat.add_eq, Nat.mul_eq, Nat.sub_eq, Nat.zero_add, Nat.sub_zero, Nat.mul_one]
  refine all_i fun n0 => ?_
  refine imp_i fun h0 => ?_
  refine imp_i fun h1 => ?_
  refine all_i fun n1 => ?_
  refine imp_i fun h2 => ?_
  refine imp_i fun h3 => ?_
  refine imp_i fun h4 => ?_
  try simp only [sigTapsR, iR, cTp, tapsPost, List.cons.injEq, DV.b.injEq, and_true, List.length_cons, List.length_nil] at h4
  refine req_i ?_ ?_
  · -- r0
   (simp only [sigBitsR, bitsPost, sigTapsR, tapsPost, sigLenR, lenPost]; exact ite_no (by unfold okD; omega) (by simp))
  rfl
theorem ext_taps12 : ∀ p ∈ ([] : List (Nat × Ext)), ExtRow Try.prog p.1 p.2 := by
  intro p hp
  cases hp
theorem cts_taps12 : CtsOk Try.prog [] := fun f c h => by cases h
theorem fn_taps12 : FnOk Try.prog 17 (sigTapsR 11 9223372036854775807 (-9223372036854775808) 9223372036854775807) [] := fn_sound (by kernel_rfl) ext_taps12 cts_taps12 names vt_taps12
end Go.Proofs.Ytpmlodchbgfmeaa

namespace Go.Proofs.Ytpmlodchbgfmeaa
open Go.Ev Go.Sp
set_option maxRecDepth 100000
theorem vc_taps13 : vcFn Try.prog [] noA [] 100 17 (sigTapsR 5 10 (-9223372036854775808) 0) = (allB fun n0 : Int => 
impB ((5 : Int) ≤ n0) (
impB (n0 ≤ (10 : Int)) (
allB fun n1 : Int => 
impB ((-9223372036854775808 : Int) ≤ n1) (
impB (n1 ≤ (0 : Int)) (
impB ((sigTapsR (5 : Int) (10 : Int) (-9223372036854775808 : Int) (0 : Int)).pre [DV.n n0, DV.n n1]) (
bR (dec ((5 : Int) = n0)) (
 reqB ((sigTapsR (5 : Int) (10 : Int) (-9223372036854775808 : Int) (0 : Int)).post [DV.n n0, DV.n n1]
 [DV.l [], DV.n (2 : Int)]) (
 true)) (
 bR (dec ((6 : Int) = n0)) (
 reqB ((sigTapsR (5 : Int) (10 : Int) (-9223372036854775808 : Int) (0 : Int)).post [DV.n n0, DV.n n1]
 [DV.l [], DV.n (2 : Int)]) (
 true)) (
 bR (dec ((7 : Int) = n0)) (
 reqB ((sigTapsR (5 : Int) (10 : Int) (-9223372036854775808 : Int) (0 : Int)).post [DV.n n0, DV.n n1]
 [DV.l [], DV.n (2 : Int)]) (
 true)) (
 bR (dec ((9 : Int) = n0)) (
 reqB ((sigTapsR (5 : Int) (10 : Int) (-9223372036854775808 : Int) (0 : Int)).post [DV.n n0, DV.n n1]
 [DV.l [], DV.n (2 : Int)]) (
 true)) (
 bR (dec ((10 : Int) = n0)) (
 reqB ((sigTapsR (5 : Int) (10 : Int) (-9223372036854775808 : Int) (0 : Int)).post [DV.n n0, DV.n n1]
 [DV.l [], DV.n (2 : Int)]) (
 true)) (
 reqB ((sigTapsR (5 : Int) (10 : Int) (-9223372036854775808 : Int) (0 : Int)).post [DV.n n0, DV.n n1]
 [DV.l [], DV.n (2 : Int)]) (
 true)))))))))))) := by kernel_rfl
set_option maxHeartbeats 8000000 in
theorem vt_taps13 : vcFn Try.prog [] noA [] 100 17 (sigTapsR 5 10 (-9223372036854775808) 0) = true := by
  rw [vc_taps13]
  try simp only [Int.toNat_natCast, List.length_set, List.length_replicate, List.length_take, List.length_drop, List.length_append, List.length_cons, List.length_nil, Nat.min_self, List.take_take, lenCols_i, lenCols_b, List.drop_zero, List.take_length, Nat.add_eq, Nat.mul_eq, Nat.sub_eq, Nat.zero_add, Nat.sub_zero, Nat.mul_one]
  refine all_i fun n0 => ?_
  refine imp_i fun h0 => ?_
  refine imp_i fun h1 => ?_
  refine all_i fun n1 => ?_
  refine imp_i fun h2 => ?_
  refine imp_i fun h3 => ?_
  refine imp_i fun h4 => ?_
  try simp only [sigTapsR, iR, cTp, tapsPost, List.cons.injEq, DV.b.injEq, and_true, List.length_cons, List.length_nil] at h4
  refine bR_dec (fun h5 => ?_) (fun h5 => ?_)
  ·
   refine req_i ?_ ?_
   · -- r0
    (simp only [sigBitsR, bitsPost, sigTapsR, tapsPost, sigLenR, lenPost]; exact ite_no (by unfold okD; omega) (by simp))
   rfl
  ·
   refine bR_dec (fun h6 => ?_) (fun h6 => ?_)
   ·
    refine req_i ?_ ?_
    · -- r1
     (simp only [sigBitsR, bitsPost, sigTapsR, tapsPost, sigLenR, lenPost]; exact ite_no (by unfold okD; omega) (by simp))
    rfl
   ·
    refine bR_dec (fun h7 => ?_) (fun h7 => ?_)
    ·
     refine req_i ?_ ?_
     · -- r2
      (simp only [sigBitsR, bitsPost, sigTapsR, tapsPost, sigLenR, lenPost]; exact ite_no (by unfold okD; omega) (by simp))
     rfl
    ·
     refine bR_dec (fun h8 => ?_) (fun h8 => ?_)
     ·
      refine req_i ?_ ?_
      · -- r3
       (simp only [sigBitsR, bitsPost, sigTapsR, tapsPost, sigLenR, lenPost]; exact ite_no (by unfold okD; omega) (by simp))
      rfl
     ·
      refine bR_dec (fun h9 => ?_) (fun h9 => ?_)
      ·
       refine req_i ?_ ?_
       · -- r4
        (simp only [sigBitsR, bitsPost, sigTapsR, tapsPost, sigLenR, lenPost]; exact ite_no (by unfold okD; omega) (by simp))
       rfl
      ·
       refine req_i ?_ ?_
       · -- r5
        (simp only [sigBitsR, bitsPost, sigTapsR, tapsPost, sigLenR, lenPost]; exact ite_no (by unfold okD; omega) (by simp))
       rfl
theorem ext_taps13 : ∀ p ∈ ([] : List (Nat × Ext)), ExtRow Try.prog p.1 p.2 := by
  intro p hp
  cases hp
theorem cts_taps13 : CtsOk Try.prog [] := fun f c h => by cases h
theorem fn_taps13 : FnOk Try.prog 17 (sigTapsR 5 10 (-9223372036854775808) 0) [] := fn_sound (by kernel_rfl) ext_taps13 cts_taps13 names vt_taps13
end Go.Proofs.Ytpmlodchbgfmeaa

namespace Go.Proofs.Ytpmlodchbgfmeaa
open Go.Ev Go.Sp
set_option maxRecDepth 100000
theorem vc_taps14 : vcFn Try.prog [] noA [] 100 17 (sigTapsR 5 10 3 9223372036854775807) = (allB fun n0 : Int => 
impB ((5 : Int) ≤ n0) (
impB (n0 ≤ (10 : Int)) (
allB fun n1 : Int => 
impB ((3 : Int) ≤ n1) (
impB (n1 ≤ (9223372036854775807 : Int)) (
impB ((sigTapsR (5 : Int) (10 : Int) (3 : Int) (9223372036854775807 : Int)).pre [DV.n n0, DV.n n1]) (
bR (dec ((5 : Int) = n0)) (
 reqB ((sigTapsR (5 : Int) (10 : Int) (3 : Int) (9223372036854775807 : Int)).post [DV.n n0, DV.n n1]
 [DV.l [], DV.n (2 : Int)]) (
 true)) (
 bR (dec ((6 : Int) = n0)) (
 reqB ((sigTapsR (5 : Int) (10 : Int) (3 : Int) (9223372036854775807 : Int)).post [DV.n n0, DV.n n1]
 [DV.l [], DV.n (2 : Int)]) (
 true)) (
 bR (dec ((7 : Int) = n0)) (
 reqB ((sigTapsR (5 : Int) (10 : Int) (3 : Int) (9223372036854775807 : Int)).post [DV.n n0, DV.n n1]
 [DV.l [], DV.n (2 : Int)]) (
 true)) (
 bR (dec ((9 : Int) = n0)) (
 reqB ((sigTapsR (5 : Int) (10 : Int) (3 : Int) (9223372036854775807 : Int)).post [DV.n n0, DV.n n1]
 [DV.l [], DV.n (2 : Int)]) (
 true)) (
 bR (dec ((10 : Int) = n0)) (
 reqB ((sigTapsR (5 : Int) (10 : Int) (3 : Int) (9223372036854775807 : Int)).post [DV.n n0, DV.n n1]
 [DV.l [], DV.n (2 : Int)]) (
 true)) (
 reqB ((sigTapsR (5 : Int) (10 : Int) (3 : Int) (9223372036854775807 : Int)).post [DV.n n0, DV.n n1]
 [DV.l [], DV.n (2 : Int)]) (
 true)))))))))))) := by kernel_rfl
set_option maxHeartbeats 8000000 in
theorem vt_taps14 : vcFn Try.prog [] noA [] 100 17 (sigTapsR 5 10 3 9223372036854775807) = true := by
  rw [vc_taps14]
  try simp only [Int.toNat_natCast, List.length_set, List.length_replicate, List.length_take, List.length_drop, List.length_append, List.length_cons, List.length_nil, Nat.min_self, List.take_take, lenCols_i, lenCols_b, List.drop_zero, List.take_length, Nat.add_eq, Nat.mul_eq, Nat.sub_eq, Nat.zero_add, Nat.sub_zero, Nat.mul_one]
  refine all_i fun n0 => ?_
  refine imp_i fun h0 => ?_
  refine imp_i fun h1 => ?_
  refine all_i fun n1 => ?_
  refine imp_i fun h2 => ?_
  refine imp_i fun h3 => ?_
  refine imp_i fun h4 => ?_
  try simp only [sigTapsR, iR, cTp, tapsPost, List.cons.injEq, DV.b.injEq, and_true, List.length_cons, List.length_nil] at h4
  refine bR_dec (fun h5 => ?_) (fun h5 => ?_)
  ·
   refine req_i ?_ ?_
   · -- r0
    (simp only [sigBitsR, bitsPost, sigTapsR, tapsPost, sigLenR, lenPost]; exact ite_no (by unfold okD; omega) (by simp))
   rfl
  ·
   refine bR_dec (fun h6 => ?_) (fun h6 => ?_)
   ·
    refine req_i ?_ ?_
    · -- r1
     (simp only [sigBitsR, bitsPost, sigTapsR, tapsPost, sigLenR, lenPost]; exact ite_no (by unfold okD; omega) (by simp))
    rfl
   ·
    refine bR_dec (fun h7 => ?_) (fun h7 => ?_)
    ·
     refine req_i ?_ ?_
     · -- r2
      (simp only [sigBitsR, bitsPost, sigTapsR, tapsPost, sigLenR, lenPost]; exact ite_no (by unfold okD; omega) (by simp))
     rfl
    ·
     refine bR_dec (fun h8 => ?_) (fun h8 => ?_)
     ·
      refine req_i ?_ ?_
      · -- r3
       (simp only [sigBitsR, bitsPost, sigTapsR, tapsPost, sigLenR, lenPost]; exact ite_no (by unfold okD; omega) (by simp))
      rfl
     ·
      refine bR_dec (fun h9 => ?_) (fun h9 => ?_)
      ·
       refine req_i ?_ ?_
       · -- r4
        (simp only [sigBitsR, bitsPost, sigTapsR, tapsPost, sigLenR, lenPost]; exact ite_no (by unfold okD; omega) (by simp))
       rfl
      ·
       refine req_i ?_ ?_
       · -- r5
        (simp only [sigBitsR, bitsPost, sigTapsR, tapsPost, sigLenR, lenPost]; exact ite_no (by unfold okD; omega) (by simp))
       rfl
theorem ext_taps14 : ∀ p ∈ ([] : List (Nat × Ext)), ExtRow Try.prog p.1 p.2 := by
  intro p hp
  cases hp
theorem cts_taps14 : CtsOk Try.prog [] := fun f c h => by cases h
theorem fn_taps14 : FnOk Try.prog 17 (sigTapsR 5 10 3 9223372036854775807) [] := fn_sound (by kernel_rfl) ext_taps14 cts_taps14 names vt_taps14
end Go.Proofs.Ytpmlodchbgfmeaa

namespace Go.Proofs.Ytpmlodchbgfmeaa
open Go.Ev Go.Sp
theorem fn_taps : FnOk Try.prog 17 sigTaps [] := by
  exact (fn_cover covG covG_ok fun t ht => by
    simp only [covG, List.mem_cons, List.not_mem_nil, or_false] at ht
    rcases ht with rfl | rfl | rfl | rfl | rfl | rfl | rfl | rfl | rfl | rfl | rfl | rfl | rfl | rfl | rfl
    · exact fn_taps0
    · exact fn_taps1
    · exact fn_taps2
    · exact fn_taps3
    · exact fn_taps4
    · exact fn_taps5
    · exact fn_taps6
    · exact fn_taps7
    · exact fn_taps8
    · exact fn_taps9
    · exact fn_taps10
    · exact fn_taps11
    · exact fn_taps12
    · exact fn_taps13
    · exact fn_taps14)
end Go.Proofs.Ytpmlodchbgfmeaa

namespace Go.Proofs.Ytpmlodchbgfmeaa
open Go.Ev Go.Sp
set_option maxRecDepth 100000
theorem vc_tapsR0 : vcFn Try.prog [] noA [] 200 25 (sigTapsR 5 5 1 1) = (impB ((sigTapsR (5 : Int) (5 : Int) (1 : Int) (1 : Int)).pre [DV.n (5 : Int), DV.n (1 : Int)]) (
reqB ((2 : Nat) ≤ (4 : Nat)) (
reqB ([(0 : Int), (2 : Int)].length = (2 : Nat)) (
reqB (∀ (y : Int), y ∈ [(0 : Int), (2 : Int)] → (0 : Int) ≤ y ∧ y ≤ (9 : Int)) (
reqB ((sigTapsR (5 : Int) (5 : Int) (1 : Int) (1 : Int)).post [DV.n (5 : Int), DV.n (1 : Int)]
 [DV.l [(0 : Int), (2 : Int)], DV.n (0 : Int)]) (
true)))))) := by kernel_rfl
set_option maxHeartbeats 8000000 in
theorem vt_tapsR0 : vcFn Try.prog [] noA [] 200 25 (sigTapsR 5 5 1 1) = true := by
  rw [vc_tapsR0]
  try simp only [Int.toNat_natCast, List.length_set, List.length_replicate, List.length_take, List.length_drop, List.length_append, List.length_cons, List.length_nil, Nat.min_self, List.take_take, lenCols_i, lenCols_b, List.drop_zero, List.take_length, Nat.add_eq, Nat.mul_eq, Nat.sub_eq, Nat.zero_add, Nat.sub_zero, Nat.mul_one]
  refine imp_i fun h0 => ?_
  try simp only [sigTapsR, iR, cTp, tapsPost, List.cons.injEq, DV.b.injEq, and_true, List.length_cons, List.length_nil] at h0
  refine req_i ?_ ?_
  · -- r0
   first | omega | assumption | grind
  refine req_i ?_ ?_
  · -- r1
   first | omega | ((try simp only [List.length_cons, List.length_nil]); first | done | omega | assumption | grind [getD_set, getD_rep, toNat_succ, cntN_yes, cntN_no])
  refine req_i ?_ ?_
  · -- r2
   exact all09 (by decide +kernel)
  refine req_i ?_ ?_
  · -- r3
   first | exact ⟨rfl, rfl⟩ | exact ⟨rfl, by decide +kernel⟩
  rfl
theorem ext_tapsR0 : ∀ p ∈ ([] : List (Nat × Ext)), ExtRow Try.prog p.1 p.2 := by
  intro p hp
  cases hp
theorem cts_tapsR0 : CtsOk Try.prog [] := fun f c h => by cases h
theorem fn_tapsR0 : FnOk Try.prog 25 (sigTapsR 5 5 1 1) [] := fn_sound (by kernel_rfl) ext_tapsR0 cts_tapsR0 names vt_tapsR0
end Go.Proofs.Ytpmlodchbgfmeaa

namespace Go.Proofs.Ytpmlodchbgfmeaa
open Go.Ev Go.Sp
set_option maxRecDepth 100000
theorem vc_tapsR1 : vcFn Try.prog [] noA [] 200 25 (sigTapsR 5 5 2 2) = (impB ((sigTapsR (5 : Int) (5 : Int) (2 : Int) (2 : Int)).pre [DV.n (5 : Int), DV.n (2 : Int)]) (
reqB ((4 : Nat) ≤ (4 : Nat)) (
reqB ([(0 : Int), (2 : Int), (3 : Int), (4 : Int)].length = (4 : Nat)) (
reqB (∀ (y : Int), y ∈ [(0 : Int), (2 : Int), (3 : Int), (4 : Int)] → (0 : Int) ≤ y ∧ y ≤ (9 : Int)) (
reqB ((sigTapsR (5 : Int) (5 : Int) (2 : Int) (2 : Int)).post [DV.n (5 : Int), DV.n (2 : Int)]
 [DV.l [(0 : Int), (2 : Int), (3 : Int), (4 : Int)], DV.n (0 : Int)]) (
true)))))) := by kernel_rfl
set_option maxHeartbeats 8000000 in
theorem vt_tapsR1 : vcFn Try.prog [] noA [] 200 25 (sigTapsR 5 5 2 2) = true := by
  rw [vc_tapsR1]
  try simp only [Int.toNat_natCast, List.length_set, List.length_replicate, List.length_take, List.length_drop, List.length_append, List.length_cons, List.length_nil, Nat.min_self, List.take_take, lenCols_i, lenCols_b, List.drop_zero, List.take_length, Nat.add_eq, Nat.mul_eq, Nat.sub_eq, Nat.zero_add, Nat.sub_zero, Nat.mul_one]
  refine imp_i fun h0 => ?_
  try simp only [sigTapsR, iR, cTp, tapsPost, List.cons.injEq, DV.b.injEq, and_true, List.length_cons, List.length_nil] at h0
  refine req_i ?_ ?_
  · -- r0
   first | omega | assumption | grind
  refine req_i ?_ ?_
  · -- r1
   first | omega | ((try simp only [List.length_cons, List.length_nil]); first | done | omega | assumption | grind [getD_set, getD_rep, toNat_succ, cntN_yes, cntN_no])
  refine req_i ?_ ?_
  · -- r2
   exact all09 (by decide +kernel)
  refine req_i ?_ ?_
  · -- r3
   first | exact ⟨rfl, rfl⟩ | exact ⟨rfl, by decide +kernel⟩
  rfl
theorem ext_tapsR1 : ∀ p ∈ ([] : List (Nat × Ext)), ExtRow Try.prog p.1 p.2 := by
  intro p hp
  cases hp
theorem cts_tapsR1 : CtsOk Try.prog [] := fun f c h => by cases h
theorem fn_tapsR1 : FnOk Try.prog 25 (sigTapsR 5 5 2 2) [] := fn_sound (by kernel_rfl) ext_tapsR1 cts_tapsR1 names vt_tapsR1
end Go.Proofs.Ytpmlodchbgfmeaa

namespace Go.Proofs.Ytpmlodchbgfmeaa
open Go.Ev Go.Sp
set_option maxRecDepth 100000
theorem vc_tapsR2 : vcFn Try.prog [] noA [] 400 25 (sigTapsR 6 6 1 1) = (impB ((sigTapsR (6 : Int) (6 : Int) (1 : Int) (1 : Int)).pre [DV.n (6 : Int), DV.n (1 : Int)]) (
reqB ((2 : Nat) ≤ (4 : Nat)) (
reqB ([(0 : Int), (1 : Int)].length = (2 : Nat)) (
reqB (∀ (y : Int), y ∈ [(0 : Int), (1 : Int)] → (0 : Int) ≤ y ∧ y ≤ (9 : Int)) (
reqB ((sigTapsR (6 : Int) (6 : Int) (1 : Int) (1 : Int)).post [DV.n (6 : Int), DV.n (1 : Int)]
 [DV.l [(0 : Int), (1 : Int)], DV.n (0 : Int)]) (
true)))))) := by kernel_rfl
set_option maxHeartbeats 8000000 in
theorem vt_tapsR2 : vcFn Try.prog [] noA [] 400 25 (sigTapsR 6 6 1 1) = true := by
  rw [vc_tapsR2]
  try simp only [Int.toNat_natCast, List.length_set, List.length_replicate, List.length_take, List.length_drop, List.length_append, List.length_cons, List.length_nil, Nat.min_self, List.take_take, lenCols_i, lenCols_b, List.drop_zero, List.take_length, Nat.add_eq, Nat.mul_eq, Nat.sub_eq, Nat.zero_add, Nat.sub_zero, Nat.mul_one]
  refine imp_i fun h0 => ?_
  try simp only [sigTapsR, iR, cTp, tapsPost, List.cons.injEq, DV.b.injEq, and_true, List.length_cons, List.length_nil] at h0
  refine req_i ?_ ?_
  · -- r0
   first | omega | assumption | grind
  refine req_i ?_ ?_
  · -- r1
   first | omega | ((try simp only [List.length_cons, List.length_nil]); first | done | omega | assumption | grind [getD_set, getD_rep, toNat_succ, cntN_yes, cntN_no])
  refine req_i ?_ ?_
  · -- r2
   exact all09 (by decide +kernel)
  refine req_i ?_ ?_
  · -- r3
   first | exact ⟨rfl, rfl⟩ | exact ⟨rfl, by decide +kernel⟩
  rfl
theorem ext_tapsR2 : ∀ p ∈ ([] : List (Nat × Ext)), ExtRow Try.prog p.1 p.2 := by
  intro p hp
  cases hp
theorem cts_tapsR2 : CtsOk Try.prog [] := fun f c h => by cases h
theorem fn_tapsR2 : FnOk Try.prog 25 (sigTapsR 6 6 1 1) [] := fn_sound (by kernel_rfl) ext_tapsR2 cts_tapsR2 names vt_tapsR2
end Go.Proofs.Ytpmlodchbgfmeaa

namespace Go.Proofs.Ytpmlodchbgfmeaa
open Go.Ev Go.Sp
set_option maxRecDepth 100000
theorem vc_tapsR3 : vcFn Try.prog [] noA [] 400 25 (sigTapsR 6 6 2 2) = (impB ((sigTapsR (6 : Int) (6 : Int) (2 : Int) (2 : Int)).pre [DV.n (6 : Int), DV.n (2 : Int)]) (
reqB ((4 : Nat) ≤ (4 : Nat)) (
reqB ([(0 : Int), (1 : Int), (2 : Int), (5 : Int)].length = (4 : Nat)) (
reqB (∀ (y : Int), y ∈ [(0 : Int), (1 : Int), (2 : Int), (5 : Int)] → (0 : Int) ≤ y ∧ y ≤ (9 : Int)) (
reqB ((sigTapsR (6 : Int) (6 : Int) (2 : Int) (2 : Int)).post [DV.n (6 : Int), DV.n (2 : Int)]
 [DV.l [(0 : Int), (1 : Int), (2 : Int), (5 : Int)], DV.n (0 : Int)]) (
true)))))) := by kernel_rfl
set_option maxHeartbeats 8000000 in
theorem vt_tapsR3 : vcFn Try.prog [] noA [] 400 25 (sigTapsR 6 6 2 2) = true := by
  rw [vc_tapsR3]
  try simp only [Int.toNat_natCast, List.length_set, List.length_replicate, List.length_take, List.length_drop, List.length_append, List.length_cons, List.length_nil, Nat.min_self, List.take_take, lenCols_i, lenCols_b, List.drop_zero, List.take_length, Nat.add_eq, Nat.mul_eq, Nat.sub_eq, Nat.zero_add, Nat.sub_zero, Nat.mul_one]
  refine imp_i fun h0 => ?_
  try simp only [sigTapsR, iR, cTp, tapsPost, List.cons.injEq, DV.b.injEq, and_true, List.length_cons, List.length_nil] at h0
  refine req_i ?_ ?_
  · -- r0
   first | omega | assumption | grind
  refine req_i ?_ ?_
  · -- r1
   first | omega | ((try simp only [List.length_cons, List.length_nil]); first | done | omega | assumption | grind [getD_set, getD_rep, toNat_succ, cntN_yes, cntN_no])
  refine req_i ?_ ?_
  · -- r2
   exact all09 (by decide +kernel)
  refine req_i ?_ ?_
  · -- r3
   first | exact ⟨rfl, rfl⟩ | exact ⟨rfl, by decide +kernel⟩
  rfl
theorem ext_tapsR3 : ∀ p ∈ ([] : List (Nat × Ext)), ExtRow Try.prog p.1 p.2 := by
  intro p hp
  cases hp
theorem cts_tapsR3 : CtsOk Try.prog [] := fun f c h => by cases h
theorem fn_tapsR3 : FnOk Try.prog 25 (sigTapsR 6 6 2 2) [] := fn_sound (by kernel_rfl) ext_tapsR3 cts_tapsR3 names vt_tapsR3
end Go.Proofs.Ytpmlodchbgfmeaa

namespace Go.Proofs.Ytpmlodchbgfmeaa
open Go.Ev Go.Sp
set_option maxRecDepth 100000
theorem vc_tapsR4 : vcFn Try.prog [] noA [] 1000 25 (sigTapsR 7 7 1 1) = (impB ((sigTapsR (7 : Int) (7 : Int) (1 : Int) (1 : Int)).pre [DV.n (7 : Int), DV.n (1 : Int)]) (
reqB ((2 : Nat) ≤ (4 : Nat)) (
reqB ([(0 : Int), (3 : Int)].length = (2 : Nat)) (
reqB (∀ (y : Int), y ∈ [(0 : Int), (3 : Int)] → (0 : Int) ≤ y ∧ y ≤ (9 : Int)) (
reqB ((sigTapsR (7 : Int) (7 : Int) (1 : Int) (1 : Int)).post [DV.n (7 : Int), DV.n (1 : Int)]
 [DV.l [(0 : Int), (3 : Int)], DV.n (0 : Int)]) (
true)))))) := by kernel_rfl
set_option maxHeartbeats 8000000 in
theorem vt_tapsR4 : vcFn Try.prog [] noA [] 1000 25 (sigTapsR 7 7 1 1) = true := by
  rw [vc_tapsR4]
  try simp only [Int.toNat_natCast, List.length_set, List.length_replicate, List.length_take, List.length_drop, List.length_append, List.length_cons, List.length_nil, Nat.min_self, List.take_take, lenCols_i, lenCols_b, List.drop_zero, List.take_length, Nat.add_eq, Nat.mul_eq, Nat.sub_eq, Nat.zero_add, Nat.sub_zero, Nat.mul_one]
  refine imp_i fun h0 => ?_
  try simp only [sigTapsR, iR, cTp, tapsPost, List.cons.injEq, DV.b.injEq, and_true, List.length_cons, List.length_nil] at h0
  refine req_i ?_ ?_
  · -- r0
   first | omega | assumption | grind
  refine req_i ?_ ?_
  · -- r1
   first | omega | ((try simp only [List.length_cons, List.length_nil]); first | done | omega | assumption | grind [getD_set, getD_rep, toNat_succ, cntN_yes, cntN_no])
  refine req_i ?_ ?_
  · -- r2
   exact all09 (by decide +kernel)
  refine req_i ?_ ?_
  · -- r3
   first | exact ⟨rfl, rfl⟩ | exact ⟨rfl, by decide +kernel⟩
  rfl
theorem ext_tapsR4 : ∀ p ∈ ([] : List (Nat × Ext)), ExtRow Try.prog p.1 p.2 := by
  intro p hp
  cases hp
theorem cts_tapsR4 : CtsOk Try.prog [] := fun f c h => by cases h
theorem fn_tapsR4 : FnOk Try.prog 25 (sigTapsR 7 7 1 1) [] := fn_sound (by kernel_rfl) ext_tapsR4 cts_tapsR4 names vt_tapsR4
end Go.Proofs.Ytpmlodchbgfmeaa

namespace Go.Proofs.Ytpmlodchbgfmeaa
open Go.Ev Go.Sp
set_option maxRecDepth 100000
theorem vc_tapsR5 : vcFn Try.prog [] noA [] 1000 25 (sigTapsR 7 7 2 2) = (impB ((sigTapsR (7 : Int) (7 : Int) (2 : Int) (2 : Int)).pre [DV.n (7 : Int), DV.n (2 : Int)]) (
reqB ((4 : Nat) ≤ (4 : Nat)) (
reqB ([(0 : Int), (1 : Int), (2 : Int), (3 : Int)].length = (4 : Nat)) (
reqB (∀ (y : Int), y ∈ [(0 : Int), (1 : Int), (2 : Int), (3 : Int)] → (0 : Int) ≤ y ∧ y ≤ (9 : Int)) (
reqB ((sigTapsR (7 : Int) (7 : Int) (2 : Int) (2 : Int)).post [DV.n (7 : Int), DV.n (2 : Int)]
 [DV.l [(0 : Int), (1 : Int), (2 : Int), (3 : Int)], DV.n (0 : Int)]) (
true)))))) := by kernel_rfl
set_option maxHeartbeats 8000000 in
theorem vt_tapsR5 : vcFn Try.prog [] noA [] 1000 25 (sigTapsR 7 7 2 2) = true := by
  rw [vc_tapsR5]
  try simp only [Int.toNat_natCast, List.length_set, List.length_replicate, List.length_take, List.length_drop, List.length_append, List.length_cons, List.length_nil, Nat.min_self, List.take_take, lenCols_i, lenCols_b, List.drop_zero, List.take_length, Nat.add_eq, Nat.mul_eq, Nat.sub_eq, Nat.zero_add, Nat.sub_zero, Nat.mul_one]
  refine imp_i fun h0 => ?_
  try simp only [sigTapsR, iR, cTp, tapsPost, List.cons.injEq, DV.b.injEq, and_true, List.length_cons, List.length_nil] at h0
  refine req_i ?_ ?_
  · -- r0
   first | omega | assumption | grind
  refine req_i ?_ ?_
  · -- r1
   first | omega | ((try simp only [List.length_cons, List.length_nil]); first | done | omega | assumption | grind [getD_set, getD_rep, toNat_succ, cntN_yes, cntN_no])
  refine req_i ?_ ?_
  · -- r2
   exact all09 (by decide +kernel)
  refine req_i ?_ ?_
  · -- r3
   first | exact ⟨rfl, rfl⟩ | exact ⟨rfl, by decide +kernel⟩
  rfl
theorem ext_tapsR5 : ∀ p ∈ ([] : List (Nat × Ext)), ExtRow Try.prog p.1 p.2 := by
  intro p hp
  cases hp
theorem cts_tapsR5 : CtsOk Try.prog [] := fun f c h => by cases h
theorem fn_tapsR5 : FnOk Try.prog 25 (sigTapsR 7 7 2 2) [] := fn_sound (by kernel_rfl) ext_tapsR5 cts_tapsR5 names vt_tapsR5
end Go.Proofs.Ytpmlodchbgfmeaa

namespace Go.Proofs.Ytpmlodchbgfmeaa
open Go.Ev Go.Sp
set_option maxRecDepth 100000
theorem vc_tapsR6 : vcFn Try.prog [] noA [] 2500 25 (sigTapsR 9 9 1 1) = (impB ((sigTapsR (9 : Int) (9 : Int) (1 : Int) (1 : Int)).pre [DV.n (9 : Int), DV.n (1 : Int)]) (
reqB ((2 : Nat) ≤ (4 : Nat)) (
reqB ([(0 : Int), (4 : Int)].length = (2 : Nat)) (
reqB (∀ (y : Int), y ∈ [(0 : Int), (4 : Int)] → (0 : Int) ≤ y ∧ y ≤ (9 : Int)) (
reqB ((sigTapsR (9 : Int) (9 : Int) (1 : Int) (1 : Int)).post [DV.n (9 : Int), DV.n (1 : Int)]
 [DV.l [(0 : Int), (4 : Int)], DV.n (0 : Int)]) (
true)))))) := by kernel_rfl
set_option maxHeartbeats 8000000 in
theorem vt_tapsR6 : vcFn Try.prog [] noA [] 2500 25 (sigTapsR 9 9 1 1) = true := by
  rw [vc_tapsR6]
  try simp only [Int.toNat_natCast, List.length_set, List.length_replicate, List.length_take, List.length_drop, List.length_append, List.length_cons, List.length_nil, Nat.min_self, List.take_take, lenCols_i, lenCols_b, List.drop_zero, List.take_length, Nat.add_eq, Nat.mul_eq, Nat.sub_eq, Nat.zero_add, Nat.sub_zero, Nat.mul_one]
  refine imp_i fun h0 => ?_
  try simp only [sigTapsR, iR, cTp, tapsPost, List.cons.injEq, DV.b.injEq, and_true, List.length_cons, List.length_nil] at h0
  refine req_i ?_ ?_
  · -- r0
   first | omega | assumption | grind
  refine req_i ?_ ?_
  · -- r1
   first | omega | ((try simp only [List.length_cons, List.length_nil]); first | done | omega | assumption | grind [getD_set, getD_rep, toNat_succ, cntN_yes, cntN_no])
  refine req_i ?_ ?_
  · -- r2
   exact all09 (by decide +kernel)
  refine req_i ?_ ?_
  · -- r3
   first | exact ⟨rfl, rfl⟩ | exact ⟨rfl, by decide +kernel⟩
  rfl
theorem ext_tapsR6 : ∀ p ∈ ([] : List (Nat × Ext)), ExtRow Try.prog p.1 p.2 := by
  intro p hp
  cases hp
theorem cts_tapsR6 : CtsOk Try.prog [] := fun f c h => by cases h
theorem fn_tapsR6 : FnOk Try.prog 25 (sigTapsR 9 9 1 1) [] := fn_sound (by kernel_rfl) ext_tapsR6 cts_tapsR6 names vt_tapsR6
end Go.Proofs.Ytpmlodchbgfmeaa

namespace Go.Proofs.Ytpmlodchbgfmeaa
open Go.Ev Go.Sp
set_option maxRecDepth 100000
theorem vc_tapsR7 : vcFn Try.prog [] noA [] 2500 25 (sigTapsR 9 9 2 2) = (impB ((sigTapsR (9 : Int) (9 : Int) (2 : Int) (2 : Int)).pre [DV.n (9 : Int), DV.n (2 : Int)]) (
reqB ((4 : Nat) ≤ (4 : Nat)) (
reqB ([(0 : Int), (3 : Int), (4 : Int), (6 : Int)].length = (4 : Nat)) (
reqB (∀ (y : Int), y ∈ [(0 : Int), (3 : Int), (4 : Int), (6 : Int)] → (0 : Int) ≤ y ∧ y ≤ (9 : Int)) (
reqB ((sigTapsR (9 : Int) (9 : Int) (2 : Int) (2 : Int)).post [DV.n (9 : Int), DV.n (2 : Int)]
 [DV.l [(0 : Int), (3 : Int), (4 : Int), (6 : Int)], DV.n (0 : Int)]) (
true)))))) := by kernel_rfl
set_option maxHeartbeats 8000000 in
theorem vt_tapsR7 : vcFn Try.prog [] noA [] 2500 25 (sigTapsR 9 9 2 2) = true := by
  rw [vc_tapsR7]
  try simp only [Int.toNat_natCast, List.length_set, List.length_replicate, List.length_take, List.length_drop, List.length_append, List.length_cons, List.length_nil, Nat.min_self, List.take_take, lenCols_i, lenCols_b, List.drop_zero, List.take_length, Nat.add_eq, Nat.mul_eq, Nat.sub_eq, Nat.zero_add, Nat.sub_zero, Nat.mul_one]
  refine imp_i fun h0 => ?_
  try simp only [sigTapsR, iR, cTp, tapsPost, List.cons.injEq, DV.b.injEq, and_true, List.length_cons, List.length_nil] at h0
  refine req_i ?_ ?_
  · -- r0
   first | omega | assumption | grind
  refine req_i ?_ ?_
  · -- r1
   first | omega | ((try simp only [List.length_cons, List.length_nil]); first | done | omega | assumption | grind [getD_set, getD_rep, toNat_succ, cntN_yes, cntN_no])
  refine req_i ?_ ?_
  · -- r2
   exact all09 (by decide +kernel)
  refine req_i ?_ ?_
  · -- r3
   first | exact ⟨rfl, rfl⟩ | exact ⟨rfl, by decide +kernel⟩
  rfl
theorem ext_tapsR7 : ∀ p ∈ ([] : List (Nat × Ext)), ExtRow Try.prog p.1 p.2 := by
  intro p hp
  cases hp
theorem cts_tapsR7 : CtsOk Try.prog [] := fun f c h => by cases h
theorem fn_tapsR7 : FnOk Try.prog 25 (sigTapsR 9 9 2 2) [] := fn_sound (by kernel_rfl) ext_tapsR7 cts_tapsR7 names vt_tapsR7
end Go.Proofs.Ytpmlodchbgfmeaa

namespace Go.Proofs.Ytpmlodchbgfmeaa
open Go.Ev Go.Sp
set_option maxRecDepth 100000
theorem vc_tapsR8 : vcFn Try.prog [] noA [] 4000 25 (sigTapsR 10 10 1 1) = (impB ((sigTapsR (10 : Int) (10 : Int) (1 : Int) (1 : Int)).pre [DV.n (10 : Int), DV.n (1 : Int)]) (
reqB ((2 : Nat) ≤ (4 : Nat)) (
reqB ([(0 : Int), (3 : Int)].length = (2 : Nat)) (
reqB (∀ (y : Int), y ∈ [(0 : Int), (3 : Int)] → (0 : Int) ≤ y ∧ y ≤ (9 : Int)) (
reqB ((sigTapsR (10 : Int) (10 : Int) (1 : Int) (1 : Int)).post [DV.n (10 : Int), DV.n (1 : Int)]
 [DV.l [(0 : Int), (3 : Int)], DV.n (0 : Int)]) (
true)))))) := by kernel_rfl
set_option maxHeartbeats 8000000 in
theorem vt_tapsR8 : vcFn Try.prog [] noA [] 4000 25 (sigTapsR 10 10 1 1) = true := by
  rw [vc_tapsR8]
  try simp only [Int.toNat_natCast, List.length_set, List.length_replicate, List.length_take, List.length_drop, List.length_append, List.length_cons, List.length_nil, Nat.min_self, List.take_take, lenCols_i, lenCols_b, List.drop_zero, List.take_length, Nat.add_eq, Nat.mul_eq, Nat.sub_eq, Nat.zero_add, Nat.sub_zero, Nat.mul_one]
  refine imp_i fun h0 => ?_
  try simp only [sigTapsR, iR, cTp, tapsPost, List.cons.injEq, DV.b.injEq, and_true, List.length_cons, List.length_nil] at h0
  refine req_i ?_ ?_
  · -- r0
   first | omega | assumption | grind
  refine req_i ?_ ?_
  · -- r1
   first | omega | ((try simp only [List.length_cons, List.length_nil]); first | done | omega | assumption | grind [getD_set, getD_rep, toNat_succ, cntN_yes, cntN_no])
  refine req_i ?_ ?_
  · -- r2
   exact all09 (by decide +kernel)
  refine req_i ?_ ?_
  · -- r3
   first | exact ⟨rfl, rfl⟩ | exact ⟨rfl, by decide +kernel⟩
  rfl
theorem ext_tapsR8 : ∀ p ∈ ([] : List (Nat × Ext)), ExtRow Try.prog p.1 p.2 := by
  intro p hp
  cases hp
theorem cts_tapsR8 : CtsOk Try.prog [] := fun f c h => by cases h
theorem fn_tapsR8 : FnOk Try.prog 25 (sigTapsR 10 10 1 1) [] := fn_sound (by kernel_rfl) ext_tapsR8 cts_tapsR8 names vt_tapsR8
end Go.Proofs.Ytpmlodchbgfmeaa

namespace Go.Proofs.Ytpmlodchbgfmeaa
open Go.Ev Go.Sp
set_option maxRecDepth 100000
theorem vc_tapsR9 : vcFn Try.prog [] noA [] 4000 25 (sigTapsR 10 10 2 2) = (impB ((sigTapsR (10 : Int) (10 : Int) (2 : Int) (2 : Int)).pre [DV.n (10 : Int), DV.n (2 : Int)]) (
reqB ((4 : Nat) ≤ (4 : Nat)) (
reqB ([(0 : Int), (2 : Int), (3 : Int), (8 : Int)].length = (4 : Nat)) (
reqB (∀ (y : Int), y ∈ [(0 : Int), (2 : Int), (3 : Int), (8 : Int)] → (0 : Int) ≤ y ∧ y ≤ (9 : Int)) (
reqB ((sigTapsR (10 : Int) (10 : Int) (2 : Int) (2 : Int)).post [DV.n (10 : Int), DV.n (2 : Int)]
 [DV.l [(0 : Int), (2 : Int), (3 : Int), (8 : Int)], DV.n (0 : Int)]) (
true)))))) := by kernel_rfl
set_option maxHeartbeats 8000000 in
theorem vt_tapsR9 : vcFn Try.prog [] noA [] 4000 25 (sigTapsR 10 10 2 2) = true := by
  rw [vc_tapsR9]
  try simp only [Int.toNat_natCast, List.length_set, List.length_replicate, List.length_take, List.length_drop, List.length_append, List.length_cons, List.length_nil, Nat.min_self, List.take_take, lenCols_i, lenCols_b, List.drop_zero, List.take_length, Nat.add_eq, Nat.mul_eq, Nat.sub_eq, Nat.zero_add, Nat.sub_zero, Nat.mul_one]
  refine imp_i fun h0 => ?_
  try simp only [sigTapsR, iR, cTp, tapsPost, List.cons.injEq, DV.b.injEq, and_true, List.length_cons, List.length_nil] at h0
  refine req_i ?_ ?_
  · -- r0
   first | omega | assumption | grind
  refine req_i ?_ ?_
  · -- r1
   first | omega | ((try simp only [List.length_cons, List.length_nil]); first | done | omega | assumption | grind [getD_set, getD_rep, toNat_succ, cntN_yes, cntN_no])
  refine req_i ?_ ?_
  · -- r2
   exact all09 (by decide +kernel)
  refine req_i ?_ ?_
  · -- r3
   first | exact ⟨rfl, rfl⟩ | exact ⟨rfl, by decide +kernel⟩
  rfl
theorem ext_tapsR9 : ∀ p ∈ ([] : List (Nat × Ext)), ExtRow Try.prog p.1 p.2 := by
  intro p hp
  cases hp
theorem cts_tapsR9 : CtsOk Try.prog [] := fun f c h => by cases h
theorem fn_tapsR9 : FnOk Try.prog 25 (sigTapsR 10 10 2 2) [] := fn_sound (by kernel_rfl) ext_tapsR9 cts_tapsR9 names vt_tapsR9
end Go.Proofs.Ytpmlodchbgfmeaa

namespace Go.Proofs.Ytpmlodchbgfmeaa
open Go.Ev Go.Sp
set_option maxRecDepth 100000
theorem vc_tapsR10 : vcFn Try.prog [] noA [] 100 25 (sigTapsR (-9223372036854775808) 4 (-9223372036854775808) 9223372036854775807) = (allB fun n0 : Int => 
impB ((-9223372036854775808 : Int) ≤ n0) (
impB (n0 ≤ (4 : Int)) (
allB fun n1 : Int => 
impB ((-9223372036854775808 : Int) ≤ n1) (
impB (n1 ≤ (9223372036854775807 : Int)) (
impB ((sigTapsR (-9223372036854775808 : Int) (4 : Int) (-9223372036854775808 : Int) (9223372036854775807 : Int)).pre
 [DV.n n0, DV.n n1]) (
reqB ((sigTapsR (-9223372036854775808 : Int) (4 : Int) (-9223372036854775808 : Int) (9223372036854775807 : Int)).post
 [DV.n n0, DV.n n1] [DV.l [], DV.n (2 : Int)]) (
true))))))) := by kernel_rfl
set_option maxHeartbeats 8000000 in
theorem vt_tapsR10 : vcFn Try.prog [] noA [] 100 25 (sigTapsR (-9223372036854775808) 4 (-9223372036854775808) 9223372036854775807) = true := by
  rw [vc_tapsR10]
  try simp only [Int.toNat_natCast, List.length_set, List.length_replicate, List.length_take, List.length_drop, List.length_append, List.length_cons, List.length_nil, Nat.min_self, List.take_take, lenCols_i, lenCols_b, List.drop_zero, List.take_length, Nat.add_eq, Nat.mul_eq, Nat.sub_eq, Nat.zero_add, Nat.sub_zero, Nat.mul_one]
  refine all_i fun n0 => ?_
  refine imp_i fun h0 => ?_
  refine imp_i fun h1 => ?_
  refine all_i fun n1 => ?_
  refine imp_i fun h2 => ?_
  refine imp_i fun h3 => ?_
  refine imp_i fun h4 => ?_
  try simp only [sigTapsR, iR, cTp, tapsPost, List.cons.injEq, DV.b.injEq, and_true, List.length_cons, List.length_nil] at h4
  refine req_i ?_ ?_
  · -- r0
   (simp only [sigBitsR, bitsPost, sigTapsR, tapsPost, sigLenR, lenPost]; exact ite_no (by unfold okD; omega) (by simp))
  rfl
theorem ext_tapsR10 : ∀ p ∈ ([] : List (Nat × Ext)), ExtRow Try.prog p.1 p.2 := by
  intro p hp
  cases hp
theorem cts_tapsR10 : CtsOk Try.prog [] := fun f c h => by cases h
theorem fn_tapsR10 : FnOk Try.prog 25 (sigTapsR (-9223372036854775808) 4 (-9223372036854775808) 9223372036854775807) [] := fn_sound (by kernel_rfl) ext_tapsR10 cts_tapsR10 names vt_tapsR10
end Go.Proofs.Ytpmlodchbgfmeaa

namespace Go.Proofs.Ytpmlodchbgfmeaa
open Go.Ev Go.Sp
set_option maxRecDepth 100000
theorem vc_tapsR11 : vcFn Try.prog [] noA [] 100 25 (sigTapsR 8 8 (-9223372036854775808) 9223372036854775807) = (allB fun n0 : Int => 
impB ((-9223372036854775808 : Int) ≤ n0) (
impB (n0 ≤ (9223372036854775807 : Int)) (
impB ((sigTapsR (8 : Int) (8 : Int) (-9223372036854775808 : Int) (9223372036854775807 : Int)).pre
 [DV.n (8 : Int), DV.n n0]) (
reqB ((sigTapsR (8 : Int) (8 : Int) (-9223372036854775808 : Int) (9223372036854775807 : Int)).post
 [DV.n (8 : Int), DV.n n0] [DV.l [], DV.n (2 : Int)]) (
true))))) := by kernel_rfl
set_option maxHeartbeats 8000000 in
theorem vt_tapsR11 : vcFn Try.prog [] noA [] 100 25 (sigTapsR 8 8 (-9223372036854775808) 9223372036854775807) = true := by
  rw [vc_tapsR11]
  try simp only [Int.toNat_natCast, List.length_set, List.length_replicate, List.length_take, List.length_drop, List.length_append, List.length_cons, List.length_nil, Nat.min_self, List.take_take, lenCols_i, lenCols_b, List.drop_zero, List.take_length, Nat.add_eq, Nat.mul_eq, Nat.sub_eq, Nat.zero_add, Nat.sub_zero, Nat.mul_one]
  refine all_i fun n0 => ?_
  refine imp_i fun h0 => ?_
  refine imp_i fun h1 => ?_
  refine imp_i fun h2 => ?_
  try simp only [sigTapsR, iR, cTp, tapsPost, List.cons.injEq, DV.b.injEq, and_true, List.length_cons, List.length_nil] at h2
  refine req_i ?_ ?_
  · -- r0
   (simp only [sigBitsR, bitsPost, sigTapsR, tapsPost, sigLenR, lenPost]; exact ite_no (by unfold okD; omega) (by simp))
  rfl
theorem ext_tapsR11 : ∀ p ∈ ([] : List (Nat × Ext)), ExtRow Try.prog p.1 p.2 := by
  intro p hp
  cases hp
theorem cts_tapsR11 : CtsOk Try.prog [] := fun f c h => by cases h
theorem fn_tapsR11 : FnOk Try.prog 25 (sigTapsR 8 8 (-9223372036854775808) 9223372036854775807) [] := fn_sound (by kernel_rfl) ext_tapsR11 cts_tapsR11 names vt_tapsR11
end Go.Proofs.Ytpmlodchbgfmeaa

namespace Go.Proofs.Ytpmlodchbgfmeaa
open Go.Ev Go.Sp
set_option maxRecDepth 100000
theorem vc_tapsR12 : vcFn Try.prog [] noA [] 100 25 (sigTapsR 11 9223372036854775807 (-9223372036854775808) 9223372036854775807) = (allB fun n0 : Int => 
impB ((11 : Int) ≤ n0) (
impB (n0 ≤ (9223372036854775807 : Int)) (
allB fun n1 : Int => 
impB ((-9223372036854775808 : Int) ≤ n1) (
impB (n1 ≤ (9223372036854775807 : Int)) (
impB ((sigTapsR (11 : Int) (9223372036854775807 : Int) (-9223372036854775808 : Int) (9223372036854775807 : Int)).pre
 [DV.n n0, DV.n n1]) (
reqB ((sigTapsR (11 : Int) (9223372036854775807 : Int) (-9223372036854775808 : Int) (9223372036854775807 : Int)).post
 [DV.n n0, DV.n n1] [DV.l [], DV.n (2 : Int)]) (
true))))))) := by kernel_rfl
set_option maxHeartbeats 8000000 in
theorem vt_tapsR12 : vcFn Try.prog [] noA [] 100 25 (sigTapsR 11 9223372036854775807 (-9223372036854775808) 9223372036854775807) = true := by
  rw [vc_tapsR12]
  try simp only [Int.toNat_natCast, List.length_set, List.length_replicate, List.length_take, List.length_drop, List.length_append, List.length_cons, List.length_nil, Nat.min_self, List.take_take, lenCols_i, lenCols_b, List.drop_zero, List.take_length, Nat.add_eq, Nat.mul_eq, Nat.sub_eq, Nat.zero_add, Nat.sub_zero, Nat.mul_one]
  refine all_i fun n0 => ?_
  refine imp_i fun h0 => ?_
  refine imp_i fun h1 => ?_
  refine all_i fun n1 => ?_
  refine imp_i fun h2 => ?_
  refine imp_i fun h3 => ?_
  refine imp_i fun h4 => ?_
  try simp only [sigTapsR, iR, cTp, tapsPost, List.cons.injEq, DV.b.injEq, and_true, List.length_cons, List.length_nil] at h4
  refine req_i ?_ ?_
  · -- r0
   (simp only [sigBitsR, bitsPost, sigTapsR, tapsPost, sigLenR, lenPost]; exact ite_no (by unfold okD; omega) (by simp))
  rfl
theorem ext_tapsR12 : ∀ p ∈ ([] : List (Nat × Ext)), ExtRow Try.prog p.1 p.2 := by
  intro p hp
  cases hp
theorem cts_tapsR12 : CtsOk Try.prog [] := fun f c h => by cases h
theorem fn_tapsR12 : FnOk Try.prog 25 (sigTapsR 11 9223372036854775807 (-9223372036854775808) 9223372036854775807) [] := fn_sound (by kernel_rfl) ext_tapsR12 cts_tapsR12 names vt_tapsR12
end Go.Proofs.Ytpmlodchbgfmeaa

namespace Go.Proofs.Ytpmlodchbgfmeaa
open Go.Ev Go.Sp
set_option maxRecDepth 100000
theorem vc_tapsR13 : vcFn Try.prog [] noA [] 100 25 (sigTapsR 5 10 (-9223372036854775808) 0) = (allB fun n0 : Int => 
impB ((5 : Int) ≤ n0) (
impB (n0 ≤ (10 : Int)) (
allB fun n1 : Int => 
impB ((-9223372036854775808 : Int) ≤ n1) (
impB (n1 ≤ (0 : Int)) (
impB ((sigTapsR (5 : Int) (10 : Int) (-9223372036854775808 : Int) (0 : Int)).pre [DV.n n0, DV.n n1]) (
bR (dec (n0 = (5 : Int))) (
 reqB ((sigTapsR (5 : Int) (10 : Int) (-9223372036854775808 : Int) (0 : Int)).post [DV.n n0, DV.n n1]
 [DV.l [], DV.n (2 : Int)]) (
 true)) (
 bR (dec (n0 = (6 : Int))) (
 reqB ((sigTapsR (5 : Int) (10 : Int) (-9223372036854775808 : Int) (0 : Int)).post [DV.n n0, DV.n n1]
 [DV.l [], DV.n (2 : Int)]) (
 true)) (
 bR (dec (n0 = (7 : Int))) (
 reqB ((sigTapsR (5 : Int) (10 : Int) (-9223372036854775808 : Int) (0 : Int)).post [DV.n n0, DV.n n1]
 [DV.l [], DV.n (2 : Int)]) (
 true)) (
 bR (dec (n0 = (9 : Int))) (
 reqB ((sigTapsR (5 : Int) (10 : Int) (-9223372036854775808 : Int) (0 : Int)).post [DV.n n0, DV.n n1]
 [DV.l [], DV.n (2 : Int)]) (
 true)) (
 bR (dec (n0 = (10 : Int))) (
 reqB ((sigTapsR (5 : Int) (10 : Int) (-9223372036854775808 : Int) (0 : Int)).post [DV.n n0, DV.n n1]
 [DV.l [], DV.n (2 : Int)]) (
 true)) (
 reqB ((sigTapsR (5 : Int) (10 : Int) (-9223372036854775808 : Int) (0 : Int)).post [DV.n n0, DV.n n1]
 [DV.l [], DV.n (2 : Int)]) (
 true)))))))))))) := by kernel_rfl
set_option maxHeartbeats 8000000 in
theorem vt_tapsR13 : vcFn Try.prog [] noA [] 100 25 (sigTapsR 5 10 (-9223372036854775808) 0) = true := by
  rw [vc_tapsR13]
  try simp only [Int.toNat_natCast, List.length_set, List.length_replicate, List.length_take, List.length_drop, List.length_append, List.length_cons, List.length_nil, Nat.min_self, List.take_take, lenCols_i, lenCols_b, List.drop_zero, List.take_length, Nat.add_eq, Nat.mul_eq, Nat.sub_eq, Nat.zero_add, Nat.sub_zero, Nat.mul_one]
  refine all_i fun n0 => ?_
  refine imp_i fun h0 => ?_
  refine imp_i fun h1 => ?_
  refine all_i fun n1 => ?_
  refine imp_i fun h2 => ?_
  refine imp_i fun h3 => ?_
  refine imp_i fun h4 => ?_
  try simp only [sigTapsR, iR, cTp, tapsPost, List.cons.injEq, DV.b.injEq, and_true, List.length_cons, List.length_nil] at h4
  refine bR_dec (fun h5 => ?_) (fun h5 => ?_)
  ·
   refine req_i ?_ ?_
   · -- r0
    (simp only [sigBitsR, bitsPost, sigTapsR, tapsPost, sigLenR, lenPost]; exact ite_no (by unfold okD; omega) (by simp))
   rfl
  ·
   refine bR_dec (fun h6 => ?_) (fun h6 => ?_)
   ·
    refine req_i ?_ ?_
    · -- r1
     (simp only [sigBitsR, bitsPost, sigTapsR, tapsPost, sigLenR, lenPost]; exact ite_no (by unfold okD; omega) (by simp))
    rfl
   ·
    refine bR_dec (fun h7 => ?_) (fun h7 => ?_)
    ·
     refine req_i ?_ ?_
     · -- r2
      (simp only [sigBitsR, bitsPost, sigTapsR, tapsPost, sigLenR, lenPost]; exact ite_no (by unfold okD; omega) (by simp))
     rfl
    ·
     refine bR_dec (fun h8 => ?_) (fun h8 => ?_)
     ·
      refine req_i ?_ ?_
      · -- r3
       (simp only [sigBitsR, bitsPost, sigTapsR, tapsPost, sigLenR, lenPost]; exact ite_no (by unfold okD; omega) (by simp))
      rfl
     ·
      refine bR_dec (fun h9 => ?_) (fun h9 => ?_)
      ·
       refine req_i ?_ ?_
       · -- r4
        (simp only [sigBitsR, bitsPost, sigTapsR, tapsPost, sigLenR, lenPost]; exact ite_no (by unfold okD; omega) (by simp))
       rfl
      ·
       refine req_i ?_ ?_
       · -- r5
        (simp only [sigBitsR, bitsPost, sigTapsR, tapsPost, sigLenR, lenPost]; exact ite_no (by unfold okD; omega) (by simp))
       rfl
theorem ext_tapsR13 : ∀ p ∈ ([] : List (Nat × Ext)), ExtRow Try.prog p.1 p.2 := by
  intro p hp
  cases hp
theorem cts_tapsR13 : CtsOk Try.prog [] := fun f c h => by cases h
theorem fn_tapsR13 : FnOk Try.prog 25 (sigTapsR 5 10 (-9223372036854775808) 0) [] := fn_sound (by kernel_rfl) ext_tapsR13 cts_tapsR13 names vt_tapsR13
end Go.Proofs.Ytpmlodchbgfmeaa

namespace Go.Proofs.Ytpmlodchbgfmeaa
open Go.Ev Go.Sp
set_option maxRecDepth 100000
theorem vc_tapsR14 : vcFn Try.prog [] noA [] 100 25 (sigTapsR 5 10 3 9223372036854775807) = (allB fun n0 : Int => 
impB ((5 : Int) ≤ n0) (
impB (n0 ≤ (10 : Int)) (
allB fun n1 : Int => 
impB ((3 : Int) ≤ n1) (
impB (n1 ≤ (9223372036854775807 : Int)) (
impB ((sigTapsR (5 : Int) (10 : Int) (3 : Int) (9223372036854775807 : Int)).pre [DV.n n0, DV.n n1]) (
bR (dec (n0 = (5 : Int))) (
 reqB ((sigTapsR (5 : Int) (10 : Int) (3 : Int) (9223372036854775807 : Int)).post [DV.n n0, DV.n n1]
 [DV.l [], DV.n (2 : Int)]) (
 true)) (
 bR (dec (n0 = (6 : Int))) (
 reqB ((sigTapsR (5 : Int) (10 : Int) (3 : Int) (9223372036854775807 : Int)).post [DV.n n0, DV.n n1]
 [DV.l [], DV.n (2 : Int)]) (
 true)) (
 bR (dec (n0 = (7 : Int))) (
 reqB ((sigTapsR (5 : Int) (10 : Int) (3 : Int) (9223372036854775807 : Int)).post [DV.n n0, DV.n n1]
 [DV.l [], DV.n (2 : Int)]) (
 true)) (
 bR (dec (n0 = (9 : Int))) (
 reqB ((sigTapsR (5 : Int) (10 : Int) (3 : Int) (9223372036854775807 : Int)).post [DV.n n0, DV.n n1]
 [DV.l [], DV.n (2 : Int)]) (
 true)) (
 bR (dec (n0 = (10 : Int))) (
 reqB ((sigTapsR (5 : Int) (10 : Int) (3 : Int) (9223372036854775807 : Int)).post [DV.n n0, DV.n n1]
 [DV.l [], DV.n (2 : Int)]) (
 true)) (
 reqB ((sigTapsR (5 : Int) (10 : Int) (3 : Int) (9223372036854775807 : Int)).post [DV.n n0, DV.n n1]
 [DV.l [], DV.n (2 : Int)]) (
 true)))))))))))) := by kernel_rfl
set_option maxHeartbeats 8000000 in
theorem vt_tapsR14 : vcFn Try.prog [] noA [] 100 25 (sigTapsR 5 10 3 9223372036854775807) = true := by
  rw [vc_tapsR14]
  try simp only [Int.toNat_natCast, List.length_set, List.length_replicate, List.length_take, List.length_drop, List.length_append, List.length_cons, List.length_nil, Nat.min_self, List.take_take, lenCols_i, lenCols_b, List.drop_zero, List.take_length, Nat.add_eq, Nat.mul_eq, Nat.sub_eq, Nat.zero_add, Nat.sub_zero, Nat.mul_one]
  refine all_i fun n0 => ?_
  refine imp_i fun h0 => ?_
  refine imp_i fun h1 => ?_
  refine all_i fun n1 => ?_
  refine imp_i fun h2 => ?_
  refine imp_i fun h3 => ?_
  refine imp_i fun h4 => ?_
  try simp only [sigTapsR, iR, cTp, tapsPost, List.cons.injEq, DV.b.injEq, and_true, List.length_cons, List.length_nil] at h4
  refine bR_dec (fun h5 => ?_) (fun h5 => ?_)
  ·
   refine req_i ?_ ?_
   · -- r0
    (simp only [sigBitsR, bitsPost, sigTapsR, tapsPost, sigLenR, lenPost]; exact ite_no (by unfold okD; omega) (by simp))
   rfl
  ·
   refine bR_dec (fun h6 => ?_) (fun h6 => ?_)
   ·
    refine req_i ?_ ?_
    · -- r1
     (simp only [sigBitsR, bitsPost, sigTapsR, tapsPost, sigLenR, lenPost]; exact ite_no (by unfold okD; omega) (by simp))
    rfl
   ·
    refine bR_dec (fun h7 => ?_) (fun h7 => ?_)
    ·
     refine req_i ?_ ?_
     · -- r2
      (simp only [sigBitsR, bitsPost, sigTapsR, tapsPost, sigLenR, lenPost]; exact ite_no (by unfold okD; omega) (by simp))
     rfl
    ·
     refine bR_dec (fun h8 => ?_) (fun h8 => ?_)
     ·
      refine req_i ?_ ?_
      · -- r3
       (simp only [sigBitsR, bitsPost, sigTapsR, tapsPost, sigLenR, lenPost]; exact ite_no (by unfold okD; omega) (by simp))
      rfl
     ·
      refine bR_dec (fun h9 => ?_) (fun h9 => ?_)
      ·
       refine req_i ?_ ?_
       · -- r4
        (simp only [sigBitsR, bitsPost, sigTapsR, tapsPost, sigLenR, lenPost]; exact ite_no (by unfold okD; omega) (by simp))
       rfl
      ·
       refine req_i ?_ ?_
       · -- r5
        (simp only [sigBitsR, bitsPost, sigTapsR, tapsPost, sigLenR, lenPost]; exact ite_no (by unfold okD; omega) (by simp))
       rfl
theorem ext_tapsR14 : ∀ p ∈ ([] : List (Nat × Ext)), ExtRow Try.prog p.1 p.2 := by
  intro p hp
  cases hp
theorem cts_tapsR14 : CtsOk Try.prog [] := fun f c h => by cases h
theorem fn_tapsR14 : FnOk Try.prog 25 (sigTapsR 5 10 3 9223372036854775807) [] := fn_sound (by kernel_rfl) ext_tapsR14 cts_tapsR14 names vt_tapsR14
end Go.Proofs.Ytpmlodchbgfmeaa

namespace Go.Proofs.Ytpmlodchbgfmeaa
open Go.Ev Go.Sp
theorem fn_tapsR : FnOk Try.prog 25 sigTaps [] := by
  exact (fn_cover covG covG_ok fun t ht => by
    simp only [covG, List.mem_cons, List.not_mem_nil, or_false] at ht
    rcases ht with rfl | rfl | rfl | rfl | rfl | rfl | rfl | rfl | rfl | rfl | rfl | rfl | rfl | rfl | rfl
    · exact fn_tapsR0
    · exact fn_tapsR1
    · exact fn_tapsR2
    · exact fn_tapsR3
    · exact fn_tapsR4
    · exact fn_tapsR5
    · exact fn_tapsR6
    · exact fn_tapsR7
    · exact fn_tapsR8
    · exact fn_tapsR9
    · exact fn_tapsR10
    · exact fn_tapsR11
    · exact fn_tapsR12
    · exact fn_tapsR13
    · exact fn_tapsR14)
end Go.Proofs.Ytpmlodchbgfmeaa

namespace Go.Proofs.Ytpmlodchbgfmeaa
open Go.Ev Go.Sp
set_option maxRecDepth 100000
theorem vc_equ : vcFn Try.prog [] (fun f p _ => at2 f p 14 58 equGL (none)) [] 100 14 sigEquG = (allB fun l0 : List Int => 
impB (l0.length ≤ (1100 : Nat)) (
impB (∀ (y : Int), y ∈ l0 → (-9223372036854775808 : Int) ≤ y ∧ y ≤ (9223372036854775807 : Int)) (
allB fun l1 : List Int => 
impB (l1.length ≤ (1100 : Nat)) (
impB (∀ (y : Int), y ∈ l1 → (-9223372036854775808 : Int) ≤ y ∧ y ≤ (9223372036854775807 : Int)) (
impB (sigEquG.pre [DV.l l0, DV.l l1]) (
bR (dec ((↑l0.length : Int) ≠ (↑l1.length : Int))) (
 reqB (sigEquG.post [DV.l l0, DV.l l1] [DV.b Bool.false]) (
 true)) (
 reqB (((0 : Nat) + l0.length) * (1 : Nat) ≤ l0.length.mul (1 : Nat)) (
 reqB (l0.length ≤ (1100 : Nat)) (
 reqB ((List.take l0.length (List.drop (0 : Nat) l0)).length = l0.length) (
 reqB (∀ (y : Int),
 y ∈ List.take l0.length (List.drop (0 : Nat) l0) → (-9223372036854775808 : Int) ≤ y ∧ y ≤ (9223372036854775807 : Int)) (
 reqB (((0 : Nat) + l1.length) * (1 : Nat) ≤ l1.length.mul (1 : Nat)) (
 reqB (l1.length ≤ (1100 : Nat)) (
 reqB ((List.take l1.length (List.drop (0 : Nat) l1)).length = l1.length) (
 reqB (∀ (y : Int),
 y ∈ List.take l1.length (List.drop (0 : Nat) l1) → (-9223372036854775808 : Int) ≤ y ∧ y ≤ (9223372036854775807 : Int)) (
 reqB (equGL.inv
 [DV.l (List.take l0.length (List.drop (0 : Nat) l0)), DV.l (List.take l1.length (List.drop (0 : Nat) l1))]
 [DV.n (0 : Int)]) (
 allB fun n2 : Int => 
 impB ((0 : Int) ≤ n2) (
 impB (n2 ≤ (1100 : Int)) (
 impB (equGL.inv
 [DV.l (List.take l0.length (List.drop (0 : Nat) l0)), DV.l (List.take l1.length (List.drop (0 : Nat) l1))]
 [DV.n n2]) (
 bR (dec (n2 < (↑l0.length : Int))) (
 reqB (n2.toNat < l0.length) (
 reqB (Nat.add (0 : Nat) n2.toNat < l0.length) (
 reqB (n2.toNat < l1.length) (
 reqB (Nat.add (0 : Nat) n2.toNat < l1.length) (
 bR (dec (l0.getD (Nat.add (0 : Nat) n2.toNat) (0 : Int) ≠ l1.getD (Nat.add (0 : Nat) n2.toNat) (0 : Int))) (
 reqB (sigEquG.post [DV.l l0, DV.l l1] [DV.b Bool.false]) (
 true)) (
 bR (bR (bR (dec ((0 : Nat) = (0 : Nat))) (
 dec (l0.length = l0.length)) (
 false)) (
 bR (bR (dec ((0 : Nat) = (0 : Nat))) (
 dec (l1.length = l1.length)) (
 false)) (
 true) (
 false)) (
 false)) (
 reqB ((0 : Int) ≤ n2 + (1 : Int)) (
 reqB (n2 + (1 : Int) ≤ (1100 : Int)) (
 reqB (equGL.inv
 [DV.l (List.take l0.length (List.drop (0 : Nat) l0)), DV.l (List.take l1.length (List.drop (0 : Nat) l1))]
 [DV.n (n2 + (1 : Int))]) (
 reqB (equGL.mea
 [DV.l (List.take l0.length (List.drop (0 : Nat) l0)),
 DV.l (List.take l1.length (List.drop (0 : Nat) l1))]
 [DV.n (n2 + (1 : Int))] <
 equGL.mea
 [DV.l (List.take l0.length (List.drop (0 : Nat) l0)),
 DV.l (List.take l1.length (List.drop (0 : Nat) l1))]
 [DV.n n2]) (
 true))))) (
 false))))))) (
 reqB (sigEquG.post [DV.l l0, DV.l l1] [DV.b Bool.true]) (
 true))))))))))))))))))))) := by kernel_rfl
set_option maxHeartbeats 8000000 in
theorem vt_equ : vcFn Try.prog [] (fun f p _ => at2 f p 14 58 equGL (none)) [] 100 14 sigEquG = true := by
  rw [vc_equ]
  try simp only [Int.toNat_natCast, List.length_set, List.length_replicate, List.length_take, List.length_drop, List.length_append, List.length_cons, List.length_nil, Nat.min_self, List.take_take, lenCols_i, lenCols_b, List.drop_zero, List.take_length, Nat.add_eq, Nat.mul_eq, Nat.sub_eq, Nat.zero_add, Nat.sub_zero, Nat.mul_one]
  refine all_i fun l0 => ?_
  refine imp_i fun h0 => ?_
  refine imp_i fun h1 => ?_
  refine all_i fun l1 => ?_
  refine imp_i fun h2 => ?_
  refine imp_i fun h3 => ?_
  refine imp_i fun h4 => ?_
  try simp only [sigEquG, cW, equGP, List.cons.injEq, DV.b.injEq, and_true, List.length_cons, List.length_nil] at h4
  refine bR_dec (fun h5 => ?_) (fun h5 => ?_)
  ·
   refine req_i ?_ ?_
   · -- r0
    first | omega | ((try simp only [sigEquG, cW, equGP, List.cons.injEq, DV.b.injEq, and_true, List.length_cons, List.length_nil]); first | done | omega | assumption | grind [getD_set, getD_rep, toNat_succ, cntN_yes, cntN_no])
   rfl
  ·
   refine req_i ?_ ?_
   · -- r1
    first | omega | ((try simp only [Nat.mul_eq]); first | done | omega | assumption | grind [getD_set, getD_rep, toNat_succ, cntN_yes, cntN_no])
   refine req_i ?_ ?_
   · -- r2
    first | omega | ((try simp only [Nat.zero_add]); first | done | omega | assumption | grind [getD_set, getD_rep, toNat_succ, cntN_yes, cntN_no])
   refine req_i ?_ ?_
   · -- r3
    first | omega | ((try simp only [List.length_take, List.take_length, List.take_take, Nat.min_self, List.length_drop, List.drop_zero, List.length_cons, List.length_nil]); first | done | omega | assumption | grind [getD_set, getD_rep, toNat_succ, cntN_yes, cntN_no])
   refine req_i ?_ ?_
   · -- r4
    first | assumption | exact rep_bd (by omega) (by omega) | exact set_bd (by assumption) (by omega) (by omega) | exact take_bd (by assumption) | ((try simp only [List.length_take, List.take_length, List.take_take, Nat.min_self, List.length_drop, List.drop_zero, List.length_cons, List.length_nil]); first | assumption | exact rep_bd (by omega) (by omega) | exact set_bd (by assumption) (by omega) (by omega) | exact take_bd (by assumption) | grind [getD_set, getD_rep, toNat_succ, cntN_yes, cntN_no])
   refine req_i ?_ ?_
   · -- r5
    first | omega | ((try simp only [Nat.mul_eq]); first | done | omega | assumption | grind [getD_set, getD_rep, toNat_succ, cntN_yes, cntN_no])
   refine req_i ?_ ?_
   · -- r6
    first | omega | ((try simp only [Nat.zero_add]); first | done | omega | assumption | grind [getD_set, getD_rep, toNat_succ, cntN_yes, cntN_no])
   refine req_i ?_ ?_
   · -- r7
    first | omega | ((try simp only [List.length_take, List.take_length, List.take_take, Nat.min_self, List.length_drop, List.drop_zero, List.length_cons, List.length_nil]); first | done | omega | assumption | grind [getD_set, getD_rep, toNat_succ, cntN_yes, cntN_no])
   refine req_i ?_ ?_
   · -- r8
    first | assumption | exact rep_bd (by omega) (by omega) | exact set_bd (by assumption) (by omega) (by omega) | exact take_bd (by assumption) | ((try simp only [List.length_take, List.take_length, List.take_take, Nat.min_self, List.length_drop, List.drop_zero, List.length_cons, List.length_nil]); first | assumption | exact rep_bd (by omega) (by omega) | exact set_bd (by assumption) (by omega) (by omega) | exact take_bd (by assumption) | grind [getD_set, getD_rep, toNat_succ, cntN_yes, cntN_no])
   refine req_i ?_ ?_
   · -- r9
    first | omega | ((try simp only [equGL, cW, equGInv, meaC, List.cons.injEq, DV.b.injEq, and_true, List.length_take, List.take_length, List.take_take, Nat.min_self, List.length_drop, List.drop_zero, List.length_cons, List.length_nil]); first | done | omega | assumption | grind [getD_set, getD_rep, toNat_succ, cntN_yes, cntN_no])
   refine all_i fun n2 => ?_
   refine imp_i fun h6 => ?_
   refine imp_i fun h7 => ?_
   refine imp_i fun h8 => ?_
   try simp only [equGL, cW, equGInv, meaC, List.cons.injEq, DV.b.injEq, and_true, List.length_take, List.take_length, List.take_take, Nat.min_self, List.length_drop, List.drop_zero, List.length_cons, List.length_nil] at h8
   refine bR_dec (fun h9 => ?_) (fun h9 => ?_)
   ·
    refine req_i ?_ ?_
    · -- r10
     first | omega | ((try simp only [Int.toNat_natCast, List.length_cons, List.length_nil]); first | done | omega | assumption | grind [getD_set, getD_rep, toNat_succ, cntN_yes, cntN_no])
    refine req_i ?_ ?_
    · -- r11
     first | omega | ((try simp only [Int.toNat_natCast, List.length_cons, List.length_nil, Nat.add_eq, Nat.zero_add]); first | done | omega | assumption | grind [getD_set, getD_rep, toNat_succ, cntN_yes, cntN_no])
    refine req_i ?_ ?_
    · -- r12
     first | omega | ((try simp only [Int.toNat_natCast, List.length_cons, List.length_nil]); first | done | omega | assumption | grind [getD_set, getD_rep, toNat_succ, cntN_yes, cntN_no])
    refine req_i ?_ ?_
    · -- r13
     first | omega | ((try simp only [Int.toNat_natCast, List.length_cons, List.length_nil, Nat.add_eq, Nat.zero_add]); first | done | omega | assumption | grind [getD_set, getD_rep, toNat_succ, cntN_yes, cntN_no])
    refine bR_dec (fun h10 => ?_) (fun h10 => ?_)
    ·
     refine req_i ?_ ?_
     · -- r14
      first | omega | ((try simp only [sigEquG, cW, equGP, List.cons.injEq, DV.b.injEq, and_true, List.length_cons, List.length_nil]); first | done | omega | assumption | grind [getD_set, getD_rep, toNat_succ, cntN_yes, cntN_no])
     rfl
    ·
     refine bR_t ?_ ?_
     · -- g0
      first | rfl | (simp only [bR_iff, bR_iff_f, dec_iff, dec_f, beqB_iff', andB_iff', reduceCtorEq, imp_self, false_implies, and_true, true_and, implies_true, and_self]; done) | (simp [bR_iff, dec_iff, beqB_iff', andB_iff']; done) | (simp [bR_iff, dec_iff, beqB_iff', andB_iff']; omega)
     refine req_i ?_ ?_
     · -- r15
      first | omega | assumption | grind
     refine req_i ?_ ?_
     · -- r16
      first | omega | assumption | grind
     refine req_i ?_ ?_
     · -- r17
      first | omega | ((try simp only [equGL, cW, equGInv, meaC, List.cons.injEq, DV.b.injEq, and_true, List.length_take, List.take_length, List.take_take, Nat.min_self, List.length_drop, List.drop_zero, List.length_cons, List.length_nil]); first | done | omega | assumption | grind [getD_set, getD_rep, toNat_succ, cntN_yes, cntN_no])
     refine req_i ?_ ?_
     · -- r18
      first | omega | ((try simp only [equGL, cW, equGInv, meaC, List.cons.injEq, DV.b.injEq, and_true, List.length_take, List.take_length, List.take_take, Nat.min_self, List.length_drop, List.drop_zero, List.length_cons, List.length_nil]); first | done | omega | assumption | grind [getD_set, getD_rep, toNat_succ, cntN_yes, cntN_no])
     rfl
   ·
    have e1 := equG_of (a := l0) (b := l1) h8.2.1 h9 h8.2.2.2
    refine req_i ?_ ?_
    · -- r19
     first | omega | ((try simp only [sigEquG, cW, equGP, List.cons.injEq, DV.b.injEq, and_true, List.length_cons, List.length_nil]); first | done | omega | assumption | grind [getD_set, getD_rep, toNat_succ, cntN_yes, cntN_no])
    rfl
theorem ext_equ : ∀ p ∈ ([] : List (Nat × Ext)), ExtRow Try.prog p.1 p.2 := by
  intro p hp
  cases hp
theorem cts_equ : CtsOk Try.prog [] := fun f c h => by cases h
theorem fn_equ : FnOk Try.prog 14 sigEquG [] := fn_sound (by kernel_rfl) ext_equ cts_equ names vt_equ
end Go.Proofs.Ytpmlodchbgfmeaa

namespace Go.Proofs.Ytpmlodchbgfmeaa
open Go.Ev Go.Sp
set_option maxRecDepth 100000
theorem vc_bits0 : vcFn Try.prog [] noA [] 200 13 (sigBitsR 5 5 1 1) = (impB ((sigBitsR (5 : Int) (5 : Int) (1 : Int) (1 : Int)).pre [DV.n (5 : Int), DV.n (1 : Int)]) (
reqB ((31 : Nat) ≤ (1100 : Nat)) (
reqB ((bitsL 5 1).length =
 (31 : Nat)) (
reqB (∀ (y : Int),
 y ∈
 (bitsL 5 1) →
 (0 : Int) ≤ y ∧ y ≤ (1 : Int)) (
reqB ((sigBitsR (5 : Int) (5 : Int) (1 : Int) (1 : Int)).post [DV.n (5 : Int), DV.n (1 : Int)]
 [DV.l
 (bitsL 5 1),
 DV.n (0 : Int)]) (
true)))))) := by kernel_rfl
set_option maxHeartbeats 8000000 in
theorem vt_bits0 : vcFn Try.prog [] noA [] 200 13 (sigBitsR 5 5 1 1) = true := by
  rw [vc_bits0]
  try simp only [Int.toNat_natCast, List.length_set, List.length_replicate, List.length_take, List.length_drop, List.length_append, List.length_cons, List.length_nil, Nat.min_self, List.take_take, lenCols_i, lenCols_b, List.drop_zero, List.take_length, Nat.add_eq, Nat.mul_eq, Nat.sub_eq, Nat.zero_add, Nat.sub_zero, Nat.mul_one]
  refine imp_i fun h0 => ?_
  try simp only [sigBitsR, iR, cB, bitsPost, List.cons.injEq, DV.b.injEq, and_true, List.length_cons, List.length_nil] at h0
  refine req_i ?_ ?_
  · -- r0
   first | omega | assumption | grind
  refine req_i ?_ ?_
  · -- r1
   decide +kernel
  refine req_i ?_ ?_
  · -- r2
   exact all01 (by decide +kernel)
  refine req_i ?_ ?_
  · -- r3
   first | exact ⟨rfl, rfl⟩ | exact ⟨rfl, by decide +kernel⟩
  rfl
theorem ext_bits0 : ∀ p ∈ ([] : List (Nat × Ext)), ExtRow Try.prog p.1 p.2 := by
  intro p hp
  cases hp
theorem cts_bits0 : CtsOk Try.prog [] := fun f c h => by cases h
theorem fn_bits0 : FnOk Try.prog 13 (sigBitsR 5 5 1 1) [] := fn_sound (by kernel_rfl) ext_bits0 cts_bits0 names vt_bits0
end Go.Proofs.Ytpmlodchbgfmeaa

namespace Go.Proofs.Ytpmlodchbgfmeaa
open Go.Ev Go.Sp
set_option maxRecDepth 100000
theorem vc_bits1 : vcFn Try.prog [] noA [] 200 13 (sigBitsR 5 5 2 2) = (impB ((sigBitsR (5 : Int) (5 : Int) (2 : Int) (2 : Int)).pre [DV.n (5 : Int), DV.n (2 : Int)]) (
reqB ((31 : Nat) ≤ (1100 : Nat)) (
reqB ((bitsL 5 2).length =
 (31 : Nat)) (
reqB (∀ (y : Int),
 y ∈
 (bitsL 5 2) →
 (0 : Int) ≤ y ∧ y ≤ (1 : Int)) (
reqB ((sigBitsR (5 : Int) (5 : Int) (2 : Int) (2 : Int)).post [DV.n (5 : Int), DV.n (2 : Int)]
 [DV.l
 (bitsL 5 2),
 DV.n (0 : Int)]) (
true)))))) := by kernel_rfl
set_option maxHeartbeats 8000000 in
theorem vt_bits1 : vcFn Try.prog [] noA [] 200 13 (sigBitsR 5 5 2 2) = true := by
  rw [vc_bits1]
  try simp only [Int.toNat_natCast, List.length_set, List.length_replicate, List.length_take, List.length_drop, List.length_append, List.length_cons, List.length_nil, Nat.min_self, List.take_take, lenCols_i, lenCols_b, List.drop_zero, List.take_length, Nat.add_eq, Nat.mul_eq, Nat.sub_eq, Nat.zero_add, Nat.sub_zero, Nat.mul_one]
  refine imp_i fun h0 => ?_
  try simp only [sigBitsR, iR, cB, bitsPost, List.cons.injEq, DV.b.injEq, and_true, List.length_cons, List.length_nil] at h0
  refine req_i ?_ ?_
  · -- r0
   first | omega | assumption | grind
  refine req_i ?_ ?_
  · -- r1
   decide +kernel
  refine req_i ?_ ?_
  · -- r2
   exact all01 (by decide +kernel)
  refine req_i ?_ ?_
  · -- r3
   first | exact ⟨rfl, rfl⟩ | exact ⟨rfl, by decide +kernel⟩
  rfl
theorem ext_bits1 : ∀ p ∈ ([] : List (Nat × Ext)), ExtRow Try.prog p.1 p.2 := by
  intro p hp
  cases hp
theorem cts_bits1 : CtsOk Try.prog [] := fun f c h => by cases h
theorem fn_bits1 : FnOk Try.prog 13 (sigBitsR 5 5 2 2) [] := fn_sound (by kernel_rfl) ext_bits1 cts_bits1 names vt_bits1
end Go.Proofs.Ytpmlodchbgfmeaa

namespace Go.Proofs.Ytpmlodchbgfmeaa
open Go.Ev Go.Sp
set_option maxRecDepth 100000
theorem vc_bits2 : vcFn Try.prog [] noA [] 400 13 (sigBitsR 6 6 1 1) = (impB ((sigBitsR (6 : Int) (6 : Int) (1 : Int) (1 : Int)).pre [DV.n (6 : Int), DV.n (1 : Int)]) (
reqB ((63 : Nat) ≤ (1100 : Nat)) (
reqB ((bitsL 6 1).length =
 (63 : Nat)) (
reqB (∀ (y : Int),
 y ∈
 (bitsL 6 1) →
 (0 : Int) ≤ y ∧ y ≤ (1 : Int)) (
reqB ((sigBitsR (6 : Int) (6 : Int) (1 : Int) (1 : Int)).post [DV.n (6 : Int), DV.n (1 : Int)]
 [DV.l
 (bitsL 6 1),
 DV.n (0 : Int)]) (
true)))))) := by kernel_rfl
set_option maxHeartbeats 8000000 in
theorem vt_bits2 : vcFn Try.prog [] noA [] 400 13 (sigBitsR 6 6 1 1) = true := by
  rw [vc_bits2]
  try simp only [Int.toNat_natCast, List.length_set, List.length_replicate, List.length_take, List.length_drop, List.length_append, List.length_cons, List.length_nil, Nat.min_self, List.take_take, lenCols_i, lenCols_b, List.drop_zero, List.take_length, Nat.add_eq, Nat.mul_eq, Nat.sub_eq, Nat.zero_add, Nat.sub_zero, Nat.mul_one]
  refine imp_i fun h0 => ?_
  try simp only [sigBitsR, iR, cB, bitsPost, List.cons.injEq, DV.b.injEq, and_true, List.length_cons, List.length_nil] at h0
  refine req_i ?_ ?_
  · -- r0
   first | omega | assumption | grind
  refine req_i ?_ ?_
  · -- r1
   decide +kernel
  refine req_i ?_ ?_
  · -- r2
   exact all01 (by decide +kernel)
  refine req_i ?_ ?_
  · -- r3
   first | exact ⟨rfl, rfl⟩ | exact ⟨rfl, by decide +kernel⟩
  rfl
theorem ext_bits2 : ∀ p ∈ ([] : List (Nat × Ext)), ExtRow Try.prog p.1 p.2 := by
  intro p hp
  cases hp
theorem cts_bits2 : CtsOk Try.prog [] := fun f c h => by cases h
theorem fn_bits2 : FnOk Try.prog 13 (sigBitsR 6 6 1 1) [] := fn_sound (by kernel_rfl) ext_bits2 cts_bits2 names vt_bits2
end Go.Proofs.Ytpmlodchbgfmeaa

namespace Go.Proofs.Ytpmlodchbgfmeaa
open Go.Ev Go.Sp
set_option maxRecDepth 100000
theorem vc_bits3 : vcFn Try.prog [] noA [] 400 13 (sigBitsR 6 6 2 2) = (impB ((sigBitsR (6 : Int) (6 : Int) (2 : Int) (2 : Int)).pre [DV.n (6 : Int), DV.n (2 : Int)]) (
reqB ((63 : Nat) ≤ (1100 : Nat)) (
reqB ((bitsL 6 2).length =
 (63 : Nat)) (
reqB (∀ (y : Int),
 y ∈
 (bitsL 6 2) →
 (0 : Int) ≤ y ∧ y ≤ (1 : Int)) (
reqB ((sigBitsR (6 : Int) (6 : Int) (2 : Int) (2 : Int)).post [DV.n (6 : Int), DV.n (2 : Int)]
 [DV.l
 (bitsL 6 2),
 DV.n (0 : Int)]) (
true)))))) := by kernel_rfl
set_option maxHeartbeats 8000000 in
theorem vt_bits3 : vcFn Try.prog [] noA [] 400 13 (sigBitsR 6 6 2 2) = true := by
  rw [vc_bits3]
  try simp only [Int.toNat_natCast, List.length_set, List.length_replicate, List.length_take, List.length_drop, List.length_append, List.length_cons, List.length_nil, Nat.min_self, List.take_take, lenCols_i, lenCols_b, List.drop_zero, List.take_length, Nat.add_eq, Nat.mul_eq, Nat.sub_eq, Nat.zero_add, Nat.sub_zero, Nat.mul_one]
  refine imp_i fun h0 => ?_
  try simp only [sigBitsR, iR, cB, bitsPost, List.cons.injEq, DV.b.injEq, and_true, List.length_cons, List.length_nil] at h0
  refine req_i ?_ ?_
  · -- r0
   first | omega | assumption | grind
  refine req_i ?_ ?_
  · -- r1
   decide +kernel
  refine req_i ?_ ?_
  · -- r2
   exact all01 (by decide +kernel)
  refine req_i ?_ ?_
  · -- r3
   first | exact ⟨rfl, rfl⟩ | exact ⟨rfl, by decide +kernel⟩
  rfl
theorem ext_bits3 : ∀ p ∈ ([] : List (Nat × Ext)), ExtRow Try.prog p.1 p.2 := by
  intro p hp
  cases hp
theorem cts_bits3 : CtsOk Try.prog [] := fun f c h => by cases h
theorem fn_bits3 : FnOk Try.prog 13 (sigBitsR 6 6 2 2) [] := fn_sound (by kernel_rfl) ext_bits3 cts_bits3 names vt_bits3
end Go.Proofs.Ytpmlodchbgfmeaa

namespace Go.Proofs.Ytpmlodchbgfmeaa
open Go.Ev Go.Sp
set_option maxRecDepth 100000
theorem vc_bits4 : vcFn Try.prog [] noA [] 1000 13 (sigBitsR 7 7 1 1) = (impB ((sigBitsR (7 : Int) (7 : Int) (1 : Int) (1 : Int)).pre [DV.n (7 : Int), DV.n (1 : Int)]) (
reqB ((127 : Nat) ≤ (1100 : Nat)) (
reqB ((bitsL 7 1).length =
 (127 : Nat)) (
reqB (∀ (y : Int),
 y ∈
 (bitsL 7 1) →
 (0 : Int) ≤ y ∧ y ≤ (1 : Int)) (
reqB ((sigBitsR (7 : Int) (7 : Int) (1 : Int) (1 : Int)).post [DV.n (7 : Int), DV.n (1 : Int)]
 [DV.l
 (bitsL 7 1),
 DV.n (0 : Int)]) (
true)))))) := by kernel_rfl
set_option maxHeartbeats 8000000 in
theorem vt_bits4 : vcFn Try.prog [] noA [] 1000 13 (sigBitsR 7 7 1 1) = true := by
  rw [vc_bits4]
  try simp only [Int.toNat_natCast, List.length_set, List.length_replicate, List.length_take, List.length_drop, List.length_append, List.length_cons, List.length_nil, Nat.min_self, List.take_take, lenCols_i, lenCols_b, List.drop_zero, List.take_length, Nat.add_eq, Nat.mul_eq, Nat.sub_eq, Nat.zero_add, Nat.sub_zero, Nat.mul_one]
  refine imp_i fun h0 => ?_
  try simp only [sigBitsR, iR, cB, bitsPost, List.cons.injEq, DV.b.injEq, and_true, List.length_cons, List.length_nil] at h0
  refine req_i ?_ ?_
  · -- r0
   first | omega | assumption | grind
  refine req_i ?_ ?_
  · -- r1
   decide +kernel
  refine req_i ?_ ?_
  · -- r2
   exact all01 (by decide +kernel)
  refine req_i ?_ ?_
  · -- r3
   first | exact ⟨rfl, rfl⟩ | exact ⟨rfl, by decide +kernel⟩
  rfl
theorem ext_bits4 : ∀ p ∈ ([] : List (Nat × Ext)), ExtRow Try.prog p.1 p.2 := by
  intro p hp
  cases hp
theorem cts_bits4 : CtsOk Try.prog [] := fun f c h => by cases h
theorem fn_bits4 : FnOk Try.prog 13 (sigBitsR 7 7 1 1) [] := fn_sound (by kernel_rfl) ext_bits4 cts_bits4 names vt_bits4
end Go.Proofs.Ytpmlodchbgfmeaa

namespace Go.Proofs.Ytpmlodchbgfmeaa
open Go.Ev Go.Sp
set_option maxRecDepth 100000
theorem vc_bits5 : vcFn Try.prog [] noA [] 1000 13 (sigBitsR 7 7 2 2) = (impB ((sigBitsR (7 : Int) (7 : Int) (2 : Int) (2 : Int)).pre [DV.n (7 : Int), DV.n (2 : Int)]) (
reqB ((127 : Nat) ≤ (1100 : Nat)) (
reqB ((bitsL 7 2).length =
 (127 : Nat)) (
reqB (∀ (y : Int),
 y ∈
 (bitsL 7 2) →
 (0 : Int) ≤ y ∧ y ≤ (1 : Int)) (
reqB ((sigBitsR (7 : Int) (7 : Int) (2 : Int) (2 : Int)).post [DV.n (7 : Int), DV.n (2 : Int)]
 [DV.l
 (bitsL 7 2),
 DV.n (0 : Int)]) (
true)))))) := by kernel_rfl
set_option maxHeartbeats 8000000 in
theorem vt_bits5 : vcFn Try.prog [] noA [] 1000 13 (sigBitsR 7 7 2 2) = true := by
  rw [vc_bits5]
  try simp only [Int.toNat_natCast, List.length_set, List.length_replicate, List.length_take, List.length_drop, List.length_append, List.length_cons, List.length_nil, Nat.min_self, List.take_take, lenCols_i, lenCols_b, List.drop_zero, List.take_length, Nat.add_eq, Nat.mul_eq, Nat.sub_eq, Nat.zero_add, Nat.sub_zero, Nat.mul_one]
  refine imp_i fun h0 => ?_
  try simp only [sigBitsR, iR, cB, bitsPost, List.cons.injEq, DV.b.injEq, and_true, List.length_cons, List.length_nil] at h0
  refine req_i ?_ ?_
  · -- r0
   first | omega | assumption | grind
  refine req_i ?_ ?_
  · -- r1
   decide +kernel
  refine req_i ?_ ?_
  · -- r2
   exact all01 (by decide +kernel)
  refine req_i ?_ ?_
  · -- r3
   first | exact ⟨rfl, rfl⟩ | exact ⟨rfl, by decide +kernel⟩
  rfl
theorem ext_bits5 : ∀ p ∈ ([] : List (Nat × Ext)), ExtRow Try.prog p.1 p.2 := by
  intro p hp
  cases hp
theorem cts_bits5 : CtsOk Try.prog [] := fun f c h => by cases h
theorem fn_bits5 : FnOk Try.prog 13 (sigBitsR 7 7 2 2) [] := fn_sound (by kernel_rfl) ext_bits5 cts_bits5 names vt_bits5
end Go.Proofs.Ytpmlodchbgfmeaa

namespace Go.Proofs.Ytpmlodchbgfmeaa
open Go.Ev Go.Sp
set_option maxRecDepth 100000
theorem vc_bits6 : vcFn Try.prog [] noA [] 2500 13 (sigBitsR 9 9 1 1) = (impB ((sigBitsR (9 : Int) (9 : Int) (1 : Int) (1 : Int)).pre [DV.n (9 : Int), DV.n (1 : Int)]) (
reqB ((511 : Nat) ≤ (1100 : Nat)) (
reqB ((bitsL 9 1).length =
 (511 : Nat)) (
reqB (∀ (y : Int),
 y ∈
 (bitsL 9 1) →
 (0 : Int) ≤ y ∧ y ≤ (1 : Int)) (
reqB ((sigBitsR (9 : Int) (9 : Int) (1 : Int) (1 : Int)).post [DV.n (9 : Int), DV.n (1 : Int)]
 [DV.l
 (bitsL 9 1),
 DV.n (0 : Int)]) (
true)))))) := by kernel_rfl
set_option maxHeartbeats 8000000 in
theorem vt_bits6 : vcFn Try.prog [] noA [] 2500 13 (sigBitsR 9 9 1 1) = true := by
  rw [vc_bits6]
  try simp only [Int.toNat_natCast, List.length_set, List.length_replicate, List.length_take, List.length_drop, List.length_append, List.length_cons, List.length_nil, Nat.min_self, List.take_take, lenCols_i, lenCols_b, List.drop_zero, List.take_length, Nat.add_eq, Nat.mul_eq, Nat.sub_eq, Nat.zero_add, Nat.sub_zero, Nat.mul_one]
  refine imp_i fun h0 => ?_
  try simp only [sigBitsR, iR, cB, bitsPost, List.cons.injEq, DV.b.injEq, and_true, List.length_cons, List.length_nil] at h0
  refine req_i ?_ ?_
  · -- r0
   first | omega | assumption | grind
  refine req_i ?_ ?_
  · -- r1
   decide +kernel
  refine req_i ?_ ?_
  · -- r2
   exact all01 (by decide +kernel)
  refine req_i ?_ ?_
  · -- r3
   first | exact ⟨rfl, rfl⟩ | exact ⟨rfl, by decide +kernel⟩
  rfl
theorem ext_bits6 : ∀ p ∈ ([] : List (Nat × Ext)), ExtRow Try.prog p.1 p.2 := by
  intro p hp
  cases hp
theorem cts_bits6 : CtsOk Try.prog [] := fun f c h => by cases h
theorem fn_bits6 : FnOk Try.prog 13 (sigBitsR 9 9 1 1) [] := fn_sound (by kernel_rfl) ext_bits6 cts_bits6 names vt_bits6
end Go.Proofs.Ytpmlodchbgfmeaa

namespace Go.Proofs.Ytpmlodchbgfmeaa
open Go.Ev Go.Sp
set_option maxRecDepth 100000
theorem vc_bits7 : vcFn Try.prog [] noA [] 2500 13 (sigBitsR 9 9 2 2) = (impB ((sigBitsR (9 : Int) (9 : Int) (2 : Int) (2 : Int)).pre [DV.n (9 : Int), DV.n (2 : Int)]) (
reqB ((511 : Nat) ≤ (1100 : Nat)) (
reqB ((bitsL 9 2).length =
 (511 : Nat)) (
reqB (∀ (y : Int),
 y ∈
 (bitsL 9 2) →
 (0 : Int) ≤ y ∧ y ≤ (1 : Int)) (
reqB ((sigBitsR (9 : Int) (9 : Int) (2 : Int) (2 : Int)).post [DV.n (9 : Int), DV.n (2 : Int)]
 [DV.l
 (bitsL 9 2),
 DV.n (0 : Int)]) (
true)))))) := by kernel_rfl
set_option maxHeartbeats 8000000 in
theorem vt_bits7 : vcFn Try.prog [] noA [] 2500 13 (sigBitsR 9 9 2 2) = true := by
  rw [vc_bits7]
  try simp only [Int.toNat_natCast, List.length_set, List.length_replicate, List.length_take, List.length_drop, List.length_append, List.length_cons, List.length_nil, Nat.min_self, List.take_take, lenCols_i, lenCols_b, List.drop_zero, List.take_length, Nat.add_eq, Nat.mul_eq, Nat.sub_eq, Nat.zero_add, Nat.sub_zero, Nat.mul_one]
  refine imp_i fun h0 => ?_
  try simp only [sigBitsR, iR, cB, bitsPost, List.cons.injEq, DV.b.injEq, and_true, List.length_cons, List.length_nil] at h0
  refine req_i ?_ ?_
  · -- r0
   first | omega | assumption | grind
  refine req_i ?_ ?_
  · -- r1
   decide +kernel
  refine req_i ?_ ?_
  · -- r2
   exact all01 (by decide +kernel)
  refine req_i ?_ ?_
  · -- r3
   first | exact ⟨rfl, rfl⟩ | exact ⟨rfl, by decide +kernel⟩
  rfl
theorem ext_bits7 : ∀ p ∈ ([] : List (Nat × Ext)), ExtRow Try.prog p.1 p.2 := by
  intro p hp
  cases hp
theorem cts_bits7 : CtsOk Try.prog [] := fun f c h => by cases h
theorem fn_bits7 : FnOk Try.prog 13 (sigBitsR 9 9 2 2) [] := fn_sound (by kernel_rfl) ext_bits7 cts_bits7 names vt_bits7
end Go.Proofs.Ytpmlodchbgfmeaa

namespace Go.Proofs.Ytpmlodchbgfmeaa
open Go.Ev Go.Sp
set_option maxRecDepth 100000
theorem vc_bits8 : vcFn Try.prog [] noA [] 4000 13 (sigBitsR 10 10 1 1) = (impB ((sigBitsR (10 : Int) (10 : Int) (1 : Int) (1 : Int)).pre [DV.n (10 : Int), DV.n (1 : Int)]) (
reqB ((1023 : Nat) ≤ (1100 : Nat)) (
reqB ((bitsL 10 1).length =
 (1023 : Nat)) (
reqB (∀ (y : Int),
 y ∈
 (bitsL 10 1) →
 (0 : Int) ≤ y ∧ y ≤ (1 : Int)) (
reqB ((sigBitsR (10 : Int) (10 : Int) (1 : Int) (1 : Int)).post [DV.n (10 : Int), DV.n (1 : Int)]
 [DV.l
 (bitsL 10 1),
 DV.n (0 : Int)]) (
true)))))) := by kernel_rfl
set_option maxHeartbeats 8000000 in
theorem vt_bits8 : vcFn Try.prog [] noA [] 4000 13 (sigBitsR 10 10 1 1) = true := by
  rw [vc_bits8]
  try simp only [Int.toNat_natCast, List.length_set, List.length_replicate, List.length_take, List.length_drop, List.length_append, List.length_cons, List.length_nil, Nat.min_self, List.take_take, lenCols_i, lenCols_b, List.drop_zero, List.take_length, Nat.add_eq, Nat.mul_eq, Nat.sub_eq, Nat.zero_add, Nat.sub_zero, Nat.mul_one]
  refine imp_i fun h0 => ?_
  try simp only [sigBitsR, iR, cB, bitsPost, List.cons.injEq, DV.b.injEq, and_true, List.length_cons, List.length_nil] at h0
  refine req_i ?_ ?_
  · -- r0
   first | omega | assumption | grind
  refine req_i ?_ ?_
  · -- r1
   decide +kernel
  refine req_i ?_ ?_
  · -- r2
   exact all01 (by decide +kernel)
  refine req_i ?_ ?_
  · -- r3
   first | exact ⟨rfl, rfl⟩ | exact ⟨rfl, by decide +kernel⟩
  rfl
theorem ext_bits8 : ∀ p ∈ ([] : List (Nat × Ext)), ExtRow Try.prog p.1 p.2 := by
  intro p hp
  cases hp
theorem cts_bits8 : CtsOk Try.prog [] := fun f c h => by cases h
theorem fn_bits8 : FnOk Try.prog 13 (sigBitsR 10 10 1 1) [] := fn_sound (by kernel_rfl) ext_bits8 cts_bits8 names vt_bits8
end Go.Proofs.Ytpmlodchbgfmeaa

namespace Go.Proofs.Ytpmlodchbgfmeaa
open Go.Ev Go.Sp
set_option maxRecDepth 100000
theorem vc_bits9 : vcFn Try.prog [] noA [] 4000 13 (sigBitsR 10 10 2 2) = (impB ((sigBitsR (10 : Int) (10 : Int) (2 : Int) (2 : Int)).pre [DV.n (10 : Int), DV.n (2 : Int)]) (
reqB ((1023 : Nat) ≤ (1100 : Nat)) (
reqB ((bitsL 10 2).length =
 (1023 : Nat)) (
reqB (∀ (y : Int),
 y ∈
 (bitsL 10 2) →
 (0 : Int) ≤ y ∧ y ≤ (1 : Int)) (
reqB ((sigBitsR (10 : Int) (10 : Int) (2 : Int) (2 : Int)).post [DV.n (10 : Int), DV.n (2 : Int)]
 [DV.l
 (bitsL 10 2),
 DV.n (0 : Int)]) (
true)))))) := by kernel_rfl
set_option maxHeartbeats 8000000 in
theorem vt_bits9 : vcFn Try.prog [] noA [] 4000 13 (sigBitsR 10 10 2 2) = true := by
  rw [vc_bits9]
  try simp only [Int.toNat_natCast, List.length_set, List.length_replicate, List.length_take, List.length_drop, List.length_append, List.length_cons, List.length_nil, Nat.min_self, List.take_take, lenCols_i, lenCols_b, List.drop_zero, List.take_length, Nat.add_eq, Nat.mul_eq, Nat.sub_eq, Nat.zero_add, Nat.sub_zero, Nat.mul_one]
  refine imp_i fun h0 => ?_
  try simp only [sigBitsR, iR, cB, bitsPost, List.cons.injEq, DV.b.injEq, and_true, List.length_cons, List.length_nil] at h0
  refine req_i ?_ ?_
  · -- r0
   first | omega | assumption | grind
  refine req_i ?_ ?_
  · -- r1
   decide +kernel
  refine req_i ?_ ?_
  · -- r2
   exact all01 (by decide +kernel)
  refine req_i ?_ ?_
  · -- r3
   first | exact ⟨rfl, rfl⟩ | exact ⟨rfl, by decide +kernel⟩
  rfl
theorem ext_bits9 : ∀ p ∈ ([] : List (Nat × Ext)), ExtRow Try.prog p.1 p.2 := by
  intro p hp
  cases hp
theorem cts_bits9 : CtsOk Try.prog [] := fun f c h => by cases h
theorem fn_bits9 : FnOk Try.prog 13 (sigBitsR 10 10 2 2) [] := fn_sound (by kernel_rfl) ext_bits9 cts_bits9 names vt_bits9
end Go.Proofs.Ytpmlodchbgfmeaa

namespace Go.Proofs.Ytpmlodchbgfmeaa
open Go.Ev Go.Sp
set_option maxRecDepth 100000
theorem vc_bits10 : vcFn Try.prog [] noA [] 100 13 (sigBitsR (-9223372036854775808) 4 (-9223372036854775808) 9223372036854775807) = (allB fun n0 : Int => 
impB ((-9223372036854775808 : Int) ≤ n0) (
impB (n0 ≤ (4 : Int)) (
allB fun n1 : Int => 
impB ((-9223372036854775808 : Int) ≤ n1) (
impB (n1 ≤ (9223372036854775807 : Int)) (
impB ((sigBitsR (-9223372036854775808 : Int) (4 : Int) (-9223372036854775808 : Int) (9223372036854775807 : Int)).pre
 [DV.n n0, DV.n n1]) (
reqB ((sigBitsR (-9223372036854775808 : Int) (4 : Int) (-9223372036854775808 : Int) (9223372036854775807 : Int)).post
 [DV.n n0, DV.n n1] [DV.l [], DV.n (2 : Int)]) (
true))))))) := by kernel_rfl
set_option maxHeartbeats 8000000 in
theorem vt_bits10 : vcFn Try.prog [] noA [] 100 13 (sigBitsR (-9223372036854775808) 4 (-9223372036854775808) 9223372036854775807) = true := by
  rw [vc_bits10]
  try simp only [Int.toNat_natCast, List.length_set, List.length_replicate, List.length_take, List.length_drop, List.length_append, List.length_cons, List.length_nil, Nat.min_self, List.take_take, lenCols_i, lenCols_b, List.drop_zero, List.take_length, Nat.add_eq, Nat.mul_eq, Nat.sub_eq, Nat.zero_add, Nat.sub_zero, Nat.mul_one]
  refine all_i fun n0 => ?_
  refine imp_i fun h0 => ?_
  refine imp_i fun h1 => ?_
  refine all_i fun n1 => ?_
  refine imp_i fun h2 => ?_
  refine imp_i fun h3 => ?_
  refine imp_i fun h4 => ?_
  try simp only [sigBitsR, iR, cB, bitsPost, List.cons.injEq, DV.b.injEq, and_true, List.length_cons, List.length_nil] at h4
  refine req_i ?_ ?_
  · -- r0
   (simp only [sigBitsR, bitsPost, sigTapsR, tapsPost, sigLenR, lenPost]; exact ite_no (by unfold okD; omega) (by simp))
  rfl
theorem ext_bits10 : ∀ p ∈ ([] : List (Nat × Ext)), ExtRow Try.prog p.1 p.2 := by
  intro p hp
  cases hp
theorem cts_bits10 : CtsOk Try.prog [] := fun f c h => by cases h
theorem fn_bits10 : FnOk Try.prog 13 (sigBitsR (-9223372036854775808) 4 (-9223372036854775808) 9223372036854775807) [] := fn_sound (by kernel_rfl) ext_bits10 cts_bits10 names vt_bits10
end Go.Proofs.Ytpmlodchbgfmeaa

namespace Go.Proofs.Ytpmlodchbgfmeaa
open Go.Ev Go.Sp
set_option maxRecDepth 100000
theorem vc_bits11 : vcFn Try.prog [] noA [] 100 13 (sigBitsR 8 8 (-9223372036854775808) 9223372036854775807) = (allB fun n0 : Int => 
impB ((-9223372036854775808 : Int) ≤ n0) (
impB (n0 ≤ (9223372036854775807 : Int)) (
impB ((sigBitsR (8 : Int) (8 : Int) (-9223372036854775808 : Int) (9223372036854775807 : Int)).pre
 [DV.n (8 : Int), DV.n n0]) (
reqB ((sigBitsR (8 : Int) (8 : Int) (-9223372036854775808 : Int) (9223372036854775807 : Int)).post
 [DV.n (8 : Int), DV.n n0] [DV.l [], DV.n (2 : Int)]) (
true))))) := by kernel_rfl
set_option maxHeartbeats 8000000 in
theorem vt_bits11 : vcFn Try.prog [] noA [] 100 13 (sigBitsR 8 8 (-9223372036854775808) 9223372036854775807) = true := by
  rw [vc_bits11]
  try simp only [Int.toNat_natCast, List.length_set, List.length_replicate, List.length_take, List.length_drop, List.length_append, List.length_cons, List.length_nil, Nat.min_self, List.take_take, lenCols_i, lenCols_b, List.drop_zero, List.take_length, Nat.add_eq, Nat.mul_eq, Nat.sub_eq, Nat.zero_add, Nat.sub_zero, Nat.mul_one]
  refine all_i fun n0 => ?_
  refine imp_i fun h0 => ?_
  refine imp_i fun h1 => ?_
  refine imp_i fun h2 => ?_
  try simp only [sigBitsR, iR, cB, bitsPost, List.cons.injEq, DV.b.injEq, and_true, List.length_cons, List.length_nil] at h2
  refine req_i ?_ ?_
  · -- r0
   (simp only [sigBitsR, bitsPost, sigTapsR, tapsPost, sigLenR, lenPost]; exact ite_no (by unfold okD; omega) (by simp))
  rfl
theorem ext_bits11 : ∀ p ∈ ([] : List (Nat × Ext)), ExtRow Try.prog p.1 p.2 := by
  intro p hp
  cases hp
theorem cts_bits11 : CtsOk Try.prog [] := fun f c h => by cases h
theorem fn_bits11 : FnOk Try.prog 13 (sigBitsR 8 8 (-9223372036854775808) 9223372036854775807) [] := fn_sound (by kernel_rfl) ext_bits11 cts_bits11 names vt_bits11
end Go.Proofs.Ytpmlodchbgfmeaa

namespace Go.Proofs.Ytpmlodchbgfmeaa
open Go.Ev Go.Sp
set_option maxRecDepth 100000
theorem vc_bits12 : vcFn Try.prog [] noA [] 100 13 (sigBitsR 11 9223372036854775807 (-9223372036854775808) 9223372036854775807) = (allB fun n0 : Int => 
impB ((11 : Int) ≤ n0) (
impB (n0 ≤ (9223372036854775807 : Int)) (
allB fun n1 : Int => 
impB ((-9223372036854775808 : Int) ≤ n1) (
impB (n1 ≤ (9223372036854775807 : Int)) (
impB ((sigBitsR (11 : Int) (9223372036854775807 : Int) (-9223372036854775808 : Int) (9223372036854775807 : Int)).pre
 [DV.n n0, DV.n n1]) (
reqB ((sigBitsR (11 : Int) (9223372036854775807 : Int) (-9223372036854775808 : Int) (9223372036854775807 : Int)).post
 [DV.n n0, DV.n n1] [DV.l [], DV.n (2 : Int)]) (
true))))))) := by kernel_rfl
set_option maxHeartbeats 8000000 in
theorem vt_bits12 : vcFn Try.prog [] noA [] 100 13 (sigBitsR 11 9223372036854775807 (-9223372036854775808) 9223372036854775807) = true := by
  rw [vc_bits12]
  try simp only [Int.toNat_natCast, List.length_set, List.length_replicate, List.length_take, List.length_drop, List.length_append, List.length_cons, List.length_nil, Nat.min_self, List.take_take, lenCols_i, lenCols_b, List.drop_zero, List.take_length, Nat.add_eq, Nat.mul_eq, Nat.sub_eq, Nat.zero_add, Nat.sub_zero, Nat.mul_one]
  refine all_i fun n0 => ?_
  refine imp_i fun h0 => ?_
  refine imp_i fun h1 => ?_
  refine all_i fun n1 => ?_
  refine imp_i fun h2 => ?_
  refine imp_i fun h3 => ?_
  refine imp_i fun h4 => ?_
  try simp only [sigBitsR, iR, cB, bitsPost, List.cons.injEq, DV.b.injEq, and_true, List.length_cons, List.length_nil] at h4
  refine req_i ?_ ?_
  · -- r0
   (simp only [sigBitsR, bitsPost, sigTapsR, tapsPost, sigLenR, lenPost]; exact ite_no (by unfold okD; omega) (by simp))
  rfl
theorem ext_bits12 : ∀ p ∈ ([] : List (Nat × Ext)), ExtRow Try.prog p.1 p.2 := by
  intro p hp
  cases hp
theorem cts_bits12 : CtsOk Try.prog [] := fun f c h => by cases h
theorem fn_bits12 : FnOk Try.prog 13 (sigBitsR 11 9223372036854775807 (-9223372036854775808) 9223372036854775807) [] := fn_sound (by kernel_rfl) ext_bits12 cts_bits12 names vt_bits12
end Go.Proofs.Ytpmlodchbgfmeaa

namespace Go.Proofs.Ytpmlodchbgfmeaa
open Go.Ev Go.Sp
set_option maxRecDepth 100000
theorem vc_bits13 : vcFn Try.prog [] noA [] 100 13 (sigBitsR 5 10 (-9223372036854775808) 0) = (allB fun n0 : Int => 
impB ((5 : Int) ≤ n0) (
impB (n0 ≤ (10 : Int)) (
allB fun n1 : Int => 
impB ((-9223372036854775808 : Int) ≤ n1) (
impB (n1 ≤ (0 : Int)) (
impB ((sigBitsR (5 : Int) (10 : Int) (-9223372036854775808 : Int) (0 : Int)).pre [DV.n n0, DV.n n1]) (
bR (dec ((5 : Int) = n0)) (
 reqB ((sigBitsR (5 : Int) (10 : Int) (-9223372036854775808 : Int) (0 : Int)).post [DV.n n0, DV.n n1]
 [DV.l [], DV.n (2 : Int)]) (
 true)) (
 bR (dec ((6 : Int) = n0)) (
 reqB ((sigBitsR (5 : Int) (10 : Int) (-9223372036854775808 : Int) (0 : Int)).post [DV.n n0, DV.n n1]
 [DV.l [], DV.n (2 : Int)]) (
 true)) (
 bR (dec ((7 : Int) = n0)) (
 reqB ((sigBitsR (5 : Int) (10 : Int) (-9223372036854775808 : Int) (0 : Int)).post [DV.n n0, DV.n n1]
 [DV.l [], DV.n (2 : Int)]) (
 true)) (
 bR (dec ((9 : Int) = n0)) (
 reqB ((sigBitsR (5 : Int) (10 : Int) (-9223372036854775808 : Int) (0 : Int)).post [DV.n n0, DV.n n1]
 [DV.l [], DV.n (2 : Int)]) (
 true)) (
 bR (dec ((10 : Int) = n0)) (
 reqB ((sigBitsR (5 : Int) (10 : Int) (-9223372036854775808 : Int) (0 : Int)).post [DV.n n0, DV.n n1]
 [DV.l [], DV.n (2 : Int)]) (
 true)) (
 reqB ((sigBitsR (5 : Int) (10 : Int) (-9223372036854775808 : Int) (0 : Int)).post [DV.n n0, DV.n n1]
 [DV.l [], DV.n (2 : Int)]) (
 true)))))))))))) := by kernel_rfl
set_option maxHeartbeats 8000000 in
theorem vt_bits13 : vcFn Try.prog [] noA [] 100 13 (sigBitsR 5 10 (-9223372036854775808) 0) = true := by
  rw [vc_bits13]
  try simp only [Int.toNat_natCast, List.length_set, List.length_replicate, List.length_take, List.length_drop, List.length_append, List.length_cons, List.length_nil, Nat.min_self, List.take_take, lenCols_i, lenCols_b, List.drop_zero, List.take_length, Nat.add_eq, Nat.mul_eq, Nat.sub_eq, Nat.zero_add, Nat.sub_zero, Nat.mul_one]
  refine all_i fun n0 => ?_
  refine imp_i fun h0 => ?_
  refine imp_i fun h1 => ?_
  refine all_i fun n1 => ?_
  refine imp_i fun h2 => ?_
  refine imp_i fun h3 => ?_
  refine imp_i fun h4 => ?_
  try simp only [sigBitsR, iR, cB, bitsPost, List.cons.injEq, DV.b.injEq, and_true, List.length_cons, List.length_nil] at h4
  refine bR_dec (fun h5 => ?_) (fun h5 => ?_)
  ·
   refine req_i ?_ ?_
   · -- r0
    (simp only [sigBitsR, bitsPost, sigTapsR, tapsPost, sigLenR, lenPost]; exact ite_no (by unfold okD; omega) (by simp))
   rfl
  ·
   refine bR_dec (fun h6 => ?_) (fun h6 => ?_)
   ·
    refine req_i ?_ ?_
    · -- r1
     (simp only [sigBitsR, bitsPost, sigTapsR, tapsPost, sigLenR, lenPost]; exact ite_no (by unfold okD; omega) (by simp))
    rfl
   ·
    refine bR_dec (fun h7 => ?_) (fun h7 => ?_)
    ·
     refine req_i ?_ ?_
     · -- r2
      (simp only [sigBitsR, bitsPost, sigTapsR, tapsPost, sigLenR, lenPost]; exact ite_no (by unfold okD; omega) (by simp))
     rfl
    ·
     refine bR_dec (fun h8 => ?_) (fun h8 => ?_)
     ·
      refine req_i ?_ ?_
      · -- r3
       (simp only [sigBitsR, bitsPost, sigTapsR, tapsPost, sigLenR, lenPost]; exact ite_no (by unfold okD; omega) (by simp))
      rfl
     ·
      refine bR_dec (fun h9 => ?_) (fun h9 => ?_)
      ·
       refine req_i ?_ ?_
       · -- r4
        (simp only [sigBitsR, bitsPost, sigTapsR, tapsPost, sigLenR, lenPost]; exact ite_no (by unfold okD; omega) (by simp))
       rfl
      ·
       refine req_i ?_ ?_
       · -- r5
        (simp only [sigBitsR, bitsPost, sigTapsR, tapsPost, sigLenR, lenPost]; exact ite_no (by unfold okD; omega) (by simp))
       rfl
theorem ext_bits13 : ∀ p ∈ ([] : List (Nat × Ext)), ExtRow Try.prog p.1 p.2 := by
  intro p hp
  cases hp
theorem cts_bits13 : CtsOk Try.prog [] := fun f c h => by cases h
theorem fn_bits13 : FnOk Try.prog 13 (sigBitsR 5 10 (-9223372036854775808) 0) [] := fn_sound (by kernel_rfl) ext_bits13 cts_bits13 names vt_bits13
end Go.Proofs.Ytpmlodchbgfmeaa

namespace Go.Proofs.Ytpmlodchbgfmeaa
open Go.Ev Go.Sp
set_option maxRecDepth 100000
theorem vc_bits14 : vcFn Try.prog [] noA [] 100 13 (sigBitsR 5 10 3 9223372036854775807) = (allB fun n0 : Int => 
impB ((5 : Int) ≤ n0) (
impB (n0 ≤ (10 : Int)) (
allB fun n1 : Int => 
impB ((3 : Int) ≤ n1) (
impB (n1 ≤ (9223372036854775807 : Int)) (
impB ((sigBitsR (5 : Int) (10 : Int) (3 : Int) (9223372036854775807 : Int)).pre [DV.n n0, DV.n n1]) (
bR (dec ((5 : Int) = n0)) (
 reqB ((sigBitsR (5 : Int) (10 : Int) (3 : Int) (9223372036854775807 : Int)).post [DV.n n0, DV.n n1]
 [DV.l [], DV.n (2 : Int)]) (
 true)) (
 bR (dec ((6 : Int) = n0)) (
 reqB ((sigBitsR (5 : Int) (10 : Int) (3 : Int) (9223372036854775807 : Int)).post [DV.n n0, DV.n n1]
 [DV.l [], DV.n (2 : Int)]) (
 true)) (
 bR (dec ((7 : Int) = n0)) (
 reqB ((sigBitsR (5 : Int) (10 : Int) (3 : Int) (9223372036854775807 : Int)).post [DV.n n0, DV.n n1]
 [DV.l [], DV.n (2 : Int)]) (
 true)) (
 bR (dec ((9 : Int) = n0)) (
 reqB ((sigBitsR (5 : Int) (10 : Int) (3 : Int) (9223372036854775807 : Int)).post [DV.n n0, DV.n n1]
 [DV.l [], DV.n (2 : Int)]) (
 true)) (
 bR (dec ((10 : Int) = n0)) (
 reqB ((sigBitsR (5 : Int) (10 : Int) (3 : Int) (9223372036854775807 : Int)).post [DV.n n0, DV.n n1]
 [DV.l [], DV.n (2 : Int)]) (
 true)) (
 reqB ((sigBitsR (5 : Int) (10 : Int) (3 : Int) (9223372036854775807 : Int)).post [DV.n n0, DV.n n1]
 [DV.l [], DV.n (2 : Int)]) (
 true)))))))))))) := by kernel_rfl
set_option maxHeartbeats 8000000 in
theorem vt_bits14 : vcFn Try.prog [] noA [] 100 13 (sigBitsR 5 10 3 9223372036854775807) = true := by
  rw [vc_bits14]
  try simp only [Int.toNat_natCast, List.length_set, List.length_replicate, List.length_take, List.length_drop, List.length_append, List.length_cons, List.length_nil, Nat.min_self, List.take_take, lenCols_i, lenCols_b, List.drop_zero, List.take_length, Nat.add_eq, Nat.mul_eq, Nat.sub_eq, Nat.zero_add, Nat.sub_zero, Nat.mul_one]
  refine all_i fun n0 => ?_
  refine imp_i fun h0 => ?_
  refine imp_i fun h1 => ?_
  refine all_i fun n1 => ?_
  refine imp_i fun h2 => ?_
  refine imp_i fun h3 => ?_
  refine imp_i fun h4 => ?_
  try simp only [sigBitsR, iR, cB, bitsPost, List.cons.injEq, DV.b.injEq, and_true, List.length_cons, List.length_nil] at h4
  refine bR_dec (fun h5 => ?_) (fun h5 => ?_)
  ·
   refine req_i ?_ ?_
   · -- r0
    (simp only [sigBitsR, bitsPost, sigTapsR, tapsPost, sigLenR, lenPost]; exact ite_no (by unfold okD; omega) (by simp))
   rfl
  ·
   refine bR_dec (fun h6 => ?_) (fun h6 => ?_)
   ·
    refine req_i ?_ ?_
    · -- r1
     (simp only [sigBitsR, bitsPost, sigTapsR, tapsPost, sigLenR, lenPost]; exact ite_no (by unfold okD; omega) (by simp))
    rfl
   ·
    refine bR_dec (fun h7 => ?_) (fun h7 => ?_)
    ·
     refine req_i ?_ ?_
     · -- r2
      (simp only [sigBitsR, bitsPost, sigTapsR, tapsPost, sigLenR, lenPost]; exact ite_no (by unfold okD; omega) (by simp))
     rfl
    ·
     refine bR_dec (fun h8 => ?_) (fun h8 => ?_)
     ·
      refine req_i ?_ ?_
      · -- r3
       (simp only [sigBitsR, bitsPost, sigTapsR, tapsPost, sigLenR, lenPost]; exact ite_no (by unfold okD; omega) (by simp))
      rfl
     ·
      refine bR_dec (fun h9 => ?_) (fun h9 => ?_)
      ·
       refine req_i ?_ ?_
       · -- r4
        (simp only [sigBitsR, bitsPost, sigTapsR, tapsPost, sigLenR, lenPost]; exact ite_no (by unfold okD; omega) (by simp))
       rfl
      ·
       refine req_i ?_ ?_
       · -- r5
        (simp only [sigBitsR, bitsPost, sigTapsR, tapsPost, sigLenR, lenPost]; exact ite_no (by unfold okD; omega) (by simp))
       rfl
theorem ext_bits14 : ∀ p ∈ ([] : List (Nat × Ext)), ExtRow Try.prog p.1 p.2 := by
  intro p hp
  cases hp
theorem cts_bits14 : CtsOk Try.prog [] := fun f c h => by cases h
theorem fn_bits14 : FnOk Try.prog 13 (sigBitsR 5 10 3 9223372036854775807) [] := fn_sound (by kernel_rfl) ext_bits14 cts_bits14 names vt_bits14
end Go.Proofs.Ytpmlodchbgfmeaa

namespace Go.Proofs.Ytpmlodchbgfmeaa
open Go.Ev Go.Sp
theorem fn_bits : FnOk Try.prog 13 sigBits [] := by
  exact (fn_cover covG covG_ok fun t ht => by
    simp only [covG, List.mem_cons, List.not_mem_nil, or_false] at ht
    rcases ht with rfl | rfl | rfl | rfl | rfl | rfl | rfl | rfl | rfl | rfl | rfl | rfl | rfl | rfl | rfl
    · exact fn_bits0
    · exact fn_bits1
    · exact fn_bits2
    · exact fn_bits3
    · exact fn_bits4
    · exact fn_bits5
    · exact fn_bits6
    · exact fn_bits7
    · exact fn_bits8
    · exact fn_bits9
    · exact fn_bits10
    · exact fn_bits11
    · exact fn_bits12
    · exact fn_bits13
    · exact fn_bits14)
end Go.Proofs.Ytpmlodchbgfmeaa

namespace Go.Proofs.Ytpmlodchbgfmeaa
open Go.Ev Go.Sp
set_option maxRecDepth 100000
theorem vc_bitsR0 : vcFn Try.prog [] noA [] 200 26 (sigBitsR 5 5 1 1) = (impB ((sigBitsR (5 : Int) (5 : Int) (1 : Int) (1 : Int)).pre [DV.n (5 : Int), DV.n (1 : Int)]) (
reqB ((31 : Nat) ≤ (1100 : Nat)) (
reqB ((bitsL 5 1).length =
 (31 : Nat)) (
reqB (∀ (y : Int),
 y ∈
 (bitsL 5 1) →
 (0 : Int) ≤ y ∧ y ≤ (1 : Int)) (
reqB ((sigBitsR (5 : Int) (5 : Int) (1 : Int) (1 : Int)).post [DV.n (5 : Int), DV.n (1 : Int)]
 [DV.l
 (bitsL 5 1),
 DV.n (0 : Int)]) (
true)))))) := by kernel_rfl
set_option maxHeartbeats 8000000 in
theorem vt_bitsR0 : vcFn Try.prog [] noA [] 200 26 (sigBitsR 5 5 1 1) = true := by
  rw [vc_bitsR0]
  try simp only [Int.toNat_natCast, List.length_set, List.length_replicate, List.length_take, List.length_drop, List.length_append, List.length_cons, List.length_nil, Nat.min_self, List.take_take, lenCols_i, lenCols_b, List.drop_zero, List.take_length, Nat.add_eq, Nat.mul_eq, Nat.sub_eq, Nat.zero_add, Nat.sub_zero, Nat.mul_one]
  refine imp_i fun h0 => ?_
  try simp only [sigBitsR, iR, cB, bitsPost, List.cons.injEq, DV.b.injEq, and_true, List.length_cons, List.length_nil] at h0
  refine req_i ?_ ?_
  · -- r0
   first | omega | assumption | grind
  refine req_i ?_ ?_
  · -- r1
   decide +kernel
  refine req_i ?_ ?_
  · -- r2
   exact all01 (by decide +kernel)
  refine req_i ?_ ?_
  · -- r3
   first | exact ⟨rfl, rfl⟩ | exact ⟨rfl, by decide +kernel⟩
  rfl
theorem ext_bitsR0 : ∀ p ∈ ([] : List (Nat × Ext)), ExtRow Try.prog p.1 p.2 := by
  intro p hp
  cases hp
theorem cts_bitsR0 : CtsOk Try.prog [] := fun f c h => by cases h
theorem fn_bitsR0 : FnOk Try.prog 26 (sigBitsR 5 5 1 1) [] := fn_sound (by kernel_rfl) ext_bitsR0 cts_bitsR0 names vt_bitsR0
end Go.Proofs.Ytpmlodchbgfmeaa

namespace Go.Proofs.Ytpmlodchbgfmeaa
open Go.Ev Go.Sp
set_option maxRecDepth 100000
theorem vc_bitsR1 : vcFn Try.prog [] noA [] 200 26 (sigBitsR 5 5 2 2) = (impB ((sigBitsR (5 : Int) (5 : Int) (2 : Int) (2 : Int)).pre [DV.n (5 : Int), DV.n (2 : Int)]) (
reqB ((31 : Nat) ≤ (1100 : Nat)) (
reqB ((bitsL 5 2).length =
 (31 : Nat)) (
reqB (∀ (y : Int),
 y ∈
 (bitsL 5 2) →
 (0 : Int) ≤ y ∧ y ≤ (1 : Int)) (
reqB ((sigBitsR (5 : Int) (5 : Int) (2 : Int) (2 : Int)).post [DV.n (5 : Int), DV.n (2 : Int)]
 [DV.l
 (bitsL 5 2),
 DV.n (0 : Int)]) (
true)))))) := by kernel_rfl
set_option maxHeartbeats 8000000 in
theorem vt_bitsR1 : vcFn Try.prog [] noA [] 200 26 (sigBitsR 5 5 2 2) = true := by
  rw [vc_bitsR1]
  try simp only [Int.toNat_natCast, List.length_set, List.length_replicate, List.length_take, List.length_drop, List.length_append, List.length_cons, List.length_nil, Nat.min_self, List.take_take, lenCols_i, lenCols_b, List.drop_zero, List.take_length, Nat.add_eq, Nat.mul_eq, Nat.sub_eq, Nat.zero_add, Nat.sub_zero, Nat.mul_one]
  refine imp_i fun h0 => ?_
  try simp only [sigBitsR, iR, cB, bitsPost, List.cons.injEq, DV.b.injEq, and_true, List.length_cons, List.length_nil] at h0
  refine req_i ?_ ?_
  · -- r0
   first | omega | assumption | grind
  refine req_i ?_ ?_
  · -- r1
   decide +kernel
  refine req_i ?_ ?_
  · -- r2
   exact all01 (by decide +kernel)
  refine req_i ?_ ?_
  · -- r3
   first | exact ⟨rfl, rfl⟩ | exact ⟨rfl, by decide +kernel⟩
  rfl
theorem ext_bitsR1 : ∀ p ∈ ([] : List (Nat × Ext)), ExtRow Try.prog p.1 p.2 := by
  intro p hp
  cases hp
theorem cts_bitsR1 : CtsOk Try.prog [] := fun f c h => by cases h
theorem fn_bitsR1 : FnOk Try.prog 26 (sigBitsR 5 5 2 2) [] := fn_sound (by kernel_rfl) ext_bitsR1 cts_bitsR1 names vt_bitsR1
end Go.Proofs.Ytpmlodchbgfmeaa

namespace Go.Proofs.Ytpmlodchbgfmeaa
open Go.Ev Go.Sp
set_option maxRecDepth 100000
theorem vc_bitsR2 : vcFn Try.prog [] noA [] 400 26 (sigBitsR 6 6 1 1) = (impB ((sigBitsR (6 : Int) (6 : Int) (1 : Int) (1 : Int)).pre [DV.n (6 : Int), DV.n (1 : Int)]) (
reqB ((63 : Nat) ≤ (1100 : Nat)) (
reqB ((bitsL 6 1).length =
 (63 : Nat)) (
reqB (∀ (y : Int),
 y ∈
 (bitsL 6 1) →
 (0 : Int) ≤ y ∧ y ≤ (1 : Int)) (
reqB ((sigBitsR (6 : Int) (6 : Int) (1 : Int) (1 : Int)).post [DV.n (6 : Int), DV.n (1 : Int)]
 [DV.l
 (bitsL 6 1),
 DV.n (0 : Int)]) (
true)))))) := by kernel_rfl
set_option maxHeartbeats 8000000 in
theorem vt_bitsR2 : vcFn Try.prog [] noA [] 400 26 (sigBitsR 6 6 1 1) = true := by
  rw [vc_bitsR2]
  try simp only [Int.toNat_natCast, List.length_set, List.length_replicate, List.length_take, List.length_drop, List.length_append, List.length_cons, List.length_nil, Nat.min_self, List.take_take, lenCols_i, lenCols_b, List.drop_zero, List.take_length, Nat.add_eq, Nat.mul_eq, Nat.sub_eq, Nat.zero_add, Nat.sub_zero, Nat.mul_one]
  refine imp_i fun h0 => ?_
  try simp only [sigBitsR, iR, cB, bitsPost, List.cons.injEq, DV.b.injEq, and_true, List.length_cons, List.length_nil] at h0
  refine req_i ?_ ?_
  · -- r0
   first | omega | assumption | grind
  refine req_i ?_ ?_
  · -- r1
   decide +kernel
  refine req_i ?_ ?_
  · -- r2
   exact all01 (by decide +kernel)
  refine req_i ?_ ?_
  · -- r3
   first | exact ⟨rfl, rfl⟩ | exact ⟨rfl, by decide +kernel⟩
  rfl
theorem ext_bitsR2 : ∀ p ∈ ([] : List (Nat × Ext)), ExtRow Try.prog p.1 p.2 := by
  intro p hp
  cases hp
theorem cts_bitsR2 : CtsOk Try.prog [] := fun f c h => by cases h
theorem fn_bitsR2 : FnOk Try.prog 26 (sigBitsR 6 6 1 1) [] := fn_sound (by kernel_rfl) ext_bitsR2 cts_bitsR2 names vt_bitsR2
end Go.Proofs.Ytpmlodchbgfmeaa

namespace Go.Proofs.Ytpmlodchbgfmeaa
open Go.Ev Go.Sp
set_option maxRecDepth 100000
theorem vc_bitsR3 : vcFn Try.prog [] noA [] 400 26 (sigBitsR 6 6 2 2) = (impB ((sigBitsR (6 : Int) (6 : Int) (2 : Int) (2 : Int)).pre [DV.n (6 : Int), DV.n (2 : Int)]) (
reqB ((63 : Nat) ≤ (1100 : Nat)) (
reqB ((bitsL 6 2).length =
 (63 : Nat)) (
reqB (∀ (y : Int),
 y ∈
 (bitsL 6 2) →
 (0 : Int) ≤ y ∧ y ≤ (1 : Int)) (
reqB ((sigBitsR (6 : Int) (6 : Int) (2 : Int) (2 : Int)).post [DV.n (6 : Int), DV.n (2 : Int)]
 [DV.l
 (bitsL 6 2),
 DV.n (0 : Int)]) (
true)))))) := by kernel_rfl
set_option maxHeartbeats 8000000 in
theorem vt_bitsR3 : vcFn Try.prog [] noA [] 400 26 (sigBitsR 6 6 2 2) = true := by
  rw [vc_bitsR3]
  try simp only [Int.toNat_natCast, List.length_set, List.length_replicate, List.length_take, List.length_drop, List.length_append, List.length_cons, List.length_nil, Nat.min_self, List.take_take, lenCols_i, lenCols_b, List.drop_zero, List.take_length, Nat.add_eq, Nat.mul_eq, Nat.sub_eq, Nat.zero_add, Nat.sub_zero, Nat.mul_one]
  refine imp_i fun h0 => ?_
  try simp only [sigBitsR, iR, cB, bitsPost, List.cons.injEq, DV.b.injEq, and_true, List.length_cons, List.length_nil] at h0
  refine req_i ?_ ?_
  · -- r0
   first | omega | assumption | grind
  refine req_i ?_ ?_
  · -- r1
   decide +kernel
  refine req_i ?_ ?_
  · -- r2
   exact all01 (by decide +kernel)
  refine req_i ?_ ?_
  · -- r3
   first | exact ⟨rfl, rfl⟩ | exact ⟨rfl, by decide +kernel⟩
  rfl
theorem ext_bitsR3 : ∀ p ∈ ([] : List (Nat × Ext)), ExtRow Try.prog p.1 p.2 := by
  intro p hp
  cases hp
theorem cts_bitsR3 : CtsOk Try.prog [] := fun f c h => by cases h
theorem fn_bitsR3 : FnOk Try.prog 26 (sigBitsR 6 6 2 2) [] := fn_sound (by kernel_rfl) ext_bitsR3 cts_bitsR3 names vt_bitsR3
end Go.Proofs.Ytpmlodchbgfmeaa

namespace Go.Proofs.Ytpmlodchbgfmeaa
open Go.Ev Go.Sp
set_option maxRecDepth 100000
theorem vc_bitsR4 : vcFn Try.prog [] noA [] 1000 26 (sigBitsR 7 7 1 1) = (impB ((sigBitsR (7 : Int) (7 : Int) (1 : Int) (1 : Int)).pre [DV.n (7 : Int), DV.n (1 : Int)]) (
reqB ((127 : Nat) ≤ (1100 : Nat)) (
reqB ((bitsL 7 1).length =
 (127 : Nat)) (
reqB (∀ (y : Int),
 y ∈
 (bitsL 7 1) →
 (0 : Int) ≤ y ∧ y ≤ (1 : Int)) (
reqB ((sigBitsR (7 : Int) (7 : Int) (1 : Int) (1 : Int)).post [DV.n (7 : Int), DV.n (1 : Int)]
 [DV.l
 (bitsL 7 1),
 DV.n (0 : Int)]) (
true)))))) := by kernel_rfl
set_option maxHeartbeats 8000000 in
theorem vt_bitsR4 : vcFn Try.prog [] noA [] 1000 26 (sigBitsR 7 7 1 1) = true := by
  rw [vc_bitsR4]
  try simp only [Int.toNat_natCast, List.length_set, List.length_replicate, List.length_take, List.length_drop, List.length_append, List.length_cons, List.length_nil, Nat.min_self, List.take_take, lenCols_i, lenCols_b, List.drop_zero, List.take_length, Nat.add_eq, Nat.mul_eq, Nat.sub_eq, Nat.zero_add, Nat.sub_zero, Nat.mul_one]
  refine imp_i fun h0 => ?_
  try simp only [sigBitsR, iR, cB, bitsPost, List.cons.injEq, DV.b.injEq, and_true, List.length_cons, List.length_nil] at h0
  refine req_i ?_ ?_
  · -- r0
   first | omega | assumption | grind
  refine req_i ?_ ?_
  · -- r1
   decide +kernel
  refine req_i ?_ ?_
  · -- r2
   exact all01 (by decide +kernel)
  refine req_i ?_ ?_
  · -- r3
   first | exact ⟨rfl, rfl⟩ | exact ⟨rfl, by decide +kernel⟩
  rfl
theorem ext_bitsR4 : ∀ p ∈ ([] : List (Nat × Ext)), ExtRow Try.prog p.1 p.2 := by
  intro p hp
  cases hp
theorem cts_bitsR4 : CtsOk Try.prog [] := fun f c h => by cases h
theorem fn_bitsR4 : FnOk Try.prog 26 (sigBitsR 7 7 1 1) [] := fn_sound (by kernel_rfl) ext_bitsR4 cts_bitsR4 names vt_bitsR4
end Go.Proofs.Ytpmlodchbgfmeaa

namespace Go.Proofs.Ytpmlodchbgfmeaa
open Go.Ev Go.Sp
set_option maxRecDepth 100000
theorem vc_bitsR5 : vcFn Try.prog [] noA [] 1000 26 (sigBitsR 7 7 2 2) = (impB ((sigBitsR (7 : Int) (7 : Int) (2 : Int) (2 : Int)).pre [DV.n (7 : Int), DV.n (2 : Int)]) (
reqB ((127 : Nat) ≤ (1100 : Nat)) (
reqB ((bitsL 7 2).length =
 (127 : Nat)) (
reqB (∀ (y : Int),
 y ∈
 (bitsL 7 2) →
 (0 : Int) ≤ y ∧ y ≤ (1 : Int)) (
reqB ((sigBitsR (7 : Int) (7 : Int) (2 : Int) (2 : Int)).post [DV.n (7 : Int), DV.n (2 : Int)]
 [DV.l
 (bitsL 7 2),
 DV.n (0 : Int)]) (
true)))))) := by kernel_rfl
set_option maxHeartbeats 8000000 in
theorem vt_bitsR5 : vcFn Try.prog [] noA [] 1000 26 (sigBitsR 7 7 2 2) = true := by
  rw [vc_bitsR5]
  try simp only [Int.toNat_natCast, List.length_set, List.length_replicate, List.length_take, List.length_drop, List.length_append, List.length_cons, List.length_nil, Nat.min_self, List.take_take, lenCols_i, lenCols_b, List.drop_zero, List.take_length, Nat.add_eq, Nat.mul_eq, Nat.sub_eq, Nat.zero_add, Nat.sub_zero, Nat.mul_one]
  refine imp_i fun h0 => ?_
  try simp only [sigBitsR, iR, cB, bitsPost, List.cons.injEq, DV.b.injEq, and_true, List.length_cons, List.length_nil] at h0
  refine req_i ?_ ?_
  · -- r0
   first | omega | assumption | grind
  refine req_i ?_ ?_
  · -- r1
   decide +kernel
  refine req_i ?_ ?_
  · -- r2
   exact all01 (by decide +kernel)
  refine req_i ?_ ?_
  · -- r3
   first | exact ⟨rfl, rfl⟩ | exact ⟨rfl, by decide +kernel⟩
  rfl
theorem ext_bitsR5 : ∀ p ∈ ([] : List (Nat × Ext)), ExtRow Try.prog p.1 p.2 := by
  intro p hp
  cases hp
theorem cts_bitsR5 : CtsOk Try.prog [] := fun f c h => by cases h
theorem fn_bitsR5 : FnOk Try.prog 26 (sigBitsR 7 7 2 2) [] := fn_sound (by kernel_rfl) ext_bitsR5 cts_bitsR5 names vt_bitsR5
end Go.Proofs.Ytpmlodchbgfmeaa

namespace Go.Proofs.Ytpmlodchbgfmeaa
open Go.Ev Go.Sp
set_option maxRecDepth 100000
theorem vc_bitsR6 : vcFn Try.prog [] noA [] 2500 26 (sigBitsR 9 9 1 1) = (impB ((sigBitsR (9 : Int) (9 : Int) (1 : Int) (1 : Int)).pre [DV.n (9 : Int), DV.n (1 : Int)]) (
reqB ((511 : Nat) ≤ (1100 : Nat)) (
reqB ((bitsL 9 1).length =
 (511 : Nat)) (
reqB (∀ (y : Int),
 y ∈
 (bitsL 9 1) →
 (0 : Int) ≤ y ∧ y ≤ (1 : Int)) (
reqB ((sigBitsR (9 : Int) (9 : Int) (1 : Int) (1 : Int)).post [DV.n (9 : Int), DV.n (1 : Int)]
 [DV.l
 (bitsL 9 1),
 DV.n (0 : Int)]) (
true)))))) := by kernel_rfl
set_option maxHeartbeats 8000000 in
theorem vt_bitsR6 : vcFn Try.prog [] noA [] 2500 26 (sigBitsR 9 9 1 1) = true := by
  rw [vc_bitsR6]
  try simp only [Int.toNat_natCast, List.length_set, List.length_replicate, List.length_take, List.length_drop, List.length_append, List.length_cons, List.length_nil, Nat.min_self, List.take_take, lenCols_i, lenCols_b, List.drop_zero, List.take_length, Nat.add_eq, Nat.mul_eq, Nat.sub_eq, Nat.zero_add, Nat.sub_zero, Nat.mul_one]
  refine imp_i fun h0 => ?_
  try simp only [sigBitsR, iR, cB, bitsPost, List.cons.injEq, DV.b.injEq, and_true, List.length_cons, List.length_nil] at h0
  refine req_i ?_ ?_
  · -- r0
   first | omega | assumption | grind
  refine req_i ?_ ?_
  · -- r1
   decide +kernel
  refine req_i ?_ ?_
  · -- r2
   exact all01 (by decide +kernel)
  refine req_i ?_ ?_
  · -- r3
   first | exact ⟨rfl, rfl⟩ | exact ⟨rfl, by decide +kernel⟩
  rfl
theorem ext_bitsR6 : ∀ p ∈ ([] : List (Nat × Ext)), ExtRow Try.prog p.1 p.2 := by
  intro p hp
  cases hp
theorem cts_bitsR6 : CtsOk Try.prog [] := fun f c h => by cases h
theorem fn_bitsR6 : FnOk Try.prog 26 (sigBitsR 9 9 1 1) [] := fn_sound (by kernel_rfl) ext_bitsR6 cts_bitsR6 names vt_bitsR6
end Go.Proofs.Ytpmlodchbgfmeaa

namespace Go.Proofs.Ytpmlodchbgfmeaa
open Go.Ev Go.Sp
set_option maxRecDepth 100000
theorem vc_bitsR7 : vcFn Try.prog [] noA [] 2500 26 (sigBitsR 9 9 2 2) = (impB ((sigBitsR (9 : Int) (9 : Int) (2 : Int) (2 : Int)).pre [DV.n (9 : Int), DV.n (2 : Int)]) (
reqB ((511 : Nat) ≤ (1100 : Nat)) (
reqB ((bitsL 9 2).length =
 (511 : Nat)) (
reqB (∀ (y : Int),
 y ∈
 (bitsL 9 2) →
 (0 : Int) ≤ y ∧ y ≤ (1 : Int)) (
reqB ((sigBitsR (9 : Int) (9 : Int) (2 : Int) (2 : Int)).post [DV.n (9 : Int), DV.n (2 : Int)]
 [DV.l
 (bitsL 9 2),
 DV.n (0 : Int)]) (
true)))))) := by kernel_rfl
set_option maxHeartbeats 8000000 in
theorem vt_bitsR7 : vcFn Try.prog [] noA [] 2500 26 (sigBitsR 9 9 2 2) = true := by
  rw [vc_bitsR7]
  try simp only [Int.toNat_natCast, List.length_set, List.length_replicate, List.length_take, List.length_drop, List.length_append, List.length_cons, List.length_nil, Nat.min_self, List.take_take, lenCols_i, lenCols_b, List.drop_zero, List.take_length, Nat.add_eq, Nat.mul_eq, Nat.sub_eq, Nat.zero_add, Nat.sub_zero, Nat.mul_one]
  refine imp_i fun h0 => ?_
  try simp only [sigBitsR, iR, cB, bitsPost, List.cons.injEq, DV.b.injEq, and_true, List.length_cons, List.length_nil] at h0
  refine req_i ?_ ?_
  · -- r0
   first | omega | assumption | grind
  refine req_i ?_ ?_
  · -- r1
   decide +kernel
  refine req_i ?_ ?_
  · -- r2
   exact all01 (by decide +kernel)
  refine req_i ?_ ?_
  · -- r3
   first | exact ⟨rfl, rfl⟩ | exact ⟨rfl, by decide +kernel⟩
  rfl
theorem ext_bitsR7 : ∀ p ∈ ([] : List (Nat × Ext)), ExtRow Try.prog p.1 p.2 := by
  intro p hp
  cases hp
theorem cts_bitsR7 : CtsOk Try.prog [] := fun f c h => by cases h
theorem fn_bitsR7 : FnOk Try.prog 26 (sigBitsR 9 9 2 2) [] := fn_sound (by kernel_rfl) ext_bitsR7 cts_bitsR7 names vt_bitsR7
end Go.Proofs.Ytpmlodchbgfmeaa

namespace Go.Proofs.Ytpmlodchbgfmeaa
open Go.Ev Go.Sp
set_option maxRecDepth 100000
theorem vc_bitsR8 : vcFn Try.prog [] noA [] 4000 26 (sigBitsR 10 10 1 1) = (impB ((sigBitsR (10 : Int) (10 : Int) (1 : Int) (1 : Int)).pre [DV.n (10 : Int), DV.n (1 : Int)]) (
reqB ((1023 : Nat) ≤ (1100 : Nat)) (
reqB ((bitsL 10 1).length =
 (1023 : Nat)) (
reqB (∀ (y : Int),
 y ∈
 (bitsL 10 1) →
 (0 : Int) ≤ y ∧ y ≤ (1 : Int)) (
reqB ((sigBitsR (10 : Int) (10 : Int) (1 : Int) (1 : Int)).post [DV.n (10 : Int), DV.n (1 : Int)]
 [DV.l
 (bitsL 10 1),
 DV.n (0 : Int)]) (
true)))))) := by kernel_rfl
set_option maxHeartbeats 8000000 in
theorem vt_bitsR8 : vcFn Try.prog [] noA [] 4000 26 (sigBitsR 10 10 1 1) = true := by
  rw [vc_bitsR8]
  try simp only [Int.toNat_natCast, List.length_set, List.length_replicate, List.length_take, List.length_drop, List.length_append, List.length_cons, List.length_nil, Nat.min_self, List.take_take, lenCols_i, lenCols_b, List.drop_zero, List.take_length, Nat.add_eq, Nat.mul_eq, Nat.sub_eq, Nat.zero_add, Nat.sub_zero, Nat.mul_one]
  refine imp_i fun h0 => ?_
  try simp only [sigBitsR, iR, cB, bitsPost, List.cons.injEq, DV.b.injEq, and_true, List.length_cons, List.length_nil] at h0
  refine req_i ?_ ?_
  · -- r0
   first | omega | assumption | grind
  refine req_i ?_ ?_
  · -- r1
   decide +kernel
  refine req_i ?_ ?_
  · -- r2
   exact all01 (by decide +kernel)
  refine req_i ?_ ?_
  · -- r3
   first | exact ⟨rfl, rfl⟩ | exact ⟨rfl, by decide +kernel⟩
  rfl
theorem ext_bitsR8 : ∀ p ∈ ([] : List (Nat × Ext)), ExtRow Try.prog p.1 p.2 := by
  intro p hp
  cases hp
theorem cts_bitsR8 : CtsOk Try.prog [] := fun f c h => by cases h
theorem fn_bitsR8 : FnOk Try.prog 26 (sigBitsR 10 10 1 1) [] := fn_sound (by kernel_rfl) ext_bitsR8 cts_bitsR8 names vt_bitsR8
end Go.Proofs.Ytpmlodchbgfmeaa

namespace Go.Proofs.Ytpmlodchbgfmeaa
open Go.Ev Go.Sp
set_option maxRecDepth 100000
theorem vc_bitsR9 : vcFn Try.prog [] noA [] 4000 26 (sigBitsR 10 10 2 2) = (impB ((sigBitsR (10 : Int) (10 : Int) (2 : Int) (2 : Int)).pre [DV.n (10 : Int), DV.n (2 : Int)]) (
reqB ((1023 : Nat) ≤ (1100 : Nat)) (
reqB ((bitsL 10 2).length =
 (1023 : Nat)) (
reqB (∀ (y : Int),
 y ∈
 (bitsL 10 2) →
 (0 : Int) ≤ y ∧ y ≤ (1 : Int)) (
reqB ((sigBitsR (10 : Int) (10 : Int) (2 : Int) (2 : Int)).post [DV.n (10 : Int), DV.n (2 : Int)]
 [DV.l
 (bitsL 10 2),
 DV.n (0 : Int)]) (
true)))))) := by kernel_rfl
set_option maxHeartbeats 8000000 in
theorem vt_bitsR9 : vcFn Try.prog [] noA [] 4000 26 (sigBitsR 10 10 2 2) = true := by
  rw [vc_bitsR9]
  try simp only [Int.toNat_natCast, List.length_set, List.length_replicate, List.length_take, List.length_drop, List.length_append, List.length_cons, List.length_nil, Nat.min_self, List.take_take, lenCols_i, lenCols_b, List.drop_zero, List.take_length, Nat.add_eq, Nat.mul_eq, Nat.sub_eq, Nat.zero_add, Nat.sub_zero, Nat.mul_one]
  refine imp_i fun h0 => ?_
  try simp only [sigBitsR, iR, cB, bitsPost, List.cons.injEq, DV.b.injEq, and_true, List.length_cons, List.length_nil] at h0
  refine req_i ?_ ?_
  · -- r0
   first | omega | assumption | grind
  refine req_i ?_ ?_
  · -- r1
   decide +kernel
  refine req_i ?_ ?_
  · -- r2
   exact all01 (by decide +kernel)
  refine req_i ?_ ?_
  · -- r3
   first | exact ⟨rfl, rfl⟩ | exact ⟨rfl, by decide +kernel⟩
  rfl
theorem ext_bitsR9 : ∀ p ∈ ([] : List (Nat × Ext)), ExtRow Try.prog p.1 p.2 := by
  intro p hp
  cases hp
theorem cts_bitsR9 : CtsOk Try.prog [] := fun f c h => by cases h
theorem fn_bitsR9 : FnOk Try.prog 26 (sigBitsR 10 10 2 2) [] := fn_sound (by kernel_rfl) ext_bitsR9 cts_bitsR9 names vt_bitsR9
end Go.Proofs.Ytpmlodchbgfmeaa

namespace Go.Proofs.Ytpmlodchbgfmeaa
open Go.Ev Go.Sp
set_option maxRecDepth 100000
theorem vc_bitsR10 : vcFn Try.prog [] noA [] 100 26 (sigBitsR (-9223372036854775808) 4 (-9223372036854775808) 9223372036854775807) = (allB fun n0 : Int => 
impB ((-9223372036854775808 : Int) ≤ n0) (
impB (n0 ≤ (4 : Int)) (
allB fun n1 : Int => 
impB ((-9223372036854775808 : Int) ≤ n1) (
impB (n1 ≤ (9223372036854775807 : Int)) (
impB ((sigBitsR (-9223372036854775808 : Int) (4 : Int) (-9223372036854775808 : Int) (9223372036854775807 : Int)).pre
 [DV.n n0, DV.n n1]) (
reqB ((sigBitsR (-9223372036854775808 : Int) (4 : Int) (-9223372036854775808 : Int) (9223372036854775807 : Int)).post
 [DV.n n0, DV.n n1] [DV.l [], DV.n (2 : Int)]) (
true))))))) := by kernel_rfl
set_option maxHeartbeats 8000000 in
theorem vt_bitsR10 : vcFn Try.prog [] noA [] 100 26 (sigBitsR (-9223372036854775808) 4 (-9223372036854775808) 9223372036854775807) = true := by
  rw [vc_bitsR10]
  try simp only [Int.toNat_natCast, List.length_set, List.length_replicate, List.length_take, List.length_drop, List.length_append, List.length_cons, List.length_nil, Nat.min_self, List.take_take, lenCols_i, lenCols_b, List.drop_zero, List.take_length, Nat.add_eq, Nat.mul_eq, Nat.sub_eq, Nat.zero_add, Nat.sub_zero, Nat.mul_one]
  refine all_i fun n0 => ?_
  refine imp_i fun h0 => ?_
  refine imp_i fun h1 => ?_
  refine all_i fun n1 => ?_
  refine imp_i fun h2 => ?_
  refine imp_i fun h3 => ?_
  refine imp_i fun h4 => ?_
  try simp only [sigBitsR, iR, cB, bitsPost, List.cons.injEq, DV.b.injEq, and_true, List.length_cons, List.length_nil] at h4
  refine req_i ?_ ?_
  · -- r0
   (simp only [sigBitsR, bitsPost, sigTapsR, tapsPost, sigLenR, lenPost]; exact ite_no (by unfold okD; omega) (by simp))
  rfl
theorem ext_bitsR10 : ∀ p ∈ ([] : List (Nat × Ext)), ExtRow Try.prog p.1 p.2 := by
  intro p hp
  cases hp
theorem cts_bitsR10 : CtsOk Try.prog [] := fun f c h => by cases h
theorem fn_bitsR10 : FnOk Try.prog 26 (sigBitsR (-9223372036854775808) 4 (-9223372036854775808) 9223372036854775807) [] := fn_sound (by kernel_rfl) ext_bitsR10 cts_bitsR10 names vt_bitsR10
end Go.Proofs.Ytpmlodchbgfmeaa

namespace Go.Proofs.Ytpmlodchbgfmeaa
open Go.Ev Go.Sp
set_option maxRecDepth 100000
theorem vc_bitsR11 : vcFn Try.prog [] noA [] 100 26 (sigBitsR 8 8 (-9223372036854775808) 9223372036854775807) = (allB fun n0 : Int => 
impB ((-9223372036854775808 : Int) ≤ n0) (
impB (n0 ≤ (9223372036854775807 : Int)) (
impB ((sigBitsR (8 : Int) (8 : Int) (-9223372036854775808 : Int) (9223372036854775807 : Int)).pre
 [DV.n (8 : Int), DV.n n0]) (
reqB ((sigBitsR (8 : Int) (8 : Int) (-9223372036854775808 : Int) (9223372036854775807 : Int)).post
 [DV.n (8 : Int), DV.n n0] [DV.l [], DV.n (2 : Int)]) (
true))))) := by kernel_rfl
set_option maxHeartbeats 8000000 in
theorem vt_bitsR11 : vcFn Try.prog [] noA [] 100 26 (sigBitsR 8 8 (-9223372036854775808) 9223372036854775807) = true := by
  rw [vc_bitsR11]
  try simp only [Int.toNat_natCast, List.length_set, List.length_replicate, List.length_take, List.length_drop, List.length_append, List.length_cons, List.length_nil, Nat.min_self, List.take_take, lenCols_i, lenCols_b, List.drop_zero, List.take_length, Nat.add_eq, Nat.mul_eq, Nat.sub_eq, Nat.zero_add, Nat.sub_zero, Nat.mul_one]
  refine all_i fun n0 => ?_
  refine imp_i fun h0 => ?_
  refine imp_i fun h1 => ?_
  refine imp_i fun h2 => ?_
  try simp only [sigBitsR, iR, cB, bitsPost, List.cons.injEq, DV.b.injEq, and_true, List.length_cons, List.length_nil] at h2
  refine req_i ?_ ?_
  · -- r0
   (simp only [sigBitsR, bitsPost, sigTapsR, tapsPost, sigLenR, lenPost]; exact ite_no (by unfold okD; omega) (by simp))
  rfl
theorem ext_bitsR11 : ∀ p ∈ ([] : List (Nat × Ext)), ExtRow Try.prog p.1 p.2 := by
  intro p hp
  cases hp
theorem cts_bitsR11 : CtsOk Try.prog [] := fun f c h => by cases h
theorem fn_bitsR11 : FnOk Try.prog 26 (sigBitsR 8 8 (-9223372036854775808) 9223372036854775807) [] := fn_sound (by kernel_rfl) ext_bitsR11 cts_bitsR11 names vt_bitsR11
end Go.Proofs.Ytpmlodchbgfmeaa

namespace Go.Proofs.Ytpmlodchbgfmeaa
open Go.Ev Go.Sp
set_option maxRecDepth 100000
theorem vc_bitsR12 : vcFn Try.prog [] noA [] 100 26 (sigBitsR 11 9223372036854775807 (-9223372036854775808) 9223372036854775807) = (allB fun n0 : Int => 
impB ((11 : Int) ≤ n0) (
impB (n0 ≤ (9223372036854775807 : Int)) (
allB fun n1 : Int => 
impB ((-9223372036854775808 : Int) ≤ n1) (
impB (n1 ≤ (9223372036854775807 : Int)) (
impB ((sigBitsR (11 : Int) (9223372036854775807 : Int) (-9223372036854775808 : Int) (9223372036854775807 : Int)).pre
 [DV.n n0, DV.n n1]) (
reqB ((sigBitsR (11 : Int) (9223372036854775807 : Int) (-9223372036854775808 : Int) (9223372036854775807 : Int)).post
 [DV.n n0, DV.n n1] [DV.l [], DV.n (2 : Int)]) (
true))))))) := by kernel_rfl
set_option maxHeartbeats 8000000 in
theorem vt_bitsR12 : vcFn Try.prog [] noA [] 100 26 (sigBitsR 11 9223372036854775807 (-9223372036854775808) 9223372036854775807) = true := by
  rw [vc_bitsR12]
  try simp only [Int.toNat_natCast, List.length_set, List.length_replicate, List.length_take, List.length_drop, List.length_append, List.length_cons, List.length_nil, Nat.min_self, List.take_take, lenCols_i, lenCols_b, List.drop_zero, List.take_length, Nat.add_eq, Nat.mul_eq, Nat.sub_eq, Nat.zero_add, Nat.sub_zero, Nat.mul_one]
  refine all_i fun n0 => ?_
  refine imp_i fun h0 => ?_
  refine imp_i fun h1 => ?_
  refine all_i fun n1 => ?_
  refine imp_i fun h2 => ?_
  refine imp_i fun h3 => ?_
  refine imp_i fun h4 => ?_
  try simp only [sigBitsR, iR, cB, bitsPost, List.cons.injEq, DV.b.injEq, and_true, List.length_cons, List.length_nil] at h4
  refine req_i ?_ ?_
  · -- r0
   (simp only [sigBitsR, bitsPost, sigTapsR, tapsPost, sigLenR, lenPost]; exact ite_no (by unfold okD; omega) (by simp))
  rfl
theorem ext_bitsR12 : ∀ p ∈ ([] : List (Nat × Ext)), ExtRow Try.prog p.1 p.2 := by
  intro p hp
  cases hp
theorem cts_bitsR12 : CtsOk Try.prog [] := fun f c h => by cases h
theorem fn_bitsR12 : FnOk Try.prog 26 (sigBitsR 11 9223372036854775807 (-9223372036854775808) 9223372036854775807) [] := fn_sound (by kernel_rfl) ext_bitsR12 cts_bitsR12 names vt_bitsR12
end Go.Proofs.Ytpmlodchbgfmeaa

namespace Go.Proofs.Ytpmlodchbgfmeaa
open Go.Ev Go.Sp
set_option maxRecDepth 100000
theorem vc_bitsR13 : vcFn Try.prog [] noA [] 100 26 (sigBitsR 5 10 (-9223372036854775808) 0) = (allB fun n0 : Int => 
impB ((5 : Int) ≤ n0) (
impB (n0 ≤ (10 : Int)) (
allB fun n1 : Int => 
impB ((-9223372036854775808 : Int) ≤ n1) (
impB (n1 ≤ (0 : Int)) (
impB ((sigBitsR (5 : Int) (10 : Int) (-9223372036854775808 : Int) (0 : Int)).pre [DV.n n0, DV.n n1]) (
bR (dec (n0 = (5 : Int))) (
 reqB ((sigBitsR (5 : Int) (10 : Int) (-9223372036854775808 : Int) (0 : Int)).post [DV.n n0, DV.n n1]
 [DV.l [], DV.n (2 : Int)]) (
 true)) (
 bR (dec (n0 = (6 : Int))) (
 reqB ((sigBitsR (5 : Int) (10 : Int) (-9223372036854775808 : Int) (0 : Int)).post [DV.n n0, DV.n n1]
 [DV.l [], DV.n (2 : Int)]) (
 true)) (
 bR (dec (n0 = (7 : Int))) (
 reqB ((sigBitsR (5 : Int) (10 : Int) (-9223372036854775808 : Int) (0 : Int)).post [DV.n n0, DV.n n1]
 [DV.l [], DV.n (2 : Int)]) (
 true)) (
 bR (dec (n0 = (9 : Int))) (
 reqB ((sigBitsR (5 : Int) (10 : Int) (-9223372036854775808 : Int) (0 : Int)).post [DV.n n0, DV.n n1]
 [DV.l [], DV.n (2 : Int)]) (
 true)) (
 bR (dec (n0 = (10 : Int))) (
 reqB ((sigBitsR (5 : Int) (10 : Int) (-9223372036854775808 : Int) (0 : Int)).post [DV.n n0, DV.n n1]
 [DV.l [], DV.n (2 : Int)]) (
 true)) (
 reqB ((sigBitsR (5 : Int) (10 : Int) (-9223372036854775808 : Int) (0 : Int)).post [DV.n n0, DV.n n1]
 [DV.l [], DV.n (2 : Int)]) (
 true)))))))))))) := by kernel_rfl
set_option maxHeartbeats 8000000 in
theorem vt_bitsR13 : vcFn Try.prog [] noA [] 100 26 (sigBitsR 5 10 (-9223372036854775808) 0) = true := by
  rw [vc_bitsR13]
  try simp only [Int.toNat_natCast, List.length_set, List.length_replicate, List.length_take, List.length_drop, List.length_append, List.length_cons, List.length_nil, Nat.min_self, List.take_take, lenCols_i, lenCols_b, List.drop_zero, List.take_length, Nat.add_eq, Nat.mul_eq, Nat.sub_eq, Nat.zero_add, Nat.sub_zero, Nat.mul_one]
  refine all_i fun n0 => ?_
  refine imp_i fun h0 => ?_
  refine imp_i fun h1 => ?_
  refine all_i fun n1 => ?_
  refine imp_i fun h2 => ?_
  refine imp_i fun h3 => ?_
  refine imp_i fun h4 => ?_
  try simp only [sigBitsR, iR, cB, bitsPost, List.cons.injEq, DV.b.injEq, and_true, List.length_cons, List.length_nil] at h4
  refine bR_dec (fun h5 => ?_) (fun h5 => ?_)
  ·
   refine req_i ?_ ?_
   · -- r0
    (simp only [sigBitsR, bitsPost, sigTapsR, tapsPost, sigLenR, lenPost]; exact ite_no (by unfold okD; omega) (by simp))
   rfl
  ·
   refine bR_dec (fun h6 => ?_) (fun h6 => ?_)
   ·
    refine req_i ?_ ?_
    · -- r1
     (simp only [sigBitsR, bitsPost, sigTapsR, tapsPost, sigLenR, lenPost]; exact ite_no (by unfold okD; omega) (by simp))
    rfl
   ·
    refine bR_dec (fun h7 => ?_) (fun h7 => ?_)
    ·
     refine req_i ?_ ?_
     · -- r2
      (simp only [sigBitsR, bitsPost, sigTapsR, tapsPost, sigLenR, lenPost]; exact ite_no (by unfold okD; omega) (by simp))
     rfl
    ·
     refine bR_dec (fun h8 => ?_) (fun h8 => ?_)
     ·
      refine req_i ?_ ?_
      · -- r3
       (simp only [sigBitsR, bitsPost, sigTapsR, tapsPost, sigLenR, lenPost]; exact ite_no (by unfold okD; omega) (by simp))
      rfl
     ·
      refine bR_dec (fun h9 => ?_) (fun h9 => ?_)
      ·
       refine req_i ?_ ?_
       · -- r4
        (simp only [sigBitsR, bitsPost, sigTapsR, tapsPost, sigLenR, lenPost]; exact ite_no (by unfold okD; omega) (by simp))
       rfl
      ·
       refine req_i ?_ ?_
       · -- r5
        (simp only [sigBitsR, bitsPost, sigTapsR, tapsPost, sigLenR, lenPost]; exact ite_no (by unfold okD; omega) (by simp))
       rfl
theorem ext_bitsR13 : ∀ p ∈ ([] : List (Nat × Ext)), ExtRow Try.prog p.1 p.2 := by
  intro p hp
  cases hp
theorem cts_bitsR13 : CtsOk Try.prog [] := fun f c h => by cases h
theorem fn_bitsR13 : FnOk Try.prog 26 (sigBitsR 5 10 (-9223372036854775808) 0) [] := fn_sound (by kernel_rfl) ext_bitsR13 cts_bitsR13 names vt_bitsR13
end Go.Proofs.Ytpmlodchbgfmeaa

namespace Go.Proofs.Ytpmlodchbgfmeaa
open Go.Ev Go.Sp
set_option maxRecDepth 100000
theorem vc_bitsR14 : vcFn Try.prog [] noA [] 100 26 (sigBitsR 5 10 3 9223372036854775807) = (allB fun n0 : Int => 
impB ((5 : Int) ≤ n0) (
impB (n0 ≤ (10 : Int)) (
allB fun n1 : Int => 
impB ((3 : Int) ≤ n1) (
impB (n1 ≤ (9223372036854775807 : Int)) (
impB ((sigBitsR (5 : Int) (10 : Int) (3 : Int) (9223372036854775807 : Int)).pre [DV.n n0, DV.n n1]) (
bR (dec (n0 = (5 : Int))) (
 reqB ((sigBitsR (5 : Int) (10 : Int) (3 : Int) (9223372036854775807 : Int)).post [DV.n n0, DV.n n1]
 [DV.l [], DV.n (2 : Int)]) (
 true)) (
 bR (dec (n0 = (6 : Int))) (
 reqB ((sigBitsR (5 : Int) (10 : Int) (3 : Int) (9223372036854775807 : Int)).post [DV.n n0, DV.n n1]
 [DV.l [], DV.n (2 : Int)]) (
 true)) (
 bR (dec (n0 = (7 : Int))) (
 reqB ((sigBitsR (5 : Int) (10 : Int) (3 : Int) (9223372036854775807 : Int)).post [DV.n n0, DV.n n1]
 [DV.l [], DV.n (2 : Int)]) (
 true)) (
 bR (dec (n0 = (9 : Int))) (
 reqB ((sigBitsR (5 : Int) (10 : Int) (3 : Int) (9223372036854775807 : Int)).post [DV.n n0, DV.n n1]
 [DV.l [], DV.n (2 : Int)]) (
 true)) (
 bR (dec (n0 = (10 : Int))) (
 reqB ((sigBitsR (5 : Int) (10 : Int) (3 : Int) (9223372036854775807 : Int)).post [DV.n n0, DV.n n1]
 [DV.l [], DV.n (2 : Int)]) (
 true)) (
 reqB ((sigBitsR (5 : Int) (10 : Int) (3 : Int) (9223372036854775807 : Int)).post [DV.n n0, DV.n n1]
 [DV.l [], DV.n (2 : Int)]) (
 true)))))))))))) := by kernel_rfl
set_option maxHeartbeats 8000000 in
theorem vt_bitsR14 : vcFn Try.prog [] noA [] 100 26 (sigBitsR 5 10 3 9223372036854775807) = true := by
  rw [vc_bitsR14]
  try simp only [Int.toNat_natCast, List.length_set, List.length_replicate, List.length_take, List.length_drop, List.length_append, List.length_cons, List.length_nil, Nat.min_self, List.take_take, lenCols_i, lenCols_b, List.drop_zero, List.take_length, Nat.add_eq, Nat.mul_eq, Nat.sub_eq, Nat.zero_add, Nat.sub_zero, Nat.mul_one]
  refine all_i fun n0 => ?_
  refine imp_i fun h0 => ?_
  refine imp_i fun h1 => ?_
  refine all_i fun n1 => ?_
  refine imp_i fun h2 => ?_
  refine imp_i fun h3 => ?_
  refine imp_i fun h4 => ?_
  try simp only [sigBitsR, iR, cB, bitsPost, List.cons.injEq, DV.b.injEq, and_true, List.length_cons, List.length_nil] at h4
  refine bR_dec (fun h5 => ?_) (fun h5 => ?_)
  ·
   refine req_i ?_ ?_
   · -- r0
    (simp only [sigBitsR, bitsPost, sigTapsR, tapsPost, sigLenR, lenPost]; exact ite_no (by unfold okD; omega) (by simp))
   rfl
  ·
   refine bR_dec (fun h6 => ?_) (fun h6 => ?_)
   ·
    refine req_i ?_ ?_
    · -- r1
     (simp only [sigBitsR, bitsPost, sigTapsR, tapsPost, sigLenR, lenPost]; exact ite_no (by unfold okD; omega) (by simp))
    rfl
   ·
    refine bR_dec (fun h7 => ?_) (fun h7 => ?_)
    ·
     refine req_i ?_ ?_
     · -- r2
      (simp only [sigBitsR, bitsPost, sigTapsR, tapsPost, sigLenR, lenPost]; exact ite_no (by unfold okD; omega) (by simp))
     rfl
    ·
     refine bR_dec (fun h8 => ?_) (fun h8 => ?_)
     ·
      refine req_i ?_ ?_
      · -- r3
       (simp only [sigBitsR, bitsPost, sigTapsR, tapsPost, sigLenR, lenPost]; exact ite_no (by unfold okD; omega) (by simp))
      rfl
     ·
      refine bR_dec (fun h9 => ?_) (fun h9 => ?_)
      ·
       refine req_i ?_ ?_
       · -- r4
        (simp only [sigBitsR, bitsPost, sigTapsR, tapsPost, sigLenR, lenPost]; exact ite_no (by unfold okD; omega) (by simp))
       rfl
      ·
       refine req_i ?_ ?_
       · -- r5
        (simp only [sigBitsR, bitsPost, sigTapsR, tapsPost, sigLenR, lenPost]; exact ite_no (by unfold okD; omega) (by simp))
       rfl
theorem ext_bitsR14 : ∀ p ∈ ([] : List (Nat × Ext)), ExtRow Try.prog p.1 p.2 := by
  intro p hp
  cases hp
theorem cts_bitsR14 : CtsOk Try.prog [] := fun f c h => by cases h
theorem fn_bitsR14 : FnOk Try.prog 26 (sigBitsR 5 10 3 9223372036854775807) [] := fn_sound (by kernel_rfl) ext_bitsR14 cts_bitsR14 names vt_bitsR14
end Go.Proofs.Ytpmlodchbgfmeaa

namespace Go.Proofs.Ytpmlodchbgfmeaa
open Go.Ev Go.Sp
theorem fn_bitsR : FnOk Try.prog 26 sigBits [] := by
  exact (fn_cover covG covG_ok fun t ht => by
    simp only [covG, List.mem_cons, List.not_mem_nil, or_false] at ht
    rcases ht with rfl | rfl | rfl | rfl | rfl | rfl | rfl | rfl | rfl | rfl | rfl | rfl | rfl | rfl | rfl
    · exact fn_bitsR0
    · exact fn_bitsR1
    · exact fn_bitsR2
    · exact fn_bitsR3
    · exact fn_bitsR4
    · exact fn_bitsR5
    · exact fn_bitsR6
    · exact fn_bitsR7
    · exact fn_bitsR8
    · exact fn_bitsR9
    · exact fn_bitsR10
    · exact fn_bitsR11
    · exact fn_bitsR12
    · exact fn_bitsR13
    · exact fn_bitsR14)
end Go.Proofs.Ytpmlodchbgfmeaa

namespace Go.Proofs.Ytpmlodchbgfmeaa
open Go.Ev Go.Sp
set_option maxRecDepth 100000
theorem vc_codeF : vcFn Try.prog [] (fun f p _ => at2 f p 37 58 codeFL (none)) [] 100 37 sigCodeF = (allB fun l0 : List Int => 
impB (l0.length ≤ (1100 : Nat)) (
impB (∀ (y : Int), y ∈ l0 → (0 : Int) ≤ y ∧ y ≤ (1 : Int)) (
allB fun l1 : List Int => 
impB (l1.length ≤ (1100 : Nat)) (
impB (∀ (y : Int), y ∈ l1 → (0 : Int) ≤ y ∧ y ≤ (1 : Int)) (
allB fun n2 : Int => 
impB ((1 : Int) ≤ n2) (
impB (n2 ≤ (1100 : Int)) (
impB (sigCodeF.pre [DV.l l0, DV.l l1, DV.n n2]) (
reqB ((↑l0.length : Int).toNat ≤ (↑l0.length : Int).toNat) (
reqB ((↑l0.length : Int).toNat ≤ (1000000 : Nat)) (
reqB (((0 : Nat) + l0.length) * (1 : Nat) ≤ l0.length.mul (1 : Nat)) (
reqB (l0.length ≤ (1100 : Nat)) (
reqB ((List.take l0.length (List.drop (0 : Nat) l0)).length = l0.length) (
reqB (∀ (y : Int), y ∈ List.take l0.length (List.drop (0 : Nat) l0) → (0 : Int) ≤ y ∧ y ≤ (1 : Int)) (
reqB (((0 : Nat) + l1.length) * (1 : Nat) ≤ l1.length.mul (1 : Nat)) (
reqB (l1.length ≤ (1100 : Nat)) (
reqB ((List.take l1.length (List.drop (0 : Nat) l1)).length = l1.length) (
reqB (∀ (y : Int), y ∈ List.take l1.length (List.drop (0 : Nat) l1) → (0 : Int) ≤ y ∧ y ≤ (1 : Int)) (
reqB ((1 : Int) ≤ n2) (
reqB (n2 ≤ (1100 : Int)) (
reqB (lenCols
 [Col.i Go.IntKind.i64 (Int.negSucc (9223372036854775807 : Nat)) (Int.ofNat (9223372036854775807 : Nat))
 (List.replicate (↑l0.length : Int).toNat (0 : Int))] ≤
 (1000000 : Nat)) (
reqB ((List.replicate (↑l0.length : Int).toNat (0 : Int)).length =
 lenCols
 [Col.i Go.IntKind.i64 (Int.negSucc (9223372036854775807 : Nat)) (Int.ofNat (9223372036854775807 : Nat))
 (List.replicate (↑l0.length : Int).toNat (0 : Int))]) (
reqB (∀ (y : Int),
 y ∈ List.replicate (↑l0.length : Int).toNat (0 : Int) →
 (-9223372036854775808 : Int) ≤ y ∧ y ≤ (9223372036854775807 : Int)) (
reqB (codeFL.inv
 [DV.l (List.take l0.length (List.drop (0 : Nat) l0)), DV.l (List.take l1.length (List.drop (0 : Nat) l1)),
 DV.n n2]
 [DV.n (0 : Int), DV.l (List.replicate (↑l0.length : Int).toNat (0 : Int))]) (
allB fun n3 : Int => 
impB ((0 : Int) ≤ n3) (
impB (n3 ≤ (1100 : Int)) (
allB fun l4 : List Int => 
impB (l4.length ≤ (1000000 : Nat)) (
impB (∀ (y : Int), y ∈ l4 → (-9223372036854775808 : Int) ≤ y ∧ y ≤ (9223372036854775807 : Int)) (
impB (codeFL.inv
 [DV.l (List.take l0.length (List.drop (0 : Nat) l0)), DV.l (List.take l1.length (List.drop (0 : Nat) l1)),
 DV.n n2]
 [DV.n n3, DV.l l4]) (
bR (dec (n3 < (↑(↑l0.length : Int).toNat : Int))) (
 reqB (n3.toNat < l0.length) (
 reqB (Nat.add (0 : Nat) n3.toNat < l0.length) (
 bR (dec (n2 = (2 : Int))) (
 reqB (n3.toNat < l1.length) (
 reqB (Nat.add (0 : Nat) n3.toNat < l1.length) (
 reqB (n3.toNat < (↑l0.length : Int).toNat) (
 reqB (Nat.add (0 : Nat) n3.toNat < l4.length) (
 bR (bR (bR (dec ((0 : Nat) = (0 : Nat))) (
 dec (l0.length = l0.length)) (
 false)) (
 bR (bR (dec ((0 : Nat) = (0 : Nat))) (
 dec (l1.length = l1.length)) (
 false)) (
 bR (dec (n2 = n2)) (
 bR (bR (dec ((0 : Nat) = (0 : Nat))) (
 dec ((↑l0.length : Int).toNat = (↑l0.length : Int).toNat)) (
 false)) (
 bR (bR (dec ((0 : Nat) = (0 : Nat))) (
 dec ((↑l0.length : Int).toNat = (↑l0.length : Int).toNat)) (
 false)) (
 bR (dec ((↑(↑l0.length : Int).toNat : Int) = (↑(↑l0.length : Int).toNat : Int))) (
 true) (
 false)) (
 false)) (
 false)) (
 false)) (
 false)) (
 false)) (
 reqB ((0 : Int) ≤ n3 + (1 : Int)) (
 reqB (n3 + (1 : Int) ≤ (1100 : Int)) (
 reqB (lenCols
 [Col.i Go.IntKind.i64 (-9223372036854775808 : Int) (9223372036854775807 : Int)
 (l4.set (Nat.add (0 : Nat) n3.toNat)
 ((1 : Int) - (2 : Int) * l1.getD (Nat.add (0 : Nat) n3.toNat) (0 : Int)))] ≤
 (1000000 : Nat)) (
 reqB ((l4.set (Nat.add (0 : Nat) n3.toNat) ((1 : Int) - (2 : Int) * l1.getD (Nat.add (0 : Nat) n3.toNat) (0 : Int))).length =
 lenCols
 [Col.i Go.IntKind.i64 (-9223372036854775808 : Int) (9223372036854775807 : Int)
 (l4.set (Nat.add (0 : Nat) n3.toNat) ((1 : Int) - (2 : Int) * l1.getD (Nat.add (0 : Nat) n3.toNat) (0 : Int)))]) (
 reqB (∀ (y : Int),
 y ∈ l4.set (Nat.add (0 : Nat) n3.toNat) ((1 : Int) - (2 : Int) * l1.getD (Nat.add (0 : Nat) n3.toNat) (0 : Int)) →
 (-9223372036854775808 : Int) ≤ y ∧ y ≤ (9223372036854775807 : Int)) (
 reqB (codeFL.inv
 [DV.l (List.take l0.length (List.drop (0 : Nat) l0)), DV.l (List.take l1.length (List.drop (0 : Nat) l1)),
 DV.n n2]
 [DV.n (n3 + (1 : Int)),
 DV.l
 (l4.set (Nat.add (0 : Nat) n3.toNat) ((1 : Int) - (2 : Int) * l1.getD (Nat.add (0 : Nat) n3.toNat) (0 : Int)))]) (
 reqB (codeFL.mea
 [DV.l (List.take l0.length (List.drop (0 : Nat) l0)),
 DV.l (List.take l1.length (List.drop (0 : Nat) l1)), DV.n n2]
 [DV.n (n3 + (1 : Int)),
 DV.l
 (l4.set (Nat.add (0 : Nat) n3.toNat)
 ((1 : Int) - (2 : Int) * l1.getD (Nat.add (0 : Nat) n3.toNat) (0 : Int)))] <
 codeFL.mea
 [DV.l (List.take l0.length (List.drop (0 : Nat) l0)),
 DV.l (List.take l1.length (List.drop (0 : Nat) l1)), DV.n n2]
 [DV.n n3, DV.l l4]) (
 true)))))))) (
 false)))))) (
 bR (dec ((2 : Int) < n2)) (
 reqB ((↑l1.length : Int) ≠ (0 : Int)) (
 reqB ((0 : Int) ≤ (n3 + n2 - (3 : Int)).tmod (↑l1.length : Int)) (
 reqB (((n3 + n2 - (3 : Int)).tmod (↑l1.length : Int)).toNat < l1.length) (
 reqB (Nat.add (0 : Nat) ((n3 + n2 - (3 : Int)).tmod (↑l1.length : Int)).toNat < l1.length) (
 reqB (n3.toNat < (↑l0.length : Int).toNat) (
 reqB (Nat.add (0 : Nat) n3.toNat < l4.length) (
 bR (bR (bR (dec ((0 : Nat) = (0 : Nat))) (
 dec (l0.length = l0.length)) (
 false)) (
 bR (bR (dec ((0 : Nat) = (0 : Nat))) (
 dec (l1.length = l1.length)) (
 false)) (
 bR (dec (n2 = n2)) (
 bR (bR (dec ((0 : Nat) = (0 : Nat))) (
 dec ((↑l0.length : Int).toNat = (↑l0.length : Int).toNat)) (
 false)) (
 bR (bR (dec ((0 : Nat) = (0 : Nat))) (
 dec ((↑l0.length : Int).toNat = (↑l0.length : Int).toNat)) (
 false)) (
 bR (dec ((↑(↑l0.length : Int).toNat : Int) = (↑(↑l0.length : Int).toNat : Int))) (
 true) (
 false)) (
 false)) (
 false)) (
 false)) (
 false)) (
 false)) (
 reqB ((0 : Int) ≤ n3 + (1 : Int)) (
 reqB (n3 + (1 : Int) ≤ (1100 : Int)) (
 reqB (lenCols
 [Col.i Go.IntKind.i64 (-9223372036854775808 : Int) (9223372036854775807 : Int)
 (l4.set (Nat.add (0 : Nat) n3.toNat)
 ((1 : Int) -
 (2 : Int) *
 opI (SO.xor Go.IntKind.i64) (l0.getD (Nat.add (0 : Nat) n3.toNat) (0 : Int))
 (l1.getD (Nat.add (0 : Nat) ((n3 + n2 - (3 : Int)).tmod (↑l1.length : Int)).toNat) (0 : Int))))] ≤
 (1000000 : Nat)) (
 reqB ((l4.set (Nat.add (0 : Nat) n3.toNat)
 ((1 : Int) -
 (2 : Int) *
 opI (SO.xor Go.IntKind.i64) (l0.getD (Nat.add (0 : Nat) n3.toNat) (0 : Int))
 (l1.getD (Nat.add (0 : Nat) ((n3 + n2 - (3 : Int)).tmod (↑l1.length : Int)).toNat) (0 : Int)))).length =
 lenCols
 [Col.i Go.IntKind.i64 (-9223372036854775808 : Int) (9223372036854775807 : Int)
 (l4.set (Nat.add (0 : Nat) n3.toNat)
 ((1 : Int) -
 (2 : Int) *
 opI (SO.xor Go.IntKind.i64) (l0.getD (Nat.add (0 : Nat) n3.toNat) (0 : Int))
 (l1.getD (Nat.add (0 : Nat) ((n3 + n2 - (3 : Int)).tmod (↑l1.length : Int)).toNat) (0 : Int))))]) (
 reqB (∀ (y : Int),
 y ∈
 l4.set (Nat.add (0 : Nat) n3.toNat)
 ((1 : Int) -
 (2 : Int) *
 opI (SO.xor Go.IntKind.i64) (l0.getD (Nat.add (0 : Nat) n3.toNat) (0 : Int))
 (l1.getD (Nat.add (0 : Nat) ((n3 + n2 - (3 : Int)).tmod (↑l1.length : Int)).toNat) (0 : Int))) →
 (-9223372036854775808 : Int) ≤ y ∧ y ≤ (9223372036854775807 : Int)) (
 reqB (codeFL.inv
 [DV.l (List.take l0.length (List.drop (0 : Nat) l0)), DV.l (List.take l1.length (List.drop (0 : Nat) l1)),
 DV.n n2]
 [DV.n (n3 + (1 : Int)),
 DV.l
 (l4.set (Nat.add (0 : Nat) n3.toNat)
 ((1 : Int) -
 (2 : Int) *
 opI (SO.xor Go.IntKind.i64) (l0.getD (Nat.add (0 : Nat) n3.toNat) (0 : Int))
 (l1.getD (Nat.add (0 : Nat) ((n3 + n2 - (3 : Int)).tmod (↑l1.length : Int)).toNat) (0 : Int))))]) (
 reqB (codeFL.mea
 [DV.l (List.take l0.length (List.drop (0 : Nat) l0)),
 DV.l (List.take l1.length (List.drop (0 : Nat) l1)), DV.n n2]
 [DV.n (n3 + (1 : Int)),
 DV.l
 (l4.set (Nat.add (0 : Nat) n3.toNat)
 ((1 : Int) -
 (2 : Int) *
 opI (SO.xor Go.IntKind.i64) (l0.getD (Nat.add (0 : Nat) n3.toNat) (0 : Int))
 (l1.getD (Nat.add (0 : Nat) ((n3 + n2 - (3 : Int)).tmod (↑l1.length : Int)).toNat) (0 : Int))))] <
 codeFL.mea
 [DV.l (List.take l0.length (List.drop (0 : Nat) l0)),
 DV.l (List.take l1.length (List.drop (0 : Nat) l1)), DV.n n2]
 [DV.n n3, DV.l l4]) (
 true)))))))) (
 false)))))))) (
 reqB (n3.toNat < (↑l0.length : Int).toNat) (
 reqB (Nat.add (0 : Nat) n3.toNat < l4.length) (
 bR (bR (bR (dec ((0 : Nat) = (0 : Nat))) (
 dec (l0.length = l0.length)) (
 false)) (
 bR (bR (dec ((0 : Nat) = (0 : Nat))) (
 dec (l1.length = l1.length)) (
 false)) (
 bR (dec (n2 = n2)) (
 bR (bR (dec ((0 : Nat) = (0 : Nat))) (
 dec ((↑l0.length : Int).toNat = (↑l0.length : Int).toNat)) (
 false)) (
 bR (bR (dec ((0 : Nat) = (0 : Nat))) (
 dec ((↑l0.length : Int).toNat = (↑l0.length : Int).toNat)) (
 false)) (
 bR (dec ((↑(↑l0.length : Int).toNat : Int) = (↑(↑l0.length : Int).toNat : Int))) (
 true) (
 false)) (
 false)) (
 false)) (
 false)) (
 false)) (
 false)) (
 reqB ((0 : Int) ≤ n3 + (1 : Int)) (
 reqB (n3 + (1 : Int) ≤ (1100 : Int)) (
 reqB (lenCols
 [Col.i Go.IntKind.i64 (-9223372036854775808 : Int) (9223372036854775807 : Int)
 (l4.set (Nat.add (0 : Nat) n3.toNat)
 ((1 : Int) - (2 : Int) * l0.getD (Nat.add (0 : Nat) n3.toNat) (0 : Int)))] ≤
 (1000000 : Nat)) (
 reqB ((l4.set (Nat.add (0 : Nat) n3.toNat) ((1 : Int) - (2 : Int) * l0.getD (Nat.add (0 : Nat) n3.toNat) (0 : Int))).length =
 lenCols
 [Col.i Go.IntKind.i64 (-9223372036854775808 : Int) (9223372036854775807 : Int)
 (l4.set (Nat.add (0 : Nat) n3.toNat) ((1 : Int) - (2 : Int) * l0.getD (Nat.add (0 : Nat) n3.toNat) (0 : Int)))]) (
 reqB (∀ (y : Int),
 y ∈ l4.set (Nat.add (0 : Nat) n3.toNat) ((1 : Int) - (2 : Int) * l0.getD (Nat.add (0 : Nat) n3.toNat) (0 : Int)) →
 (-9223372036854775808 : Int) ≤ y ∧ y ≤ (9223372036854775807 : Int)) (
 reqB (codeFL.inv
 [DV.l (List.take l0.length (List.drop (0 : Nat) l0)), DV.l (List.take l1.length (List.drop (0 : Nat) l1)),
 DV.n n2]
 [DV.n (n3 + (1 : Int)),
 DV.l
 (l4.set (Nat.add (0 : Nat) n3.toNat) ((1 : Int) - (2 : Int) * l0.getD (Nat.add (0 : Nat) n3.toNat) (0 : Int)))]) (
 reqB (codeFL.mea
 [DV.l (List.take l0.length (List.drop (0 : Nat) l0)),
 DV.l (List.take l1.length (List.drop (0 : Nat) l1)), DV.n n2]
 [DV.n (n3 + (1 : Int)),
 DV.l
 (l4.set (Nat.add (0 : Nat) n3.toNat)
 ((1 : Int) - (2 : Int) * l0.getD (Nat.add (0 : Nat) n3.toNat) (0 : Int)))] <
 codeFL.mea
 [DV.l (List.take l0.length (List.drop (0 : Nat) l0)),
 DV.l (List.take l1.length (List.drop (0 : Nat) l1)), DV.n n2]
 [DV.n n3, DV.l l4]) (
 true)))))))) (
 false)))))))) (
 reqB (((0 : Nat) + (↑l0.length : Int).toNat) * (1 : Nat) ≤ l4.length.mul (1 : Nat)) (
 reqB ((↑l0.length : Int).toNat ≤ (1100 : Nat)) (
 reqB ((List.take (↑l0.length : Int).toNat (List.drop (0 : Nat) l4)).length = (↑l0.length : Int).toNat) (
 reqB (∀ (y : Int), y ∈ List.take (↑l0.length : Int).toNat (List.drop (0 : Nat) l4) → (-1 : Int) ≤ y ∧ y ≤ (1 : Int)) (
 reqB (sigCodeF.post [DV.l l0, DV.l l1, DV.n n2]
 [DV.l (List.take (↑l0.length : Int).toNat (List.drop (0 : Nat) l4))]) (
 true))))))))))))))))))))))))))))))))))) := by kernel_rfl
set_option maxHeartbeats 8000000 in
theorem vt_codeF : vcFn Try.prog [] (fun f p _ => at2 f p 37 58 codeFL (none)) [] 100 37 sigCodeF = true := by
  rw [vc_codeF]
  try simp only [Int.toNat_natCast, List.length_set, List.length_replicate, List.length_take, List.length_drop, List.length_append, List.length_cons, List.length_nil, Nat.min_self, List.take_take, lenCols_i, lenCols_b, List.drop_zero, List.take_length, Nat.add_eq, Nat.mul_eq, Nat.sub_eq, Nat.zero_add, Nat.sub_zero, Nat.mul_one]
  refine all_i fun l0 => ?_
  refine imp_i fun h0 => ?_
  refine imp_i fun h1 => ?_
  refine all_i fun l1 => ?_
  refine imp_i fun h2 => ?_
  refine imp_i fun h3 => ?_
  refine all_i fun n2 => ?_
  refine imp_i fun h4 => ?_
  refine imp_i fun h5 => ?_
  refine imp_i fun h6 => ?_
  try simp only [sigCodeF, cB, cCh, codeFPre, codeFPost, List.cons.injEq, DV.b.injEq, and_true, List.length_cons, List.length_nil] at h6
  refine req_i ?_ ?_
  · -- r0
   first | omega | ((try simp only [Int.toNat_natCast, List.length_cons, List.length_nil]); first | done | omega | assumption | grind [getD_set, getD_rep, toNat_succ, cntN_yes, cntN_no])
  refine req_i ?_ ?_
  · -- r1
   first | omega | ((try simp only [Int.toNat_natCast, List.length_cons, List.length_nil]); first | done | omega | assumption | grind [getD_set, getD_rep, toNat_succ, cntN_yes, cntN_no])
  refine req_i ?_ ?_
  · -- r2
   first | omega | ((try simp only [Nat.mul_eq]); first | done | omega | assumption | grind [getD_set, getD_rep, toNat_succ, cntN_yes, cntN_no])
  refine req_i ?_ ?_
  · -- r3
   first | omega | ((try simp only [Nat.zero_add]); first | done | omega | assumption | grind [getD_set, getD_rep, toNat_succ, cntN_yes, cntN_no])
  refine req_i ?_ ?_
  · -- r4
   first | omega | ((try simp only [List.length_take, List.take_length, List.take_take, Nat.min_self, List.length_drop, List.drop_zero, List.length_cons, List.length_nil]); first | done | omega | assumption | grind [getD_set, getD_rep, toNat_succ, cntN_yes, cntN_no])
  refine req_i ?_ ?_
  · -- r5
   first | assumption | exact rep_bd (by omega) (by omega) | exact set_bd (by assumption) (by omega) (by omega) | exact take_bd (by assumption) | ((try simp only [List.length_take, List.take_length, List.take_take, Nat.min_self, List.length_drop, List.drop_zero, List.length_cons, List.length_nil]); first | assumption | exact rep_bd (by omega) (by omega) | exact set_bd (by assumption) (by omega) (by omega) | exact take_bd (by assumption) | grind [getD_set, getD_rep, toNat_succ, cntN_yes, cntN_no])
  refine req_i ?_ ?_
  · -- r6
   first | omega | ((try simp only [Nat.mul_eq]); first | done | omega | assumption | grind [getD_set, getD_rep, toNat_succ, cntN_yes, cntN_no])
  refine req_i ?_ ?_
  · -- r7
   first | omega | ((try simp only [Nat.zero_add]); first | done | omega | assumption | grind [getD_set, getD_rep, toNat_succ, cntN_yes, cntN_no])
  refine req_i ?_ ?_
  · -- r8
   first | omega | ((try simp only [List.length_take, List.take_length, List.take_take, Nat.min_self, List.length_drop, List.drop_zero, List.length_cons, List.length_nil]); first | done | omega | assumption | grind [getD_set, getD_rep, toNat_succ, cntN_yes, cntN_no])
  refine req_i ?_ ?_
  · -- r9
   first | assumption | exact rep_bd (by omega) (by omega) | exact set_bd (by assumption) (by omega) (by omega) | exact take_bd (by assumption) | ((try simp only [List.length_take, List.take_length, List.take_take, Nat.min_self, List.length_drop, List.drop_zero, List.length_cons, List.length_nil]); first | assumption | exact rep_bd (by omega) (by omega) | exact set_bd (by assumption) (by omega) (by omega) | exact take_bd (by assumption) | grind [getD_set, getD_rep, toNat_succ, cntN_yes, cntN_no])
  refine req_i ?_ ?_
  · -- r10
   first | omega | assumption | grind
  refine req_i ?_ ?_
  · -- r11
   first | omega | assumption | grind
  refine req_i ?_ ?_
  · -- r12
   first | omega | ((try simp only [Int.toNat_natCast, List.length_replicate, List.length_cons, List.length_nil, lenCols_i, lenCols_b]); first | done | omega | assumption | grind [getD_set, getD_rep, toNat_succ, cntN_yes, cntN_no])
  refine req_i ?_ ?_
  · -- r13
   first | omega | ((try simp only [Int.toNat_natCast, List.length_replicate, List.length_cons, List.length_nil, lenCols_i, lenCols_b]); first | done | omega | assumption | grind [getD_set, getD_rep, toNat_succ, cntN_yes, cntN_no])
  refine req_i ?_ ?_
  · -- r14
   first | assumption | exact rep_bd (by omega) (by omega) | exact set_bd (by assumption) (by omega) (by omega) | exact take_bd (by assumption) | ((try simp only [Int.toNat_natCast, List.length_replicate, List.length_cons, List.length_nil]); first | assumption | exact rep_bd (by omega) (by omega) | exact set_bd (by assumption) (by omega) (by omega) | exact take_bd (by assumption) | grind [getD_set, getD_rep, toNat_succ, cntN_yes, cntN_no])
  refine req_i ?_ ?_
  · -- r15
   first | omega | ((try simp only [codeFL, cB, codeFInv, meaC, List.cons.injEq, DV.b.injEq, and_true, Int.toNat_natCast, List.length_replicate, List.length_take, List.take_length, List.take_take, Nat.min_self, List.length_drop, List.drop_zero, List.length_cons, List.length_nil]); first | done | omega | assumption | grind [getD_set, getD_rep, toNat_succ, cntN_yes, cntN_no])
  refine all_i fun n3 => ?_
  refine imp_i fun h7 => ?_
  refine imp_i fun h8 => ?_
  refine all_i fun l4 => ?_
  refine imp_i fun h9 => ?_
  refine imp_i fun h10 => ?_
  refine imp_i fun h11 => ?_
  try simp only [codeFL, cB, codeFInv, meaC, List.cons.injEq, DV.b.injEq, and_true, List.length_take, List.take_length, List.take_take, Nat.min_self, List.length_drop, List.drop_zero, List.length_cons, List.length_nil] at h11
  refine bR_dec (fun h12 => ?_) (fun h12 => ?_)
  ·
   have a0 := getD_bd (i := n3.toNat) h1 (by omega) (by omega)
   have a1 := getD_bd (i := n3.toNat) h3 (by omega) (by omega)
   refine req_i ?_ ?_
   · -- r16
    first | omega | ((try simp only [Int.toNat_natCast, List.length_cons, List.length_nil]); first | done | omega | assumption | grind [getD_set, getD_rep, toNat_succ, cntN_yes, cntN_no])
   refine req_i ?_ ?_
   · -- r17
    first | omega | ((try simp only [Int.toNat_natCast, List.length_cons, List.length_nil, Nat.add_eq, Nat.zero_add]); first | done | omega | assumption | grind [getD_set, getD_rep, toNat_succ, cntN_yes, cntN_no])
   refine bR_dec (fun h13 => ?_) (fun h13 => ?_)
   ·
    refine req_i ?_ ?_
    · -- r18
     first | omega | ((try simp only [Int.toNat_natCast, List.length_cons, List.length_nil]); first | done | omega | assumption | grind [getD_set, getD_rep, toNat_succ, cntN_yes, cntN_no])
    refine req_i ?_ ?_
    · -- r19
     first | omega | ((try simp only [Int.toNat_natCast, List.length_cons, List.length_nil, Nat.add_eq, Nat.zero_add]); first | done | omega | assumption | grind [getD_set, getD_rep, toNat_succ, cntN_yes, cntN_no])
    refine req_i ?_ ?_
    · -- r20
     first | omega | ((try simp only [Int.toNat_natCast, List.length_cons, List.length_nil]); first | done | omega | assumption | grind [getD_set, getD_rep, toNat_succ, cntN_yes, cntN_no])
    refine req_i ?_ ?_
    · -- r21
     first | omega | ((try simp only [Int.toNat_natCast, List.length_cons, List.length_nil, Nat.add_eq, Nat.zero_add]); first | done | omega | assumption | grind [getD_set, getD_rep, toNat_succ, cntN_yes, cntN_no])
    refine bR_t ?_ ?_
    · -- g0
     first | rfl | (simp only [bR_iff, bR_iff_f, dec_iff, dec_f, beqB_iff', andB_iff', reduceCtorEq, imp_self, false_implies, and_true, true_and, implies_true, and_self]; done) | (simp [bR_iff, dec_iff, beqB_iff', andB_iff']; done) | (simp [bR_iff, dec_iff, beqB_iff', andB_iff']; omega)
    refine req_i ?_ ?_
    · -- r22
     first | omega | assumption | grind
    refine req_i ?_ ?_
    · -- r23
     first | omega | assumption | grind
    refine req_i ?_ ?_
    · -- r24
     first | omega | ((try simp only [Int.toNat_natCast, List.length_set, List.length_cons, List.length_nil, lenCols_i, lenCols_b, Nat.add_eq, Nat.zero_add]); first | done | omega | assumption | grind [getD_set, getD_rep, toNat_succ, cntN_yes, cntN_no])
    refine req_i ?_ ?_
    · -- r25
     first | omega | ((try simp only [Int.toNat_natCast, List.length_set, List.length_cons, List.length_nil, lenCols_i, lenCols_b, Nat.add_eq, Nat.zero_add]); first | done | omega | assumption | grind [getD_set, getD_rep, toNat_succ, cntN_yes, cntN_no])
    refine req_i ?_ ?_
    · -- r26
     first | assumption | exact rep_bd (by omega) (by omega) | exact set_bd (by assumption) (by omega) (by omega) | exact take_bd (by assumption) | ((try simp only [Int.toNat_natCast, List.length_set, List.length_cons, List.length_nil, Nat.add_eq, Nat.zero_add]); first | assumption | exact rep_bd (by omega) (by omega) | exact set_bd (by assumption) (by omega) (by omega) | exact take_bd (by assumption) | grind [getD_set, getD_rep, toNat_succ, cntN_yes, cntN_no])
    refine req_i ?_ ?_
    · -- r27
     simp only [codeFL, codeFInv, List.drop_zero, List.take_length, Nat.add_eq, Nat.zero_add]; exact codeF_step h11.1 (by omega) h11.2.2.1 h11.2.2.2 (by rw [h13, chipB2])
    refine req_i ?_ ?_
    · -- r28
     first | omega | ((try simp only [codeFL, cB, codeFInv, meaC, List.cons.injEq, DV.b.injEq, and_true, Int.toNat_natCast, List.length_set, List.length_take, List.take_length, List.take_take, Nat.min_self, List.length_drop, List.drop_zero, List.length_cons, List.length_nil, Nat.add_eq, Nat.zero_add]); first | done | omega | assumption | grind [getD_set, getD_rep, toNat_succ, cntN_yes, cntN_no])
    rfl
   ·
    refine bR_dec (fun h14 => ?_) (fun h14 => ?_)
    ·
     have a2 := getD_bd (i := ((n3 + n2 - 3).tmod (l1.length : Int)).toNat) h3 (by omega) (by omega)
     have a3 := xor_bit a0.1 a0.2 a2.1 a2.2
     have a4 := tmod_nn (a := n3 + n2 - 3) (b := (l1.length : Int)) (by omega)
     have a5 := Int.emod_nonneg (n3 + n2 - 3) (b := (l1.length : Int)) (by omega)
     have a6 := Int.emod_lt_of_pos (n3 + n2 - 3) (b := (l1.length : Int)) (by omega)
     refine req_i ?_ ?_
     · -- r29
      first | omega | ((try simp only [Nat.zero_add]); first | done | omega | assumption | grind [getD_set, getD_rep, toNat_succ, cntN_yes, cntN_no])
     refine req_i ?_ ?_
     · -- r30
      first | omega | ((try simp only [Nat.zero_add]); first | done | omega | assumption | grind [getD_set, getD_rep, toNat_succ, cntN_yes, cntN_no])
     refine req_i ?_ ?_
     · -- r31
      first | omega | ((try simp only [Int.toNat_natCast, List.length_cons, List.length_nil]); first | done | omega | assumption | grind [getD_set, getD_rep, toNat_succ, cntN_yes, cntN_no])
     refine req_i ?_ ?_
     · -- r32
      first | omega | ((try simp only [Int.toNat_natCast, List.length_cons, List.length_nil, Nat.add_eq, Nat.zero_add]); first | done | omega | assumption | grind [getD_set, getD_rep, toNat_succ, cntN_yes, cntN_no])
     refine req_i ?_ ?_
     · -- r33
      first | omega | ((try simp only [Int.toNat_natCast, List.length_cons, List.length_nil]); first | done | omega | assumption | grind [getD_set, getD_rep, toNat_succ, cntN_yes, cntN_no])
     refine req_i ?_ ?_
     · -- r34
      first | omega | ((try simp only [Int.toNat_natCast, List.length_cons, List.length_nil, Nat.add_eq, Nat.zero_add]); first | done | omega | assumption | grind [getD_set, getD_rep, toNat_succ, cntN_yes, cntN_no])
     refine bR_t ?_ ?_
     · -- g1
      first | rfl | (simp only [bR_iff, bR_iff_f, dec_iff, dec_f, beqB_iff', andB_iff', reduceCtorEq, imp_self, false_implies, and_true, true_and, implies_true, and_self]; done) | (simp [bR_iff, dec_iff, beqB_iff', andB_iff']; done) | (simp [bR_iff, dec_iff, beqB_iff', andB_iff']; omega)
     refine req_i ?_ ?_
     · -- r35
      first | omega | assumption | grind
     refine req_i ?_ ?_
     · -- r36
      first | omega | assumption | grind
     refine req_i ?_ ?_
     · -- r37
      first | omega | ((try simp only [Int.toNat_natCast, List.length_set, List.length_cons, List.length_nil, lenCols_i, lenCols_b, Nat.add_eq, Nat.zero_add]); first | done | omega | assumption | grind [getD_set, getD_rep, toNat_succ, cntN_yes, cntN_no])
     refine req_i ?_ ?_
     · -- r38
      first | omega | ((try simp only [Int.toNat_natCast, List.length_set, List.length_cons, List.length_nil, lenCols_i, lenCols_b, Nat.add_eq, Nat.zero_add]); first | done | omega | assumption | grind [getD_set, getD_rep, toNat_succ, cntN_yes, cntN_no])
     refine req_i ?_ ?_
     · -- r39
      first | assumption | exact rep_bd (by omega) (by omega) | exact set_bd (by assumption) (by omega) (by omega) | exact take_bd (by assumption) | ((try simp only [Int.toNat_natCast, List.length_set, List.length_cons, List.length_nil, Nat.add_eq, Nat.zero_add]); first | assumption | exact rep_bd (by omega) (by omega) | exact set_bd (by assumption) (by omega) (by omega) | exact take_bd (by assumption) | grind [getD_set, getD_rep, toNat_succ, cntN_yes, cntN_no])
     refine req_i ?_ ?_
     · -- r40
      simp only [codeFL, codeFInv, List.drop_zero, List.take_length, Nat.add_eq, Nat.zero_add]; exact codeF_step h11.1 (by omega) h11.2.2.1 h11.2.2.2 (by rw [a3, chipB3 (by omega) (by omega) a4])
     refine req_i ?_ ?_
     · -- r41
      first | omega | ((try simp only [codeFL, cB, codeFInv, meaC, List.cons.injEq, DV.b.injEq, and_true, Int.toNat_natCast, List.length_set, List.length_take, List.take_length, List.take_take, Nat.min_self, List.length_drop, List.drop_zero, List.length_cons, List.length_nil, Nat.add_eq, Nat.zero_add]); first | done | omega | assumption | grind [getD_set, getD_rep, toNat_succ, cntN_yes, cntN_no])
     rfl
    ·
     refine req_i ?_ ?_
     · -- r42
      first | omega | ((try simp only [Int.toNat_natCast, List.length_cons, List.length_nil]); first | done | omega | assumption | grind [getD_set, getD_rep, toNat_succ, cntN_yes, cntN_no])
     refine req_i ?_ ?_
     · -- r43
      first | omega | ((try simp only [Int.toNat_natCast, List.length_cons, List.length_nil, Nat.add_eq, Nat.zero_add]); first | done | omega | assumption | grind [getD_set, getD_rep, toNat_succ, cntN_yes, cntN_no])
     refine bR_t ?_ ?_
     · -- g2
      first | rfl | (simp only [bR_iff, bR_iff_f, dec_iff, dec_f, beqB_iff', andB_iff', reduceCtorEq, imp_self, false_implies, and_true, true_and, implies_true, and_self]; done) | (simp [bR_iff, dec_iff, beqB_iff', andB_iff']; done) | (simp [bR_iff, dec_iff, beqB_iff', andB_iff']; omega)
     refine req_i ?_ ?_
     · -- r44
      first | omega | assumption | grind
     refine req_i ?_ ?_
     · -- r45
      first | omega | assumption | grind
     refine req_i ?_ ?_
     · -- r46
      first | omega | ((try simp only [Int.toNat_natCast, List.length_set, List.length_cons, List.length_nil, lenCols_i, lenCols_b, Nat.add_eq, Nat.zero_add]); first | done | omega | assumption | grind [getD_set, getD_rep, toNat_succ, cntN_yes, cntN_no])
     refine req_i ?_ ?_
     · -- r47
      first | omega | ((try simp only [Int.toNat_natCast, List.length_set, List.length_cons, List.length_nil, lenCols_i, lenCols_b, Nat.add_eq, Nat.zero_add]); first | done | omega | assumption | grind [getD_set, getD_rep, toNat_succ, cntN_yes, cntN_no])
     refine req_i ?_ ?_
     · -- r48
      first | assumption | exact rep_bd (by omega) (by omega) | exact set_bd (by assumption) (by omega) (by omega) | exact take_bd (by assumption) | ((try simp only [Int.toNat_natCast, List.length_set, List.length_cons, List.length_nil, Nat.add_eq, Nat.zero_add]); first | assumption | exact rep_bd (by omega) (by omega) | exact set_bd (by assumption) (by omega) (by omega) | exact take_bd (by assumption) | grind [getD_set, getD_rep, toNat_succ, cntN_yes, cntN_no])
     refine req_i ?_ ?_
     · -- r49
      simp only [codeFL, codeFInv, List.drop_zero, List.take_length, Nat.add_eq, Nat.zero_add]; exact codeF_step h11.1 (by omega) h11.2.2.1 h11.2.2.2 (by rw [show n2 = 1 by omega, chipB1])
     refine req_i ?_ ?_
     · -- r50
      first | omega | ((try simp only [codeFL, cB, codeFInv, meaC, List.cons.injEq, DV.b.injEq, and_true, Int.toNat_natCast, List.length_set, List.length_take, List.take_length, List.take_take, Nat.min_self, List.length_drop, List.drop_zero, List.length_cons, List.length_nil, Nat.add_eq, Nat.zero_add]); first | done | omega | assumption | grind [getD_set, getD_rep, toNat_succ, cntN_yes, cntN_no])
     rfl
  ·
   refine req_i ?_ ?_
   · -- r51
    first | omega | ((try simp only [Int.toNat_natCast, List.length_cons, List.length_nil, Nat.mul_eq]); first | done | omega | assumption | grind [getD_set, getD_rep, toNat_succ, cntN_yes, cntN_no])
   refine req_i ?_ ?_
   · -- r52
    first | omega | ((try simp only [Int.toNat_natCast, List.length_cons, List.length_nil]); first | done | omega | assumption | grind [getD_set, getD_rep, toNat_succ, cntN_yes, cntN_no])
   refine req_i ?_ ?_
   · -- r53
    first | omega | ((try simp only [Int.toNat_natCast, List.length_take, List.take_length, List.take_take, Nat.min_self, List.length_drop, List.drop_zero, List.length_cons, List.length_nil]); first | done | omega | assumption | grind [getD_set, getD_rep, toNat_succ, cntN_yes, cntN_no])
   refine req_i ?_ ?_
   · -- r54
    (try simp only [List.drop_zero, Int.toNat_natCast]); rw [List.take_of_length_le (by omega), chips_of (p := n2) (u := l0) (v := l1) h11.2.2.1 fun j hj => h11.2.2.2 j (by omega)]; exact chips_bd h1 h3
   refine req_i ?_ ?_
   · -- r55
    simp only [sigCodeF, codeFPost, List.drop_zero, Int.toNat_natCast]; rw [List.take_of_length_le (by omega)]; exact chips_of h11.2.2.1 fun j hj => h11.2.2.2 j (by omega)
   rfl
theorem ext_codeF : ∀ p ∈ ([] : List (Nat × Ext)), ExtRow Try.prog p.1 p.2 := by
  intro p hp
  cases hp
theorem cts_codeF : CtsOk Try.prog [] := fun f c h => by cases h
theorem fn_codeF : FnOk Try.prog 37 sigCodeF [] := fn_sound (by kernel_rfl) ext_codeF cts_codeF names vt_codeF
end Go.Proofs.Ytpmlodchbgfmeaa

namespace Go.Proofs.Ytpmlodchbgfmeaa
open Go.Ev Go.Sp
set_option maxRecDepth 100000
theorem vc_code : vcFn Try.prog [(13, Ext.ctr (ctOf sigBits)), (37, Ext.ctr (ctOf sigCodeF))] noA [] 100 15 sigCode = (allB fun n0 : Int => 
impB ((-9223372036854775808 : Int) ≤ n0) (
impB (n0 ≤ (9223372036854775807 : Int)) (
allB fun n1 : Int => 
impB ((-9223372036854775808 : Int) ≤ n1) (
impB (n1 ≤ (9223372036854775807 : Int)) (
impB (sigCode.pre [DV.n n0, DV.n n1]) (
reqB ((-9223372036854775808 : Int) ≤ n0) (
reqB (n0 ≤ (9223372036854775807 : Int)) (
reqB (sigBits.pre [DV.n n0, DV.n (1 : Int)]) (
allB fun l2 : List Int => 
impB (l2.length ≤ (1100 : Nat)) (
impB (∀ (y : Int), y ∈ l2 → (0 : Int) ≤ y ∧ y ≤ (1 : Int)) (
allB fun n3 : Int => 
impB ((0 : Int) ≤ n3) (
impB (n3 ≤ (18 : Int)) (
impB (sigBits.post [DV.n n0, DV.n (1 : Int)] [DV.l l2, DV.n n3]) (
bR (dec (n3 ≠ (0 : Int))) (
 reqB ((0 : Int) ≤ n3) (
 reqB (n3 ≤ (18 : Int)) (
 reqB (sigCode.post [DV.n n0, DV.n n1] [DV.l [], DV.n n3]) (
 true)))) (
 bR (dec (n1 < (1 : Int))) (
 reqB (sigCode.post [DV.n n0, DV.n n1] [DV.l [], DV.n (2 : Int)]) (
 true)) (
 bR (dec ((↑l2.length : Int) + (2 : Int) < n1)) (
 reqB (sigCode.post [DV.n n0, DV.n n1] [DV.l [], DV.n (2 : Int)]) (
 true)) (
 reqB ((-9223372036854775808 : Int) ≤ n0) (
 reqB (n0 ≤ (9223372036854775807 : Int)) (
 reqB (sigBits.pre [DV.n n0, DV.n (2 : Int)]) (
 allB fun l4 : List Int => 
 impB (l4.length ≤ (1100 : Nat)) (
 impB (∀ (y : Int), y ∈ l4 → (0 : Int) ≤ y ∧ y ≤ (1 : Int)) (
 allB fun n5 : Int => 
 impB ((0 : Int) ≤ n5) (
 impB (n5 ≤ (18 : Int)) (
 impB (sigBits.post [DV.n n0, DV.n (2 : Int)] [DV.l l4, DV.n n5]) (
 reqB (((0 : Nat) + l2.length) * (1 : Nat) ≤ l2.length.mul (1 : Nat)) (
 reqB (l2.length ≤ (1100 : Nat)) (
 reqB ((List.take l2.length (List.drop (0 : Nat) l2)).length = l2.length) (
 reqB (∀ (y : Int), y ∈ List.take l2.length (List.drop (0 : Nat) l2) → (0 : Int) ≤ y ∧ y ≤ (1 : Int)) (
 reqB (((0 : Nat) + l4.length) * (1 : Nat) ≤ l4.length.mul (1 : Nat)) (
 reqB (l4.length ≤ (1100 : Nat)) (
 reqB ((List.take l4.length (List.drop (0 : Nat) l4)).length = l4.length) (
 reqB (∀ (y : Int), y ∈ List.take l4.length (List.drop (0 : Nat) l4) → (0 : Int) ≤ y ∧ y ≤ (1 : Int)) (
 reqB ((1 : Int) ≤ n1) (
 reqB (n1 ≤ (1100 : Int)) (
 reqB (sigCodeF.pre
 [DV.l (List.take l2.length (List.drop (0 : Nat) l2)), DV.l (List.take l4.length (List.drop (0 : Nat) l4)),
 DV.n n1]) (
 allB fun l6 : List Int => 
 impB (l6.length ≤ (1100 : Nat)) (
 impB (∀ (y : Int), y ∈ l6 → (-1 : Int) ≤ y ∧ y ≤ (1 : Int)) (
 impB (sigCodeF.post
 [DV.l (List.take l2.length (List.drop (0 : Nat) l2)), DV.l (List.take l4.length (List.drop (0 : Nat) l4)),
 DV.n n1]
 [DV.l l6]) (
 reqB (((0 : Nat) + l6.length) * (1 : Nat) ≤ l6.length.mul (1 : Nat)) (
 reqB (l6.length ≤ (1100 : Nat)) (
 reqB ((List.take l6.length (List.drop (0 : Nat) l6)).length = l6.length) (
 reqB (∀ (y : Int), y ∈ List.take l6.length (List.drop (0 : Nat) l6) → (-1 : Int) ≤ y ∧ y ≤ (1 : Int)) (
 reqB (sigCode.post [DV.n n0, DV.n n1]
 [DV.l (List.take l6.length (List.drop (0 : Nat) l6)), DV.n (0 : Int)]) (
 true)))))))))))))))))))))))))))))))))))))))))))) := by kernel_rfl
set_option maxHeartbeats 8000000 in
theorem vt_code : vcFn Try.prog [(13, Ext.ctr (ctOf sigBits)), (37, Ext.ctr (ctOf sigCodeF))] noA [] 100 15 sigCode = true := by
  rw [vc_code]
  try simp only [Int.toNat_natCast, List.length_set, List.length_replicate, List.length_take, List.length_drop, List.length_append, List.length_cons, List.length_nil, Nat.min_self, List.take_take, lenCols_i, lenCols_b, List.drop_zero, List.take_length, Nat.add_eq, Nat.mul_eq, Nat.sub_eq, Nat.zero_add, Nat.sub_zero, Nat.mul_one]
  refine all_i fun n0 => ?_
  refine imp_i fun h0 => ?_
  refine imp_i fun h1 => ?_
  refine all_i fun n1 => ?_
  refine imp_i fun h2 => ?_
  refine imp_i fun h3 => ?_
  refine imp_i fun h4 => ?_
  try simp only [sigCode, cCh, codePost, List.cons.injEq, DV.b.injEq, and_true, List.length_cons, List.length_nil] at h4
  refine req_i ?_ ?_
  · -- r0
   first | omega | assumption | grind
  refine req_i ?_ ?_
  · -- r1
   first | omega | assumption | grind
  refine req_i ?_ ?_
  · -- r2
   first | trivial | assumption | (simp only [sigBits, sigBitsR, iR, cB, bitsPost, List.cons.injEq, DV.b.injEq, and_true, List.length_cons, List.length_nil]; done) | ((try simp only [sigBits, sigBitsR, iR, cB, bitsPost, List.cons.injEq, DV.b.injEq, and_true, List.length_cons, List.length_nil]); first | omega | assumption | grind)
  refine all_i fun l2 => ?_
  refine imp_i fun h5 => ?_
  refine imp_i fun h6 => ?_
  refine all_i fun n3 => ?_
  refine imp_i fun h7 => ?_
  refine imp_i fun h8 => ?_
  refine imp_i fun h9 => ?_
  try simp only [Int.toNat_natCast, List.length_set, List.length_replicate, List.length_take, List.length_drop, List.length_append, List.length_cons, List.length_nil, Nat.min_self, List.take_take, lenCols_i, lenCols_b, List.drop_zero, List.take_length, Nat.add_eq, Nat.mul_eq, Nat.sub_eq, Nat.zero_add, Nat.sub_zero, Nat.mul_one] at h9
  have hb := ite_case h9
  have nb := @nG_bd n0
  refine bR_dec (fun h10 => ?_) (fun h10 => ?_)
  ·
   refine req_i ?_ ?_
   · -- r3
    first | omega | assumption | grind
   refine req_i ?_ ?_
   · -- r4
    first | omega | assumption | grind
   refine req_i ?_ ?_
   · -- r5
    obtain ⟨k1, k2, k3⟩ := hb.resolve_left (fun g => h10 g.2.1); exact code_no (fun g => k1 ⟨g.1, .inl rfl⟩) k2
   rfl
  ·
   obtain ⟨⟨ok, _⟩, _, e2⟩ := hb.resolve_right (fun g => h10 (by rw [g.2.1]; decide))
   have bl := bits_len (w := 1) ok (.inl rfl)
   rw [← e2] at bl
   refine bR_dec (fun h11 => ?_) (fun h11 => ?_)
   ·
    refine req_i ?_ ?_
    · -- r6
     exact code_no (fun g => by omega) rfl
    rfl
   ·
    refine bR_dec (fun h12 => ?_) (fun h12 => ?_)
    ·
     refine req_i ?_ ?_
     · -- r7
      exact code_no (fun g => by omega) rfl
     rfl
    ·
     refine req_i ?_ ?_
     · -- r8
      first | omega | assumption | grind
     refine req_i ?_ ?_
     · -- r9
      first | omega | assumption | grind
     refine req_i ?_ ?_
     · -- r10
      first | trivial | assumption | (simp only [sigBits, sigBitsR, iR, cB, bitsPost, List.cons.injEq, DV.b.injEq, and_true, List.length_cons, List.length_nil]; done) | ((try simp only [sigBits, sigBitsR, iR, cB, bitsPost, List.cons.injEq, DV.b.injEq, and_true, List.length_cons, List.length_nil]); first | omega | assumption | grind)
     refine all_i fun l4 => ?_
     refine imp_i fun h13 => ?_
     refine imp_i fun h14 => ?_
     refine all_i fun n5 => ?_
     refine imp_i fun h15 => ?_
     refine imp_i fun h16 => ?_
     refine imp_i fun h17 => ?_
     try simp only [Int.toNat_natCast, List.length_set, List.length_replicate, List.length_take, List.length_drop, List.length_append, List.length_cons, List.length_nil, Nat.min_self, List.take_take, lenCols_i, lenCols_b, List.drop_zero, List.take_length, Nat.add_eq, Nat.mul_eq, Nat.sub_eq, Nat.zero_add, Nat.sub_zero, Nat.mul_one] at h17
     obtain ⟨_, e4⟩ := (ite_case h17).resolve_right (fun g => g.1 ⟨ok, .inr rfl⟩) |>.2
     have bl4 := bits_len (w := 2) ok (.inr rfl)
     rw [← e4] at bl4
     refine req_i ?_ ?_
     · -- r11
      first | omega | ((try simp only [Nat.mul_eq]); first | done | omega | assumption | grind [getD_set, getD_rep, toNat_succ, cntN_yes, cntN_no])
     refine req_i ?_ ?_
     · -- r12
      first | omega | ((try simp only [Nat.zero_add]); first | done | omega | assumption | grind [getD_set, getD_rep, toNat_succ, cntN_yes, cntN_no])
     refine req_i ?_ ?_
     · -- r13
      first | omega | ((try simp only [List.length_take, List.take_length, List.take_take, Nat.min_self, List.length_drop, List.drop_zero, List.length_cons, List.length_nil]); first | done | omega | assumption | grind [getD_set, getD_rep, toNat_succ, cntN_yes, cntN_no])
     refine req_i ?_ ?_
     · -- r14
      first | assumption | exact rep_bd (by omega) (by omega) | exact set_bd (by assumption) (by omega) (by omega) | exact take_bd (by assumption) | ((try simp only [List.length_take, List.take_length, List.take_take, Nat.min_self, List.length_drop, List.drop_zero, List.length_cons, List.length_nil]); first | assumption | exact rep_bd (by omega) (by omega) | exact set_bd (by assumption) (by omega) (by omega) | exact take_bd (by assumption) | grind [getD_set, getD_rep, toNat_succ, cntN_yes, cntN_no])
     refine req_i ?_ ?_
     · -- r15
      first | omega | ((try simp only [Nat.mul_eq]); first | done | omega | assumption | grind [getD_set, getD_rep, toNat_succ, cntN_yes, cntN_no])
     refine req_i ?_ ?_
     · -- r16
      first | omega | ((try simp only [Nat.zero_add]); first | done | omega | assumption | grind [getD_set, getD_rep, toNat_succ, cntN_yes, cntN_no])
     refine req_i ?_ ?_
     · -- r17
      first | omega | ((try simp only [List.length_take, List.take_length, List.take_take, Nat.min_self, List.length_drop, List.drop_zero, List.length_cons, List.length_nil]); first | done | omega | assumption | grind [getD_set, getD_rep, toNat_succ, cntN_yes, cntN_no])
     refine req_i ?_ ?_
     · -- r18
      first | assumption | exact rep_bd (by omega) (by omega) | exact set_bd (by assumption) (by omega) (by omega) | exact take_bd (by assumption) | ((try simp only [List.length_take, List.take_length, List.take_take, Nat.min_self, List.length_drop, List.drop_zero, List.length_cons, List.length_nil]); first | assumption | exact rep_bd (by omega) (by omega) | exact set_bd (by assumption) (by omega) (by omega) | exact take_bd (by assumption) | grind [getD_set, getD_rep, toNat_succ, cntN_yes, cntN_no])
     refine req_i ?_ ?_
     · -- r19
      first | omega | assumption | grind
     refine req_i ?_ ?_
     · -- r20
      first | omega | assumption | grind
     refine req_i ?_ ?_
     · -- r21
      simp only [sigCodeF, codeFPre, List.drop_zero, List.take_length]; omega
     refine all_i fun l6 => ?_
     refine imp_i fun h18 => ?_
     refine imp_i fun h19 => ?_
     refine imp_i fun h20 => ?_
     try simp only [sigCodeF, cB, cCh, codeFPre, codeFPost, List.cons.injEq, DV.b.injEq, and_true, List.length_take, List.take_length, List.take_take, Nat.min_self, List.length_drop, List.drop_zero, List.length_cons, List.length_nil] at h20
     refine req_i ?_ ?_
     · -- r22
      first | omega | ((try simp only [Nat.mul_eq]); first | done | omega | assumption | grind [getD_set, getD_rep, toNat_succ, cntN_yes, cntN_no])
     refine req_i ?_ ?_
     · -- r23
      first | omega | ((try simp only [Nat.zero_add]); first | done | omega | assumption | grind [getD_set, getD_rep, toNat_succ, cntN_yes, cntN_no])
     refine req_i ?_ ?_
     · -- r24
      first | omega | ((try simp only [List.length_take, List.take_length, List.take_take, Nat.min_self, List.length_drop, List.drop_zero, List.length_cons, List.length_nil]); first | done | omega | assumption | grind [getD_set, getD_rep, toNat_succ, cntN_yes, cntN_no])
     refine req_i ?_ ?_
     · -- r25
      first | assumption | exact rep_bd (by omega) (by omega) | exact set_bd (by assumption) (by omega) (by omega) | exact take_bd (by assumption) | ((try simp only [List.length_take, List.take_length, List.take_take, Nat.min_self, List.length_drop, List.drop_zero, List.length_cons, List.length_nil]); first | assumption | exact rep_bd (by omega) (by omega) | exact set_bd (by assumption) (by omega) (by omega) | exact take_bd (by assumption) | grind [getD_set, getD_rep, toNat_succ, cntN_yes, cntN_no])
     refine req_i ?_ ?_
     · -- r26
      (try simp only [List.drop_zero, List.take_length]); exact code_yes ⟨ok, by omega, by omega⟩ rfl (by rw [h20, e2, e4]; rfl)
     rfl
theorem ext_code : ∀ p ∈ ([(13, Ext.ctr (ctOf sigBits)), (37, Ext.ctr (ctOf sigCodeF))] : List (Nat × Ext)), ExtRow Try.prog p.1 p.2 := by
  intro p hp
  simp only [List.mem_cons, List.not_mem_nil, or_false] at hp
  rcases hp with rfl | rfl
  · trivial
  · trivial
theorem cts_code : CtsOk Try.prog [(13, Ext.ctr (ctOf sigBits)), (37, Ext.ctr (ctOf sigCodeF))] := ctsOk_of (cs := [(13, sigBits), (37, sigCodeF)])
  (fun p hp => by
    simp only [List.mem_cons, List.not_mem_nil, or_false] at hp
    rcases hp with rfl | rfl
    · exact fn_bits
    · exact fn_codeF
)
  (fun f c h => by
    simp only [List.lookup_cons] at h
    repeat' split at h
    all_goals first | (cases h; done) | (rename_i e; have e := beq_iff_eq.1 e; subst e; cases h; refine ⟨_, ?_, rfl⟩; simp))
theorem fn_code : FnOk Try.prog 15 sigCode [] := fn_sound (by kernel_rfl) ext_code cts_code names vt_code
end Go.Proofs.Ytpmlodchbgfmeaa

