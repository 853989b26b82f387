import Derived.Test.YtblcahackjpnjaaDoorSpec11e
import Derived.Test.YtblcahackjpnjaaDoorRows
import Derived.Test.YtblcahackjpnjaaDoorEvSS
import Derived.Test.YtblcahackjpnjaaDoorFnames
namespace Go.Proofs.YtblcahackjpnjaaDoor
open Go.Ev Go.Sp
set_option maxRecDepth 100000
theorem vc_bits0 : vcFn Tryd.prog [] noA gl11 200 51 (sigBitsR 5 5 1 1) = (impB ((sigBitsR (5 : Int) (5 : Int) (1 : Int) (1 : Int)).pre [DV.n (5 : Int), DV.n (1 : Int)]) (
reqB ((31 : Nat) ≤ (1100 : Nat)) (
reqB ((bitsL 5 1).length =
 (31 : Nat)) (
reqB (∀ (y : Int),
 y ∈
 (bitsL 5 1) →
 (0 : Int) ≤ y ∧ y ≤ (1 : Int)) (
reqB ((sigBitsR (5 : Int) (5 : Int) (1 : Int) (1 : Int)).post [DV.n (5 : Int), DV.n (1 : Int)]
 [DV.l
 (bitsL 5 1),
 DV.n (0 : Int)]) (
true)))))) := by kernel_rfl
set_option maxHeartbeats 8000000 in
theorem vt_bits0 : vcFn Tryd.prog [] noA gl11 200 51 (sigBitsR 5 5 1 1) = true := by
  rw [vc_bits0]
  try simp only [Int.toNat_natCast, List.length_set, List.length_replicate, List.length_take, List.length_drop, List.length_append, List.length_cons, List.length_nil, Nat.min_self, List.take_take, lenCols_i, lenCols_b, List.drop_zero, List.take_length, Nat.add_eq, Nat.mul_eq, Nat.sub_eq, Nat.zero_add, Nat.sub_zero, Nat.mul_one]
  refine imp_i fun h0 => ?_
  try simp only [sigBitsR, iR, cB, bitsPost, List.cons.injEq, DV.b.injEq, and_true, List.length_cons, List.length_nil] at h0
  refine req_i ?_ ?_
  · -- r0
   first | omega | assumption | grind
  refine req_i ?_ ?_
  · -- r1
   decide +kernel
  refine req_i ?_ ?_
  · -- r2
   exact all01 (by decide +kernel)
  refine req_i ?_ ?_
  · -- r3
   first | exact ⟨rfl, rfl⟩ | exact ⟨rfl, by decide +kernel⟩
  rfl
theorem ext_bits0 : ∀ p ∈ ([] : List (Nat × Ext)), ExtRow Tryd.prog p.1 p.2 := by
  intro p hp
  cases hp
theorem cts_bits0 : CtsOk Tryd.prog [] := fun f c h => by cases h
theorem fn_bits0 : FnOk Tryd.prog 51 (sigBitsR 5 5 1 1) gl11 := fn_sound (by kernel_rfl) ext_bits0 cts_bits0 names vt_bits0
end Go.Proofs.YtblcahackjpnjaaDoor

namespace Go.Proofs.YtblcahackjpnjaaDoor
open Go.Ev Go.Sp
set_option maxRecDepth 100000
theorem vc_bits1 : vcFn Tryd.prog [] noA gl11 200 51 (sigBitsR 5 5 2 2) = (impB ((sigBitsR (5 : Int) (5 : Int) (2 : Int) (2 : Int)).pre [DV.n (5 : Int), DV.n (2 : Int)]) (
reqB ((31 : Nat) ≤ (1100 : Nat)) (
reqB ((bitsL 5 2).length =
 (31 : Nat)) (
reqB (∀ (y : Int),
 y ∈
 (bitsL 5 2) →
 (0 : Int) ≤ y ∧ y ≤ (1 : Int)) (
reqB ((sigBitsR (5 : Int) (5 : Int) (2 : Int) (2 : Int)).post [DV.n (5 : Int), DV.n (2 : Int)]
 [DV.l
 (bitsL 5 2),
 DV.n (0 : Int)]) (
true)))))) := by kernel_rfl
set_option maxHeartbeats 8000000 in
theorem vt_bits1 : vcFn Tryd.prog [] noA gl11 200 51 (sigBitsR 5 5 2 2) = true := by
  rw [vc_bits1]
  try simp only [Int.toNat_natCast, List.length_set, List.length_replicate, List.length_take, List.length_drop, List.length_append, List.length_cons, List.length_nil, Nat.min_self, List.take_take, lenCols_i, lenCols_b, List.drop_zero, List.take_length, Nat.add_eq, Nat.mul_eq, Nat.sub_eq, Nat.zero_add, Nat.sub_zero, Nat.mul_one]
  refine imp_i fun h0 => ?_
  try simp only [sigBitsR, iR, cB, bitsPost, List.cons.injEq, DV.b.injEq, and_true, List.length_cons, List.length_nil] at h0
  refine req_i ?_ ?_
  · -- r0
   first | omega | assumption | grind
  refine req_i ?_ ?_
  · -- r1
   decide +kernel
  refine req_i ?_ ?_
  · -- r2
   exact all01 (by decide +kernel)
  refine req_i ?_ ?_
  · -- r3
   first | exact ⟨rfl, rfl⟩ | exact ⟨rfl, by decide +kernel⟩
  rfl
theorem ext_bits1 : ∀ p ∈ ([] : List (Nat × Ext)), ExtRow Tryd.prog p.1 p.2 := by
  intro p hp
  cases hp
theorem cts_bits1 : CtsOk Tryd.prog [] := fun f c h => by cases h
theorem fn_bits1 : FnOk Tryd.prog 51 (sigBitsR 5 5 2 2) gl11 := fn_sound (by kernel_rfl) ext_bits1 cts_bits1 names vt_bits1
end Go.Proofs.YtblcahackjpnjaaDoor

namespace Go.Proofs.YtblcahackjpnjaaDoor
open Go.Ev Go.Sp
set_option maxRecDepth 100000
theorem vc_bits2 : vcFn Tryd.prog [] noA gl11 400 51 (sigBitsR 6 6 1 1) = (impB ((sigBitsR (6 : Int) (6 : Int) (1 : Int) (1 : Int)).pre [DV.n (6 : Int), DV.n (1 : Int)]) (
reqB ((63 : Nat) ≤ (1100 : Nat)) (
reqB ((bitsL 6 1).length =
 (63 : Nat)) (
reqB (∀ (y : Int),
 y ∈
 (bitsL 6 1) →
 (0 : Int) ≤ y ∧ y ≤ (1 : Int)) (
reqB ((sigBitsR (6 : Int) (6 : Int) (1 : Int) (1 : Int)).post [DV.n (6 : Int), DV.n (1 : Int)]
 [DV.l
 (bitsL 6 1),
 DV.n (0 : Int)]) (
true)))))) := by kernel_rfl
set_option maxHeartbeats 8000000 in
theorem vt_bits2 : vcFn Tryd.prog [] noA gl11 400 51 (sigBitsR 6 6 1 1) = true := by
  rw [vc_bits2]
  try simp only [Int.toNat_natCast, List.length_set, List.length_replicate, List.length_take, List.length_drop, List.length_append, List.length_cons, List.length_nil, Nat.min_self, List.take_take, lenCols_i, lenCols_b, List.drop_zero, List.take_length, Nat.add_eq, Nat.mul_eq, Nat.sub_eq, Nat.zero_add, Nat.sub_zero, Nat.mul_one]
  refine imp_i fun h0 => ?_
  try simp only [sigBitsR, iR, cB, bitsPost, List.cons.injEq, DV.b.injEq, and_true, List.length_cons, List.length_nil] at h0
  refine req_i ?_ ?_
  · -- r0
   first | omega | assumption | grind
  refine req_i ?_ ?_
  · -- r1
   decide +kernel
  refine req_i ?_ ?_
  · -- r2
   exact all01 (by decide +kernel)
  refine req_i ?_ ?_
  · -- r3
   first | exact ⟨rfl, rfl⟩ | exact ⟨rfl, by decide +kernel⟩
  rfl
theorem ext_bits2 : ∀ p ∈ ([] : List (Nat × Ext)), ExtRow Tryd.prog p.1 p.2 := by
  intro p hp
  cases hp
theorem cts_bits2 : CtsOk Tryd.prog [] := fun f c h => by cases h
theorem fn_bits2 : FnOk Tryd.prog 51 (sigBitsR 6 6 1 1) gl11 := fn_sound (by kernel_rfl) ext_bits2 cts_bits2 names vt_bits2
end Go.Proofs.YtblcahackjpnjaaDoor

namespace Go.Proofs.YtblcahackjpnjaaDoor
open Go.Ev Go.Sp
set_option maxRecDepth 100000
theorem vc_bits3 : vcFn Tryd.prog [] noA gl11 400 51 (sigBitsR 6 6 2 2) = (impB ((sigBitsR (6 : Int) (6 : Int) (2 : Int) (2 : Int)).pre [DV.n (6 : Int), DV.n (2 : Int)]) (
reqB ((63 : Nat) ≤ (1100 : Nat)) (
reqB ((bitsL 6 2).length =
 (63 : Nat)) (
reqB (∀ (y : Int),
 y ∈
 (bitsL 6 2) →
 (0 : Int) ≤ y ∧ y ≤ (1 : Int)) (
reqB ((sigBitsR (6 : Int) (6 : Int) (2 : Int) (2 : Int)).post [DV.n (6 : Int), DV.n (2 : Int)]
 [DV.l
 (bitsL 6 2),
 DV.n (0 : Int)]) (
true)))))) := by kernel_rfl
set_option maxHeartbeats 8000000 in
theorem vt_bits3 : vcFn Tryd.prog [] noA gl11 400 51 (sigBitsR 6 6 2 2) = true := by
  rw [vc_bits3]
  try simp only [Int.toNat_natCast, List.length_set, List.length_replicate, List.length_take, List.length_drop, List.length_append, List.length_cons, List.length_nil, Nat.min_self, List.take_take, lenCols_i, lenCols_b, List.drop_zero, List.take_length, Nat.add_eq, Nat.mul_eq, Nat.sub_eq, Nat.zero_add, Nat.sub_zero, Nat.mul_one]
  refine imp_i fun h0 => ?_
  try simp only [sigBitsR, iR, cB, bitsPost, List.cons.injEq, DV.b.injEq, and_true, List.length_cons, List.length_nil] at h0
  refine req_i ?_ ?_
  · -- r0
   first | omega | assumption | grind
  refine req_i ?_ ?_
  · -- r1
   decide +kernel
  refine req_i ?_ ?_
  · -- r2
   exact all01 (by decide +kernel)
  refine req_i ?_ ?_
  · -- r3
   first | exact ⟨rfl, rfl⟩ | exact ⟨rfl, by decide +kernel⟩
  rfl
theorem ext_bits3 : ∀ p ∈ ([] : List (Nat × Ext)), ExtRow Tryd.prog p.1 p.2 := by
  intro p hp
  cases hp
theorem cts_bits3 : CtsOk Tryd.prog [] := fun f c h => by cases h
theorem fn_bits3 : FnOk Tryd.prog 51 (sigBitsR 6 6 2 2) gl11 := fn_sound (by kernel_rfl) ext_bits3 cts_bits3 names vt_bits3
end Go.Proofs.YtblcahackjpnjaaDoor

namespace Go.Proofs.YtblcahackjpnjaaDoor
open Go.Ev Go.Sp
set_option maxRecDepth 100000
theorem vc_bits4 : vcFn Tryd.prog [] noA gl11 1000 51 (sigBitsR 7 7 1 1) = (impB ((sigBitsR (7 : Int) (7 : Int) (1 : Int) (1 : Int)).pre [DV.n (7 : Int), DV.n (1 : Int)]) (
reqB ((127 : Nat) ≤ (1100 : Nat)) (
reqB ((bitsL 7 1).length =
 (127 : Nat)) (
reqB (∀ (y : Int),
 y ∈
 (bitsL 7 1) →
 (0 : Int) ≤ y ∧ y ≤ (1 : Int)) (
reqB ((sigBitsR (7 : Int) (7 : Int) (1 : Int) (1 : Int)).post [DV.n (7 : Int), DV.n (1 : Int)]
 [DV.l
 (bitsL 7 1),
 DV.n (0 : Int)]) (
true)))))) := by kernel_rfl
set_option maxHeartbeats 8000000 in
theorem vt_bits4 : vcFn Tryd.prog [] noA gl11 1000 51 (sigBitsR 7 7 1 1) = true := by
  rw [vc_bits4]
  try simp only [Int.toNat_natCast, List.length_set, List.length_replicate, List.length_take, List.length_drop, List.length_append, List.length_cons, List.length_nil, Nat.min_self, List.take_take, lenCols_i, lenCols_b, List.drop_zero, List.take_length, Nat.add_eq, Nat.mul_eq, Nat.sub_eq, Nat.zero_add, Nat.sub_zero, Nat.mul_one]
  refine imp_i fun h0 => ?_
  try simp only [sigBitsR, iR, cB, bitsPost, List.cons.injEq, DV.b.injEq, and_true, List.length_cons, List.length_nil] at h0
  refine req_i ?_ ?_
  · -- r0
   first | omega | assumption | grind
  refine req_i ?_ ?_
  · -- r1
   decide +kernel
  refine req_i ?_ ?_
  · -- r2
   exact all01 (by decide +kernel)
  refine req_i ?_ ?_
  · -- r3
   first | exact ⟨rfl, rfl⟩ | exact ⟨rfl, by decide +kernel⟩
  rfl
theorem ext_bits4 : ∀ p ∈ ([] : List (Nat × Ext)), ExtRow Tryd.prog p.1 p.2 := by
  intro p hp
  cases hp
theorem cts_bits4 : CtsOk Tryd.prog [] := fun f c h => by cases h
theorem fn_bits4 : FnOk Tryd.prog 51 (sigBitsR 7 7 1 1) gl11 := fn_sound (by kernel_rfl) ext_bits4 cts_bits4 names vt_bits4
end Go.Proofs.YtblcahackjpnjaaDoor

namespace Go.Proofs.YtblcahackjpnjaaDoor
open Go.Ev Go.Sp
set_option maxRecDepth 100000
theorem vc_bits5 : vcFn Tryd.prog [] noA gl11 1000 51 (sigBitsR 7 7 2 2) = (impB ((sigBitsR (7 : Int) (7 : Int) (2 : Int) (2 : Int)).pre [DV.n (7 : Int), DV.n (2 : Int)]) (
reqB ((127 : Nat) ≤ (1100 : Nat)) (
reqB ((bitsL 7 2).length =
 (127 : Nat)) (
reqB (∀ (y : Int),
 y ∈
 (bitsL 7 2) →
 (0 : Int) ≤ y ∧ y ≤ (1 : Int)) (
reqB ((sigBitsR (7 : Int) (7 : Int) (2 : Int) (2 : Int)).post [DV.n (7 : Int), DV.n (2 : Int)]
 [DV.l
 (bitsL 7 2),
 DV.n (0 : Int)]) (
true)))))) := by kernel_rfl
set_option maxHeartbeats 8000000 in
theorem vt_bits5 : vcFn Tryd.prog [] noA gl11 1000 51 (sigBitsR 7 7 2 2) = true := by
  rw [vc_bits5]
  try simp only [Int.toNat_natCast, List.length_set, List.length_replicate, List.length_take, List.length_drop, List.length_append, List.length_cons, List.length_nil, Nat.min_self, List.take_take, lenCols_i, lenCols_b, List.drop_zero, List.take_length, Nat.add_eq, Nat.mul_eq, Nat.sub_eq, Nat.zero_add, Nat.sub_zero, Nat.mul_one]
  refine imp_i fun h0 => ?_
  try simp only [sigBitsR, iR, cB, bitsPost, List.cons.injEq, DV.b.injEq, and_true, List.length_cons, List.length_nil] at h0
  refine req_i ?_ ?_
  · -- r0
   first | omega | assumption | grind
  refine req_i ?_ ?_
  · -- r1
   decide +kernel
  refine req_i ?_ ?_
  · -- r2
   exact all01 (by decide +kernel)
  refine req_i ?_ ?_
  · -- r3
   first | exact ⟨rfl, rfl⟩ | exact ⟨rfl, by decide +kernel⟩
  rfl
theorem ext_bits5 : ∀ p ∈ ([] : List (Nat × Ext)), ExtRow Tryd.prog p.1 p.2 := by
  intro p hp
  cases hp
theorem cts_bits5 : CtsOk Tryd.prog [] := fun f c h => by cases h
theorem fn_bits5 : FnOk Tryd.prog 51 (sigBitsR 7 7 2 2) gl11 := fn_sound (by kernel_rfl) ext_bits5 cts_bits5 names vt_bits5
end Go.Proofs.YtblcahackjpnjaaDoor

namespace Go.Proofs.YtblcahackjpnjaaDoor
open Go.Ev Go.Sp
set_option maxRecDepth 100000
theorem vc_bits6 : vcFn Tryd.prog [] noA gl11 2500 51 (sigBitsR 9 9 1 1) = (impB ((sigBitsR (9 : Int) (9 : Int) (1 : Int) (1 : Int)).pre [DV.n (9 : Int), DV.n (1 : Int)]) (
reqB ((511 : Nat) ≤ (1100 : Nat)) (
reqB ((bitsL 9 1).length =
 (511 : Nat)) (
reqB (∀ (y : Int),
 y ∈
 (bitsL 9 1) →
 (0 : Int) ≤ y ∧ y ≤ (1 : Int)) (
reqB ((sigBitsR (9 : Int) (9 : Int) (1 : Int) (1 : Int)).post [DV.n (9 : Int), DV.n (1 : Int)]
 [DV.l
 (bitsL 9 1),
 DV.n (0 : Int)]) (
true)))))) := by kernel_rfl
set_option maxHeartbeats 8000000 in
theorem vt_bits6 : vcFn Tryd.prog [] noA gl11 2500 51 (sigBitsR 9 9 1 1) = true := by
  rw [vc_bits6]
  try simp only [Int.toNat_natCast, List.length_set, List.length_replicate, List.length_take, List.length_drop, List.length_append, List.length_cons, List.length_nil, Nat.min_self, List.take_take, lenCols_i, lenCols_b, List.drop_zero, List.take_length, Nat.add_eq, Nat.mul_eq, Nat.sub_eq, Nat.zero_add, Nat.sub_zero, Nat.mul_one]
  refine imp_i fun h0 => ?_
  try simp only [sigBitsR, iR, cB, bitsPost, List.cons.injEq, DV.b.injEq, and_true, List.length_cons, List.length_nil] at h0
  refine req_i ?_ ?_
  · -- r0
   first | omega | assumption | grind
  refine req_i ?_ ?_
  · -- r1
   decide +kernel
  refine req_i ?_ ?_
  · -- r2
   exact all01 (by decide +kernel)
  refine req_i ?_ ?_
  · -- r3
   first | exact ⟨rfl, rfl⟩ | exact ⟨rfl, by decide +kernel⟩
  rfl
theorem ext_bits6 : ∀ p ∈ ([] : List (Nat × Ext)), ExtRow Tryd.prog p.1 p.2 := by
  intro p hp
  cases hp
theorem cts_bits6 : CtsOk Tryd.prog [] := fun f c h => by cases h
theorem fn_bits6 : FnOk Tryd.prog 51 (sigBitsR 9 9 1 1) gl11 := fn_sound (by kernel_rfl) ext_bits6 cts_bits6 names vt_bits6
end Go.Proofs.YtblcahackjpnjaaDoor

namespace Go.Proofs.YtblcahackjpnjaaDoor
open Go.Ev Go.Sp
set_option maxRecDepth 100000
theorem vc_bits7 : vcFn Tryd.prog [] noA gl11 2500 51 (sigBitsR 9 9 2 2) = (impB ((sigBitsR (9 : Int) (9 : Int) (2 : Int) (2 : Int)).pre [DV.n (9 : Int), DV.n (2 : Int)]) (
reqB ((511 : Nat) ≤ (1100 : Nat)) (
reqB ((bitsL 9 2).length =
 (511 : Nat)) (
reqB (∀ (y : Int),
 y ∈
 (bitsL 9 2) →
 (0 : Int) ≤ y ∧ y ≤ (1 : Int)) (
reqB ((sigBitsR (9 : Int) (9 : Int) (2 : Int) (2 : Int)).post [DV.n (9 : Int), DV.n (2 : Int)]
 [DV.l
 (bitsL 9 2),
 DV.n (0 : Int)]) (
true)))))) := by kernel_rfl
set_option maxHeartbeats 8000000 in
theorem vt_bits7 : vcFn Tryd.prog [] noA gl11 2500 51 (sigBitsR 9 9 2 2) = true := by
  rw [vc_bits7]
  try simp only [Int.toNat_natCast, List.length_set, List.length_replicate, List.length_take, List.length_drop, List.length_append, List.length_cons, List.length_nil, Nat.min_self, List.take_take, lenCols_i, lenCols_b, List.drop_zero, List.take_length, Nat.add_eq, Nat.mul_eq, Nat.sub_eq, Nat.zero_add, Nat.sub_zero, Nat.mul_one]
  refine imp_i fun h0 => ?_
  try simp only [sigBitsR, iR, cB, bitsPost, List.cons.injEq, DV.b.injEq, and_true, List.length_cons, List.length_nil] at h0
  refine req_i ?_ ?_
  · -- r0
   first | omega | assumption | grind
  refine req_i ?_ ?_
  · -- r1
   decide +kernel
  refine req_i ?_ ?_
  · -- r2
   exact all01 (by decide +kernel)
  refine req_i ?_ ?_
  · -- r3
   first | exact ⟨rfl, rfl⟩ | exact ⟨rfl, by decide +kernel⟩
  rfl
theorem ext_bits7 : ∀ p ∈ ([] : List (Nat × Ext)), ExtRow Tryd.prog p.1 p.2 := by
  intro p hp
  cases hp
theorem cts_bits7 : CtsOk Tryd.prog [] := fun f c h => by cases h
theorem fn_bits7 : FnOk Tryd.prog 51 (sigBitsR 9 9 2 2) gl11 := fn_sound (by kernel_rfl) ext_bits7 cts_bits7 names vt_bits7
end Go.Proofs.YtblcahackjpnjaaDoor

namespace Go.Proofs.YtblcahackjpnjaaDoor
open Go.Ev Go.Sp
set_option maxRecDepth 100000
theorem vc_bits8 : vcFn Tryd.prog [] noA gl11 4000 51 (sigBitsR 10 10 1 1) = (impB ((sigBitsR (10 : Int) (10 : Int) (1 : Int) (1 : Int)).pre [DV.n (10 : Int), DV.n (1 : Int)]) (
reqB ((1023 : Nat) ≤ (1100 : Nat)) (
reqB ((bitsL 10 1).length =
 (1023 : Nat)) (
reqB (∀ (y : Int),
 y ∈
 (bitsL 10 1) →
 (0 : Int) ≤ y ∧ y ≤ (1 : Int)) (
reqB ((sigBitsR (10 : Int) (10 : Int) (1 : Int) (1 : Int)).post [DV.n (10 : Int), DV.n (1 : Int)]
 [DV.l
 (bitsL 10 1),
 DV.n (0 : Int)]) (
true)))))) := by kernel_rfl
set_option maxHeartbeats 8000000 in
theorem vt_bits8 : vcFn Tryd.prog [] noA gl11 4000 51 (sigBitsR 10 10 1 1) = true := by
  rw [vc_bits8]
  try simp only [Int.toNat_natCast, List.length_set, List.length_replicate, List.length_take, List.length_drop, List.length_append, List.length_cons, List.length_nil, Nat.min_self, List.take_take, lenCols_i, lenCols_b, List.drop_zero, List.take_length, Nat.add_eq, Nat.mul_eq, Nat.sub_eq, Nat.zero_add, Nat.sub_zero, Nat.mul_one]
  refine imp_i fun h0 => ?_
  try simp only [sigBitsR, iR, cB, bitsPost, List.cons.injEq, DV.b.injEq, and_true, List.length_cons, List.length_nil] at h0
  refine req_i ?_ ?_
  · -- r0
   first | omega | assumption | grind
  refine req_i ?_ ?_
  · -- r1
   decide +kernel
  refine req_i ?_ ?_
  · -- r2
   exact all01 (by decide +kernel)
  refine req_i ?_ ?_
  · -- r3
   first | exact ⟨rfl, rfl⟩ | exact ⟨rfl, by decide +kernel⟩
  rfl
theorem ext_bits8 : ∀ p ∈ ([] : List (Nat × Ext)), ExtRow Tryd.prog p.1 p.2 := by
  intro p hp
  cases hp
theorem cts_bits8 : CtsOk Tryd.prog [] := fun f c h => by cases h
theorem fn_bits8 : FnOk Tryd.prog 51 (sigBitsR 10 10 1 1) gl11 := fn_sound (by kernel_rfl) ext_bits8 cts_bits8 names vt_bits8
end Go.Proofs.YtblcahackjpnjaaDoor

namespace Go.Proofs.YtblcahackjpnjaaDoor
open Go.Ev Go.Sp
set_option maxRecDepth 100000
theorem vc_bits9 : vcFn Tryd.prog [] noA gl11 4000 51 (sigBitsR 10 10 2 2) = (impB ((sigBitsR (10 : Int) (10 : Int) (2 : Int) (2 : Int)).pre [DV.n (10 : Int), DV.n (2 : Int)]) (
reqB ((1023 : Nat) ≤ (1100 : Nat)) (
reqB ((bitsL 10 2).length =
 (1023 : Nat)) (
reqB (∀ (y : Int),
 y ∈
 (bitsL 10 2) →
 (0 : Int) ≤ y ∧ y ≤ (1 : Int)) (
reqB ((sigBitsR (10 : Int) (10 : Int) (2 : Int) (2 : Int)).post [DV.n (10 : Int), DV.n (2 : Int)]
 [DV.l
 (bitsL 10 2),
 DV.n (0 : Int)]) (
true)))))) := by kernel_rfl
set_option maxHeartbeats 8000000 in
theorem vt_bits9 : vcFn Tryd.prog [] noA gl11 4000 51 (sigBitsR 10 10 2 2) = true := by
  rw [vc_bits9]
  try simp only [Int.toNat_natCast, List.length_set, List.length_replicate, List.length_take, List.length_drop, List.length_append, List.length_cons, List.length_nil, Nat.min_self, List.take_take, lenCols_i, lenCols_b, List.drop_zero, List.take_length, Nat.add_eq, Nat.mul_eq, Nat.sub_eq, Nat.zero_add, Nat.sub_zero, Nat.mul_one]
  refine imp_i fun h0 => ?_
  try simp only [sigBitsR, iR, cB, bitsPost, List.cons.injEq, DV.b.injEq, and_true, List.length_cons, List.length_nil] at h0
  refine req_i ?_ ?_
  · -- r0
   first | omega | assumption | grind
  refine req_i ?_ ?_
  · -- r1
   decide +kernel
  refine req_i ?_ ?_
  · -- r2
   exact all01 (by decide +kernel)
  refine req_i ?_ ?_
  · -- r3
   first | exact ⟨rfl, rfl⟩ | exact ⟨rfl, by decide +kernel⟩
  rfl
theorem ext_bits9 : ∀ p ∈ ([] : List (Nat × Ext)), ExtRow Tryd.prog p.1 p.2 := by
  intro p hp
  cases hp
theorem cts_bits9 : CtsOk Tryd.prog [] := fun f c h => by cases h
theorem fn_bits9 : FnOk Tryd.prog 51 (sigBitsR 10 10 2 2) gl11 := fn_sound (by kernel_rfl) ext_bits9 cts_bits9 names vt_bits9
end Go.Proofs.YtblcahackjpnjaaDoor

namespace Go.Proofs.YtblcahackjpnjaaDoor
open Go.Ev Go.Sp
set_option maxRecDepth 100000
theorem vc_bits10 : vcFn Tryd.prog [] noA gl11 100 51 (sigBitsR (-9223372036854775808) 4 (-9223372036854775808) 9223372036854775807) = (allB fun n0 : Int => 
impB ((-9223372036854775808 : Int) ≤ n0) (
impB (n0 ≤ (4 : Int)) (
allB fun n1 : Int => 
impB ((-9223372036854775808 : Int) ≤ n1) (
impB (n1 ≤ (9223372036854775807 : Int)) (
impB ((sigBitsR (-9223372036854775808 : Int) (4 : Int) (-9223372036854775808 : Int) (9223372036854775807 : Int)).pre
 [DV.n n0, DV.n n1]) (
reqB ((sigBitsR (-9223372036854775808 : Int) (4 : Int) (-9223372036854775808 : Int) (9223372036854775807 : Int)).post
 [DV.n n0, DV.n n1] [DV.l [], DV.n (2 : Int)]) (
true))))))) := by kernel_rfl
set_option maxHeartbeats 8000000 in
theorem vt_bits10 : vcFn Tryd.prog [] noA gl11 100 51 (sigBitsR (-9223372036854775808) 4 (-9223372036854775808) 9223372036854775807) = true := by
  rw [vc_bits10]
  try simp only [Int.toNat_natCast, List.length_set, List.length_replicate, List.length_take, List.length_drop, List.length_append, List.length_cons, List.length_nil, Nat.min_self, List.take_take, lenCols_i, lenCols_b, List.drop_zero, List.take_length, Nat.add_eq, Nat.mul_eq, Nat.sub_eq, Nat.zero_add, Nat.sub_zero, Nat.mul_one]
  refine all_i fun n0 => ?_
  refine imp_i fun h0 => ?_
  refine imp_i fun h1 => ?_
  refine all_i fun n1 => ?_
  refine imp_i fun h2 => ?_
  refine imp_i fun h3 => ?_
  refine imp_i fun h4 => ?_
  try simp only [sigBitsR, iR, cB, bitsPost, List.cons.injEq, DV.b.injEq, and_true, List.length_cons, List.length_nil] at h4
  refine req_i ?_ ?_
  · -- r0
   (simp only [sigBitsR, bitsPost, sigTapsR, tapsPost, sigLenR, lenPost]; exact ite_no (by unfold okD; omega) (by simp))
  rfl
theorem ext_bits10 : ∀ p ∈ ([] : List (Nat × Ext)), ExtRow Tryd.prog p.1 p.2 := by
  intro p hp
  cases hp
theorem cts_bits10 : CtsOk Tryd.prog [] := fun f c h => by cases h
theorem fn_bits10 : FnOk Tryd.prog 51 (sigBitsR (-9223372036854775808) 4 (-9223372036854775808) 9223372036854775807) gl11 := fn_sound (by kernel_rfl) ext_bits10 cts_bits10 names vt_bits10
end Go.Proofs.YtblcahackjpnjaaDoor

namespace Go.Proofs.YtblcahackjpnjaaDoor
open Go.Ev Go.Sp
set_option maxRecDepth 100000
theorem vc_bits11 : vcFn Tryd.prog [] noA gl11 100 51 (sigBitsR 8 8 (-9223372036854775808) 9223372036854775807) = (allB fun n0 : Int => 
impB ((-9223372036854775808 : Int) ≤ n0) (
impB (n0 ≤ (9223372036854775807 : Int)) (
impB ((sigBitsR (8 : Int) (8 : Int) (-9223372036854775808 : Int) (9223372036854775807 : Int)).pre
 [DV.n (8 : Int), DV.n n0]) (
reqB ((sigBitsR (8 : Int) (8 : Int) (-9223372036854775808 : Int) (9223372036854775807 : Int)).post
 [DV.n (8 : Int), DV.n n0] [DV.l [], DV.n (2 : Int)]) (
true))))) := by kernel_rfl
set_option maxHeartbeats 8000000 in
theorem vt_bits11 : vcFn Tryd.prog [] noA gl11 100 51 (sigBitsR 8 8 (-9223372036854775808) 9223372036854775807) = true := by
  rw [vc_bits11]
  try simp only [Int.toNat_natCast, List.length_set, List.length_replicate, List.length_take, List.length_drop, List.length_append, List.length_cons, List.length_nil, Nat.min_self, List.take_take, lenCols_i, lenCols_b, List.drop_zero, List.take_length, Nat.add_eq, Nat.mul_eq, Nat.sub_eq, Nat.zero_add, Nat.sub_zero, Nat.mul_one]
  refine all_i fun n0 => ?_
  refine imp_i fun h0 => ?_
  refine imp_i fun h1 => ?_
  refine imp_i fun h2 => ?_
  try simp only [sigBitsR, iR, cB, bitsPost, List.cons.injEq, DV.b.injEq, and_true, List.length_cons, List.length_nil] at h2
  refine req_i ?_ ?_
  · -- r0
   (simp only [sigBitsR, bitsPost, sigTapsR, tapsPost, sigLenR, lenPost]; exact ite_no (by unfold okD; omega) (by simp))
  rfl
theorem ext_bits11 : ∀ p ∈ ([] : List (Nat × Ext)), ExtRow Tryd.prog p.1 p.2 := by
  intro p hp
  cases hp
theorem cts_bits11 : CtsOk Tryd.prog [] := fun f c h => by cases h
theorem fn_bits11 : FnOk Tryd.prog 51 (sigBitsR 8 8 (-9223372036854775808) 9223372036854775807) gl11 := fn_sound (by kernel_rfl) ext_bits11 cts_bits11 names vt_bits11
end Go.Proofs.YtblcahackjpnjaaDoor

namespace Go.Proofs.YtblcahackjpnjaaDoor
open Go.Ev Go.Sp
set_option maxRecDepth 100000
theorem vc_bits12 : vcFn Tryd.prog [] noA gl11 100 51 (sigBitsR 11 9223372036854775807 (-9223372036854775808) 9223372036854775807) = (allB fun n0 : Int => 
impB ((11 : Int) ≤ n0) (
impB (n0 ≤ (9223372036854775807 : Int)) (
allB fun n1 : Int => 
impB ((-9223372036854775808 : Int) ≤ n1) (
impB (n1 ≤ (9223372036854775807 : Int)) (
impB ((sigBitsR (11 : Int) (9223372036854775807 : Int) (-9223372036854775808 : Int) (9223372036854775807 : Int)).pre
 [DV.n n0, DV.n n1]) (
reqB ((sigBitsR (11 : Int) (9223372036854775807 : Int) (-9223372036854775808 : Int) (9223372036854775807 : Int)).post
 [DV.n n0, DV.n n1] [DV.l [], DV.n (2 : Int)]) (
true))))))) := by kernel_rfl
set_option maxHeartbeats 8000000 in
theorem vt_bits12 : vcFn Tryd.prog [] noA gl11 100 51 (sigBitsR 11 9223372036854775807 (-9223372036854775808) 9223372036854775807) = true := by
  rw [vc_bits12]
  try simp only [Int.toNat_natCast, List.length_set, List.length_replicate, List.length_take, List.length_drop, List.length_append, List.length_cons, List.length_nil, Nat.min_self, List.take_take, lenCols_i, lenCols_b, List.drop_zero, List.take_length, Nat.add_eq, Nat.mul_eq, Nat.sub_eq, Nat.zero_add, Nat.sub_zero, Nat.mul_one]
  refine all_i fun n0 => ?_
  refine imp_i fun h0 => ?_
  refine imp_i fun h1 => ?_
  refine all_i fun n1 => ?_
  refine imp_i fun h2 => ?_
  refine imp_i fun h3 => ?_
  refine imp_i fun h4 => ?_
  try simp only [sigBitsR, iR, cB, bitsPost, List.cons.injEq, DV.b.injEq, and_true, List.length_cons, List.length_nil] at h4
  refine req_i ?_ ?_
  · -- r0
   (simp only [sigBitsR, bitsPost, sigTapsR, tapsPost, sigLenR, lenPost]; exact ite_no (by unfold okD; omega) (by simp))
  rfl
theorem ext_bits12 : ∀ p ∈ ([] : List (Nat × Ext)), ExtRow Tryd.prog p.1 p.2 := by
  intro p hp
  cases hp
theorem cts_bits12 : CtsOk Tryd.prog [] := fun f c h => by cases h
theorem fn_bits12 : FnOk Tryd.prog 51 (sigBitsR 11 9223372036854775807 (-9223372036854775808) 9223372036854775807) gl11 := fn_sound (by kernel_rfl) ext_bits12 cts_bits12 names vt_bits12
end Go.Proofs.YtblcahackjpnjaaDoor

namespace Go.Proofs.YtblcahackjpnjaaDoor
open Go.Ev Go.Sp
set_option maxRecDepth 100000
theorem vc_bits13 : vcFn Tryd.prog [] noA gl11 100 51 (sigBitsR 5 10 (-9223372036854775808) 0) = (allB fun n0 : Int => 
impB ((5 : Int) ≤ n0) (
impB (n0 ≤ (10 : Int)) (
allB fun n1 : Int => 
impB ((-9223372036854775808 : Int) ≤ n1) (
impB (n1 ≤ (0 : Int)) (
impB ((sigBitsR (5 : Int) (10 : Int) (-9223372036854775808 : Int) (0 : Int)).pre [DV.n n0, DV.n n1]) (
bR (dec ((5 : Int) = n0)) (
 reqB ((sigBitsR (5 : Int) (10 : Int) (-9223372036854775808 : Int) (0 : Int)).post [DV.n n0, DV.n n1]
 [DV.l [], DV.n (2 : Int)]) (
 true)) (
 bR (dec ((6 : Int) = n0)) (
 reqB ((sigBitsR (5 : Int) (10 : Int) (-9223372036854775808 : Int) (0 : Int)).post [DV.n n0, DV.n n1]
 [DV.l [], DV.n (2 : Int)]) (
 true)) (
 bR (dec ((7 : Int) = n0)) (
 reqB ((sigBitsR (5 : Int) (10 : Int) (-9223372036854775808 : Int) (0 : Int)).post [DV.n n0, DV.n n1]
 [DV.l [], DV.n (2 : Int)]) (
 true)) (
 bR (dec ((9 : Int) = n0)) (
 reqB ((sigBitsR (5 : Int) (10 : Int) (-9223372036854775808 : Int) (0 : Int)).post [DV.n n0, DV.n n1]
 [DV.l [], DV.n (2 : Int)]) (
 true)) (
 bR (dec ((10 : Int) = n0)) (
 reqB ((sigBitsR (5 : Int) (10 : Int) (-9223372036854775808 : Int) (0 : Int)).post [DV.n n0, DV.n n1]
 [DV.l [], DV.n (2 : Int)]) (
 true)) (
 reqB ((sigBitsR (5 : Int) (10 : Int) (-9223372036854775808 : Int) (0 : Int)).post [DV.n n0, DV.n n1]
 [DV.l [], DV.n (2 : Int)]) (
 true)))))))))))) := by kernel_rfl
set_option maxHeartbeats 8000000 in
theorem vt_bits13 : vcFn Tryd.prog [] noA gl11 100 51 (sigBitsR 5 10 (-9223372036854775808) 0) = true := by
  rw [vc_bits13]
  try simp only [Int.toNat_natCast, List.length_set, List.length_replicate, List.length_take, List.length_drop, List.length_append, List.length_cons, List.length_nil, Nat.min_self, List.take_take, lenCols_i, lenCols_b, List.drop_zero, List.take_length, Nat.add_eq, Nat.mul_eq, Nat.sub_eq, Nat.zero_add, Nat.sub_zero, Nat.mul_one]
  refine all_i fun n0 => ?_
  refine imp_i fun h0 => ?_
  refine imp_i fun h1 => ?_
  refine all_i fun n1 => ?_
  refine imp_i fun h2 => ?_
  refine imp_i fun h3 => ?_
  refine imp_i fun h4 => ?_
  try simp only [sigBitsR, iR, cB, bitsPost, List.cons.injEq, DV.b.injEq, and_true, List.length_cons, List.length_nil] at h4
  refine bR_dec (fun h5 => ?_) (fun h5 => ?_)
  ·
   refine req_i ?_ ?_
   · -- r0
    (simp only [sigBitsR, bitsPost, sigTapsR, tapsPost, sigLenR, lenPost]; exact ite_no (by unfold okD; omega) (by simp))
   rfl
  ·
   refine bR_dec (fun h6 => ?_) (fun h6 => ?_)
   ·
    refine req_i ?_ ?_
    · -- r1
     (simp only [sigBitsR, bitsPost, sigTapsR, tapsPost, sigLenR, lenPost]; exact ite_no (by unfold okD; omega) (by simp))
    rfl
   ·
    refine bR_dec (fun h7 => ?_) (fun h7 => ?_)
    ·
     refine req_i ?_ ?_
     · -- r2
      (simp only [sigBitsR, bitsPost, sigTapsR, tapsPost, sigLenR, lenPost]; exact ite_no (by unfold okD; omega) (by simp))
     rfl
    ·
     refine bR_dec (fun h8 => ?_) (fun h8 => ?_)
     ·
      refine req_i ?_ ?_
      · -- r3
       (simp only [sigBitsR, bitsPost, sigTapsR, tapsPost, sigLenR, lenPost]; exact ite_no (by unfold okD; omega) (by simp))
      rfl
     ·
      refine bR_dec (fun h9 => ?_) (fun h9 => ?_)
      ·
       refine req_i ?_ ?_
       · -- r4
        (simp only [sigBitsR, bitsPost, sigTapsR, tapsPost, sigLenR, lenPost]; exact ite_no (by unfold okD; omega) (by simp))
       rfl
      ·
       refine req_i ?_ ?_
       · -- r5
        (simp only [sigBitsR, bitsPost, sigTapsR, tapsPost, sigLenR, lenPost]; exact ite_no (by unfold okD; omega) (by simp))
       rfl
theorem ext_bits13 : ∀ p ∈ ([] : List (Nat × Ext)), ExtRow Tryd.prog p.1 p.2 := by
  intro p hp
  cases hp
theorem cts_bits13 : CtsOk Tryd.prog [] := fun f c h => by cases h
theorem fn_bits13 : FnOk Tryd.prog 51 (sigBitsR 5 10 (-9223372036854775808) 0) gl11 := fn_sound (by kernel_rfl) ext_bits13 cts_bits13 names vt_bits13
end Go.Proofs.YtblcahackjpnjaaDoor

namespace Go.Proofs.YtblcahackjpnjaaDoor
open Go.Ev Go.Sp
set_option maxRecDepth 100000
theorem vc_bits14 : vcFn Tryd.prog [] noA gl11 100 51 (sigBitsR 5 10 3 9223372036854775807) = (allB fun n0 : Int => 
impB ((5 : Int) ≤ n0) (
impB (n0 ≤ (10 : Int)) (
allB fun n1 : Int => 
impB ((3 : Int) ≤ n1) (
impB (n1 ≤ (9223372036854775807 : Int)) (
impB ((sigBitsR (5 : Int) (10 : Int) (3 : Int) (9223372036854775807 : Int)).pre [DV.n n0, DV.n n1]) (
bR (dec ((5 : Int) = n0)) (
 reqB ((sigBitsR (5 : Int) (10 : Int) (3 : Int) (9223372036854775807 : Int)).post [DV.n n0, DV.n n1]
 [DV.l [], DV.n (2 : Int)]) (
 true)) (
 bR (dec ((6 : Int) = n0)) (
 reqB ((sigBitsR (5 : Int) (10 : Int) (3 : Int) (9223372036854775807 : Int)).post [DV.n n0, DV.n n1]
 [DV.l [], DV.n (2 : Int)]) (
 true)) (
 bR (dec ((7 : Int) = n0)) (
 reqB ((sigBitsR (5 : Int) (10 : Int) (3 : Int) (9223372036854775807 : Int)).post [DV.n n0, DV.n n1]
 [DV.l [], DV.n (2 : Int)]) (
 true)) (
 bR (dec ((9 : Int) = n0)) (
 reqB ((sigBitsR (5 : Int) (10 : Int) (3 : Int) (9223372036854775807 : Int)).post [DV.n n0, DV.n n1]
 [DV.l [], DV.n (2 : Int)]) (
 true)) (
 bR (dec ((10 : Int) = n0)) (
 reqB ((sigBitsR (5 : Int) (10 : Int) (3 : Int) (9223372036854775807 : Int)).post [DV.n n0, DV.n n1]
 [DV.l [], DV.n (2 : Int)]) (
 true)) (
 reqB ((sigBitsR (5 : Int) (10 : Int) (3 : Int) (9223372036854775807 : Int)).post [DV.n n0, DV.n n1]
 [DV.l [], DV.n (2 : Int)]) (
 true)))))))))))) := by kernel_rfl
set_option maxHeartbeats 8000000 in
theorem vt_bits14 : vcFn Tryd.prog [] noA gl11 100 51 (sigBitsR 5 10 3 9223372036854775807) = true := by
  rw [vc_bits14]
  try simp only [Int.toNat_natCast, List.length_set, List.length_replicate, List.length_take, List.length_drop, List.length_append, List.length_cons, List.length_nil, Nat.min_self, List.take_take, lenCols_i, lenCols_b, List.drop_zero, List.take_length, Nat.add_eq, Nat.mul_eq, Nat.sub_eq, Nat.zero_add, Nat.sub_zero, Nat.mul_one]
  refine all_i fun n0 => ?_
  refine imp_i fun h0 => ?_
  refine imp_i fun h1 => ?_
  refine all_i fun n1 => ?_
  refine imp_i fun h2 => ?_
  refine imp_i fun h3 => ?_
  refine imp_i fun h4 => ?_
  try simp only [sigBitsR, iR, cB, bitsPost, List.cons.injEq, DV.b.injEq, and_true, List.length_cons, List.length_nil] at h4
  refine bR_dec (fun h5 => ?_) (fun h5 => ?_)
  ·
   refine req_i ?_ ?_
   · -- r0
    (simp only [sigBitsR, bitsPost, sigTapsR, tapsPost, sigLenR, lenPost]; exact ite_no (by unfold okD; omega) (by simp))
   rfl
  ·
   refine bR_dec (fun h6 => ?_) (fun h6 => ?_)
   ·
    refine req_i ?_ ?_
    · -- r1
     (simp only [sigBitsR, bitsPost, sigTapsR, tapsPost, sigLenR, lenPost]; exact ite_no (by unfold okD; omega) (by simp))
    rfl
   ·
    refine bR_dec (fun h7 => ?_) (fun h7 => ?_)
    ·
     refine req_i ?_ ?_
     · -- r2
      (simp only [sigBitsR, bitsPost, sigTapsR, tapsPost, sigLenR, lenPost]; exact ite_no (by unfold okD; omega) (by simp))
     rfl
    ·
     refine bR_dec (fun h8 => ?_) (fun h8 => ?_)
     ·
      refine req_i ?_ ?_
      · -- r3
       (simp only [sigBitsR, bitsPost, sigTapsR, tapsPost, sigLenR, lenPost]; exact ite_no (by unfold okD; omega) (by simp))
      rfl
     ·
      refine bR_dec (fun h9 => ?_) (fun h9 => ?_)
      ·
       refine req_i ?_ ?_
       · -- r4
        (simp only [sigBitsR, bitsPost, sigTapsR, tapsPost, sigLenR, lenPost]; exact ite_no (by unfold okD; omega) (by simp))
       rfl
      ·
       refine req_i ?_ ?_
       · -- r5
        (simp only [sigBitsR, bitsPost, sigTapsR, tapsPost, sigLenR, lenPost]; exact ite_no (by unfold okD; omega) (by simp))
       rfl
theorem ext_bits14 : ∀ p ∈ ([] : List (Nat × Ext)), ExtRow Tryd.prog p.1 p.2 := by
  intro p hp
  cases hp
theorem cts_bits14 : CtsOk Tryd.prog [] := fun f c h => by cases h
theorem fn_bits14 : FnOk Tryd.prog 51 (sigBitsR 5 10 3 9223372036854775807) gl11 := fn_sound (by kernel_rfl) ext_bits14 cts_bits14 names vt_bits14
end Go.Proofs.YtblcahackjpnjaaDoor

namespace Go.Proofs.YtblcahackjpnjaaDoor
open Go.Ev Go.Sp
theorem fn_bits : FnOk Tryd.prog 51 sigBits gl11 := by
  exact (fn_cover covG covG_ok fun t ht => by
    simp only [covG, List.mem_cons, List.not_mem_nil, or_false] at ht
    rcases ht with rfl | rfl | rfl | rfl | rfl | rfl | rfl | rfl | rfl | rfl | rfl | rfl | rfl | rfl | rfl
    · exact fn_bits0
    · exact fn_bits1
    · exact fn_bits2
    · exact fn_bits3
    · exact fn_bits4
    · exact fn_bits5
    · exact fn_bits6
    · exact fn_bits7
    · exact fn_bits8
    · exact fn_bits9
    · exact fn_bits10
    · exact fn_bits11
    · exact fn_bits12
    · exact fn_bits13
    · exact fn_bits14)
end Go.Proofs.YtblcahackjpnjaaDoor

namespace Go.Proofs.YtblcahackjpnjaaDoor
open Go.Ev Go.Sp
set_option maxRecDepth 100000
theorem vc_codeF : vcFn Tryd.prog [] (fun f p _ => at2 f p 52 58 codeFL (none)) gl11 100 52 sigCodeF = (allB fun l0 : List Int => 
impB (l0.length ≤ (1100 : Nat)) (
impB (∀ (y : Int), y ∈ l0 → (0 : Int) ≤ y ∧ y ≤ (1 : Int)) (
allB fun l1 : List Int => 
impB (l1.length ≤ (1100 : Nat)) (
impB (∀ (y : Int), y ∈ l1 → (0 : Int) ≤ y ∧ y ≤ (1 : Int)) (
allB fun n2 : Int => 
impB ((1 : Int) ≤ n2) (
impB (n2 ≤ (1100 : Int)) (
impB (sigCodeF.pre [DV.l l0, DV.l l1, DV.n n2]) (
reqB ((↑l0.length : Int).toNat ≤ (↑l0.length : Int).toNat) (
reqB ((↑l0.length : Int).toNat ≤ (1000000 : Nat)) (
reqB (((0 : Nat) + l0.length) * (1 : Nat) ≤ l0.length.mul (1 : Nat)) (
reqB (l0.length ≤ (1100 : Nat)) (
reqB ((List.take l0.length (List.drop (0 : Nat) l0)).length = l0.length) (
reqB (∀ (y : Int), y ∈ List.take l0.length (List.drop (0 : Nat) l0) → (0 : Int) ≤ y ∧ y ≤ (1 : Int)) (
reqB (((0 : Nat) + l1.length) * (1 : Nat) ≤ l1.length.mul (1 : Nat)) (
reqB (l1.length ≤ (1100 : Nat)) (
reqB ((List.take l1.length (List.drop (0 : Nat) l1)).length = l1.length) (
reqB (∀ (y : Int), y ∈ List.take l1.length (List.drop (0 : Nat) l1) → (0 : Int) ≤ y ∧ y ≤ (1 : Int)) (
reqB ((1 : Int) ≤ n2) (
reqB (n2 ≤ (1100 : Int)) (
reqB (lenCols
 [Col.i Go.IntKind.i64 (Int.negSucc (9223372036854775807 : Nat)) (Int.ofNat (9223372036854775807 : Nat))
 (List.replicate (↑l0.length : Int).toNat (0 : Int))] ≤
 (1000000 : Nat)) (
reqB ((List.replicate (↑l0.length : Int).toNat (0 : Int)).length =
 lenCols
 [Col.i Go.IntKind.i64 (Int.negSucc (9223372036854775807 : Nat)) (Int.ofNat (9223372036854775807 : Nat))
 (List.replicate (↑l0.length : Int).toNat (0 : Int))]) (
reqB (∀ (y : Int),
 y ∈ List.replicate (↑l0.length : Int).toNat (0 : Int) →
 (-9223372036854775808 : Int) ≤ y ∧ y ≤ (9223372036854775807 : Int)) (
reqB (codeFL.inv
 [DV.l (List.take l0.length (List.drop (0 : Nat) l0)), DV.l (List.take l1.length (List.drop (0 : Nat) l1)),
 DV.n n2]
 [DV.n (0 : Int), DV.l (List.replicate (↑l0.length : Int).toNat (0 : Int))]) (
allB fun n3 : Int => 
impB ((0 : Int) ≤ n3) (
impB (n3 ≤ (1100 : Int)) (
allB fun l4 : List Int => 
impB (l4.length ≤ (1000000 : Nat)) (
impB (∀ (y : Int), y ∈ l4 → (-9223372036854775808 : Int) ≤ y ∧ y ≤ (9223372036854775807 : Int)) (
impB (codeFL.inv
 [DV.l (List.take l0.length (List.drop (0 : Nat) l0)), DV.l (List.take l1.length (List.drop (0 : Nat) l1)),
 DV.n n2]
 [DV.n n3, DV.l l4]) (
bR (dec (n3 < (↑(↑l0.length : Int).toNat : Int))) (
 reqB (n3.toNat < l0.length) (
 reqB (Nat.add (0 : Nat) n3.toNat < l0.length) (
 bR (dec (n2 = (2 : Int))) (
 reqB (n3.toNat < l1.length) (
 reqB (Nat.add (0 : Nat) n3.toNat < l1.length) (
 reqB (n3.toNat < (↑l0.length : Int).toNat) (
 reqB (Nat.add (0 : Nat) n3.toNat < l4.length) (
 bR (bR (bR (dec ((0 : Nat) = (0 : Nat))) (
 dec (l0.length = l0.length)) (
 false)) (
 bR (bR (dec ((0 : Nat) = (0 : Nat))) (
 dec (l1.length = l1.length)) (
 false)) (
 bR (dec (n2 = n2)) (
 bR (bR (dec ((0 : Nat) = (0 : Nat))) (
 dec ((↑l0.length : Int).toNat = (↑l0.length : Int).toNat)) (
 false)) (
 bR (bR (dec ((0 : Nat) = (0 : Nat))) (
 dec ((↑l0.length : Int).toNat = (↑l0.length : Int).toNat)) (
 false)) (
 bR (dec ((↑(↑l0.length : Int).toNat : Int) = (↑(↑l0.length : Int).toNat : Int))) (
 true) (
 false)) (
 false)) (
 false)) (
 false)) (
 false)) (
 false)) (
 reqB ((0 : Int) ≤ n3 + (1 : Int)) (
 reqB (n3 + (1 : Int) ≤ (1100 : Int)) (
 reqB (lenCols
 [Col.i Go.IntKind.i64 (-9223372036854775808 : Int) (9223372036854775807 : Int)
 (l4.set (Nat.add (0 : Nat) n3.toNat)
 ((1 : Int) - (2 : Int) * l1.getD (Nat.add (0 : Nat) n3.toNat) (0 : Int)))] ≤
 (1000000 : Nat)) (
 reqB ((l4.set (Nat.add (0 : Nat) n3.toNat) ((1 : Int) - (2 : Int) * l1.getD (Nat.add (0 : Nat) n3.toNat) (0 : Int))).length =
 lenCols
 [Col.i Go.IntKind.i64 (-9223372036854775808 : Int) (9223372036854775807 : Int)
 (l4.set (Nat.add (0 : Nat) n3.toNat) ((1 : Int) - (2 : Int) * l1.getD (Nat.add (0 : Nat) n3.toNat) (0 : Int)))]) (
 reqB (∀ (y : Int),
 y ∈ l4.set (Nat.add (0 : Nat) n3.toNat) ((1 : Int) - (2 : Int) * l1.getD (Nat.add (0 : Nat) n3.toNat) (0 : Int)) →
 (-9223372036854775808 : Int) ≤ y ∧ y ≤ (9223372036854775807 : Int)) (
 reqB (codeFL.inv
 [DV.l (List.take l0.length (List.drop (0 : Nat) l0)), DV.l (List.take l1.length (List.drop (0 : Nat) l1)),
 DV.n n2]
 [DV.n (n3 + (1 : Int)),
 DV.l
 (l4.set (Nat.add (0 : Nat) n3.toNat) ((1 : Int) - (2 : Int) * l1.getD (Nat.add (0 : Nat) n3.toNat) (0 : Int)))]) (
 reqB (codeFL.mea
 [DV.l (List.take l0.length (List.drop (0 : Nat) l0)),
 DV.l (List.take l1.length (List.drop (0 : Nat) l1)), DV.n n2]
 [DV.n (n3 + (1 : Int)),
 DV.l
 (l4.set (Nat.add (0 : Nat) n3.toNat)
 ((1 : Int) - (2 : Int) * l1.getD (Nat.add (0 : Nat) n3.toNat) (0 : Int)))] <
 codeFL.mea
 [DV.l (List.take l0.length (List.drop (0 : Nat) l0)),
 DV.l (List.take l1.length (List.drop (0 : Nat) l1)), DV.n n2]
 [DV.n n3, DV.l l4]) (
 true)))))))) (
 false)))))) (
 bR (dec ((2 : Int) < n2)) (
 reqB ((↑l1.length : Int) ≠ (0 : Int)) (
 reqB ((0 : Int) ≤ (n3 + n2 - (3 : Int)).tmod (↑l1.length : Int)) (
 reqB (((n3 + n2 - (3 : Int)).tmod (↑l1.length : Int)).toNat < l1.length) (
 reqB (Nat.add (0 : Nat) ((n3 + n2 - (3 : Int)).tmod (↑l1.length : Int)).toNat < l1.length) (
 reqB (n3.toNat < (↑l0.length : Int).toNat) (
 reqB (Nat.add (0 : Nat) n3.toNat < l4.length) (
 bR (bR (bR (dec ((0 : Nat) = (0 : Nat))) (
 dec (l0.length = l0.length)) (
 false)) (
 bR (bR (dec ((0 : Nat) = (0 : Nat))) (
 dec (l1.length = l1.length)) (
 false)) (
 bR (dec (n2 = n2)) (
 bR (bR (dec ((0 : Nat) = (0 : Nat))) (
 dec ((↑l0.length : Int).toNat = (↑l0.length : Int).toNat)) (
 false)) (
 bR (bR (dec ((0 : Nat) = (0 : Nat))) (
 dec ((↑l0.length : Int).toNat = (↑l0.length : Int).toNat)) (
 false)) (
 bR (dec ((↑(↑l0.length : Int).toNat : Int) = (↑(↑l0.length : Int).toNat : Int))) (
 true) (
 false)) (
 false)) (
 false)) (
 false)) (
 false)) (
 false)) (
 reqB ((0 : Int) ≤ n3 + (1 : Int)) (
 reqB (n3 + (1 : Int) ≤ (1100 : Int)) (
 reqB (lenCols
 [Col.i Go.IntKind.i64 (-9223372036854775808 : Int) (9223372036854775807 : Int)
 (l4.set (Nat.add (0 : Nat) n3.toNat)
 ((1 : Int) -
 (2 : Int) *
 opI (SO.xor Go.IntKind.i64) (l0.getD (Nat.add (0 : Nat) n3.toNat) (0 : Int))
 (l1.getD (Nat.add (0 : Nat) ((n3 + n2 - (3 : Int)).tmod (↑l1.length : Int)).toNat) (0 : Int))))] ≤
 (1000000 : Nat)) (
 reqB ((l4.set (Nat.add (0 : Nat) n3.toNat)
 ((1 : Int) -
 (2 : Int) *
 opI (SO.xor Go.IntKind.i64) (l0.getD (Nat.add (0 : Nat) n3.toNat) (0 : Int))
 (l1.getD (Nat.add (0 : Nat) ((n3 + n2 - (3 : Int)).tmod (↑l1.length : Int)).toNat) (0 : Int)))).length =
 lenCols
 [Col.i Go.IntKind.i64 (-9223372036854775808 : Int) (9223372036854775807 : Int)
 (l4.set (Nat.add (0 : Nat) n3.toNat)
 ((1 : Int) -
 (2 : Int) *
 opI (SO.xor Go.IntKind.i64) (l0.getD (Nat.add (0 : Nat) n3.toNat) (0 : Int))
 (l1.getD (Nat.add (0 : Nat) ((n3 + n2 - (3 : Int)).tmod (↑l1.length : Int)).toNat) (0 : Int))))]) (
 reqB (∀ (y : Int),
 y ∈
 l4.set (Nat.add (0 : Nat) n3.toNat)
 ((1 : Int) -
 (2 : Int) *
 opI (SO.xor Go.IntKind.i64) (l0.getD (Nat.add (0 : Nat) n3.toNat) (0 : Int))
 (l1.getD (Nat.add (0 : Nat) ((n3 + n2 - (3 : Int)).tmod (↑l1.length : Int)).toNat) (0 : Int))) →
 (-9223372036854775808 : Int) ≤ y ∧ y ≤ (9223372036854775807 : Int)) (
 reqB (codeFL.inv
 [DV.l (List.take l0.length (List.drop (0 : Nat) l0)), DV.l (List.take l1.length (List.drop (0 : Nat) l1)),
 DV.n n2]
 [DV.n (n3 + (1 : Int)),
 DV.l
 (l4.set (Nat.add (0 : Nat) n3.toNat)
 ((1 : Int) -
 (2 : Int) *
 opI (SO.xor Go.IntKind.i64) (l0.getD (Nat.add (0 : Nat) n3.toNat) (0 : Int))
 (l1.getD (Nat.add (0 : Nat) ((n3 + n2 - (3 : Int)).tmod (↑l1.length : Int)).toNat) (0 : Int))))]) (
 reqB (codeFL.mea
 [DV.l (List.take l0.length (List.drop (0 : Nat) l0)),
 DV.l (List.take l1.length (List.drop (0 : Nat) l1)), DV.n n2]
 [DV.n (n3 + (1 : Int)),
 DV.l
 (l4.set (Nat.add (0 : Nat) n3.toNat)
 ((1 : Int) -
 (2 : Int) *
 opI (SO.xor Go.IntKind.i64) (l0.getD (Nat.add (0 : Nat) n3.toNat) (0 : Int))
 (l1.getD (Nat.add (0 : Nat) ((n3 + n2 - (3 : Int)).tmod (↑l1.length : Int)).toNat) (0 : Int))))] <
 codeFL.mea
 [DV.l (List.take l0.length (List.drop (0 : Nat) l0)),
 DV.l (List.take l1.length (List.drop (0 : Nat) l1)), DV.n n2]
 [DV.n n3, DV.l l4]) (
 true)))))))) (
 false)))))))) (
 reqB (n3.toNat < (↑l0.length : Int).toNat) (
 reqB (Nat.add (0 : Nat) n3.toNat < l4.length) (
 bR (bR (bR (dec ((0 : Nat) = (0 : Nat))) (
 dec (l0.length = l0.length)) (
 false)) (
 bR (bR (dec ((0 : Nat) = (0 : Nat))) (
 dec (l1.length = l1.length)) (
 false)) (
 bR (dec (n2 = n2)) (
 bR (bR (dec ((0 : Nat) = (0 : Nat))) (
 dec ((↑l0.length : Int).toNat = (↑l0.length : Int).toNat)) (
 false)) (
 bR (bR (dec ((0 : Nat) = (0 : Nat))) (
 dec ((↑l0.length : Int).toNat = (↑l0.length : Int).toNat)) (
 false)) (
 bR (dec ((↑(↑l0.length : Int).toNat : Int) = (↑(↑l0.length : Int).toNat : Int))) (
 true) (
 false)) (
 false)) (
 false)) (
 false)) (
 false)) (
 false)) (
 reqB ((0 : Int) ≤ n3 + (1 : Int)) (
 reqB (n3 + (1 : Int) ≤ (1100 : Int)) (
 reqB (lenCols
 [Col.i Go.IntKind.i64 (-9223372036854775808 : Int) (9223372036854775807 : Int)
 (l4.set (Nat.add (0 : Nat) n3.toNat)
 ((1 : Int) - (2 : Int) * l0.getD (Nat.add (0 : Nat) n3.toNat) (0 : Int)))] ≤
 (1000000 : Nat)) (
 reqB ((l4.set (Nat.add (0 : Nat) n3.toNat) ((1 : Int) - (2 : Int) * l0.getD (Nat.add (0 : Nat) n3.toNat) (0 : Int))).length =
 lenCols
 [Col.i Go.IntKind.i64 (-9223372036854775808 : Int) (9223372036854775807 : Int)
 (l4.set (Nat.add (0 : Nat) n3.toNat) ((1 : Int) - (2 : Int) * l0.getD (Nat.add (0 : Nat) n3.toNat) (0 : Int)))]) (
 reqB (∀ (y : Int),
 y ∈ l4.set (Nat.add (0 : Nat) n3.toNat) ((1 : Int) - (2 : Int) * l0.getD (Nat.add (0 : Nat) n3.toNat) (0 : Int)) →
 (-9223372036854775808 : Int) ≤ y ∧ y ≤ (9223372036854775807 : Int)) (
 reqB (codeFL.inv
 [DV.l (List.take l0.length (List.drop (0 : Nat) l0)), DV.l (List.take l1.length (List.drop (0 : Nat) l1)),
 DV.n n2]
 [DV.n (n3 + (1 : Int)),
 DV.l
 (l4.set (Nat.add (0 : Nat) n3.toNat) ((1 : Int) - (2 : Int) * l0.getD (Nat.add (0 : Nat) n3.toNat) (0 : Int)))]) (
 reqB (codeFL.mea
 [DV.l (List.take l0.length (List.drop (0 : Nat) l0)),
 DV.l (List.take l1.length (List.drop (0 : Nat) l1)), DV.n n2]
 [DV.n (n3 + (1 : Int)),
 DV.l
 (l4.set (Nat.add (0 : Nat) n3.toNat)
 ((1 : Int) - (2 : Int) * l0.getD (Nat.add (0 : Nat) n3.toNat) (0 : Int)))] <
 codeFL.mea
 [DV.l (List.take l0.length (List.drop (0 : Nat) l0)),
 DV.l (List.take l1.length (List.drop (0 : Nat) l1)), DV.n n2]
 [DV.n n3, DV.l l4]) (
 true)))))))) (
 false)))))))) (
 reqB (((0 : Nat) + (↑l0.length : Int).toNat) * (1 : Nat) ≤ l4.length.mul (1 : Nat)) (
 reqB ((↑l0.length : Int).toNat ≤ (1100 : Nat)) (
 reqB ((List.take (↑l0.length : Int).toNat (List.drop (0 : Nat) l4)).length = (↑l0.length : Int).toNat) (
 reqB (∀ (y : Int), y ∈ List.take (↑l0.length : Int).toNat (List.drop (0 : Nat) l4) → (-1 : Int) ≤ y ∧ y ≤ (1 : Int)) (
 reqB (sigCodeF.post [DV.l l0, DV.l l1, DV.n n2]
 [DV.l (List.take (↑l0.length : Int).toNat (List.drop (0 : Nat) l4))]) (
 true))))))))))))))))))))))))))))))))))) := by kernel_rfl
set_option maxHeartbeats 8000000 in
theorem vt_codeF : vcFn Tryd.prog [] (fun f p _ => at2 f p 52 58 codeFL (none)) gl11 100 52 sigCodeF = true := by
  rw [vc_codeF]
  try simp only [Int.toNat_natCast, List.length_set, List.length_replicate, List.length_take, List.length_drop, List.length_append, List.length_cons, List.length_nil, Nat.min_self, List.take_take, lenCols_i, lenCols_b, List.drop_zero, List.take_length, Nat.add_eq, Nat.mul_eq, Nat.sub_eq, Nat.zero_add, Nat.sub_zero, Nat.mul_one]
  refine all_i fun l0 => ?_
  refine imp_i fun h0 => ?_
  refine imp_i fun h1 => ?_
  refine all_i fun l1 => ?_
  refine imp_i fun h2 => ?_
  refine imp_i fun h3 => ?_
  refine all_i fun n2 => ?_
  refine imp_i fun h4 => ?_
  refine imp_i fun h5 => ?_
  refine imp_i fun h6 => ?_
  try simp only [sigCodeF, cB, cCh, codeFPre, codeFPost, List.cons.injEq, DV.b.injEq, and_true, List.length_cons, List.length_nil] at h6
  refine req_i ?_ ?_
  · -- r0
   first | omega | ((try simp only [Int.toNat_natCast, List.length_cons, List.length_nil]); first | done | omega | assumption | grind [getD_set, getD_rep, toNat_succ, cntN_yes, cntN_no])
  refine req_i ?_ ?_
  · -- r1
   first | omega | ((try simp only [Int.toNat_natCast, List.length_cons, List.length_nil]); first | done | omega | assumption | grind [getD_set, getD_rep, toNat_succ, cntN_yes, cntN_no])
  refine req_i ?_ ?_
  · -- r2
   first | omega | ((try simp only [Nat.mul_eq]); first | done | omega | assumption | grind [getD_set, getD_rep, toNat_succ, cntN_yes, cntN_no])
  refine req_i ?_ ?_
  · -- r3
   first | omega | ((try simp only [Nat.zero_add]); first | done | omega | assumption | grind [getD_set, getD_rep, toNat_succ, cntN_yes, cntN_no])
  refine req_i ?_ ?_
  · -- r4
   first | omega | ((try simp only [List.length_take, List.take_length, List.take_take, Nat.min_self, List.length_drop, List.drop_zero, List.length_cons, List.length_nil]); first | done | omega | assumption | grind [getD_set, getD_rep, toNat_succ, cntN_yes, cntN_no])
  refine req_i ?_ ?_
  · -- r5
   first | assumption | exact rep_bd (by omega) (by omega) | exact set_bd (by assumption) (by omega) (by omega) | exact take_bd (by assumption) | ((try simp only [List.length_take, List.take_length, List.take_take, Nat.min_self, List.length_drop, List.drop_zero, List.length_cons, List.length_nil]); first | assumption | exact rep_bd (by omega) (by omega) | exact set_bd (by assumption) (by omega) (by omega) | exact take_bd (by assumption) | grind [getD_set, getD_rep, toNat_succ, cntN_yes, cntN_no])
  refine req_i ?_ ?_
  · -- r6
   first | omega | ((try simp only [Nat.mul_eq]); first | done | omega | assumption | grind [getD_set, getD_rep, toNat_succ, cntN_yes, cntN_no])
  refine req_i ?_ ?_
  · -- r7
   first | omega | ((try simp only [Nat.zero_add]); first | done | omega | assumption | grind [getD_set, getD_rep, toNat_succ, cntN_yes, cntN_no])
  refine req_i ?_ ?_
  · -- r8
   first | omega | ((try simp only [List.length_take, List.take_length, List.take_take, Nat.min_self, List.length_drop, List.drop_zero, List.length_cons, List.length_nil]); first | done | omega | assumption | grind [getD_set, getD_rep, toNat_succ, cntN_yes, cntN_no])
  refine req_i ?_ ?_
  · -- r9
   first | assumption | exact rep_bd (by omega) (by omega) | exact set_bd (by assumption) (by omega) (by omega) | exact take_bd (by assumption) | ((try simp only [List.length_take, List.take_length, List.take_take, Nat.min_self, List.length_drop, List.drop_zero, List.length_cons, List.length_nil]); first | assumption | exact rep_bd (by omega) (by omega) | exact set_bd (by assumption) (by omega) (by omega) | exact take_bd (by assumption) | grind [getD_set, getD_rep, toNat_succ, cntN_yes, cntN_no])
  refine req_i ?_ ?_
  · -- r10
   first | omega | assumption | grind
  refine req_i ?_ ?_
  · -- r11
   first | omega | assumption | grind
  refine req_i ?_ ?_
  · -- r12
   first | omega | ((try simp only [Int.toNat_natCast, List.length_replicate, List.length_cons, List.length_nil, lenCols_i, lenCols_b]); first | done | omega | assumption | grind [getD_set, getD_rep, toNat_succ, cntN_yes, cntN_no])
  refine req_i ?_ ?_
  · -- r13
   first | omega | ((try simp only [Int.toNat_natCast, List.length_replicate, List.length_cons, List.length_nil, lenCols_i, lenCols_b]); first | done | omega | assumption | grind [getD_set, getD_rep, toNat_succ, cntN_yes, cntN_no])
  refine req_i ?_ ?_
  · -- r14
   first | assumption | exact rep_bd (by omega) (by omega) | exact set_bd (by assumption) (by omega) (by omega) | exact take_bd (by assumption) | ((try simp only [Int.toNat_natCast, List.length_replicate, List.length_cons, List.length_nil]); first | assumption | exact rep_bd (by omega) (by omega) | exact set_bd (by assumption) (by omega) (by omega) | exact take_bd (by assumption) | grind [getD_set, getD_rep, toNat_succ, cntN_yes, cntN_no])
  refine req_i ?_ ?_
  · -- r15
   first | omega | ((try simp only [codeFL, cB, codeFInv, meaC, List.cons.injEq, DV.b.injEq, and_true, Int.toNat_natCast, List.length_replicate, List.length_take, List.take_length, List.take_take, Nat.min_self, List.length_drop, List.drop_zero, List.length_cons, List.length_nil]); first | done | omega | assumption | grind [getD_set, getD_rep, toNat_succ, cntN_yes, cntN_no])
  refine all_i fun n3 => ?_
  refine imp_i fun h7 => ?_
  refine imp_i fun h8 => ?_
  refine all_i fun l4 => ?_
  refine imp_i fun h9 => ?_
  refine imp_i fun h10 => ?_
  refine imp_i fun h11 => ?_
  try simp only [codeFL, cB, codeFInv, meaC, List.cons.injEq, DV.b.injEq, and_true, List.length_take, List.take_length, List.take_take, Nat.min_self, List.length_drop, List.drop_zero, List.length_cons, List.length_nil] at h11
  refine bR_dec (fun h12 => ?_) (fun h12 => ?_)
  ·
   have a0 := getD_bd (i := n3.toNat) h1 (by omega) (by omega)
   have a1 := getD_bd (i := n3.toNat) h3 (by omega) (by omega)
   refine req_i ?_ ?_
   · -- r16
    first | omega | ((try simp only [Int.toNat_natCast, List.length_cons, List.length_nil]); first | done | omega | assumption | grind [getD_set, getD_rep, toNat_succ, cntN_yes, cntN_no])
   refine req_i ?_ ?_
   · -- r17
    first | omega | ((try simp only [Int.toNat_natCast, List.length_cons, List.length_nil, Nat.add_eq, Nat.zero_add]); first | done | omega | assumption | grind [getD_set, getD_rep, toNat_succ, cntN_yes, cntN_no])
   refine bR_dec (fun h13 => ?_) (fun h13 => ?_)
   ·
    refine req_i ?_ ?_
    · -- r18
     first | omega | ((try simp only [Int.toNat_natCast, List.length_cons, List.length_nil]); first | done | omega | assumption | grind [getD_set, getD_rep, toNat_succ, cntN_yes, cntN_no])
    refine req_i ?_ ?_
    · -- r19
     first | omega | ((try simp only [Int.toNat_natCast, List.length_cons, List.length_nil, Nat.add_eq, Nat.zero_add]); first | done | omega | assumption | grind [getD_set, getD_rep, toNat_succ, cntN_yes, cntN_no])
    refine req_i ?_ ?_
    · -- r20
     first | omega | ((try simp only [Int.toNat_natCast, List.length_cons, List.length_nil]); first | done | omega | assumption | grind [getD_set, getD_rep, toNat_succ, cntN_yes, cntN_no])
    refine req_i ?_ ?_
    · -- r21
     first | omega | ((try simp only [Int.toNat_natCast, List.length_cons, List.length_nil, Nat.add_eq, Nat.zero_add]); first | done | omega | assumption | grind [getD_set, getD_rep, toNat_succ, cntN_yes, cntN_no])
    refine bR_t ?_ ?_
    · -- g0
     first | rfl | (simp only [bR_iff, bR_iff_f, dec_iff, dec_f, beqB_iff', andB_iff', reduceCtorEq, imp_self, false_implies, and_true, true_and, implies_true, and_self]; done) | (simp [bR_iff, dec_iff, beqB_iff', andB_iff']; done) | (simp [bR_iff, dec_iff, beqB_iff', andB_iff']; omega)
    refine req_i ?_ ?_
    · -- r22
     first | omega | assumption | grind
    refine req_i ?_ ?_
    · -- r23
     first | omega | assumption | grind
    refine req_i ?_ ?_
    · -- r24
     first | omega | ((try simp only [Int.toNat_natCast, List.length_set, List.length_cons, List.length_nil, lenCols_i, lenCols_b, Nat.add_eq, Nat.zero_add]); first | done | omega | assumption | grind [getD_set, getD_rep, toNat_succ, cntN_yes, cntN_no])
    refine req_i ?_ ?_
    · -- r25
     first | omega | ((try simp only [Int.toNat_natCast, List.length_set, List.length_cons, List.length_nil, lenCols_i, lenCols_b, Nat.add_eq, Nat.zero_add]); first | done | omega | assumption | grind [getD_set, getD_rep, toNat_succ, cntN_yes, cntN_no])
    refine req_i ?_ ?_
    · -- r26
     first | assumption | exact rep_bd (by omega) (by omega) | exact set_bd (by assumption) (by omega) (by omega) | exact take_bd (by assumption) | ((try simp only [Int.toNat_natCast, List.length_set, List.length_cons, List.length_nil, Nat.add_eq, Nat.zero_add]); first | assumption | exact rep_bd (by omega) (by omega) | exact set_bd (by assumption) (by omega) (by omega) | exact take_bd (by assumption) | grind [getD_set, getD_rep, toNat_succ, cntN_yes, cntN_no])
    refine req_i ?_ ?_
    · -- r27
     simp only [codeFL, codeFInv, List.drop_zero, List.take_length, Nat.add_eq, Nat.zero_add]; exact codeF_step h11.1 (by omega) h11.2.2.1 h11.2.2.2 (by rw [h13, chipB2])
    refine req_i ?_ ?_
    · -- r28
     first | omega | ((try simp only [codeFL, cB, codeFInv, meaC, List.cons.injEq, DV.b.injEq, and_true, Int.toNat_natCast, List.length_set, List.length_take, List.take_length, List.take_take, Nat.min_self, List.length_drop, List.drop_zero, List.length_cons, List.length_nil, Nat.add_eq, Nat.zero_add]); first | done | omega | assumption | grind [getD_set, getD_rep, toNat_succ, cntN_yes, cntN_no])
    rfl
   ·
    refine bR_dec (fun h14 => ?_) (fun h14 => ?_)
    ·
     have a2 := getD_bd (i := ((n3 + n2 - 3).tmod (l1.length : Int)).toNat) h3 (by omega) (by omega)
     have a3 := xor_bit a0.1 a0.2 a2.1 a2.2
     have a4 := tmod_nn (a := n3 + n2 - 3) (b := (l1.length : Int)) (by omega)
     have a5 := Int.emod_nonneg (n3 + n2 - 3) (b := (l1.length : Int)) (by omega)
     have a6 := Int.emod_lt_of_pos (n3 + n2 - 3) (b := (l1.length : Int)) (by omega)
     refine req_i ?_ ?_
     · -- r29
      first | omega | ((try simp only [Nat.zero_add]); first | done | omega | assumption | grind [getD_set, getD_rep, toNat_succ, cntN_yes, cntN_no])
     refine req_i ?_ ?_
     · -- r30
      first | omega | ((try simp only [Nat.zero_add]); first | done | omega | assumption | grind [getD_set, getD_rep, toNat_succ, cntN_yes, cntN_no])
     refine req_i ?_ ?_
     · -- r31
      first | omega | ((try simp only [Int.toNat_natCast, List.length_cons, List.length_nil]); first | done | omega | assumption | grind [getD_set, getD_rep, toNat_succ, cntN_yes, cntN_no])
     refine req_i ?_ ?_
     · -- r32
      first | omega | ((try simp only [Int.toNat_natCast, List.length_cons, List.length_nil, Nat.add_eq, Nat.zero_add]); first | done | omega | assumption | grind [getD_set, getD_rep, toNat_succ, cntN_yes, cntN_no])
     refine req_i ?_ ?_
     · -- r33
      first | omega | ((try simp only [Int.toNat_natCast, List.length_cons, List.length_nil]); first | done | omega | assumption | grind [getD_set, getD_rep, toNat_succ, cntN_yes, cntN_no])
     refine req_i ?_ ?_
     · -- r34
      first | omega | ((try simp only [Int.toNat_natCast, List.length_cons, List.length_nil, Nat.add_eq, Nat.zero_add]); first | done | omega | assumption | grind [getD_set, getD_rep, toNat_succ, cntN_yes, cntN_no])
     refine bR_t ?_ ?_
     · -- g1
      first | rfl | (simp only [bR_iff, bR_iff_f, dec_iff, dec_f, beqB_iff', andB_iff', reduceCtorEq, imp_self, false_implies, and_true, true_and, implies_true, and_self]; done) | (simp [bR_iff, dec_iff, beqB_iff', andB_iff']; done) | (simp [bR_iff, dec_iff, beqB_iff', andB_iff']; omega)
     refine req_i ?_ ?_
     · -- r35
      first | omega | assumption | grind
     refine req_i ?_ ?_
     · -- r36
      first | omega | assumption | grind
     refine req_i ?_ ?_
     · -- r37
      first | omega | ((try simp only [Int.toNat_natCast, List.length_set, List.length_cons, List.length_nil, lenCols_i, lenCols_b, Nat.add_eq, Nat.zero_add]); first | done | omega | assumption | grind [getD_set, getD_rep, toNat_succ, cntN_yes, cntN_no])
     refine req_i ?_ ?_
     · -- r38
      first | omega | ((try simp only [Int.toNat_natCast, List.length_set, List.length_cons, List.length_nil, lenCols_i, lenCols_b, Nat.add_eq, Nat.zero_add]); first | done | omega | assumption | grind [getD_set, getD_rep, toNat_succ, cntN_yes, cntN_no])
     refine req_i ?_ ?_
     · -- r39
      first | assumption | exact rep_bd (by omega) (by omega) | exact set_bd (by assumption) (by omega) (by omega) | exact take_bd (by assumption) | ((try simp only [Int.toNat_natCast, List.length_set, List.length_cons, List.length_nil, Nat.add_eq, Nat.zero_add]); first | assumption | exact rep_bd (by omega) (by omega) | exact set_bd (by assumption) (by omega) (by omega) | exact take_bd (by assumption) | grind [getD_set, getD_rep, toNat_succ, cntN_yes, cntN_no])
     refine req_i ?_ ?_
     · -- r40
      simp only [codeFL, codeFInv, List.drop_zero, List.take_length, Nat.add_eq, Nat.zero_add]; exact codeF_step h11.1 (by omega) h11.2.2.1 h11.2.2.2 (by rw [a3, chipB3 (by omega) (by omega) a4])
     refine req_i ?_ ?_
     · -- r41
      first | omega | ((try simp only [codeFL, cB, codeFInv, meaC, List.cons.injEq, DV.b.injEq, and_true, Int.toNat_natCast, List.length_set, List.length_take, List.take_length, List.take_take, Nat.min_self, List.length_drop, List.drop_zero, List.length_cons, List.length_nil, Nat.add_eq, Nat.zero_add]); first | done | omega | assumption | grind [getD_set, getD_rep, toNat_succ, cntN_yes, cntN_no])
     rfl
    ·
     refine req_i ?_ ?_
     · -- r42
      first | omega | ((try simp only [Int.toNat_natCast, List.length_cons, List.length_nil]); first | done | omega | assumption | grind [getD_set, getD_rep, toNat_succ, cntN_yes, cntN_no])
     refine req_i ?_ ?_
     · -- r43
      first | omega | ((try simp only [Int.toNat_natCast, List.length_cons, List.length_nil, Nat.add_eq, Nat.zero_add]); first | done | omega | assumption | grind [getD_set, getD_rep, toNat_succ, cntN_yes, cntN_no])
     refine bR_t ?_ ?_
     · -- g2
      first | rfl | (simp only [bR_iff, bR_iff_f, dec_iff, dec_f, beqB_iff', andB_iff', reduceCtorEq, imp_self, false_implies, and_true, true_and, implies_true, and_self]; done) | (simp [bR_iff, dec_iff, beqB_iff', andB_iff']; done) | (simp [bR_iff, dec_iff, beqB_iff', andB_iff']; omega)
     refine req_i ?_ ?_
     · -- r44
      first | omega | assumption | grind
     refine req_i ?_ ?_
     · -- r45
      first | omega | assumption | grind
     refine req_i ?_ ?_
     · -- r46
      first | omega | ((try simp only [Int.toNat_natCast, List.length_set, List.length_cons, List.length_nil, lenCols_i, lenCols_b, Nat.add_eq, Nat.zero_add]); first | done | omega | assumption | grind [getD_set, getD_rep, toNat_succ, cntN_yes, cntN_no])
     refine req_i ?_ ?_
     · -- r47
      first | omega | ((try simp only [Int.toNat_natCast, List.length_set, List.length_cons, List.length_nil, lenCols_i, lenCols_b, Nat.add_eq, Nat.zero_add]); first | done | omega | assumption | grind [getD_set, getD_rep, toNat_succ, cntN_yes, cntN_no])
     refine req_i ?_ ?_
     · -- r48
      first | assumption | exact rep_bd (by omega) (by omega) | exact set_bd (by assumption) (by omega) (by omega) | exact take_bd (by assumption) | ((try simp only [Int.toNat_natCast, List.length_set, List.length_cons, List.length_nil, Nat.add_eq, Nat.zero_add]); first | assumption | exact rep_bd (by omega) (by omega) | exact set_bd (by assumption) (by omega) (by omega) | exact take_bd (by assumption) | grind [getD_set, getD_rep, toNat_succ, cntN_yes, cntN_no])
     refine req_i ?_ ?_
     · -- r49
      simp only [codeFL, codeFInv, List.drop_zero, List.take_length, Nat.add_eq, Nat.zero_add]; exact codeF_step h11.1 (by omega) h11.2.2.1 h11.2.2.2 (by rw [show n2 = 1 by omega, chipB1])
     refine req_i ?_ ?_
     · -- r50
      first | omega | ((try simp only [codeFL, cB, codeFInv, meaC, List.cons.injEq, DV.b.injEq, and_true, Int.toNat_natCast, List.length_set, List.length_take, List.take_length, List.take_take, Nat.min_self, List.length_drop, List.drop_zero, List.length_cons, List.length_nil, Nat.add_eq, Nat.zero_add]); first | done | omega | assumption | grind [getD_set, getD_rep, toNat_succ, cntN_yes, cntN_no])
     rfl
  ·
   refine req_i ?_ ?_
   · -- r51
    first | omega | ((try simp only [Int.toNat_natCast, List.length_cons, List.length_nil, Nat.mul_eq]); first | done | omega | assumption | grind [getD_set, getD_rep, toNat_succ, cntN_yes, cntN_no])
   refine req_i ?_ ?_
   · -- r52
    first | omega | ((try simp only [Int.toNat_natCast, List.length_cons, List.length_nil]); first | done | omega | assumption | grind [getD_set, getD_rep, toNat_succ, cntN_yes, cntN_no])
   refine req_i ?_ ?_
   · -- r53
    first | omega | ((try simp only [Int.toNat_natCast, List.length_take, List.take_length, List.take_take, Nat.min_self, List.length_drop, List.drop_zero, List.length_cons, List.length_nil]); first | done | omega | assumption | grind [getD_set, getD_rep, toNat_succ, cntN_yes, cntN_no])
   refine req_i ?_ ?_
   · -- r54
    (try simp only [List.drop_zero, Int.toNat_natCast]); rw [List.take_of_length_le (by omega), chips_of (p := n2) (u := l0) (v := l1) h11.2.2.1 fun j hj => h11.2.2.2 j (by omega)]; exact chips_bd h1 h3
   refine req_i ?_ ?_
   · -- r55
    simp only [sigCodeF, codeFPost, List.drop_zero, Int.toNat_natCast]; rw [List.take_of_length_le (by omega)]; exact chips_of h11.2.2.1 fun j hj => h11.2.2.2 j (by omega)
   rfl
theorem ext_codeF : ∀ p ∈ ([] : List (Nat × Ext)), ExtRow Tryd.prog p.1 p.2 := by
  intro p hp
  cases hp
theorem cts_codeF : CtsOk Tryd.prog [] := fun f c h => by cases h
theorem fn_codeF : FnOk Tryd.prog 52 sigCodeF gl11 := fn_sound (by kernel_rfl) ext_codeF cts_codeF names vt_codeF
end Go.Proofs.YtblcahackjpnjaaDoor

namespace Go.Proofs.YtblcahackjpnjaaDoor
open Go.Ev Go.Sp
set_option maxRecDepth 100000
theorem vc_code : vcFn Tryd.prog [(51, Ext.ctr (ctOfG gl11 sigBits)), (52, Ext.ctr (ctOfG gl11 sigCodeF))] noA gl11 100 39 sigCode = (allB fun n0 : Int => 
impB ((-9223372036854775808 : Int) ≤ n0) (
impB (n0 ≤ (9223372036854775807 : Int)) (
allB fun n1 : Int => 
impB ((-9223372036854775808 : Int) ≤ n1) (
impB (n1 ≤ (9223372036854775807 : Int)) (
impB (sigCode.pre [DV.n n0, DV.n n1]) (
reqB ((-9223372036854775808 : Int) ≤ n0) (
reqB (n0 ≤ (9223372036854775807 : Int)) (
reqB (sigBits.pre [DV.n n0, DV.n (1 : Int)]) (
allB fun l2 : List Int => 
impB (l2.length ≤ (1100 : Nat)) (
impB (∀ (y : Int), y ∈ l2 → (0 : Int) ≤ y ∧ y ≤ (1 : Int)) (
allB fun n3 : Int => 
impB ((0 : Int) ≤ n3) (
impB (n3 ≤ (18 : Int)) (
impB (sigBits.post [DV.n n0, DV.n (1 : Int)] [DV.l l2, DV.n n3]) (
bR (dec (n3 ≠ (0 : Int))) (
 reqB ((0 : Int) ≤ n3) (
 reqB (n3 ≤ (18 : Int)) (
 reqB (sigCode.post [DV.n n0, DV.n n1] [DV.l [], DV.n n3]) (
 true)))) (
 bR (dec (n1 < (1 : Int))) (
 reqB (sigCode.post [DV.n n0, DV.n n1] [DV.l [], DV.n (2 : Int)]) (
 true)) (
 bR (dec ((↑l2.length : Int) + (2 : Int) < n1)) (
 reqB (sigCode.post [DV.n n0, DV.n n1] [DV.l [], DV.n (2 : Int)]) (
 true)) (
 reqB ((-9223372036854775808 : Int) ≤ n0) (
 reqB (n0 ≤ (9223372036854775807 : Int)) (
 reqB (sigBits.pre [DV.n n0, DV.n (2 : Int)]) (
 allB fun l4 : List Int => 
 impB (l4.length ≤ (1100 : Nat)) (
 impB (∀ (y : Int), y ∈ l4 → (0 : Int) ≤ y ∧ y ≤ (1 : Int)) (
 allB fun n5 : Int => 
 impB ((0 : Int) ≤ n5) (
 impB (n5 ≤ (18 : Int)) (
 impB (sigBits.post [DV.n n0, DV.n (2 : Int)] [DV.l l4, DV.n n5]) (
 reqB (((0 : Nat) + l2.length) * (1 : Nat) ≤ l2.length.mul (1 : Nat)) (
 reqB (l2.length ≤ (1100 : Nat)) (
 reqB ((List.take l2.length (List.drop (0 : Nat) l2)).length = l2.length) (
 reqB (∀ (y : Int), y ∈ List.take l2.length (List.drop (0 : Nat) l2) → (0 : Int) ≤ y ∧ y ≤ (1 : Int)) (
 reqB (((0 : Nat) + l4.length) * (1 : Nat) ≤ l4.length.mul (1 : Nat)) (
 reqB (l4.length ≤ (1100 : Nat)) (
 reqB ((List.take l4.length (List.drop (0 : Nat) l4)).length = l4.length) (
 reqB (∀ (y : Int), y ∈ List.take l4.length (List.drop (0 : Nat) l4) → (0 : Int) ≤ y ∧ y ≤ (1 : Int)) (
 reqB ((1 : Int) ≤ n1) (
 reqB (n1 ≤ (1100 : Int)) (
 reqB (sigCodeF.pre
 [DV.l (List.take l2.length (List.drop (0 : Nat) l2)), DV.l (List.take l4.length (List.drop (0 : Nat) l4)),
 DV.n n1]) (
 allB fun l6 : List Int => 
 impB (l6.length ≤ (1100 : Nat)) (
 impB (∀ (y : Int), y ∈ l6 → (-1 : Int) ≤ y ∧ y ≤ (1 : Int)) (
 impB (sigCodeF.post
 [DV.l (List.take l2.length (List.drop (0 : Nat) l2)), DV.l (List.take l4.length (List.drop (0 : Nat) l4)),
 DV.n n1]
 [DV.l l6]) (
 reqB (((0 : Nat) + l6.length) * (1 : Nat) ≤ l6.length.mul (1 : Nat)) (
 reqB (l6.length ≤ (1100 : Nat)) (
 reqB ((List.take l6.length (List.drop (0 : Nat) l6)).length = l6.length) (
 reqB (∀ (y : Int), y ∈ List.take l6.length (List.drop (0 : Nat) l6) → (-1 : Int) ≤ y ∧ y ≤ (1 : Int)) (
 reqB (sigCode.post [DV.n n0, DV.n n1]
 [DV.l (List.take l6.length (List.drop (0 : Nat) l6)), DV.n (0 : Int)]) (
 true)))))))))))))))))))))))))))))))))))))))))))) := by kernel_rfl
set_option maxHeartbeats 8000000 in
theorem vt_code : vcFn Tryd.prog [(51, Ext.ctr (ctOfG gl11 sigBits)), (52, Ext.ctr (ctOfG gl11 sigCodeF))] noA gl11 100 39 sigCode = true := by
  rw [vc_code]
  try simp only [Int.toNat_natCast, List.length_set, List.length_replicate, List.length_take, List.length_drop, List.length_append, List.length_cons, List.length_nil, Nat.min_self, List.take_take, lenCols_i, lenCols_b, List.drop_zero, List.take_length, Nat.add_eq, Nat.mul_eq, Nat.sub_eq, Nat.zero_add, Nat.sub_zero, Nat.mul_one]
  refine all_i fun n0 => ?_
  refine imp_i fun h0 => ?_
  refine imp_i fun h1 => ?_
  refine all_i fun n1 => ?_
  refine imp_i fun h2 => ?_
  refine imp_i fun h3 => ?_
  refine imp_i fun h4 => ?_
  try simp only [sigCode, cCh, codePost, List.cons.injEq, DV.b.injEq, and_true, List.length_cons, List.length_nil] at h4
  refine req_i ?_ ?_
  · -- r0
   first | omega | assumption | grind
  refine req_i ?_ ?_
  · -- r1
   first | omega | assumption | grind
  refine req_i ?_ ?_
  · -- r2
   first | trivial | assumption | (simp only [sigBits, sigBitsR, iR, cB, bitsPost, List.cons.injEq, DV.b.injEq, and_true, List.length_cons, List.length_nil]; done) | ((try simp only [sigBits, sigBitsR, iR, cB, bitsPost, List.cons.injEq, DV.b.injEq, and_true, List.length_cons, List.length_nil]); first | omega | assumption | grind)
  refine all_i fun l2 => ?_
  refine imp_i fun h5 => ?_
  refine imp_i fun h6 => ?_
  refine all_i fun n3 => ?_
  refine imp_i fun h7 => ?_
  refine imp_i fun h8 => ?_
  refine imp_i fun h9 => ?_
  try simp only [Int.toNat_natCast, List.length_set, List.length_replicate, List.length_take, List.length_drop, List.length_append, List.length_cons, List.length_nil, Nat.min_self, List.take_take, lenCols_i, lenCols_b, List.drop_zero, List.take_length, Nat.add_eq, Nat.mul_eq, Nat.sub_eq, Nat.zero_add, Nat.sub_zero, Nat.mul_one] at h9
  have hb := ite_case h9
  have nb := @nG_bd n0
  refine bR_dec (fun h10 => ?_) (fun h10 => ?_)
  ·
   refine req_i ?_ ?_
   · -- r3
    first | omega | assumption | grind
   refine req_i ?_ ?_
   · -- r4
    first | omega | assumption | grind
   refine req_i ?_ ?_
   · -- r5
    obtain ⟨k1, k2, k3⟩ := hb.resolve_left (fun g => h10 g.2.1); exact code_no (fun g => k1 ⟨g.1, .inl rfl⟩) k2
   rfl
  ·
   obtain ⟨⟨ok, _⟩, _, e2⟩ := hb.resolve_right (fun g => h10 (by rw [g.2.1]; decide))
   have bl := bits_len (w := 1) ok (.inl rfl)
   rw [← e2] at bl
   refine bR_dec (fun h11 => ?_) (fun h11 => ?_)
   ·
    refine req_i ?_ ?_
    · -- r6
     exact code_no (fun g => by omega) rfl
    rfl
   ·
    refine bR_dec (fun h12 => ?_) (fun h12 => ?_)
    ·
     refine req_i ?_ ?_
     · -- r7
      exact code_no (fun g => by omega) rfl
     rfl
    ·
     refine req_i ?_ ?_
     · -- r8
      first | omega | assumption | grind
     refine req_i ?_ ?_
     · -- r9
      first | omega | assumption | grind
     refine req_i ?_ ?_
     · -- r10
      first | trivial | assumption | (simp only [sigBits, sigBitsR, iR, cB, bitsPost, List.cons.injEq, DV.b.injEq, and_true, List.length_cons, List.length_nil]; done) | ((try simp only [sigBits, sigBitsR, iR, cB, bitsPost, List.cons.injEq, DV.b.injEq, and_true, List.length_cons, List.length_nil]); first | omega | assumption | grind)
     refine all_i fun l4 => ?_
     refine imp_i fun h13 => ?_
     refine imp_i fun h14 => ?_
     refine all_i fun n5 => ?_
     refine imp_i fun h15 => ?_
     refine imp_i fun h16 => ?_
     refine imp_i fun h17 => ?_
     try simp only [Int.toNat_natCast, List.length_set, List.length_replicate, List.length_take, List.length_drop, List.length_append, List.length_cons, List.length_nil, Nat.min_self, List.take_take, lenCols_i, lenCols_b, List.drop_zero, List.take_length, Nat.add_eq, Nat.mul_eq, Nat.sub_eq, Nat.zero_add, Nat.sub_zero, Nat.mul_one] at h17
     obtain ⟨_, e4⟩ := (ite_case h17).resolve_right (fun g => g.1 ⟨ok, .inr rfl⟩) |>.2
     have bl4 := bits_len (w := 2) ok (.inr rfl)
     rw [← e4] at bl4
     refine req_i ?_ ?_
     · -- r11
      first | omega | ((try simp only [Nat.mul_eq]); first | done | omega | assumption | grind [getD_set, getD_rep, toNat_succ, cntN_yes, cntN_no])
     refine req_i ?_ ?_
     · -- r12
      first | omega | ((try simp only [Nat.zero_add]); first | done | omega | assumption | grind [getD_set, getD_rep, toNat_succ, cntN_yes, cntN_no])
     refine req_i ?_ ?_
     · -- r13
      first | omega | ((try simp only [List.length_take, List.take_length, List.take_take, Nat.min_self, List.length_drop, List.drop_zero, List.length_cons, List.length_nil]); first | done | omega | assumption | grind [getD_set, getD_rep, toNat_succ, cntN_yes, cntN_no])
     refine req_i ?_ ?_
     · -- r14
      first | assumption | exact rep_bd (by omega) (by omega) | exact set_bd (by assumption) (by omega) (by omega) | exact take_bd (by assumption) | ((try simp only [List.length_take, List.take_length, List.take_take, Nat.min_self, List.length_drop, List.drop_zero, List.length_cons, List.length_nil]); first | assumption | exact rep_bd (by omega) (by omega) | exact set_bd (by assumption) (by omega) (by omega) | exact take_bd (by assumption) | grind [getD_set, getD_rep, toNat_succ, cntN_yes, cntN_no])
     refine req_i ?_ ?_
     · -- r15
      first | omega | ((try simp only [Nat.mul_eq]); first | done | omega | assumption | grind [getD_set, getD_rep, toNat_succ, cntN_yes, cntN_no])
     refine req_i ?_ ?_
     · -- r16
      first | omega | ((try simp only [Nat.zero_add]); first | done | omega | assumption | grind [getD_set, getD_rep, toNat_succ, cntN_yes, cntN_no])
     refine req_i ?_ ?_
     · -- r17
      first | omega | ((try simp only [List.length_take, List.take_length, List.take_take, Nat.min_self, List.length_drop, List.drop_zero, List.length_cons, List.length_nil]); first | done | omega | assumption | grind [getD_set, getD_rep, toNat_succ, cntN_yes, cntN_no])
     refine req_i ?_ ?_
     · -- r18
      first | assumption | exact rep_bd (by omega) (by omega) | exact set_bd (by assumption) (by omega) (by omega) | exact take_bd (by assumption) | ((try simp only [List.length_take, List.take_length, List.take_take, Nat.min_self, List.length_drop, List.drop_zero, List.length_cons, List.length_nil]); first | assumption | exact rep_bd (by omega) (by omega) | exact set_bd (by assumption) (by omega) (by omega) | exact take_bd (by assumption) | grind [getD_set, getD_rep, toNat_succ, cntN_yes, cntN_no])
     refine req_i ?_ ?_
     · -- r19
      first | omega | assumption | grind
     refine req_i ?_ ?_
     · -- r20
      first | omega | assumption | grind
     refine req_i ?_ ?_
     · -- r21
      simp only [sigCodeF, codeFPre, List.drop_zero, List.take_length]; omega
     refine all_i fun l6 => ?_
     refine imp_i fun h18 => ?_
     refine imp_i fun h19 => ?_
     refine imp_i fun h20 => ?_
     try simp only [sigCodeF, cB, cCh, codeFPre, codeFPost, List.cons.injEq, DV.b.injEq, and_true, List.length_take, List.take_length, List.take_take, Nat.min_self, List.length_drop, List.drop_zero, List.length_cons, List.length_nil] at h20
     refine req_i ?_ ?_
     · -- r22
      first | omega | ((try simp only [Nat.mul_eq]); first | done | omega | assumption | grind [getD_set, getD_rep, toNat_succ, cntN_yes, cntN_no])
     refine req_i ?_ ?_
     · -- r23
      first | omega | ((try simp only [Nat.zero_add]); first | done | omega | assumption | grind [getD_set, getD_rep, toNat_succ, cntN_yes, cntN_no])
     refine req_i ?_ ?_
     · -- r24
      first | omega | ((try simp only [List.length_take, List.take_length, List.take_take, Nat.min_self, List.length_drop, List.drop_zero, List.length_cons, List.length_nil]); first | done | omega | assumption | grind [getD_set, getD_rep, toNat_succ, cntN_yes, cntN_no])
     refine req_i ?_ ?_
     · -- r25
      first | assumption | exact rep_bd (by omega) (by omega) | exact set_bd (by assumption) (by omega) (by omega) | exact take_bd (by assumption) | ((try simp only [List.length_take, List.take_length, List.take_take, Nat.min_self, List.length_drop, List.drop_zero, List.length_cons, List.length_nil]); first | assumption | exact rep_bd (by omega) (by omega) | exact set_bd (by assumption) (by omega) (by omega) | exact take_bd (by assumption) | grind [getD_set, getD_rep, toNat_succ, cntN_yes, cntN_no])
     refine req_i ?_ ?_
     · -- r26
      (try simp only [List.drop_zero, List.take_length]); exact code_yes ⟨ok, by omega, by omega⟩ rfl (by rw [h20, e2, e4]; rfl)
     rfl
theorem ext_code : ∀ p ∈ ([(51, Ext.ctr (ctOfG gl11 sigBits)), (52, Ext.ctr (ctOfG gl11 sigCodeF))] : List (Nat × Ext)), ExtRow Tryd.prog p.1 p.2 := by
  intro p hp
  simp only [List.mem_cons, List.not_mem_nil, or_false] at hp
  rcases hp with rfl | rfl
  · trivial
  · trivial
theorem cts_code : CtsOk Tryd.prog [(51, Ext.ctr (ctOfG gl11 sigBits)), (52, Ext.ctr (ctOfG gl11 sigCodeF))] := ctsOk_ofG (cs := [(51, sigBits), (52, sigCodeF)])
  (fun p hp => by
    simp only [List.mem_cons, List.not_mem_nil, or_false] at hp
    rcases hp with rfl | rfl
    · exact fn_bits
    · exact fn_codeF
)
  (fun f c h => by
    simp only [List.lookup_cons] at h
    repeat' split at h
    all_goals first | (cases h; done) | (rename_i e; have e := beq_iff_eq.1 e; subst e; cases h; refine ⟨_, ?_, rfl⟩; simp))
theorem fn_code : FnOk Tryd.prog 39 sigCode gl11 := fn_sound (by kernel_rfl) ext_code cts_code names vt_code
end Go.Proofs.YtblcahackjpnjaaDoor

namespace Go.Proofs.YtblcahackjpnjaaDoor
open Go.Ev Go.Sp
set_option maxRecDepth 100000
theorem vc_chips : vcFn Tryd.prog [(39, Ext.ctr (ctOfG gl11 sigCode))] (fun f p _ => at2 f p 17 506 chL (none)) gl11 100 17 sigChips = (allB fun n0 : Int => 
impB ((-9223372036854775808 : Int) ≤ n0) (
impB (n0 ≤ (9223372036854775807 : Int)) (
allB fun n1 : Int => 
impB ((-9223372036854775808 : Int) ≤ n1) (
impB (n1 ≤ (9223372036854775807 : Int)) (
allB fun n2 : Int => 
impB ((-9223372036854775808 : Int) ≤ n2) (
impB (n2 ≤ (9223372036854775807 : Int)) (
allB fun n3 : Int => 
impB ((-9223372036854775808 : Int) ≤ n3) (
impB (n3 ≤ (9223372036854775807 : Int)) (
allB fun n4 : Int => 
impB ((-9223372036854775808 : Int) ≤ n4) (
impB (n4 ≤ (9223372036854775807 : Int)) (
impB (sigChips.pre [DV.n n0, DV.n n1, DV.n n2, DV.n n3, DV.n n4]) (
reqB ((-9223372036854775808 : Int) ≤ n0) (
reqB (n0 ≤ (9223372036854775807 : Int)) (
reqB ((-9223372036854775808 : Int) ≤ n1) (
reqB (n1 ≤ (9223372036854775807 : Int)) (
reqB (sigCode.pre [DV.n n0, DV.n n1]) (
allB fun l5 : List Int => 
impB (l5.length ≤ (1100 : Nat)) (
impB (∀ (y : Int), y ∈ l5 → (-1 : Int) ≤ y ∧ y ≤ (1 : Int)) (
allB fun n6 : Int => 
impB ((0 : Int) ≤ n6) (
impB (n6 ≤ (18 : Int)) (
impB (sigCode.post [DV.n n0, DV.n n1] [DV.l l5, DV.n n6]) (
bR (dec (n6 ≠ (0 : Int))) (
 reqB ((0 : Int) ≤ n6) (
 reqB (n6 ≤ (18 : Int)) (
 reqB (sigChips.post [DV.n n0, DV.n n1, DV.n n2, DV.n n3, DV.n n4]
 [DV.l [], DV.n n6]) (
 true)))) (
 bR (dec (n2 < (-1099511627776 : Int))) (
 reqB (sigChips.post [DV.n n0, DV.n n1, DV.n n2, DV.n n3, DV.n n4]
 [DV.l [], DV.n (2 : Int)]) (
 true)) (
 bR (dec ((1099511627776 : Int) < n2)) (
 reqB (sigChips.post [DV.n n0, DV.n n1, DV.n n2, DV.n n3, DV.n n4]
 [DV.l [], DV.n (2 : Int)]) (
 true)) (
 bR (dec (n3 < (-1048576 : Int))) (
 reqB (sigChips.post [DV.n n0, DV.n n1, DV.n n2, DV.n n3, DV.n n4]
 [DV.l [], DV.n (2 : Int)]) (
 true)) (
 bR (dec ((1048576 : Int) < n3)) (
 reqB (sigChips.post [DV.n n0, DV.n n1, DV.n n2, DV.n n3, DV.n n4]
 [DV.l [], DV.n (2 : Int)]) (
 true)) (
 bR (dec (n4 < (0 : Int))) (
 reqB (sigChips.post [DV.n n0, DV.n n1, DV.n n2, DV.n n3, DV.n n4]
 [DV.l [], DV.n (2 : Int)]) (
 true)) (
 bR (dec ((100000 : Int) < n4)) (
 reqB (sigChips.post [DV.n n0, DV.n n1, DV.n n2, DV.n n3, DV.n n4]
 [DV.l [], DV.n (2 : Int)]) (
 true)) (
 reqB ((0 : Int) ≤ n4) (
 reqB ((0 : Int) ≤ n4) (
 reqB (n4.toNat ≤ n4.toNat) (
 reqB (n4.toNat ≤ (1000000 : Nat)) (
 reqB (((0 : Nat) + l5.length) * (1 : Nat) ≤ l5.length.mul (1 : Nat)) (
 reqB (l5.length ≤ (1100 : Nat)) (
 reqB ((List.take l5.length (List.drop (0 : Nat) l5)).length = l5.length) (
 reqB (∀ (y : Int), y ∈ List.take l5.length (List.drop (0 : Nat) l5) → (-1 : Int) ≤ y ∧ y ≤ (1 : Int)) (
 reqB ((-1099511627776 : Int) ≤ n2) (
 reqB (n2 ≤ (1099511627776 : Int)) (
 reqB ((-1048576 : Int) ≤ n3) (
 reqB (n3 ≤ (1048576 : Int)) (
 reqB ((0 : Int) ≤ n4) (
 reqB (n4 ≤ (600 : Int)) (
 reqB (lenCols
 [Col.i Go.IntKind.i64 (Int.negSucc (9223372036854775807 : Nat)) (Int.ofNat (9223372036854775807 : Nat))
 (List.replicate n4.toNat (0 : Int))] ≤
 (1000000 : Nat)) (
 reqB ((List.replicate n4.toNat (0 : Int)).length =
 lenCols
 [Col.i Go.IntKind.i64 (Int.negSucc (9223372036854775807 : Nat)) (Int.ofNat (9223372036854775807 : Nat))
 (List.replicate n4.toNat (0 : Int))]) (
 reqB (∀ (y : Int), y ∈ List.replicate n4.toNat (0 : Int) → (-9223372036854775808 : Int) ≤ y ∧ y ≤ (9223372036854775807 : Int)) (
 reqB (chL.inv [DV.l (List.take l5.length (List.drop (0 : Nat) l5)), DV.n n2, DV.n n3, DV.n n4]
 [DV.n (0 : Int), DV.l (List.replicate n4.toNat (0 : Int))]) (
 allB fun n7 : Int => 
 impB ((0 : Int) ≤ n7) (
 impB (n7 ≤ (600 : Int)) (
 allB fun l8 : List Int => 
 impB (l8.length ≤ (1000000 : Nat)) (
 impB (∀ (y : Int), y ∈ l8 → (-9223372036854775808 : Int) ≤ y ∧ y ≤ (9223372036854775807 : Int)) (
 impB (chL.inv [DV.l (List.take l5.length (List.drop (0 : Nat) l5)), DV.n n2, DV.n n3, DV.n n4]
 [DV.n n7, DV.l l8]) (
 bR (dec (n7 < n4)) (
 allB fun n9 : Int => 
 impB (n9 = Go.IntKind.i64.wrap (n7 * n3)) (
 impB (Int.negSucc (9223372036854775807 : Nat) ≤ n9) (
 impB (n9 ≤ Int.ofNat (9223372036854775807 : Nat)) (
 allB fun n10 : Int => 
 impB (n10 = Go.IntKind.i64.wrap (n2 + n9)) (
 impB (Int.negSucc (9223372036854775807 : Nat) ≤ n10) (
 impB (n10 ≤ Int.ofNat (9223372036854775807 : Nat)) (
 reqB ((↑l5.length : Int) ≠ (0 : Int)) (
 reqB ((↑l5.length : Int) ≠ (0 : Int)) (
 reqB ((0 : Int) ≤ ((n10 / Int.ofNat (65536 : Nat)).tmod (↑l5.length : Int) + (↑l5.length : Int)).tmod (↑l5.length : Int)) (
 reqB ((((n10 / Int.ofNat (65536 : Nat)).tmod (↑l5.length : Int) + (↑l5.length : Int)).tmod (↑l5.length : Int)).toNat <
 l5.length) (
 reqB (Nat.add (0 : Nat)
 (((n10 / Int.ofNat (65536 : Nat)).tmod (↑l5.length : Int) + (↑l5.length : Int)).tmod (↑l5.length : Int)).toNat <
 l5.length) (
 reqB (n7.toNat < n4.toNat) (
 reqB (Nat.add (0 : Nat) n7.toNat < l8.length) (
 bR (bR (dec (n2 = n2)) (
 bR (dec (n3 = n3)) (
 bR (bR (dec ((0 : Nat) = (0 : Nat))) (
 dec (l5.length = l5.length)) (
 false)) (
 bR (bR (dec ((0 : Nat) = (0 : Nat))) (
 dec (n4.toNat = n4.toNat)) (
 false)) (
 bR (dec (n4 = n4)) (
 true) (
 false)) (
 false)) (
 false)) (
 false)) (
 false)) (
 bR (bR (bR (dec (l5.length.mul (1 : Nat) = l5.length.mul (1 : Nat))) (
 dec ([Col.i Go.IntKind.i64 (-1 : Int) (1 : Int) l5] = [Col.i Go.IntKind.i64 (-1 : Int) (1 : Int) l5])) (
 false)) (
 true) (
 false)) (
 reqB ((0 : Int) ≤ n7 + (1 : Int)) (
 reqB (n7 + (1 : Int) ≤ (600 : Int)) (
 reqB (lenCols
 [Col.i Go.IntKind.i64 (-9223372036854775808 : Int) (9223372036854775807 : Int)
 (l8.set (Nat.add (0 : Nat) n7.toNat)
 (l5.getD
 (Nat.add (0 : Nat)
 (((n10 / Int.ofNat (65536 : Nat)).tmod (↑l5.length : Int) + (↑l5.length : Int)).tmod
 (↑l5.length : Int)).toNat)
 (0 : Int)))] ≤
 (1000000 : Nat)) (
 reqB ((l8.set (Nat.add (0 : Nat) n7.toNat)
 (l5.getD
 (Nat.add (0 : Nat)
 (((n10 / Int.ofNat (65536 : Nat)).tmod (↑l5.length : Int) + (↑l5.length : Int)).tmod
 (↑l5.length : Int)).toNat)
 (0 : Int))).length =
 lenCols
 [Col.i Go.IntKind.i64 (-9223372036854775808 : Int) (9223372036854775807 : Int)
 (l8.set (Nat.add (0 : Nat) n7.toNat)
 (l5.getD
 (Nat.add (0 : Nat)
 (((n10 / Int.ofNat (65536 : Nat)).tmod (↑l5.length : Int) + (↑l5.length : Int)).tmod
 (↑l5.length : Int)).toNat)
 (0 : Int)))]) (
 reqB (∀ (y : Int),
 y ∈
 l8.set (Nat.add (0 : Nat) n7.toNat)
 (l5.getD
 (Nat.add (0 : Nat)
 (((n10 / Int.ofNat (65536 : Nat)).tmod (↑l5.length : Int) + (↑l5.length : Int)).tmod
 (↑l5.length : Int)).toNat)
 (0 : Int)) →
 (-9223372036854775808 : Int) ≤ y ∧ y ≤ (9223372036854775807 : Int)) (
 reqB (chL.inv [DV.l (List.take l5.length (List.drop (0 : Nat) l5)), DV.n n2, DV.n n3, DV.n n4]
 [DV.n (n7 + (1 : Int)),
 DV.l
 (l8.set (Nat.add (0 : Nat) n7.toNat)
 (l5.getD
 (Nat.add (0 : Nat)
 (((n10 / Int.ofNat (65536 : Nat)).tmod (↑l5.length : Int) + (↑l5.length : Int)).tmod
 (↑l5.length : Int)).toNat)
 (0 : Int)))]) (
 reqB (chL.mea [DV.l (List.take l5.length (List.drop (0 : Nat) l5)), DV.n n2, DV.n n3, DV.n n4]
 [DV.n (n7 + (1 : Int)),
 DV.l
 (l8.set (Nat.add (0 : Nat) n7.toNat)
 (l5.getD
 (Nat.add (0 : Nat)
 (((n10 / Int.ofNat (65536 : Nat)).tmod (↑l5.length : Int) + (↑l5.length : Int)).tmod
 (↑l5.length : Int)).toNat)
 (0 : Int)))] <
 chL.mea [DV.l (List.take l5.length (List.drop (0 : Nat) l5)), DV.n n2, DV.n n3, DV.n n4]
 [DV.n n7, DV.l l8]) (
 true)))))))) (
 false)) (
 false))))))))))))))) (
 reqB (((0 : Nat) + n4.toNat) * (1 : Nat) ≤ l8.length.mul (1 : Nat)) (
 reqB (n4.toNat ≤ (600 : Nat)) (
 reqB ((List.take n4.toNat (List.drop (0 : Nat) l8)).length = n4.toNat) (
 reqB (∀ (y : Int), y ∈ List.take n4.toNat (List.drop (0 : Nat) l8) → (-1 : Int) ≤ y ∧ y ≤ (1 : Int)) (
 reqB (sigChips.post [DV.n n0, DV.n n1, DV.n n2, DV.n n3, DV.n n4]
 [DV.l (List.take n4.toNat (List.drop (0 : Nat) l8)), DV.n (0 : Int)]) (
 true)))))))))))))))))))))))))))))))))))))))))))))))))))))))))) := by kernel_rfl
set_option maxHeartbeats 8000000 in
theorem vt_chips : vcFn Tryd.prog [(39, Ext.ctr (ctOfG gl11 sigCode))] (fun f p _ => at2 f p 17 506 chL (none)) gl11 100 17 sigChips = true := by
  rw [vc_chips]
  try simp only [Int.toNat_natCast, List.length_set, List.length_replicate, List.length_take, List.length_drop, List.length_append, List.length_cons, List.length_nil, Nat.min_self, List.take_take, lenCols_i, lenCols_b, List.drop_zero, List.take_length, Nat.add_eq, Nat.mul_eq, Nat.sub_eq, Nat.zero_add, Nat.sub_zero, Nat.mul_one]
  try simp only [show (Int.ofNat 65536 : Int) = 65536 from rfl, show (Int.ofNat 9223372036854775807 : Int) = 9223372036854775807 from rfl, show (Int.negSucc 9223372036854775807 : Int) = -9223372036854775808 from rfl]
  refine all_i fun n0 => ?_
  refine imp_i fun h0 => ?_
  refine imp_i fun h1 => ?_
  refine all_i fun n1 => ?_
  refine imp_i fun h2 => ?_
  refine imp_i fun h3 => ?_
  refine all_i fun n2 => ?_
  refine imp_i fun h4 => ?_
  refine imp_i fun h5 => ?_
  refine all_i fun n3 => ?_
  refine imp_i fun h6 => ?_
  refine imp_i fun h7 => ?_
  refine all_i fun n4 => ?_
  refine imp_i fun h8 => ?_
  refine imp_i fun h9 => ?_
  refine imp_i fun h10 => ?_
  try simp only [sigChips, cChL, chipsPre, chipsPost, List.cons.injEq, DV.b.injEq, and_true, List.length_cons, List.length_nil] at h10
  refine req_i ?_ ?_
  · -- r0
   first | omega | assumption | grind
  refine req_i ?_ ?_
  · -- r1
   first | omega | assumption | grind
  refine req_i ?_ ?_
  · -- r2
   first | omega | assumption | grind
  refine req_i ?_ ?_
  · -- r3
   first | omega | assumption | grind
  refine req_i ?_ ?_
  · -- r4
   first | trivial | assumption | (simp only [sigCode, cCh, codePost, List.cons.injEq, DV.b.injEq, and_true, List.length_cons, List.length_nil]; done) | ((try simp only [sigCode, cCh, codePost, List.cons.injEq, DV.b.injEq, and_true, List.length_cons, List.length_nil]); first | omega | assumption | grind)
  refine all_i fun l5 => ?_
  refine imp_i fun h11 => ?_
  refine imp_i fun h12 => ?_
  refine all_i fun n6 => ?_
  refine imp_i fun h13 => ?_
  refine imp_i fun h14 => ?_
  refine imp_i fun h15 => ?_
  try simp only [Int.toNat_natCast, List.length_set, List.length_replicate, List.length_take, List.length_drop, List.length_append, List.length_cons, List.length_nil, Nat.min_self, List.take_take, lenCols_i, lenCols_b, List.drop_zero, List.take_length, Nat.add_eq, Nat.mul_eq, Nat.sub_eq, Nat.zero_add, Nat.sub_zero, Nat.mul_one] at h15
  have hb := ite_case h15
  have nb := @nG_bd n0
  refine bR_dec (fun h16 => ?_) (fun h16 => ?_)
  ·
   refine req_i ?_ ?_
   · -- r5
    first | omega | assumption | grind
   refine req_i ?_ ?_
   · -- r6
    first | omega | assumption | grind
   refine req_i ?_ ?_
   · -- r7
    obtain ⟨k1, k2, k3⟩ := hb.resolve_left (fun g => h16 g.2.1); exact chips_no (fun g => k1 g.1) k2
   rfl
  ·
   obtain ⟨ok, _, c5⟩ := hb.resolve_right (fun g => h16 (by rw [g.2.1]; decide))
   have k5 : (l5.length : Int) = nG n0 := by rw [c5, codeL, chips_len]; exact bits_len ok.1 (.inl rfl)
   refine bR_dec (fun h17 => ?_) (fun h17 => ?_)
   ·
    refine req_i ?_ ?_
    · -- r8
     exact chips_no (fun g => by obtain ⟨_, g⟩ := g; omega) rfl
    rfl
   ·
    refine bR_dec (fun h18 => ?_) (fun h18 => ?_)
    ·
     refine req_i ?_ ?_
     · -- r9
      exact chips_no (fun g => by obtain ⟨_, g⟩ := g; omega) rfl
     rfl
    ·
     refine bR_dec (fun h19 => ?_) (fun h19 => ?_)
     ·
      refine req_i ?_ ?_
      · -- r10
       exact chips_no (fun g => by obtain ⟨_, g⟩ := g; omega) rfl
      rfl
     ·
      refine bR_dec (fun h20 => ?_) (fun h20 => ?_)
      ·
       refine req_i ?_ ?_
       · -- r11
        exact chips_no (fun g => by obtain ⟨_, g⟩ := g; omega) rfl
       rfl
      ·
       refine bR_dec (fun h21 => ?_) (fun h21 => ?_)
       ·
        refine req_i ?_ ?_
        · -- r12
         exact chips_no (fun g => by obtain ⟨_, g⟩ := g; omega) rfl
        rfl
       ·
        refine bR_dec (fun h22 => ?_) (fun h22 => ?_)
        ·
         refine req_i ?_ ?_
         · -- r13
          exact chips_no (fun g => by obtain ⟨_, g⟩ := g; omega) rfl
         rfl
        ·
         refine req_i ?_ ?_
         · -- r14
          first | omega | assumption | grind
         refine req_i ?_ ?_
         · -- r15
          first | omega | assumption | grind
         refine req_i ?_ ?_
         · -- r16
          first | omega | assumption | grind
         refine req_i ?_ ?_
         · -- r17
          first | omega | assumption | grind
         refine req_i ?_ ?_
         · -- r18
          first | omega | ((try simp only [Nat.mul_eq]); first | done | omega | assumption | grind [getD_set, getD_rep, toNat_succ, cntN_yes, cntN_no])
         refine req_i ?_ ?_
         · -- r19
          first | omega | ((try simp only [Nat.zero_add]); first | done | omega | assumption | grind [getD_set, getD_rep, toNat_succ, cntN_yes, cntN_no])
         refine req_i ?_ ?_
         · -- r20
          first | omega | ((try simp only [List.length_take, List.take_length, List.take_take, Nat.min_self, List.length_drop, List.drop_zero, List.length_cons, List.length_nil]); first | done | omega | assumption | grind [getD_set, getD_rep, toNat_succ, cntN_yes, cntN_no])
         refine req_i ?_ ?_
         · -- r21
          first | assumption | exact rep_bd (by omega) (by omega) | exact set_bd (by assumption) (by omega) (by omega) | exact take_bd (by assumption) | ((try simp only [List.length_take, List.take_length, List.take_take, Nat.min_self, List.length_drop, List.drop_zero, List.length_cons, List.length_nil]); first | assumption | exact rep_bd (by omega) (by omega) | exact set_bd (by assumption) (by omega) (by omega) | exact take_bd (by assumption) | grind [getD_set, getD_rep, toNat_succ, cntN_yes, cntN_no])
         refine req_i ?_ ?_
         · -- r22
          first | omega | assumption | grind
         refine req_i ?_ ?_
         · -- r23
          first | omega | assumption | grind
         refine req_i ?_ ?_
         · -- r24
          first | omega | assumption | grind
         refine req_i ?_ ?_
         · -- r25
          first | omega | assumption | grind
         refine req_i ?_ ?_
         · -- r26
          first | omega | assumption | grind
         refine req_i ?_ ?_
         · -- r27
          first | omega | assumption | grind
         refine req_i ?_ ?_
         · -- r28
          first | omega | ((try simp only [Int.toNat_natCast, List.length_replicate, List.length_cons, List.length_nil, lenCols_i, lenCols_b]); first | done | omega | assumption | grind [getD_set, getD_rep, toNat_succ, cntN_yes, cntN_no])
         refine req_i ?_ ?_
         · -- r29
          first | omega | ((try simp only [Int.toNat_natCast, List.length_replicate, List.length_cons, List.length_nil, lenCols_i, lenCols_b]); first | done | omega | assumption | grind [getD_set, getD_rep, toNat_succ, cntN_yes, cntN_no])
         refine req_i ?_ ?_
         · -- r30
          first | assumption | exact rep_bd (by omega) (by omega) | exact set_bd (by assumption) (by omega) (by omega) | exact take_bd (by assumption) | ((try simp only [Int.toNat_natCast, List.length_replicate, List.length_cons, List.length_nil]); first | assumption | exact rep_bd (by omega) (by omega) | exact set_bd (by assumption) (by omega) (by omega) | exact take_bd (by assumption) | grind [getD_set, getD_rep, toNat_succ, cntN_yes, cntN_no])
         refine req_i ?_ ?_
         · -- r31
          first | omega | ((try simp only [chL, cCh, chInv, meaCh, List.cons.injEq, DV.b.injEq, and_true, Int.toNat_natCast, List.length_replicate, List.length_take, List.take_length, List.take_take, Nat.min_self, List.length_drop, List.drop_zero, List.length_cons, List.length_nil]); first | done | omega | assumption | grind [getD_set, getD_rep, toNat_succ, cntN_yes, cntN_no])
         refine all_i fun n7 => ?_
         refine imp_i fun h23 => ?_
         refine imp_i fun h24 => ?_
         refine all_i fun l8 => ?_
         refine imp_i fun h25 => ?_
         refine imp_i fun h26 => ?_
         refine imp_i fun h27 => ?_
         try simp only [chL, cCh, chInv, meaCh, List.cons.injEq, DV.b.injEq, and_true, List.length_take, List.take_length, List.take_take, Nat.min_self, List.length_drop, List.drop_zero, List.length_cons, List.length_nil] at h27
         refine bR_dec (fun h28 => ?_) (fun h28 => ?_)
         ·
          refine all_i fun n9 => ?_
          refine imp_i fun h29 => ?_
          simp only [wrap_i64] at h29
          have mb := mul_bd3 (i := n7) (r := n3) (by omega) (by omega) (by omega) (by omega)
          replace h29 : n9 = n7 * n3 := by omega
          refine imp_i fun h30 => ?_
          refine imp_i fun h31 => ?_
          refine all_i fun n10 => ?_
          refine imp_i fun h32 => ?_
          simp only [wrap_i64] at h32
          replace h32 : n10 = n2 + n9 := by omega
          have T := tmod_add (a := n10 / 65536) (L := (l5.length : Int)) (by omega)
          have q1 := Int.emod_nonneg (n10 / 65536) (b := (l5.length : Int)) (by omega)
          have q2 := Int.emod_lt_of_pos (n10 / 65536) (b := (l5.length : Int)) (by omega)
          have E := ch_e (c := l5) (a := n2) (r := n3) (i := n7) (m := (n10 / 65536) % (l5.length : Int)) (by omega) (by rw [h32, h29])
          have eb := chE_bd (c := l5) (a := n2) (r := n3) (j := n7.toNat) h12
          refine imp_i fun h33 => ?_
          refine imp_i fun h34 => ?_
          refine req_i ?_ ?_
          · -- r32
           first | omega | ((try simp only [Nat.zero_add]); first | done | omega | assumption | grind [getD_set, getD_rep, toNat_succ, cntN_yes, cntN_no])
          refine req_i ?_ ?_
          · -- r33
           first | omega | ((try simp only [Nat.zero_add]); first | done | omega | assumption | grind [getD_set, getD_rep, toNat_succ, cntN_yes, cntN_no])
          refine req_i ?_ ?_
          · -- r34
           first | omega | ((try simp only [Nat.zero_add]); first | done | omega | assumption | grind [getD_set, getD_rep, toNat_succ, cntN_yes, cntN_no])
          refine req_i ?_ ?_
          · -- r35
           first | omega | ((try simp only [Int.toNat_natCast, List.length_cons, List.length_nil]); first | done | omega | assumption | grind [getD_set, getD_rep, toNat_succ, cntN_yes, cntN_no])
          refine req_i ?_ ?_
          · -- r36
           first | omega | ((try simp only [Int.toNat_natCast, List.length_cons, List.length_nil, Nat.add_eq, Nat.zero_add]); first | done | omega | assumption | grind [getD_set, getD_rep, toNat_succ, cntN_yes, cntN_no])
          refine req_i ?_ ?_
          · -- r37
           first | omega | assumption | grind
          refine req_i ?_ ?_
          · -- r38
           first | omega | ((try simp only [Int.toNat_natCast, List.length_cons, List.length_nil, Nat.add_eq, Nat.zero_add]); first | done | omega | assumption | grind [getD_set, getD_rep, toNat_succ, cntN_yes, cntN_no])
          refine bR_t ?_ ?_
          · -- g0
           first | rfl | (simp only [bR_iff, bR_iff_f, dec_iff, dec_f, beqB_iff', andB_iff', reduceCtorEq, imp_self, false_implies, and_true, true_and, implies_true, and_self]; done) | (simp [bR_iff, dec_iff, beqB_iff', andB_iff']; done) | (simp [bR_iff, dec_iff, beqB_iff', andB_iff']; omega)
          refine bR_t ?_ ?_
          · -- g1
           first | rfl | (simp only [bR_iff, bR_iff_f, dec_iff, dec_f, beqB_iff', andB_iff', reduceCtorEq, imp_self, false_implies, and_true, true_and, implies_true, and_self]; done) | (simp [bR_iff, dec_iff, beqB_iff', andB_iff']; done) | (simp [bR_iff, dec_iff, beqB_iff', andB_iff']; omega)
          refine req_i ?_ ?_
          · -- r39
           first | omega | assumption | grind
          refine req_i ?_ ?_
          · -- r40
           first | omega | assumption | grind
          refine req_i ?_ ?_
          · -- r41
           first | omega | ((try simp only [Int.toNat_natCast, List.length_set, List.length_cons, List.length_nil, lenCols_i, lenCols_b, Nat.add_eq, Nat.zero_add]); first | done | omega | assumption | grind [getD_set, getD_rep, toNat_succ, cntN_yes, cntN_no])
          refine req_i ?_ ?_
          · -- r42
           first | omega | ((try simp only [Int.toNat_natCast, List.length_set, List.length_cons, List.length_nil, lenCols_i, lenCols_b, Nat.add_eq, Nat.zero_add]); first | done | omega | assumption | grind [getD_set, getD_rep, toNat_succ, cntN_yes, cntN_no])
          refine req_i ?_ ?_
          · -- r43
           (try simp only [Nat.add_eq, Nat.zero_add]); rw [T.2.2.2.1, E]; exact set_bd h26 (by omega) (by omega)
          refine req_i ?_ ?_
          · -- r44
           simp only [chL, chInv, List.drop_zero, List.take_length, Nat.add_eq, Nat.zero_add, T.2.2.2.1, E]; exact ⟨by omega, by omega, by rw [List.length_set]; omega, set_next (by omega) (by omega) h27.2.2.2 rfl⟩
          refine req_i ?_ ?_
          · -- r45
           first | omega | ((try simp only [chL, cCh, chInv, meaCh, List.cons.injEq, DV.b.injEq, and_true, Int.toNat_natCast, List.length_set, List.length_take, List.take_length, List.take_take, Nat.min_self, List.length_drop, List.drop_zero, List.length_cons, List.length_nil, Nat.add_eq, Nat.zero_add]); first | done | omega | assumption | grind [getD_set, getD_rep, toNat_succ, cntN_yes, cntN_no])
          rfl
         ·
          refine req_i ?_ ?_
          · -- r46
           first | omega | ((try simp only [Int.toNat_natCast, List.length_cons, List.length_nil, Nat.mul_eq]); first | done | omega | assumption | grind [getD_set, getD_rep, toNat_succ, cntN_yes, cntN_no])
          refine req_i ?_ ?_
          · -- r47
           first | omega | assumption | grind
          refine req_i ?_ ?_
          · -- r48
           first | omega | ((try simp only [Int.toNat_natCast, List.length_take, List.take_length, List.take_take, Nat.min_self, List.length_drop, List.drop_zero, List.length_cons, List.length_nil]); first | done | omega | assumption | grind [getD_set, getD_rep, toNat_succ, cntN_yes, cntN_no])
          refine req_i ?_ ?_
          · -- r49
           (try simp only [List.drop_zero]); rw [List.take_of_length_le (by omega), chipsL_of h27.2.2.1 (fun j hj => h27.2.2.2 j (by omega))]; exact chipsL_bd h12
          refine req_i ?_ ?_
          · -- r50
           (try simp only [List.drop_zero]); rw [List.take_of_length_le (by omega)]; exact chips_yes ⟨ok, by omega, by omega, by omega, by omega, by omega, by omega⟩ rfl (by rw [← c5]; exact chipsL_of h27.2.2.1 (fun j hj => h27.2.2.2 j (by omega)))
          rfl
theorem ext_chips : ∀ p ∈ ([(39, Ext.ctr (ctOfG gl11 sigCode))] : List (Nat × Ext)), ExtRow Tryd.prog p.1 p.2 := by
  intro p hp
  simp only [List.mem_cons, List.not_mem_nil, or_false] at hp
  rcases hp with rfl
  · trivial
theorem cts_chips : CtsOk Tryd.prog [(39, Ext.ctr (ctOfG gl11 sigCode))] := ctsOk_ofG (cs := [(39, sigCode)])
  (fun p hp => by
    simp only [List.mem_cons, List.not_mem_nil, or_false] at hp
    rcases hp with rfl
    · exact fn_code
)
  (fun f c h => by
    simp only [List.lookup_cons] at h
    repeat' split at h
    all_goals first | (cases h; done) | (rename_i e; have e := beq_iff_eq.1 e; subst e; cases h; refine ⟨_, ?_, rfl⟩; simp))
theorem fn_chips : FnOk Tryd.prog 17 sigChips gl11 := fn_sound (by kernel_rfl) ext_chips cts_chips names vt_chips
end Go.Proofs.YtblcahackjpnjaaDoor

namespace Go.Proofs.YtblcahackjpnjaaDoor
open Go.Ev Go.Sp
set_option maxRecDepth 100000
theorem vc_bitsR0 : vcFn Tryd.prog [] noA gl11 200 55 (sigBitsR 5 5 1 1) = (impB ((sigBitsR (5 : Int) (5 : Int) (1 : Int) (1 : Int)).pre [DV.n (5 : Int), DV.n (1 : Int)]) (
reqB ((31 : Nat) ≤ (1100 : Nat)) (
reqB ((bitsL 5 1).length =
 (31 : Nat)) (
reqB (∀ (y : Int),
 y ∈
 (bitsL 5 1) →
 (0 : Int) ≤ y ∧ y ≤ (1 : Int)) (
reqB ((sigBitsR (5 : Int) (5 : Int) (1 : Int) (1 : Int)).post [DV.n (5 : Int), DV.n (1 : Int)]
 [DV.l
 (bitsL 5 1),
 DV.n (0 : Int)]) (
true)))))) := by kernel_rfl
set_option maxHeartbeats 8000000 in
theorem vt_bitsR0 : vcFn Tryd.prog [] noA gl11 200 55 (sigBitsR 5 5 1 1) = true := by
  rw [vc_bitsR0]
  try simp only [Int.toNat_natCast, List.length_set, List.length_replicate, List.length_take, List.length_drop, List.length_append, List.length_cons, List.length_nil, Nat.min_self, List.take_take, lenCols_i, lenCols_b, List.drop_zero, List.take_length, Nat.add_eq, Nat.mul_eq, Nat.sub_eq, Nat.zero_add, Nat.sub_zero, Nat.mul_one]
  refine imp_i fun h0 => ?_
  try simp only [sigBitsR, iR, cB, bitsPost, List.cons.injEq, DV.b.injEq, and_true, List.length_cons, List.length_nil] at h0
  refine req_i ?_ ?_
  · -- r0
   first | omega | assumption | grind
  refine req_i ?_ ?_
  · -- r1
   decide +kernel
  refine req_i ?_ ?_
  · -- r2
   exact all01 (by decide +kernel)
  refine req_i ?_ ?_
  · -- r3
   first | exact ⟨rfl, rfl⟩ | exact ⟨rfl, by decide +kernel⟩
  rfl
theorem ext_bitsR0 : ∀ p ∈ ([] : List (Nat × Ext)), ExtRow Tryd.prog p.1 p.2 := by
  intro p hp
  cases hp
theorem cts_bitsR0 : CtsOk Tryd.prog [] := fun f c h => by cases h
theorem fn_bitsR0 : FnOk Tryd.prog 55 (sigBitsR 5 5 1 1) gl11 := fn_sound (by kernel_rfl) ext_bitsR0 cts_bitsR0 names vt_bitsR0
end Go.Proofs.YtblcahackjpnjaaDoor

namespace Go.Proofs.YtblcahackjpnjaaDoor
open Go.Ev Go.Sp
set_option maxRecDepth 100000
theorem vc_bitsR1 : vcFn Tryd.prog [] noA gl11 200 55 (sigBitsR 5 5 2 2) = (impB ((sigBitsR (5 : Int) (5 : Int) (2 : Int) (2 : Int)).pre [DV.n (5 : Int), DV.n (2 : Int)]) (
reqB ((31 : Nat) ≤ (1100 : Nat)) (
reqB ((bitsL 5 2).length =
 (31 : Nat)) (
reqB (∀ (y : Int),
 y ∈
 (bitsL 5 2) →
 (0 : Int) ≤ y ∧ y ≤ (1 : Int)) (
reqB ((sigBitsR (5 : Int) (5 : Int) (2 : Int) (2 : Int)).post [DV.n (5 : Int), DV.n (2 : Int)]
 [DV.l
 (bitsL 5 2),
 DV.n (0 : Int)]) (
true)))))) := by kernel_rfl
set_option maxHeartbeats 8000000 in
theorem vt_bitsR1 : vcFn Tryd.prog [] noA gl11 200 55 (sigBitsR 5 5 2 2) = true := by
  rw [vc_bitsR1]
  try simp only [Int.toNat_natCast, List.length_set, List.length_replicate, List.length_take, List.length_drop, List.length_append, List.length_cons, List.length_nil, Nat.min_self, List.take_take, lenCols_i, lenCols_b, List.drop_zero, List.take_length, Nat.add_eq, Nat.mul_eq, Nat.sub_eq, Nat.zero_add, Nat.sub_zero, Nat.mul_one]
  refine imp_i fun h0 => ?_
  try simp only [sigBitsR, iR, cB, bitsPost, List.cons.injEq, DV.b.injEq, and_true, List.length_cons, List.length_nil] at h0
  refine req_i ?_ ?_
  · -- r0
   first | omega | assumption | grind
  refine req_i ?_ ?_
  · -- r1
   decide +kernel
  refine req_i ?_ ?_
  · -- r2
   exact all01 (by decide +kernel)
  refine req_i ?_ ?_
  · -- r3
   first | exact ⟨rfl, rfl⟩ | exact ⟨rfl, by decide +kernel⟩
  rfl
theorem ext_bitsR1 : ∀ p ∈ ([] : List (Nat × Ext)), ExtRow Tryd.prog p.1 p.2 := by
  intro p hp
  cases hp
theorem cts_bitsR1 : CtsOk Tryd.prog [] := fun f c h => by cases h
theorem fn_bitsR1 : FnOk Tryd.prog 55 (sigBitsR 5 5 2 2) gl11 := fn_sound (by kernel_rfl) ext_bitsR1 cts_bitsR1 names vt_bitsR1
end Go.Proofs.YtblcahackjpnjaaDoor

namespace Go.Proofs.YtblcahackjpnjaaDoor
open Go.Ev Go.Sp
set_option maxRecDepth 100000
theorem vc_bitsR2 : vcFn Tryd.prog [] noA gl11 400 55 (sigBitsR 6 6 1 1) = (impB ((sigBitsR (6 : Int) (6 : Int) (1 : Int) (1 : Int)).pre [DV.n (6 : Int), DV.n (1 : Int)]) (
reqB ((63 : Nat) ≤ (1100 : Nat)) (
reqB ((bitsL 6 1).length =
 (63 : Nat)) (
reqB (∀ (y : Int),
 y ∈
 (bitsL 6 1) →
 (0 : Int) ≤ y ∧ y ≤ (1 : Int)) (
reqB ((sigBitsR (6 : Int) (6 : Int) (1 : Int) (1 : Int)).post [DV.n (6 : Int), DV.n (1 : Int)]
 [DV.l
 (bitsL 6 1),
 DV.n (0 : Int)]) (
true)))))) := by kernel_rfl
set_option maxHeartbeats 8000000 in
theorem vt_bitsR2 : vcFn Tryd.prog [] noA gl11 400 55 (sigBitsR 6 6 1 1) = true := by
  rw [vc_bitsR2]
  try simp only [Int.toNat_natCast, List.length_set, List.length_replicate, List.length_take, List.length_drop, List.length_append, List.length_cons, List.length_nil, Nat.min_self, List.take_take, lenCols_i, lenCols_b, List.drop_zero, List.take_length, Nat.add_eq, Nat.mul_eq, Nat.sub_eq, Nat.zero_add, Nat.sub_zero, Nat.mul_one]
  refine imp_i fun h0 => ?_
  try simp only [sigBitsR, iR, cB, bitsPost, List.cons.injEq, DV.b.injEq, and_true, List.length_cons, List.length_nil] at h0
  refine req_i ?_ ?_
  · -- r0
   first | omega | assumption | grind
  refine req_i ?_ ?_
  · -- r1
   decide +kernel
  refine req_i ?_ ?_
  · -- r2
   exact all01 (by decide +kernel)
  refine req_i ?_ ?_
  · -- r3
   first | exact ⟨rfl, rfl⟩ | exact ⟨rfl, by decide +kernel⟩
  rfl
theorem ext_bitsR2 : ∀ p ∈ ([] : List (Nat × Ext)), ExtRow Tryd.prog p.1 p.2 := by
  intro p hp
  cases hp
theorem cts_bitsR2 : CtsOk Tryd.prog [] := fun f c h => by cases h
theorem fn_bitsR2 : FnOk Tryd.prog 55 (sigBitsR 6 6 1 1) gl11 := fn_sound (by kernel_rfl) ext_bitsR2 cts_bitsR2 names vt_bitsR2
end Go.Proofs.YtblcahackjpnjaaDoor

namespace Go.Proofs.YtblcahackjpnjaaDoor
open Go.Ev Go.Sp
set_option maxRecDepth 100000
theorem vc_bitsR3 : vcFn Tryd.prog [] noA gl11 400 55 (sigBitsR 6 6 2 2) = (impB ((sigBitsR (6 : Int) (6 : Int) (2 : Int) (2 : Int)).pre [DV.n (6 : Int), DV.n (2 : Int)]) (
reqB ((63 : Nat) ≤ (1100 : Nat)) (
reqB ((bitsL 6 2).length =
 (63 : Nat)) (
reqB (∀ (y : Int),
 y ∈
 (bitsL 6 2) →
 (0 : Int) ≤ y ∧ y ≤ (1 : Int)) (
reqB ((sigBitsR (6 : Int) (6 : Int) (2 : Int) (2 : Int)).post [DV.n (6 : Int), DV.n (2 : Int)]
 [DV.l
 (bitsL 6 2),
 DV.n (0 : Int)]) (
true)))))) := by kernel_rfl
set_option maxHeartbeats 8000000 in
theorem vt_bitsR3 : vcFn Tryd.prog [] noA gl11 400 55 (sigBitsR 6 6 2 2) = true := by
  rw [vc_bitsR3]
  try simp only [Int.toNat_natCast, List.length_set, List.length_replicate, List.length_take, List.length_drop, List.length_append, List.length_cons, List.length_nil, Nat.min_self, List.take_take, lenCols_i, lenCols_b, List.drop_zero, List.take_length, Nat.add_eq, Nat.mul_eq, Nat.sub_eq, Nat.zero_add, Nat.sub_zero, Nat.mul_one]
  refine imp_i fun h0 => ?_
  try simp only [sigBitsR, iR, cB, bitsPost, List.cons.injEq, DV.b.injEq, and_true, List.length_cons, List.length_nil] at h0
  refine req_i ?_ ?_
  · -- r0
   first | omega | assumption | grind
  refine req_i ?_ ?_
  · -- r1
   decide +kernel
  refine req_i ?_ ?_
  · -- r2
   exact all01 (by decide +kernel)
  refine req_i ?_ ?_
  · -- r3
   first | exact ⟨rfl, rfl⟩ | exact ⟨rfl, by decide +kernel⟩
  rfl
theorem ext_bitsR3 : ∀ p ∈ ([] : List (Nat × Ext)), ExtRow Tryd.prog p.1 p.2 := by
  intro p hp
  cases hp
theorem cts_bitsR3 : CtsOk Tryd.prog [] := fun f c h => by cases h
theorem fn_bitsR3 : FnOk Tryd.prog 55 (sigBitsR 6 6 2 2) gl11 := fn_sound (by kernel_rfl) ext_bitsR3 cts_bitsR3 names vt_bitsR3
end Go.Proofs.YtblcahackjpnjaaDoor

namespace Go.Proofs.YtblcahackjpnjaaDoor
open Go.Ev Go.Sp
set_option maxRecDepth 100000
theorem vc_bitsR4 : vcFn Tryd.prog [] noA gl11 1000 55 (sigBitsR 7 7 1 1) = (impB ((sigBitsR (7 : Int) (7 : Int) (1 : Int) (1 : Int)).pre [DV.n (7 : Int), DV.n (1 : Int)]) (
reqB ((127 : Nat) ≤ (1100 : Nat)) (
reqB ((bitsL 7 1).length =
 (127 : Nat)) (
reqB (∀ (y : Int),
 y ∈
 (bitsL 7 1) →
 (0 : Int) ≤ y ∧ y ≤ (1 : Int)) (
reqB ((sigBitsR (7 : Int) (7 : Int) (1 : Int) (1 : Int)).post [DV.n (7 : Int), DV.n (1 : Int)]
 [DV.l
 (bitsL 7 1),
 DV.n (0 : Int)]) (
true)))))) := by kernel_rfl
set_option maxHeartbeats 8000000 in
theorem vt_bitsR4 : vcFn Tryd.prog [] noA gl11 1000 55 (sigBitsR 7 7 1 1) = true := by
  rw [vc_bitsR4]
  try simp only [Int.toNat_natCast, List.length_set, List.length_replicate, List.length_take, List.length_drop, List.length_append, List.length_cons, List.length_nil, Nat.min_self, List.take_take, lenCols_i, lenCols_b, List.drop_zero, List.take_length, Nat.add_eq, Nat.mul_eq, Nat.sub_eq, Nat.zero_add, Nat.sub_zero, Nat.mul_one]
  refine imp_i fun h0 => ?_
  try simp only [sigBitsR, iR, cB, bitsPost, List.cons.injEq, DV.b.injEq, and_true, List.length_cons, List.length_nil] at h0
  refine req_i ?_ ?_
  · -- r0
   first | omega | assumption | grind
  refine req_i ?_ ?_
  · -- r1
   decide +kernel
  refine req_i ?_ ?_
  · -- r2
   exact all01 (by decide +kernel)
  refine req_i ?_ ?_
  · -- r3
   first | exact ⟨rfl, rfl⟩ | exact ⟨rfl, by decide +kernel⟩
  rfl
theorem ext_bitsR4 : ∀ p ∈ ([] : List (Nat × Ext)), ExtRow Tryd.prog p.1 p.2 := by
  intro p hp
  cases hp
theorem cts_bitsR4 : CtsOk Tryd.prog [] := fun f c h => by cases h
theorem fn_bitsR4 : FnOk Tryd.prog 55 (sigBitsR 7 7 1 1) gl11 := fn_sound (by kernel_rfl) ext_bitsR4 cts_bitsR4 names vt_bitsR4
end Go.Proofs.YtblcahackjpnjaaDoor

namespace Go.Proofs.YtblcahackjpnjaaDoor
open Go.Ev Go.Sp
set_option maxRecDepth 100000
theorem vc_bitsR5 : vcFn Tryd.prog [] noA gl11 1000 55 (sigBitsR 7 7 2 2) = (impB ((sigBitsR (7 : Int) (7 : Int) (2 : Int) (2 : Int)).pre [DV.n (7 : Int), DV.n (2 : Int)]) (
reqB ((127 : Nat) ≤ (1100 : Nat)) (
reqB ((bitsL 7 2).length =
 (127 : Nat)) (
reqB (∀ (y : Int),
 y ∈
 (bitsL 7 2) →
 (0 : Int) ≤ y ∧ y ≤ (1 : Int)) (
reqB ((sigBitsR (7 : Int) (7 : Int) (2 : Int) (2 : Int)).post [DV.n (7 : Int), DV.n (2 : Int)]
 [DV.l
 (bitsL 7 2),
 DV.n (0 : Int)]) (
true)))))) := by kernel_rfl
set_option maxHeartbeats 8000000 in
theorem vt_bitsR5 : vcFn Tryd.prog [] noA gl11 1000 55 (sigBitsR 7 7 2 2) = true := by
  rw [vc_bitsR5]
  try simp only [Int.toNat_natCast, List.length_set, List.length_replicate, List.length_take, List.length_drop, List.length_append, List.length_cons, List.length_nil, Nat.min_self, List.take_take, lenCols_i, lenCols_b, List.drop_zero, List.take_length, Nat.add_eq, Nat.mul_eq, Nat.sub_eq, Nat.zero_add, Nat.sub_zero, Nat.mul_one]
  refine imp_i fun h0 => ?_
  try simp only [sigBitsR, iR, cB, bitsPost, List.cons.injEq, DV.b.injEq, and_true, List.length_cons, List.length_nil] at h0
  refine req_i ?_ ?_
  · -- r0
   first | omega | assumption | grind
  refine req_i ?_ ?_
  · -- r1
   decide +kernel
  refine req_i ?_ ?_
  · -- r2
   exact all01 (by decide +kernel)
  refine req_i ?_ ?_
  · -- r3
   first | exact ⟨rfl, rfl⟩ | exact ⟨rfl, by decide +kernel⟩
  rfl
theorem ext_bitsR5 : ∀ p ∈ ([] : List (Nat × Ext)), ExtRow Tryd.prog p.1 p.2 := by
  intro p hp
  cases hp
theorem cts_bitsR5 : CtsOk Tryd.prog [] := fun f c h => by cases h
theorem fn_bitsR5 : FnOk Tryd.prog 55 (sigBitsR 7 7 2 2) gl11 := fn_sound (by kernel_rfl) ext_bitsR5 cts_bitsR5 names vt_bitsR5
end Go.Proofs.YtblcahackjpnjaaDoor

namespace Go.Proofs.YtblcahackjpnjaaDoor
open Go.Ev Go.Sp
set_option maxRecDepth 100000
theorem vc_bitsR6 : vcFn Tryd.prog [] noA gl11 2500 55 (sigBitsR 9 9 1 1) = (impB ((sigBitsR (9 : Int) (9 : Int) (1 : Int) (1 : Int)).pre [DV.n (9 : Int), DV.n (1 : Int)]) (
reqB ((511 : Nat) ≤ (1100 : Nat)) (
reqB ((bitsL 9 1).length =
 (511 : Nat)) (
reqB (∀ (y : Int),
 y ∈
 (bitsL 9 1) →
 (0 : Int) ≤ y ∧ y ≤ (1 : Int)) (
reqB ((sigBitsR (9 : Int) (9 : Int) (1 : Int) (1 : Int)).post [DV.n (9 : Int), DV.n (1 : Int)]
 [DV.l
 (bitsL 9 1),
 DV.n (0 : Int)]) (
true)))))) := by kernel_rfl
set_option maxHeartbeats 8000000 in
theorem vt_bitsR6 : vcFn Tryd.prog [] noA gl11 2500 55 (sigBitsR 9 9 1 1) = true := by
  rw [vc_bitsR6]
  try simp only [Int.toNat_natCast, List.length_set, List.length_replicate, List.length_take, List.length_drop, List.length_append, List.length_cons, List.length_nil, Nat.min_self, List.take_take, lenCols_i, lenCols_b, List.drop_zero, List.take_length, Nat.add_eq, Nat.mul_eq, Nat.sub_eq, Nat.zero_add, Nat.sub_zero, Nat.mul_one]
  refine imp_i fun h0 => ?_
  try simp only [sigBitsR, iR, cB, bitsPost, List.cons.injEq, DV.b.injEq, and_true, List.length_cons, List.length_nil] at h0
  refine req_i ?_ ?_
  · -- r0
   first | omega | assumption | grind
  refine req_i ?_ ?_
  · -- r1
   decide +kernel
  refine req_i ?_ ?_
  · -- r2
   exact all01 (by decide +kernel)
  refine req_i ?_ ?_
  · -- r3
   first | exact ⟨rfl, rfl⟩ | exact ⟨rfl, by decide +kernel⟩
  rfl
theorem ext_bitsR6 : ∀ p ∈ ([] : List (Nat × Ext)), ExtRow Tryd.prog p.1 p.2 := by
  intro p hp
  cases hp
theorem cts_bitsR6 : CtsOk Tryd.prog [] := fun f c h => by cases h
theorem fn_bitsR6 : FnOk Tryd.prog 55 (sigBitsR 9 9 1 1) gl11 := fn_sound (by kernel_rfl) ext_bitsR6 cts_bitsR6 names vt_bitsR6
end Go.Proofs.YtblcahackjpnjaaDoor

namespace Go.Proofs.YtblcahackjpnjaaDoor
open Go.Ev Go.Sp
set_option maxRecDepth 100000
theorem vc_bitsR7 : vcFn Tryd.prog [] noA gl11 2500 55 (sigBitsR 9 9 2 2) = (impB ((sigBitsR (9 : Int) (9 : Int) (2 : Int) (2 : Int)).pre [DV.n (9 : Int), DV.n (2 : Int)]) (
reqB ((511 : Nat) ≤ (1100 : Nat)) (
reqB ((bitsL 9 2).length =
 (511 : Nat)) (
reqB (∀ (y : Int),
 y ∈
 (bitsL 9 2) →
 (0 : Int) ≤ y ∧ y ≤ (1 : Int)) (
reqB ((sigBitsR (9 : Int) (9 : Int) (2 : Int) (2 : Int)).post [DV.n (9 : Int), DV.n (2 : Int)]
 [DV.l
 (bitsL 9 2),
 DV.n (0 : Int)]) (
true)))))) := by kernel_rfl
set_option maxHeartbeats 8000000 in
theorem vt_bitsR7 : vcFn Tryd.prog [] noA gl11 2500 55 (sigBitsR 9 9 2 2) = true := by
  rw [vc_bitsR7]
  try simp only [Int.toNat_natCast, List.length_set, List.length_replicate, List.length_take, List.length_drop, List.length_append, List.length_cons, List.length_nil, Nat.min_self, List.take_take, lenCols_i, lenCols_b, List.drop_zero, List.take_length, Nat.add_eq, Nat.mul_eq, Nat.sub_eq, Nat.zero_add, Nat.sub_zero, Nat.mul_one]
  refine imp_i fun h0 => ?_
  try simp only [sigBitsR, iR, cB, bitsPost, List.cons.injEq, DV.b.injEq, and_true, List.length_cons, List.length_nil] at h0
  refine req_i ?_ ?_
  · -- r0
   first | omega | assumption | grind
  refine req_i ?_ ?_
  · -- r1
   decide +kernel
  refine req_i ?_ ?_
  · -- r2
   exact all01 (by decide +kernel)
  refine req_i ?_ ?_
  · -- r3
   first | exact ⟨rfl, rfl⟩ | exact ⟨rfl, by decide +kernel⟩
  rfl
theorem ext_bitsR7 : ∀ p ∈ ([] : List (Nat × Ext)), ExtRow Tryd.prog p.1 p.2 := by
  intro p hp
  cases hp
theorem cts_bitsR7 : CtsOk Tryd.prog [] := fun f c h => by cases h
theorem fn_bitsR7 : FnOk Tryd.prog 55 (sigBitsR 9 9 2 2) gl11 := fn_sound (by kernel_rfl) ext_bitsR7 cts_bitsR7 names vt_bitsR7
end Go.Proofs.YtblcahackjpnjaaDoor

namespace Go.Proofs.YtblcahackjpnjaaDoor
open Go.Ev Go.Sp
set_option maxRecDepth 100000
theorem vc_bitsR8 : vcFn Tryd.prog [] noA gl11 4000 55 (sigBitsR 10 10 1 1) = (impB ((sigBitsR (10 : Int) (10 : Int) (1 : Int) (1 : Int)).pre [DV.n (10 : Int), DV.n (1 : Int)]) (
reqB ((1023 : Nat) ≤ (1100 : Nat)) (
reqB ((bitsL 10 1).length =
 (1023 : Nat)) (
reqB (∀ (y : Int),
 y ∈
 (bitsL 10 1) →
 (0 : Int) ≤ y ∧ y ≤ (1 : Int)) (
reqB ((sigBitsR (10 : Int) (10 : Int) (1 : Int) (1 : Int)).post [DV.n (10 : Int), DV.n (1 : Int)]
 [DV.l
 (bitsL 10 1),
 DV.n (0 : Int)]) (
true)))))) := by kernel_rfl
set_option maxHeartbeats 8000000 in
theorem vt_bitsR8 : vcFn Tryd.prog [] noA gl11 4000 55 (sigBitsR 10 10 1 1) = true := by
  rw [vc_bitsR8]
  try simp only [Int.toNat_natCast, List.length_set, List.length_replicate, List.length_take, List.length_drop, List.length_append, List.length_cons, List.length_nil, Nat.min_self, List.take_take, lenCols_i, lenCols_b, List.drop_zero, List.take_length, Nat.add_eq, Nat.mul_eq, Nat.sub_eq, Nat.zero_add, Nat.sub_zero, Nat.mul_one]
  refine imp_i fun h0 => ?_
  try simp only [sigBitsR, iR, cB, bitsPost, List.cons.injEq, DV.b.injEq, and_true, List.length_cons, List.length_nil] at h0
  refine req_i ?_ ?_
  · -- r0
   first | omega | assumption | grind
  refine req_i ?_ ?_
  · -- r1
   decide +kernel
  refine req_i ?_ ?_
  · -- r2
   exact all01 (by decide +kernel)
  refine req_i ?_ ?_
  · -- r3
   first | exact ⟨rfl, rfl⟩ | exact ⟨rfl, by decide +kernel⟩
  rfl
theorem ext_bitsR8 : ∀ p ∈ ([] : List (Nat × Ext)), ExtRow Tryd.prog p.1 p.2 := by
  intro p hp
  cases hp
theorem cts_bitsR8 : CtsOk Tryd.prog [] := fun f c h => by cases h
theorem fn_bitsR8 : FnOk Tryd.prog 55 (sigBitsR 10 10 1 1) gl11 := fn_sound (by kernel_rfl) ext_bitsR8 cts_bitsR8 names vt_bitsR8
end Go.Proofs.YtblcahackjpnjaaDoor

namespace Go.Proofs.YtblcahackjpnjaaDoor
open Go.Ev Go.Sp
set_option maxRecDepth 100000
theorem vc_bitsR9 : vcFn Tryd.prog [] noA gl11 4000 55 (sigBitsR 10 10 2 2) = (impB ((sigBitsR (10 : Int) (10 : Int) (2 : Int) (2 : Int)).pre [DV.n (10 : Int), DV.n (2 : Int)]) (
reqB ((1023 : Nat) ≤ (1100 : Nat)) (
reqB ((bitsL 10 2).length =
 (1023 : Nat)) (
reqB (∀ (y : Int),
 y ∈
 (bitsL 10 2) →
 (0 : Int) ≤ y ∧ y ≤ (1 : Int)) (
reqB ((sigBitsR (10 : Int) (10 : Int) (2 : Int) (2 : Int)).post [DV.n (10 : Int), DV.n (2 : Int)]
 [DV.l
 (bitsL 10 2),
 DV.n (0 : Int)]) (
true)))))) := by kernel_rfl
set_option maxHeartbeats 8000000 in
theorem vt_bitsR9 : vcFn Tryd.prog [] noA gl11 4000 55 (sigBitsR 10 10 2 2) = true := by
  rw [vc_bitsR9]
  try simp only [Int.toNat_natCast, List.length_set, List.length_replicate, List.length_take, List.length_drop, List.length_append, List.length_cons, List.length_nil, Nat.min_self, List.take_take, lenCols_i, lenCols_b, List.drop_zero, List.take_length, Nat.add_eq, Nat.mul_eq, Nat.sub_eq, Nat.zero_add, Nat.sub_zero, Nat.mul_one]
  refine imp_i fun h0 => ?_
  try simp only [sigBitsR, iR, cB, bitsPost, List.cons.injEq, DV.b.injEq, and_true, List.length_cons, List.length_nil] at h0
  refine req_i ?_ ?_
  · -- r0
   first | omega | assumption | grind
  refine req_i ?_ ?_
  · -- r1
   decide +kernel
  refine req_i ?_ ?_
  · -- r2
   exact all01 (by decide +kernel)
  refine req_i ?_ ?_
  · -- r3
   first | exact ⟨rfl, rfl⟩ | exact ⟨rfl, by decide +kernel⟩
  rfl
theorem ext_bitsR9 : ∀ p ∈ ([] : List (Nat × Ext)), ExtRow Tryd.prog p.1 p.2 := by
  intro p hp
  cases hp
theorem cts_bitsR9 : CtsOk Tryd.prog [] := fun f c h => by cases h
theorem fn_bitsR9 : FnOk Tryd.prog 55 (sigBitsR 10 10 2 2) gl11 := fn_sound (by kernel_rfl) ext_bitsR9 cts_bitsR9 names vt_bitsR9
end Go.Proofs.YtblcahackjpnjaaDoor

namespace Go.Proofs.YtblcahackjpnjaaDoor
open Go.Ev Go.Sp
set_option maxRecDepth 100000
theorem vc_bitsR10 : vcFn Tryd.prog [] noA gl11 100 55 (sigBitsR (-9223372036854775808) 4 (-9223372036854775808) 9223372036854775807) = (allB fun n0 : Int => 
impB ((-9223372036854775808 : Int) ≤ n0) (
impB (n0 ≤ (4 : Int)) (
allB fun n1 : Int => 
impB ((-9223372036854775808 : Int) ≤ n1) (
impB (n1 ≤ (9223372036854775807 : Int)) (
impB ((sigBitsR (-9223372036854775808 : Int) (4 : Int) (-9223372036854775808 : Int) (9223372036854775807 : Int)).pre
 [DV.n n0, DV.n n1]) (
reqB ((sigBitsR (-9223372036854775808 : Int) (4 : Int) (-9223372036854775808 : Int) (9223372036854775807 : Int)).post
 [DV.n n0, DV.n n1] [DV.l [], DV.n (2 : Int)]) (
true))))))) := by kernel_rfl
set_option maxHeartbeats 8000000 in
theorem vt_bitsR10 : vcFn Tryd.prog [] noA gl11 100 55 (sigBitsR (-9223372036854775808) 4 (-9223372036854775808) 9223372036854775807) = true := by
  rw [vc_bitsR10]
  try simp only [Int.toNat_natCast, List.length_set, List.length_replicate, List.length_take, List.length_drop, List.length_append, List.length_cons, List.length_nil, Nat.min_self, List.take_take, lenCols_i, lenCols_b, List.drop_zero, List.take_length, Nat.add_eq, Nat.mul_eq, Nat.sub_eq, Nat.zero_add, Nat.sub_zero, Nat.mul_one]
  refine all_i fun n0 => ?_
  refine imp_i fun h0 => ?_
  refine imp_i fun h1 => ?_
  refine all_i fun n1 => ?_
  refine imp_i fun h2 => ?_
  refine imp_i fun h3 => ?_
  refine imp_i fun h4 => ?_
  try simp only [sigBitsR, iR, cB, bitsPost, List.cons.injEq, DV.b.injEq, and_true, List.length_cons, List.length_nil] at h4
  refine req_i ?_ ?_
  · -- r0
   (simp only [sigBitsR, bitsPost, sigTapsR, tapsPost, sigLenR, lenPost]; exact ite_no (by unfold okD; omega) (by simp))
  rfl
theorem ext_bitsR10 : ∀ p ∈ ([] : List (Nat × Ext)), ExtRow Tryd.prog p.1 p.2 := by
  intro p hp
  cases hp
theorem cts_bitsR10 : CtsOk Tryd.prog [] := fun f c h => by cases h
theorem fn_bitsR10 : FnOk Tryd.prog 55 (sigBitsR (-9223372036854775808) 4 (-9223372036854775808) 9223372036854775807) gl11 := fn_sound (by kernel_rfl) ext_bitsR10 cts_bitsR10 names vt_bitsR10
end Go.Proofs.YtblcahackjpnjaaDoor

namespace Go.Proofs.YtblcahackjpnjaaDoor
open Go.Ev Go.Sp
set_option maxRecDepth 100000
theorem vc_bitsR11 : vcFn Tryd.prog [] noA gl11 100 55 (sigBitsR 8 8 (-9223372036854775808) 9223372036854775807) = (allB fun n0 : Int => 
impB ((-9223372036854775808 : Int) ≤ n0) (
impB (n0 ≤ (9223372036854775807 : Int)) (
impB ((sigBitsR (8 : Int) (8 : Int) (-9223372036854775808 : Int) (9223372036854775807 : Int)).pre
 [DV.n (8 : Int), DV.n n0]) (
reqB ((sigBitsR (8 : Int) (8 : Int) (-9223372036854775808 : Int) (9223372036854775807 : Int)).post
 [DV.n (8 : Int), DV.n n0] [DV.l [], DV.n (2 : Int)]) (
true))))) := by kernel_rfl
set_option maxHeartbeats 8000000 in
theorem vt_bitsR11 : vcFn Tryd.prog [] noA gl11 100 55 (sigBitsR 8 8 (-9223372036854775808) 9223372036854775807) = true := by
  rw [vc_bitsR11]
  try simp only [Int.toNat_natCast, List.length_set, List.length_replicate, List.length_take, List.length_drop, List.length_append, List.length_cons, List.length_nil, Nat.min_self, List.take_take, lenCols_i, lenCols_b, List.drop_zero, List.take_length, Nat.add_eq, Nat.mul_eq, Nat.sub_eq, Nat.zero_add, Nat.sub_zero, Nat.mul_one]
  refine all_i fun n0 => ?_
  refine imp_i fun h0 => ?_
  refine imp_i fun h1 => ?_
  refine imp_i fun h2 => ?_
  try simp only [sigBitsR, iR, cB, bitsPost, List.cons.injEq, DV.b.injEq, and_true, List.length_cons, List.length_nil] at h2
  refine req_i ?_ ?_
  · -- r0
   (simp only [sigBitsR, bitsPost, sigTapsR, tapsPost, sigLenR, lenPost]; exact ite_no (by unfold okD; omega) (by simp))
  rfl
theorem ext_bitsR11 : ∀ p ∈ ([] : List (Nat × Ext)), ExtRow Tryd.prog p.1 p.2 := by
  intro p hp
  cases hp
theorem cts_bitsR11 : CtsOk Tryd.prog [] := fun f c h => by cases h
theorem fn_bitsR11 : FnOk Tryd.prog 55 (sigBitsR 8 8 (-9223372036854775808) 9223372036854775807) gl11 := fn_sound (by kernel_rfl) ext_bitsR11 cts_bitsR11 names vt_bitsR11
end Go.Proofs.YtblcahackjpnjaaDoor

namespace Go.Proofs.YtblcahackjpnjaaDoor
open Go.Ev Go.Sp
set_option maxRecDepth 100000
theorem vc_bitsR12 : vcFn Tryd.prog [] noA gl11 100 55 (sigBitsR 11 9223372036854775807 (-9223372036854775808) 9223372036854775807) = (allB fun n0 : Int => 
impB ((11 : Int) ≤ n0) (
impB (n0 ≤ (9223372036854775807 : Int)) (
allB fun n1 : Int => 
impB ((-9223372036854775808 : Int) ≤ n1) (
impB (n1 ≤ (9223372036854775807 : Int)) (
impB ((sigBitsR (11 : Int) (9223372036854775807 : Int) (-9223372036854775808 : Int) (9223372036854775807 : Int)).pre
 [DV.n n0, DV.n n1]) (
reqB ((sigBitsR (11 : Int) (9223372036854775807 : Int) (-9223372036854775808 : Int) (9223372036854775807 : Int)).post
 [DV.n n0, DV.n n1] [DV.l [], DV.n (2 : Int)]) (
true))))))) := by kernel_rfl
set_option maxHeartbeats 8000000 in
theorem vt_bitsR12 : vcFn Tryd.prog [] noA gl11 100 55 (sigBitsR 11 9223372036854775807 (-9223372036854775808) 9223372036854775807) = true := by
  rw [vc_bitsR12]
  try simp only [Int.toNat_natCast, List.length_set, List.length_replicate, List.length_take, List.length_drop, List.length_append, List.length_cons, List.length_nil, Nat.min_self, List.take_take, lenCols_i, lenCols_b, List.drop_zero, List.take_length, Nat.add_eq, Nat.mul_eq, Nat.sub_eq, Nat.zero_add, Nat.sub_zero, Nat.mul_one]
  refine all_i fun n0 => ?_
  refine imp_i fun h0 => ?_
  refine imp_i fun h1 => ?_
  refine all_i fun n1 => ?_
  refine imp_i fun h2 => ?_
  refine imp_i fun h3 => ?_
  refine imp_i fun h4 => ?_
  try simp only [sigBitsR, iR, cB, bitsPost, List.cons.injEq, DV.b.injEq, and_true, List.length_cons, List.length_nil] at h4
  refine req_i ?_ ?_
  · -- r0
   (simp only [sigBitsR, bitsPost, sigTapsR, tapsPost, sigLenR, lenPost]; exact ite_no (by unfold okD; omega) (by simp))
  rfl
theorem ext_bitsR12 : ∀ p ∈ ([] : List (Nat × Ext)), ExtRow Tryd.prog p.1 p.2 := by
  intro p hp
  cases hp
theorem cts_bitsR12 : CtsOk Tryd.prog [] := fun f c h => by cases h
theorem fn_bitsR12 : FnOk Tryd.prog 55 (sigBitsR 11 9223372036854775807 (-9223372036854775808) 9223372036854775807) gl11 := fn_sound (by kernel_rfl) ext_bitsR12 cts_bitsR12 names vt_bitsR12
end Go.Proofs.YtblcahackjpnjaaDoor

namespace Go.Proofs.YtblcahackjpnjaaDoor
open Go.Ev Go.Sp
set_option maxRecDepth 100000
theorem vc_bitsR13 : vcFn Tryd.prog [] noA gl11 100 55 (sigBitsR 5 10 (-9223372036854775808) 0) = (allB fun n0 : Int => 
impB ((5 : Int) ≤ n0) (
impB (n0 ≤ (10 : Int)) (
allB fun n1 : Int => 
impB ((-9223372036854775808 : Int) ≤ n1) (
impB (n1 ≤ (0 : Int)) (
impB ((sigBitsR (5 : Int) (10 : Int) (-9223372036854775808 : Int) (0 : Int)).pre [DV.n n0, DV.n n1]) (
bR (dec (n0 = (5 : Int))) (
 reqB ((sigBitsR (5 : Int) (10 : Int) (-9223372036854775808 : Int) (0 : Int)).post [DV.n n0, DV.n n1]
 [DV.l [], DV.n (2 : Int)]) (
 true)) (
 bR (dec (n0 = (6 : Int))) (
 reqB ((sigBitsR (5 : Int) (10 : Int) (-9223372036854775808 : Int) (0 : Int)).post [DV.n n0, DV.n n1]
 [DV.l [], DV.n (2 : Int)]) (
 true)) (
 bR (dec (n0 = (7 : Int))) (
 reqB ((sigBitsR (5 : Int) (10 : Int) (-9223372036854775808 : Int) (0 : Int)).post [DV.n n0, DV.n n1]
 [DV.l [], DV.n (2 : Int)]) (
 true)) (
 bR (dec (n0 = (9 : Int))) (
 reqB ((sigBitsR (5 : Int) (10 : Int) (-9223372036854775808 : Int) (0 : Int)).post [DV.n n0, DV.n n1]
 [DV.l [], DV.n (2 : Int)]) (
 true)) (
 bR (dec (n0 = (10 : Int))) (
 reqB ((sigBitsR (5 : Int) (10 : Int) (-9223372036854775808 : Int) (0 : Int)).post [DV.n n0, DV.n n1]
 [DV.l [], DV.n (2 : Int)]) (
 true)) (
 reqB ((sigBitsR (5 : Int) (10 : Int) (-9223372036854775808 : Int) (0 : Int)).post [DV.n n0, DV.n n1]
 [DV.l [], DV.n (2 : Int)]) (
 true)))))))))))) := by kernel_rfl
set_option maxHeartbeats 8000000 in
theorem vt_bitsR13 : vcFn Tryd.prog [] noA gl11 100 55 (sigBitsR 5 10 (-9223372036854775808) 0) = true := by
  rw [vc_bitsR13]
  try simp only [Int.toNat_natCast, List.length_set, List.length_replicate, List.length_take, List.length_drop, List.length_append, List.length_cons, List.length_nil, Nat.min_self, List.take_take, lenCols_i, lenCols_b, List.drop_zero, List.take_length, Nat.add_eq, Nat.mul_eq, Nat.sub_eq, Nat.zero_add, Nat.sub_zero, Nat.mul_one]
  refine all_i fun n0 => ?_
  refine imp_i fun h0 => ?_
  refine imp_i fun h1 => ?_
  refine all_i fun n1 => ?_
  refine imp_i fun h2 => ?_
  refine imp_i fun h3 => ?_
  refine imp_i fun h4 => ?_
  try simp only [sigBitsR, iR, cB, bitsPost, List.cons.injEq, DV.b.injEq, and_true, List.length_cons, List.length_nil] at h4
  refine bR_dec (fun h5 => ?_) (fun h5 => ?_)
  ·
   refine req_i ?_ ?_
   · -- r0
    (simp only [sigBitsR, bitsPost, sigTapsR, tapsPost, sigLenR, lenPost]; exact ite_no (by unfold okD; omega) (by simp))
   rfl
  ·
   refine bR_dec (fun h6 => ?_) (fun h6 => ?_)
   ·
    refine req_i ?_ ?_
    · -- r1
     (simp only [sigBitsR, bitsPost, sigTapsR, tapsPost, sigLenR, lenPost]; exact ite_no (by unfold okD; omega) (by simp))
    rfl
   ·
    refine bR_dec (fun h7 => ?_) (fun h7 => ?_)
    ·
     refine req_i ?_ ?_
     · -- r2
      (simp only [sigBitsR, bitsPost, sigTapsR, tapsPost, sigLenR, lenPost]; exact ite_no (by unfold okD; omega) (by simp))
     rfl
    ·
     refine bR_dec (fun h8 => ?_) (fun h8 => ?_)
     ·
      refine req_i ?_ ?_
      · -- r3
       (simp only [sigBitsR, bitsPost, sigTapsR, tapsPost, sigLenR, lenPost]; exact ite_no (by unfold okD; omega) (by simp))
      rfl
     ·
      refine bR_dec (fun h9 => ?_) (fun h9 => ?_)
      ·
       refine req_i ?_ ?_
       · -- r4
        (simp only [sigBitsR, bitsPost, sigTapsR, tapsPost, sigLenR, lenPost]; exact ite_no (by unfold okD; omega) (by simp))
       rfl
      ·
       refine req_i ?_ ?_
       · -- r5
        (simp only [sigBitsR, bitsPost, sigTapsR, tapsPost, sigLenR, lenPost]; exact ite_no (by unfold okD; omega) (by simp))
       rfl
theorem ext_bitsR13 : ∀ p ∈ ([] : List (Nat × Ext)), ExtRow Tryd.prog p.1 p.2 := by
  intro p hp
  cases hp
theorem cts_bitsR13 : CtsOk Tryd.prog [] := fun f c h => by cases h
theorem fn_bitsR13 : FnOk Tryd.prog 55 (sigBitsR 5 10 (-9223372036854775808) 0) gl11 := fn_sound (by kernel_rfl) ext_bitsR13 cts_bitsR13 names vt_bitsR13
end Go.Proofs.YtblcahackjpnjaaDoor

namespace Go.Proofs.YtblcahackjpnjaaDoor
open Go.Ev Go.Sp
set_option maxRecDepth 100000
theorem vc_bitsR14 : vcFn Tryd.prog [] noA gl11 100 55 (sigBitsR 5 10 3 9223372036854775807) = (allB fun n0 : Int => 
impB ((5 : Int) ≤ n0) (
impB (n0 ≤ (10 : Int)) (
allB fun n1 : Int => 
impB ((3 : Int) ≤ n1) (
impB (n1 ≤ (9223372036854775807 : Int)) (
impB ((sigBitsR (5 : Int) (10 : Int) (3 : Int) (9223372036854775807 : Int)).pre [DV.n n0, DV.n n1]) (
bR (dec (n0 = (5 : Int))) (
 reqB ((sigBitsR (5 : Int) (10 : Int) (3 : Int) (9223372036854775807 : Int)).post [DV.n n0, DV.n n1]
 [DV.l [], DV.n (2 : Int)]) (
 true)) (
 bR (dec (n0 = (6 : Int))) (
 reqB ((sigBitsR (5 : Int) (10 : Int) (3 : Int) (9223372036854775807 : Int)).post [DV.n n0, DV.n n1]
 [DV.l [], DV.n (2 : Int)]) (
 true)) (
 bR (dec (n0 = (7 : Int))) (
 reqB ((sigBitsR (5 : Int) (10 : Int) (3 : Int) (9223372036854775807 : Int)).post [DV.n n0, DV.n n1]
 [DV.l [], DV.n (2 : Int)]) (
 true)) (
 bR (dec (n0 = (9 : Int))) (
 reqB ((sigBitsR (5 : Int) (10 : Int) (3 : Int) (9223372036854775807 : Int)).post [DV.n n0, DV.n n1]
 [DV.l [], DV.n (2 : Int)]) (
 true)) (
 bR (dec (n0 = (10 : Int))) (
 reqB ((sigBitsR (5 : Int) (10 : Int) (3 : Int) (9223372036854775807 : Int)).post [DV.n n0, DV.n n1]
 [DV.l [], DV.n (2 : Int)]) (
 true)) (
 reqB ((sigBitsR (5 : Int) (10 : Int) (3 : Int) (9223372036854775807 : Int)).post [DV.n n0, DV.n n1]
 [DV.l [], DV.n (2 : Int)]) (
 true)))))))))))) := by kernel_rfl
set_option maxHeartbeats 8000000 in
theorem vt_bitsR14 : vcFn Tryd.prog [] noA gl11 100 55 (sigBitsR 5 10 3 9223372036854775807) = true := by
  rw [vc_bitsR14]
  try simp only [Int.toNat_natCast, List.length_set, List.length_replicate, List.length_take, List.length_drop, List.length_append, List.length_cons, List.length_nil, Nat.min_self, List.take_take, lenCols_i, lenCols_b, List.drop_zero, List.take_length, Nat.add_eq, Nat.mul_eq, Nat.sub_eq, Nat.zero_add, Nat.sub_zero, Nat.mul_one]
  refine all_i fun n0 => ?_
  refine imp_i fun h0 => ?_
  refine imp_i fun h1 => ?_
  refine all_i fun n1 => ?_
  refine imp_i fun h2 => ?_
  refine imp_i fun h3 => ?_
  refine imp_i fun h4 => ?_
  try simp only [sigBitsR, iR, cB, bitsPost, List.cons.injEq, DV.b.injEq, and_true, List.length_cons, List.length_nil] at h4
  refine bR_dec (fun h5 => ?_) (fun h5 => ?_)
  ·
   refine req_i ?_ ?_
   · -- r0
    (simp only [sigBitsR, bitsPost, sigTapsR, tapsPost, sigLenR, lenPost]; exact ite_no (by unfold okD; omega) (by simp))
   rfl
  ·
   refine bR_dec (fun h6 => ?_) (fun h6 => ?_)
   ·
    refine req_i ?_ ?_
    · -- r1
     (simp only [sigBitsR, bitsPost, sigTapsR, tapsPost, sigLenR, lenPost]; exact ite_no (by unfold okD; omega) (by simp))
    rfl
   ·
    refine bR_dec (fun h7 => ?_) (fun h7 => ?_)
    ·
     refine req_i ?_ ?_
     · -- r2
      (simp only [sigBitsR, bitsPost, sigTapsR, tapsPost, sigLenR, lenPost]; exact ite_no (by unfold okD; omega) (by simp))
     rfl
    ·
     refine bR_dec (fun h8 => ?_) (fun h8 => ?_)
     ·
      refine req_i ?_ ?_
      · -- r3
       (simp only [sigBitsR, bitsPost, sigTapsR, tapsPost, sigLenR, lenPost]; exact ite_no (by unfold okD; omega) (by simp))
      rfl
     ·
      refine bR_dec (fun h9 => ?_) (fun h9 => ?_)
      ·
       refine req_i ?_ ?_
       · -- r4
        (simp only [sigBitsR, bitsPost, sigTapsR, tapsPost, sigLenR, lenPost]; exact ite_no (by unfold okD; omega) (by simp))
       rfl
      ·
       refine req_i ?_ ?_
       · -- r5
        (simp only [sigBitsR, bitsPost, sigTapsR, tapsPost, sigLenR, lenPost]; exact ite_no (by unfold okD; omega) (by simp))
       rfl
theorem ext_bitsR14 : ∀ p ∈ ([] : List (Nat × Ext)), ExtRow Tryd.prog p.1 p.2 := by
  intro p hp
  cases hp
theorem cts_bitsR14 : CtsOk Tryd.prog [] := fun f c h => by cases h
theorem fn_bitsR14 : FnOk Tryd.prog 55 (sigBitsR 5 10 3 9223372036854775807) gl11 := fn_sound (by kernel_rfl) ext_bitsR14 cts_bitsR14 names vt_bitsR14
end Go.Proofs.YtblcahackjpnjaaDoor

namespace Go.Proofs.YtblcahackjpnjaaDoor
open Go.Ev Go.Sp
theorem fn_bitsR : FnOk Tryd.prog 55 sigBits gl11 := by
  exact (fn_cover covG covG_ok fun t ht => by
    simp only [covG, List.mem_cons, List.not_mem_nil, or_false] at ht
    rcases ht with rfl | rfl | rfl | rfl | rfl | rfl | rfl | rfl | rfl | rfl | rfl | rfl | rfl | rfl | rfl
    · exact fn_bitsR0
    · exact fn_bitsR1
    · exact fn_bitsR2
    · exact fn_bitsR3
    · exact fn_bitsR4
    · exact fn_bitsR5
    · exact fn_bitsR6
    · exact fn_bitsR7
    · exact fn_bitsR8
    · exact fn_bitsR9
    · exact fn_bitsR10
    · exact fn_bitsR11
    · exact fn_bitsR12
    · exact fn_bitsR13
    · exact fn_bitsR14)
end Go.Proofs.YtblcahackjpnjaaDoor

namespace Go.Proofs.YtblcahackjpnjaaDoor
open Go.Ev Go.Sp
set_option maxRecDepth 100000
theorem vc_lenR0 : vcFn Tryd.prog [] noA gl11 100 54 (sigLenR 5 5) = (impB ((sigLenR (5 : Int) (5 : Int)).pre [DV.n (5 : Int)]) (
reqB ((sigLenR (5 : Int) (5 : Int)).post [DV.n (5 : Int)]
 [DV.n (Int.ofNat (31 : Nat)), DV.n (0 : Int)]) (
true))) := by kernel_rfl
set_option maxHeartbeats 8000000 in
theorem vt_lenR0 : vcFn Tryd.prog [] noA gl11 100 54 (sigLenR 5 5) = true := by
  rw [vc_lenR0]
  try simp only [Int.toNat_natCast, List.length_set, List.length_replicate, List.length_take, List.length_drop, List.length_append, List.length_cons, List.length_nil, Nat.min_self, List.take_take, lenCols_i, lenCols_b, List.drop_zero, List.take_length, Nat.add_eq, Nat.mul_eq, Nat.sub_eq, Nat.zero_add, Nat.sub_zero, Nat.mul_one]
  refine imp_i fun h0 => ?_
  try simp only [sigLenR, iR, lenPost, List.cons.injEq, DV.b.injEq, and_true, List.length_cons, List.length_nil] at h0
  refine req_i ?_ ?_
  · -- r0
   first | exact ⟨rfl, rfl⟩ | exact ⟨rfl, by decide +kernel⟩
  rfl
theorem ext_lenR0 : ∀ p ∈ ([] : List (Nat × Ext)), ExtRow Tryd.prog p.1 p.2 := by
  intro p hp
  cases hp
theorem cts_lenR0 : CtsOk Tryd.prog [] := fun f c h => by cases h
theorem fn_lenR0 : FnOk Tryd.prog 54 (sigLenR 5 5) gl11 := fn_sound (by kernel_rfl) ext_lenR0 cts_lenR0 names vt_lenR0
end Go.Proofs.YtblcahackjpnjaaDoor

namespace Go.Proofs.YtblcahackjpnjaaDoor
open Go.Ev Go.Sp
set_option maxRecDepth 100000
theorem vc_lenR1 : vcFn Tryd.prog [] noA gl11 100 54 (sigLenR 6 6) = (impB ((sigLenR (6 : Int) (6 : Int)).pre [DV.n (6 : Int)]) (
reqB ((sigLenR (6 : Int) (6 : Int)).post [DV.n (6 : Int)]
 [DV.n (Int.ofNat (63 : Nat)), DV.n (0 : Int)]) (
true))) := by kernel_rfl
set_option maxHeartbeats 8000000 in
theorem vt_lenR1 : vcFn Tryd.prog [] noA gl11 100 54 (sigLenR 6 6) = true := by
  rw [vc_lenR1]
  try simp only [Int.toNat_natCast, List.length_set, List.length_replicate, List.length_take, List.length_drop, List.length_append, List.length_cons, List.length_nil, Nat.min_self, List.take_take, lenCols_i, lenCols_b, List.drop_zero, List.take_length, Nat.add_eq, Nat.mul_eq, Nat.sub_eq, Nat.zero_add, Nat.sub_zero, Nat.mul_one]
  refine imp_i fun h0 => ?_
  try simp only [sigLenR, iR, lenPost, List.cons.injEq, DV.b.injEq, and_true, List.length_cons, List.length_nil] at h0
  refine req_i ?_ ?_
  · -- r0
   first | exact ⟨rfl, rfl⟩ | exact ⟨rfl, by decide +kernel⟩
  rfl
theorem ext_lenR1 : ∀ p ∈ ([] : List (Nat × Ext)), ExtRow Tryd.prog p.1 p.2 := by
  intro p hp
  cases hp
theorem cts_lenR1 : CtsOk Tryd.prog [] := fun f c h => by cases h
theorem fn_lenR1 : FnOk Tryd.prog 54 (sigLenR 6 6) gl11 := fn_sound (by kernel_rfl) ext_lenR1 cts_lenR1 names vt_lenR1
end Go.Proofs.YtblcahackjpnjaaDoor

namespace Go.Proofs.YtblcahackjpnjaaDoor
open Go.Ev Go.Sp
set_option maxRecDepth 100000
theorem vc_lenR2 : vcFn Tryd.prog [] noA gl11 100 54 (sigLenR 7 7) = (impB ((sigLenR (7 : Int) (7 : Int)).pre [DV.n (7 : Int)]) (
reqB ((sigLenR (7 : Int) (7 : Int)).post [DV.n (7 : Int)]
 [DV.n (Int.ofNat (127 : Nat)), DV.n (0 : Int)]) (
true))) := by kernel_rfl
set_option maxHeartbeats 8000000 in
theorem vt_lenR2 : vcFn Tryd.prog [] noA gl11 100 54 (sigLenR 7 7) = true := by
  rw [vc_lenR2]
  try simp only [Int.toNat_natCast, List.length_set, List.length_replicate, List.length_take, List.length_drop, List.length_append, List.length_cons, List.length_nil, Nat.min_self, List.take_take, lenCols_i, lenCols_b, List.drop_zero, List.take_length, Nat.add_eq, Nat.mul_eq, Nat.sub_eq, Nat.zero_add, Nat.sub_zero, Nat.mul_one]
  refine imp_i fun h0 => ?_
  try simp only [sigLenR, iR, lenPost, List.cons.injEq, DV.b.injEq, and_true, List.length_cons, List.length_nil] at h0
  refine req_i ?_ ?_
  · -- r0
   first | exact ⟨rfl, rfl⟩ | exact ⟨rfl, by decide +kernel⟩
  rfl
theorem ext_lenR2 : ∀ p ∈ ([] : List (Nat × Ext)), ExtRow Tryd.prog p.1 p.2 := by
  intro p hp
  cases hp
theorem cts_lenR2 : CtsOk Tryd.prog [] := fun f c h => by cases h
theorem fn_lenR2 : FnOk Tryd.prog 54 (sigLenR 7 7) gl11 := fn_sound (by kernel_rfl) ext_lenR2 cts_lenR2 names vt_lenR2
end Go.Proofs.YtblcahackjpnjaaDoor

namespace Go.Proofs.YtblcahackjpnjaaDoor
open Go.Ev Go.Sp
set_option maxRecDepth 100000
theorem vc_lenR3 : vcFn Tryd.prog [] noA gl11 100 54 (sigLenR 9 9) = (impB ((sigLenR (9 : Int) (9 : Int)).pre [DV.n (9 : Int)]) (
reqB ((sigLenR (9 : Int) (9 : Int)).post [DV.n (9 : Int)]
 [DV.n (Int.ofNat (511 : Nat)), DV.n (0 : Int)]) (
true))) := by kernel_rfl
set_option maxHeartbeats 8000000 in
theorem vt_lenR3 : vcFn Tryd.prog [] noA gl11 100 54 (sigLenR 9 9) = true := by
  rw [vc_lenR3]
  try simp only [Int.toNat_natCast, List.length_set, List.length_replicate, List.length_take, List.length_drop, List.length_append, List.length_cons, List.length_nil, Nat.min_self, List.take_take, lenCols_i, lenCols_b, List.drop_zero, List.take_length, Nat.add_eq, Nat.mul_eq, Nat.sub_eq, Nat.zero_add, Nat.sub_zero, Nat.mul_one]
  refine imp_i fun h0 => ?_
  try simp only [sigLenR, iR, lenPost, List.cons.injEq, DV.b.injEq, and_true, List.length_cons, List.length_nil] at h0
  refine req_i ?_ ?_
  · -- r0
   first | exact ⟨rfl, rfl⟩ | exact ⟨rfl, by decide +kernel⟩
  rfl
theorem ext_lenR3 : ∀ p ∈ ([] : List (Nat × Ext)), ExtRow Tryd.prog p.1 p.2 := by
  intro p hp
  cases hp
theorem cts_lenR3 : CtsOk Tryd.prog [] := fun f c h => by cases h
theorem fn_lenR3 : FnOk Tryd.prog 54 (sigLenR 9 9) gl11 := fn_sound (by kernel_rfl) ext_lenR3 cts_lenR3 names vt_lenR3
end Go.Proofs.YtblcahackjpnjaaDoor

namespace Go.Proofs.YtblcahackjpnjaaDoor
open Go.Ev Go.Sp
set_option maxRecDepth 100000
theorem vc_lenR4 : vcFn Tryd.prog [] noA gl11 100 54 (sigLenR 10 10) = (impB ((sigLenR (10 : Int) (10 : Int)).pre [DV.n (10 : Int)]) (
reqB ((sigLenR (10 : Int) (10 : Int)).post [DV.n (10 : Int)]
 [DV.n (Int.ofNat (1023 : Nat)), DV.n (0 : Int)]) (
true))) := by kernel_rfl
set_option maxHeartbeats 8000000 in
theorem vt_lenR4 : vcFn Tryd.prog [] noA gl11 100 54 (sigLenR 10 10) = true := by
  rw [vc_lenR4]
  try simp only [Int.toNat_natCast, List.length_set, List.length_replicate, List.length_take, List.length_drop, List.length_append, List.length_cons, List.length_nil, Nat.min_self, List.take_take, lenCols_i, lenCols_b, List.drop_zero, List.take_length, Nat.add_eq, Nat.mul_eq, Nat.sub_eq, Nat.zero_add, Nat.sub_zero, Nat.mul_one]
  refine imp_i fun h0 => ?_
  try simp only [sigLenR, iR, lenPost, List.cons.injEq, DV.b.injEq, and_true, List.length_cons, List.length_nil] at h0
  refine req_i ?_ ?_
  · -- r0
   first | exact ⟨rfl, rfl⟩ | exact ⟨rfl, by decide +kernel⟩
  rfl
theorem ext_lenR4 : ∀ p ∈ ([] : List (Nat × Ext)), ExtRow Tryd.prog p.1 p.2 := by
  intro p hp
  cases hp
theorem cts_lenR4 : CtsOk Tryd.prog [] := fun f c h => by cases h
theorem fn_lenR4 : FnOk Tryd.prog 54 (sigLenR 10 10) gl11 := fn_sound (by kernel_rfl) ext_lenR4 cts_lenR4 names vt_lenR4
end Go.Proofs.YtblcahackjpnjaaDoor

namespace Go.Proofs.YtblcahackjpnjaaDoor
open Go.Ev Go.Sp
set_option maxRecDepth 100000
theorem vc_lenR5 : vcFn Tryd.prog [] noA gl11 100 54 (sigLenR (-9223372036854775808) 4) = (allB fun n0 : Int => 
impB ((-9223372036854775808 : Int) ≤ n0) (
impB (n0 ≤ (4 : Int)) (
impB ((sigLenR (-9223372036854775808 : Int) (4 : Int)).pre [DV.n n0]) (
reqB ((sigLenR (-9223372036854775808 : Int) (4 : Int)).post [DV.n n0] [DV.n (0 : Int), DV.n (2 : Int)]) (
true))))) := by kernel_rfl
set_option maxHeartbeats 8000000 in
theorem vt_lenR5 : vcFn Tryd.prog [] noA gl11 100 54 (sigLenR (-9223372036854775808) 4) = true := by
  rw [vc_lenR5]
  try simp only [Int.toNat_natCast, List.length_set, List.length_replicate, List.length_take, List.length_drop, List.length_append, List.length_cons, List.length_nil, Nat.min_self, List.take_take, lenCols_i, lenCols_b, List.drop_zero, List.take_length, Nat.add_eq, Nat.mul_eq, Nat.sub_eq, Nat.zero_add, Nat.sub_zero, Nat.mul_one]
  refine all_i fun n0 => ?_
  refine imp_i fun h0 => ?_
  refine imp_i fun h1 => ?_
  refine imp_i fun h2 => ?_
  try simp only [sigLenR, iR, lenPost, List.cons.injEq, DV.b.injEq, and_true, List.length_cons, List.length_nil] at h2
  refine req_i ?_ ?_
  · -- r0
   (simp only [sigBitsR, bitsPost, sigTapsR, tapsPost, sigLenR, lenPost]; exact ite_no (by unfold okD; omega) (by simp))
  rfl
theorem ext_lenR5 : ∀ p ∈ ([] : List (Nat × Ext)), ExtRow Tryd.prog p.1 p.2 := by
  intro p hp
  cases hp
theorem cts_lenR5 : CtsOk Tryd.prog [] := fun f c h => by cases h
theorem fn_lenR5 : FnOk Tryd.prog 54 (sigLenR (-9223372036854775808) 4) gl11 := fn_sound (by kernel_rfl) ext_lenR5 cts_lenR5 names vt_lenR5
end Go.Proofs.YtblcahackjpnjaaDoor

namespace Go.Proofs.YtblcahackjpnjaaDoor
open Go.Ev Go.Sp
set_option maxRecDepth 100000
theorem vc_lenR6 : vcFn Tryd.prog [] noA gl11 100 54 (sigLenR 8 8) = (impB ((sigLenR (8 : Int) (8 : Int)).pre [DV.n (8 : Int)]) (
reqB ((sigLenR (8 : Int) (8 : Int)).post [DV.n (8 : Int)] [DV.n (0 : Int), DV.n (2 : Int)]) (
true))) := by kernel_rfl
set_option maxHeartbeats 8000000 in
theorem vt_lenR6 : vcFn Tryd.prog [] noA gl11 100 54 (sigLenR 8 8) = true := by
  rw [vc_lenR6]
  try simp only [Int.toNat_natCast, List.length_set, List.length_replicate, List.length_take, List.length_drop, List.length_append, List.length_cons, List.length_nil, Nat.min_self, List.take_take, lenCols_i, lenCols_b, List.drop_zero, List.take_length, Nat.add_eq, Nat.mul_eq, Nat.sub_eq, Nat.zero_add, Nat.sub_zero, Nat.mul_one]
  refine imp_i fun h0 => ?_
  try simp only [sigLenR, iR, lenPost, List.cons.injEq, DV.b.injEq, and_true, List.length_cons, List.length_nil] at h0
  refine req_i ?_ ?_
  · -- r0
   (simp only [sigBitsR, bitsPost, sigTapsR, tapsPost, sigLenR, lenPost]; exact ite_no (by unfold okD; omega) (by simp))
  rfl
theorem ext_lenR6 : ∀ p ∈ ([] : List (Nat × Ext)), ExtRow Tryd.prog p.1 p.2 := by
  intro p hp
  cases hp
theorem cts_lenR6 : CtsOk Tryd.prog [] := fun f c h => by cases h
theorem fn_lenR6 : FnOk Tryd.prog 54 (sigLenR 8 8) gl11 := fn_sound (by kernel_rfl) ext_lenR6 cts_lenR6 names vt_lenR6
end Go.Proofs.YtblcahackjpnjaaDoor

namespace Go.Proofs.YtblcahackjpnjaaDoor
open Go.Ev Go.Sp
set_option maxRecDepth 100000
theorem vc_lenR7 : vcFn Tryd.prog [] noA gl11 100 54 (sigLenR 11 9223372036854775807) = (allB fun n0 : Int => 
impB ((11 : Int) ≤ n0) (
impB (n0 ≤ (9223372036854775807 : Int)) (
impB ((sigLenR (11 : Int) (9223372036854775807 : Int)).pre [DV.n n0]) (
reqB ((sigLenR (11 : Int) (9223372036854775807 : Int)).post [DV.n n0] [DV.n (0 : Int), DV.n (2 : Int)]) (
true))))) := by kernel_rfl
set_option maxHeartbeats 8000000 in
theorem vt_lenR7 : vcFn Tryd.prog [] noA gl11 100 54 (sigLenR 11 9223372036854775807) = true := by
  rw [vc_lenR7]
  try simp only [Int.toNat_natCast, List.length_set, List.length_replicate, List.length_take, List.length_drop, List.length_append, List.length_cons, List.length_nil, Nat.min_self, List.take_take, lenCols_i, lenCols_b, List.drop_zero, List.take_length, Nat.add_eq, Nat.mul_eq, Nat.sub_eq, Nat.zero_add, Nat.sub_zero, Nat.mul_one]
  refine all_i fun n0 => ?_
  refine imp_i fun h0 => ?_
  refine imp_i fun h1 => ?_
  refine imp_i fun h2 => ?_
  try simp only [sigLenR, iR, lenPost, List.cons.injEq, DV.b.injEq, and_true, List.length_cons, List.length_nil] at h2
  refine req_i ?_ ?_
  · -- r0
   (simp only [sigBitsR, bitsPost, sigTapsR, tapsPost, sigLenR, lenPost]; exact ite_no (by unfold okD; omega) (by simp))
  rfl
theorem ext_lenR7 : ∀ p ∈ ([] : List (Nat × Ext)), ExtRow Tryd.prog p.1 p.2 := by
  intro p hp
  cases hp
theorem cts_lenR7 : CtsOk Tryd.prog [] := fun f c h => by cases h
theorem fn_lenR7 : FnOk Tryd.prog 54 (sigLenR 11 9223372036854775807) gl11 := fn_sound (by kernel_rfl) ext_lenR7 cts_lenR7 names vt_lenR7
end Go.Proofs.YtblcahackjpnjaaDoor

namespace Go.Proofs.YtblcahackjpnjaaDoor
open Go.Ev Go.Sp
theorem fn_lenR : FnOk Tryd.prog 54 sigLen gl11 := by
  exact (fn_cover1 covD covD_ok fun t ht => by
    simp only [covD, List.mem_cons, List.not_mem_nil, or_false] at ht
    rcases ht with rfl | rfl | rfl | rfl | rfl | rfl | rfl | rfl
    · exact fn_lenR0
    · exact fn_lenR1
    · exact fn_lenR2
    · exact fn_lenR3
    · exact fn_lenR4
    · exact fn_lenR5
    · exact fn_lenR6
    · exact fn_lenR7)
end Go.Proofs.YtblcahackjpnjaaDoor

namespace Go.Proofs.YtblcahackjpnjaaDoor
open Go.Ev Go.Sp
set_option maxRecDepth 100000
theorem vc_codeR : vcFn Tryd.prog [(55, Ext.ctr (ctOfG gl11 sigBits)), (54, Ext.ctr (ctOfG gl11 sigLen))] (fun f p _ => at2 f p 43 2042 codeRL (none)) gl11 100 43 sigCode = (allB fun n0 : Int => 
impB ((-9223372036854775808 : Int) ≤ n0) (
impB (n0 ≤ (9223372036854775807 : Int)) (
allB fun n1 : Int => 
impB ((-9223372036854775808 : Int) ≤ n1) (
impB (n1 ≤ (9223372036854775807 : Int)) (
impB (sigCode.pre [DV.n n0, DV.n n1]) (
reqB ((-9223372036854775808 : Int) ≤ n0) (
reqB (n0 ≤ (9223372036854775807 : Int)) (
reqB (sigLen.pre [DV.n n0]) (
allB fun n2 : Int => 
impB ((0 : Int) ≤ n2) (
impB (n2 ≤ (1023 : Int)) (
allB fun n3 : Int => 
impB ((0 : Int) ≤ n3) (
impB (n3 ≤ (18 : Int)) (
impB (sigLen.post [DV.n n0] [DV.n n2, DV.n n3]) (
bR (dec (n3 ≠ (0 : Int))) (
 reqB ((0 : Int) ≤ n3) (
 reqB (n3 ≤ (18 : Int)) (
 reqB (sigCode.post [DV.n n0, DV.n n1] [DV.l [], DV.n n3]) (
 true)))) (
 bR (dec (n1 < (1 : Int))) (
 reqB (sigCode.post [DV.n n0, DV.n n1] [DV.l [], DV.n (2 : Int)]) (
 true)) (
 bR (dec (n2 + (2 : Int) < n1)) (
 reqB (sigCode.post [DV.n n0, DV.n n1] [DV.l [], DV.n (2 : Int)]) (
 true)) (
 reqB ((-9223372036854775808 : Int) ≤ n0) (
 reqB (n0 ≤ (9223372036854775807 : Int)) (
 reqB (sigBits.pre [DV.n n0, DV.n (1 : Int)]) (
 allB fun l4 : List Int => 
 impB (l4.length ≤ (1100 : Nat)) (
 impB (∀ (y : Int), y ∈ l4 → (0 : Int) ≤ y ∧ y ≤ (1 : Int)) (
 allB fun n5 : Int => 
 impB ((0 : Int) ≤ n5) (
 impB (n5 ≤ (18 : Int)) (
 impB (sigBits.post [DV.n n0, DV.n (1 : Int)] [DV.l l4, DV.n n5]) (
 reqB ((-9223372036854775808 : Int) ≤ n0) (
 reqB (n0 ≤ (9223372036854775807 : Int)) (
 reqB (sigBits.pre [DV.n n0, DV.n (2 : Int)]) (
 allB fun l6 : List Int => 
 impB (l6.length ≤ (1100 : Nat)) (
 impB (∀ (y : Int), y ∈ l6 → (0 : Int) ≤ y ∧ y ≤ (1 : Int)) (
 allB fun n7 : Int => 
 impB ((0 : Int) ≤ n7) (
 impB (n7 ≤ (18 : Int)) (
 impB (sigBits.post [DV.n n0, DV.n (2 : Int)] [DV.l l6, DV.n n7]) (
 reqB (n2.toNat ≤ n2.toNat) (
 reqB (n2.toNat ≤ (1000000 : Nat)) (
 reqB (((0 : Nat) + l4.length) * (1 : Nat) ≤ l4.length.mul (1 : Nat)) (
 reqB (l4.length ≤ (1100 : Nat)) (
 reqB ((List.take l4.length (List.drop (0 : Nat) l4)).length = l4.length) (
 reqB (∀ (y : Int), y ∈ List.take l4.length (List.drop (0 : Nat) l4) → (0 : Int) ≤ y ∧ y ≤ (1 : Int)) (
 reqB (((0 : Nat) + l6.length) * (1 : Nat) ≤ l6.length.mul (1 : Nat)) (
 reqB (l6.length ≤ (1100 : Nat)) (
 reqB ((List.take l6.length (List.drop (0 : Nat) l6)).length = l6.length) (
 reqB (∀ (y : Int), y ∈ List.take l6.length (List.drop (0 : Nat) l6) → (0 : Int) ≤ y ∧ y ≤ (1 : Int)) (
 reqB ((-9223372036854775808 : Int) ≤ n1) (
 reqB (n1 ≤ (9223372036854775807 : Int)) (
 reqB (lenCols
 [Col.i Go.IntKind.i64 (Int.negSucc (9223372036854775807 : Nat)) (Int.ofNat (9223372036854775807 : Nat))
 (List.replicate n2.toNat (0 : Int))] ≤
 (1000000 : Nat)) (
 reqB ((List.replicate n2.toNat (0 : Int)).length =
 lenCols
 [Col.i Go.IntKind.i64 (Int.negSucc (9223372036854775807 : Nat)) (Int.ofNat (9223372036854775807 : Nat))
 (List.replicate n2.toNat (0 : Int))]) (
 reqB (∀ (y : Int), y ∈ List.replicate n2.toNat (0 : Int) → (-9223372036854775808 : Int) ≤ y ∧ y ≤ (9223372036854775807 : Int)) (
 reqB (codeRL.inv
 [DV.l (List.take l4.length (List.drop (0 : Nat) l4)), DV.l (List.take l6.length (List.drop (0 : Nat) l6)),
 DV.n n1]
 [DV.n (0 : Int), DV.l (List.replicate n2.toNat (0 : Int))]) (
 allB fun n8 : Int => 
 impB ((0 : Int) ≤ n8) (
 impB (n8 ≤ (1100 : Int)) (
 allB fun l9 : List Int => 
 impB (l9.length ≤ (1000000 : Nat)) (
 impB (∀ (y : Int), y ∈ l9 → (-9223372036854775808 : Int) ≤ y ∧ y ≤ (9223372036854775807 : Int)) (
 impB (codeRL.inv
 [DV.l (List.take l4.length (List.drop (0 : Nat) l4)), DV.l (List.take l6.length (List.drop (0 : Nat) l6)),
 DV.n n1]
 [DV.n n8, DV.l l9]) (
 bR (dec (n8 < n2)) (
 bR (dec (n1 ≠ (2 : Int))) (
 reqB (n8.toNat < l4.length) (
 reqB (Nat.add (0 : Nat) n8.toNat < l4.length) (
 bR (dec (n1 = (2 : Int))) (
 reqB (n8.toNat < l6.length) (
 reqB (Nat.add (0 : Nat) n8.toNat < l6.length) (
 bR (dec ((2 : Int) < n1)) (
 allB fun n10 : Int => 
 impB (n10 = Go.IntKind.i64.wrap (n8 + n1)) (
 impB (Int.negSucc (9223372036854775807 : Nat) ≤ n10) (
 impB (n10 ≤ Int.ofNat (9223372036854775807 : Nat)) (
 allB fun n11 : Int => 
 impB (n11 = Go.IntKind.i64.wrap (n10 - (3 : Int))) (
 impB (Int.negSucc (9223372036854775807 : Nat) ≤ n11) (
 impB (n11 ≤ Int.ofNat (9223372036854775807 : Nat)) (
 reqB (n2 ≠ (0 : Int)) (
 reqB ((0 : Int) ≤ n11.tmod n2) (
 reqB ((n11.tmod n2).toNat < l6.length) (
 reqB (Nat.add (0 : Nat) (n11.tmod n2).toNat < l6.length) (
 reqB (n8.toNat < n2.toNat) (
 reqB (Nat.add (0 : Nat) n8.toNat < l9.length) (
 bR (bR (dec (n0 = n0)) (
 bR (dec (n1 = n1)) (
 bR (dec (n2 = n2)) (
 bR (bR (dec ((0 : Nat) = (0 : Nat))) (
 dec (l4.length = l4.length)) (
 false)) (
 bR (bR (dec ((0 : Nat) = (0 : Nat))) (
 dec (l6.length = l6.length)) (
 false)) (
 bR (bR (dec ((0 : Nat) = (0 : Nat))) (
 dec (n2.toNat = n2.toNat)) (
 false)) (
 true) (
 false)) (
 false)) (
 false)) (
 false)) (
 false)) (
 false)) (
 bR (bR (bR (dec (l4.length.mul (1 : Nat) = l4.length.mul (1 : Nat))) (
 dec ([Col.i Go.IntKind.i64 (0 : Int) (1 : Int) l4] = [Col.i Go.IntKind.i64 (0 : Int) (1 : Int) l4])) (
 false)) (
 bR (bR (dec (l6.length.mul (1 : Nat) = l6.length.mul (1 : Nat))) (
 dec ([Col.i Go.IntKind.i64 (0 : Int) (1 : Int) l6] = [Col.i Go.IntKind.i64 (0 : Int) (1 : Int) l6])) (
 false)) (
 true) (
 false)) (
 false)) (
 reqB ((0 : Int) ≤ n8 + (1 : Int)) (
 reqB (n8 + (1 : Int) ≤ (1100 : Int)) (
 reqB (lenCols
 [Col.i Go.IntKind.i64 (-9223372036854775808 : Int) (9223372036854775807 : Int)
 (l9.set (Nat.add (0 : Nat) n8.toNat)
 ((1 : Int) -
 (2 : Int) *
 opI (SO.xor Go.IntKind.i64) (l6.getD (Nat.add (0 : Nat) n8.toNat) (0 : Int))
 (l6.getD (Nat.add (0 : Nat) (n11.tmod n2).toNat) (0 : Int))))] ≤
 (1000000 : Nat)) (
 reqB ((l9.set (Nat.add (0 : Nat) n8.toNat)
 ((1 : Int) -
 (2 : Int) *
 opI (SO.xor Go.IntKind.i64) (l6.getD (Nat.add (0 : Nat) n8.toNat) (0 : Int))
 (l6.getD (Nat.add (0 : Nat) (n11.tmod n2).toNat) (0 : Int)))).length =
 lenCols
 [Col.i Go.IntKind.i64 (-9223372036854775808 : Int) (9223372036854775807 : Int)
 (l9.set (Nat.add (0 : Nat) n8.toNat)
 ((1 : Int) -
 (2 : Int) *
 opI (SO.xor Go.IntKind.i64) (l6.getD (Nat.add (0 : Nat) n8.toNat) (0 : Int))
 (l6.getD (Nat.add (0 : Nat) (n11.tmod n2).toNat) (0 : Int))))]) (
 reqB (∀ (y : Int),
 y ∈
 l9.set (Nat.add (0 : Nat) n8.toNat)
 ((1 : Int) -
 (2 : Int) *
 opI (SO.xor Go.IntKind.i64) (l6.getD (Nat.add (0 : Nat) n8.toNat) (0 : Int))
 (l6.getD (Nat.add (0 : Nat) (n11.tmod n2).toNat) (0 : Int))) →
 (-9223372036854775808 : Int) ≤ y ∧ y ≤ (9223372036854775807 : Int)) (
 reqB (codeRL.inv
 [DV.l (List.take l4.length (List.drop (0 : Nat) l4)), DV.l (List.take l6.length (List.drop (0 : Nat) l6)),
 DV.n n1]
 [DV.n (n8 + (1 : Int)),
 DV.l
 (l9.set (Nat.add (0 : Nat) n8.toNat)
 ((1 : Int) -
 (2 : Int) *
 opI (SO.xor Go.IntKind.i64) (l6.getD (Nat.add (0 : Nat) n8.toNat) (0 : Int))
 (l6.getD (Nat.add (0 : Nat) (n11.tmod n2).toNat) (0 : Int))))]) (
 reqB (codeRL.mea
 [DV.l (List.take l4.length (List.drop (0 : Nat) l4)),
 DV.l (List.take l6.length (List.drop (0 : Nat) l6)), DV.n n1]
 [DV.n (n8 + (1 : Int)),
 DV.l
 (l9.set (Nat.add (0 : Nat) n8.toNat)
 ((1 : Int) -
 (2 : Int) *
 opI (SO.xor Go.IntKind.i64) (l6.getD (Nat.add (0 : Nat) n8.toNat) (0 : Int))
 (l6.getD (Nat.add (0 : Nat) (n11.tmod n2).toNat) (0 : Int))))] <
 codeRL.mea
 [DV.l (List.take l4.length (List.drop (0 : Nat) l4)),
 DV.l (List.take l6.length (List.drop (0 : Nat) l6)), DV.n n1]
 [DV.n n8, DV.l l9]) (
 true)))))))) (
 false)) (
 false)))))))))))))) (
 reqB (n8.toNat < n2.toNat) (
 reqB (Nat.add (0 : Nat) n8.toNat < l9.length) (
 bR (bR (dec (n0 = n0)) (
 bR (dec (n1 = n1)) (
 bR (dec (n2 = n2)) (
 bR (bR (dec ((0 : Nat) = (0 : Nat))) (
 dec (l4.length = l4.length)) (
 false)) (
 bR (bR (dec ((0 : Nat) = (0 : Nat))) (
 dec (l6.length = l6.length)) (
 false)) (
 bR (bR (dec ((0 : Nat) = (0 : Nat))) (
 dec (n2.toNat = n2.toNat)) (
 false)) (
 true) (
 false)) (
 false)) (
 false)) (
 false)) (
 false)) (
 false)) (
 bR (bR (bR (dec (l4.length.mul (1 : Nat) = l4.length.mul (1 : Nat))) (
 dec ([Col.i Go.IntKind.i64 (0 : Int) (1 : Int) l4] = [Col.i Go.IntKind.i64 (0 : Int) (1 : Int) l4])) (
 false)) (
 bR (bR (dec (l6.length.mul (1 : Nat) = l6.length.mul (1 : Nat))) (
 dec ([Col.i Go.IntKind.i64 (0 : Int) (1 : Int) l6] = [Col.i Go.IntKind.i64 (0 : Int) (1 : Int) l6])) (
 false)) (
 true) (
 false)) (
 false)) (
 reqB ((0 : Int) ≤ n8 + (1 : Int)) (
 reqB (n8 + (1 : Int) ≤ (1100 : Int)) (
 reqB (lenCols
 [Col.i Go.IntKind.i64 (-9223372036854775808 : Int) (9223372036854775807 : Int)
 (l9.set (Nat.add (0 : Nat) n8.toNat)
 ((1 : Int) - (2 : Int) * l6.getD (Nat.add (0 : Nat) n8.toNat) (0 : Int)))] ≤
 (1000000 : Nat)) (
 reqB ((l9.set (Nat.add (0 : Nat) n8.toNat) ((1 : Int) - (2 : Int) * l6.getD (Nat.add (0 : Nat) n8.toNat) (0 : Int))).length =
 lenCols
 [Col.i Go.IntKind.i64 (-9223372036854775808 : Int) (9223372036854775807 : Int)
 (l9.set (Nat.add (0 : Nat) n8.toNat) ((1 : Int) - (2 : Int) * l6.getD (Nat.add (0 : Nat) n8.toNat) (0 : Int)))]) (
 reqB (∀ (y : Int),
 y ∈ l9.set (Nat.add (0 : Nat) n8.toNat) ((1 : Int) - (2 : Int) * l6.getD (Nat.add (0 : Nat) n8.toNat) (0 : Int)) →
 (-9223372036854775808 : Int) ≤ y ∧ y ≤ (9223372036854775807 : Int)) (
 reqB (codeRL.inv
 [DV.l (List.take l4.length (List.drop (0 : Nat) l4)), DV.l (List.take l6.length (List.drop (0 : Nat) l6)),
 DV.n n1]
 [DV.n (n8 + (1 : Int)),
 DV.l
 (l9.set (Nat.add (0 : Nat) n8.toNat) ((1 : Int) - (2 : Int) * l6.getD (Nat.add (0 : Nat) n8.toNat) (0 : Int)))]) (
 reqB (codeRL.mea
 [DV.l (List.take l4.length (List.drop (0 : Nat) l4)),
 DV.l (List.take l6.length (List.drop (0 : Nat) l6)), DV.n n1]
 [DV.n (n8 + (1 : Int)),
 DV.l
 (l9.set (Nat.add (0 : Nat) n8.toNat)
 ((1 : Int) - (2 : Int) * l6.getD (Nat.add (0 : Nat) n8.toNat) (0 : Int)))] <
 codeRL.mea
 [DV.l (List.take l4.length (List.drop (0 : Nat) l4)),
 DV.l (List.take l6.length (List.drop (0 : Nat) l6)), DV.n n1]
 [DV.n n8, DV.l l9]) (
 true)))))))) (
 false)) (
 false))))))) (
 bR (dec ((2 : Int) < n1)) (
 allB fun n12 : Int => 
 impB (n12 = Go.IntKind.i64.wrap (n8 + n1)) (
 impB (Int.negSucc (9223372036854775807 : Nat) ≤ n12) (
 impB (n12 ≤ Int.ofNat (9223372036854775807 : Nat)) (
 allB fun n13 : Int => 
 impB (n13 = Go.IntKind.i64.wrap (n12 - (3 : Int))) (
 impB (Int.negSucc (9223372036854775807 : Nat) ≤ n13) (
 impB (n13 ≤ Int.ofNat (9223372036854775807 : Nat)) (
 reqB (n2 ≠ (0 : Int)) (
 reqB ((0 : Int) ≤ n13.tmod n2) (
 reqB ((n13.tmod n2).toNat < l6.length) (
 reqB (Nat.add (0 : Nat) (n13.tmod n2).toNat < l6.length) (
 reqB (n8.toNat < n2.toNat) (
 reqB (Nat.add (0 : Nat) n8.toNat < l9.length) (
 bR (bR (dec (n0 = n0)) (
 bR (dec (n1 = n1)) (
 bR (dec (n2 = n2)) (
 bR (bR (dec ((0 : Nat) = (0 : Nat))) (
 dec (l4.length = l4.length)) (
 false)) (
 bR (bR (dec ((0 : Nat) = (0 : Nat))) (
 dec (l6.length = l6.length)) (
 false)) (
 bR (bR (dec ((0 : Nat) = (0 : Nat))) (
 dec (n2.toNat = n2.toNat)) (
 false)) (
 true) (
 false)) (
 false)) (
 false)) (
 false)) (
 false)) (
 false)) (
 bR (bR (bR (dec (l4.length.mul (1 : Nat) = l4.length.mul (1 : Nat))) (
 dec ([Col.i Go.IntKind.i64 (0 : Int) (1 : Int) l4] = [Col.i Go.IntKind.i64 (0 : Int) (1 : Int) l4])) (
 false)) (
 bR (bR (dec (l6.length.mul (1 : Nat) = l6.length.mul (1 : Nat))) (
 dec ([Col.i Go.IntKind.i64 (0 : Int) (1 : Int) l6] = [Col.i Go.IntKind.i64 (0 : Int) (1 : Int) l6])) (
 false)) (
 true) (
 false)) (
 false)) (
 reqB ((0 : Int) ≤ n8 + (1 : Int)) (
 reqB (n8 + (1 : Int) ≤ (1100 : Int)) (
 reqB (lenCols
 [Col.i Go.IntKind.i64 (-9223372036854775808 : Int) (9223372036854775807 : Int)
 (l9.set (Nat.add (0 : Nat) n8.toNat)
 ((1 : Int) -
 (2 : Int) *
 opI (SO.xor Go.IntKind.i64) (l4.getD (Nat.add (0 : Nat) n8.toNat) (0 : Int))
 (l6.getD (Nat.add (0 : Nat) (n13.tmod n2).toNat) (0 : Int))))] ≤
 (1000000 : Nat)) (
 reqB ((l9.set (Nat.add (0 : Nat) n8.toNat)
 ((1 : Int) -
 (2 : Int) *
 opI (SO.xor Go.IntKind.i64) (l4.getD (Nat.add (0 : Nat) n8.toNat) (0 : Int))
 (l6.getD (Nat.add (0 : Nat) (n13.tmod n2).toNat) (0 : Int)))).length =
 lenCols
 [Col.i Go.IntKind.i64 (-9223372036854775808 : Int) (9223372036854775807 : Int)
 (l9.set (Nat.add (0 : Nat) n8.toNat)
 ((1 : Int) -
 (2 : Int) *
 opI (SO.xor Go.IntKind.i64) (l4.getD (Nat.add (0 : Nat) n8.toNat) (0 : Int))
 (l6.getD (Nat.add (0 : Nat) (n13.tmod n2).toNat) (0 : Int))))]) (
 reqB (∀ (y : Int),
 y ∈
 l9.set (Nat.add (0 : Nat) n8.toNat)
 ((1 : Int) -
 (2 : Int) *
 opI (SO.xor Go.IntKind.i64) (l4.getD (Nat.add (0 : Nat) n8.toNat) (0 : Int))
 (l6.getD (Nat.add (0 : Nat) (n13.tmod n2).toNat) (0 : Int))) →
 (-9223372036854775808 : Int) ≤ y ∧ y ≤ (9223372036854775807 : Int)) (
 reqB (codeRL.inv
 [DV.l (List.take l4.length (List.drop (0 : Nat) l4)), DV.l (List.take l6.length (List.drop (0 : Nat) l6)),
 DV.n n1]
 [DV.n (n8 + (1 : Int)),
 DV.l
 (l9.set (Nat.add (0 : Nat) n8.toNat)
 ((1 : Int) -
 (2 : Int) *
 opI (SO.xor Go.IntKind.i64) (l4.getD (Nat.add (0 : Nat) n8.toNat) (0 : Int))
 (l6.getD (Nat.add (0 : Nat) (n13.tmod n2).toNat) (0 : Int))))]) (
 reqB (codeRL.mea
 [DV.l (List.take l4.length (List.drop (0 : Nat) l4)),
 DV.l (List.take l6.length (List.drop (0 : Nat) l6)), DV.n n1]
 [DV.n (n8 + (1 : Int)),
 DV.l
 (l9.set (Nat.add (0 : Nat) n8.toNat)
 ((1 : Int) -
 (2 : Int) *
 opI (SO.xor Go.IntKind.i64) (l4.getD (Nat.add (0 : Nat) n8.toNat) (0 : Int))
 (l6.getD (Nat.add (0 : Nat) (n13.tmod n2).toNat) (0 : Int))))] <
 codeRL.mea
 [DV.l (List.take l4.length (List.drop (0 : Nat) l4)),
 DV.l (List.take l6.length (List.drop (0 : Nat) l6)), DV.n n1]
 [DV.n n8, DV.l l9]) (
 true)))))))) (
 false)) (
 false)))))))))))))) (
 reqB (n8.toNat < n2.toNat) (
 reqB (Nat.add (0 : Nat) n8.toNat < l9.length) (
 bR (bR (dec (n0 = n0)) (
 bR (dec (n1 = n1)) (
 bR (dec (n2 = n2)) (
 bR (bR (dec ((0 : Nat) = (0 : Nat))) (
 dec (l4.length = l4.length)) (
 false)) (
 bR (bR (dec ((0 : Nat) = (0 : Nat))) (
 dec (l6.length = l6.length)) (
 false)) (
 bR (bR (dec ((0 : Nat) = (0 : Nat))) (
 dec (n2.toNat = n2.toNat)) (
 false)) (
 true) (
 false)) (
 false)) (
 false)) (
 false)) (
 false)) (
 false)) (
 bR (bR (bR (dec (l4.length.mul (1 : Nat) = l4.length.mul (1 : Nat))) (
 dec ([Col.i Go.IntKind.i64 (0 : Int) (1 : Int) l4] = [Col.i Go.IntKind.i64 (0 : Int) (1 : Int) l4])) (
 false)) (
 bR (bR (dec (l6.length.mul (1 : Nat) = l6.length.mul (1 : Nat))) (
 dec ([Col.i Go.IntKind.i64 (0 : Int) (1 : Int) l6] = [Col.i Go.IntKind.i64 (0 : Int) (1 : Int) l6])) (
 false)) (
 true) (
 false)) (
 false)) (
 reqB ((0 : Int) ≤ n8 + (1 : Int)) (
 reqB (n8 + (1 : Int) ≤ (1100 : Int)) (
 reqB (lenCols
 [Col.i Go.IntKind.i64 (-9223372036854775808 : Int) (9223372036854775807 : Int)
 (l9.set (Nat.add (0 : Nat) n8.toNat)
 ((1 : Int) - (2 : Int) * l4.getD (Nat.add (0 : Nat) n8.toNat) (0 : Int)))] ≤
 (1000000 : Nat)) (
 reqB ((l9.set (Nat.add (0 : Nat) n8.toNat) ((1 : Int) - (2 : Int) * l4.getD (Nat.add (0 : Nat) n8.toNat) (0 : Int))).length =
 lenCols
 [Col.i Go.IntKind.i64 (-9223372036854775808 : Int) (9223372036854775807 : Int)
 (l9.set (Nat.add (0 : Nat) n8.toNat) ((1 : Int) - (2 : Int) * l4.getD (Nat.add (0 : Nat) n8.toNat) (0 : Int)))]) (
 reqB (∀ (y : Int),
 y ∈ l9.set (Nat.add (0 : Nat) n8.toNat) ((1 : Int) - (2 : Int) * l4.getD (Nat.add (0 : Nat) n8.toNat) (0 : Int)) →
 (-9223372036854775808 : Int) ≤ y ∧ y ≤ (9223372036854775807 : Int)) (
 reqB (codeRL.inv
 [DV.l (List.take l4.length (List.drop (0 : Nat) l4)), DV.l (List.take l6.length (List.drop (0 : Nat) l6)),
 DV.n n1]
 [DV.n (n8 + (1 : Int)),
 DV.l
 (l9.set (Nat.add (0 : Nat) n8.toNat) ((1 : Int) - (2 : Int) * l4.getD (Nat.add (0 : Nat) n8.toNat) (0 : Int)))]) (
 reqB (codeRL.mea
 [DV.l (List.take l4.length (List.drop (0 : Nat) l4)),
 DV.l (List.take l6.length (List.drop (0 : Nat) l6)), DV.n n1]
 [DV.n (n8 + (1 : Int)),
 DV.l
 (l9.set (Nat.add (0 : Nat) n8.toNat)
 ((1 : Int) - (2 : Int) * l4.getD (Nat.add (0 : Nat) n8.toNat) (0 : Int)))] <
 codeRL.mea
 [DV.l (List.take l4.length (List.drop (0 : Nat) l4)),
 DV.l (List.take l6.length (List.drop (0 : Nat) l6)), DV.n n1]
 [DV.n n8, DV.l l9]) (
 true)))))))) (
 false)) (
 false)))))))) (
 bR (dec (n1 = (2 : Int))) (
 reqB (n8.toNat < l6.length) (
 reqB (Nat.add (0 : Nat) n8.toNat < l6.length) (
 bR (dec ((2 : Int) < n1)) (
 allB fun n14 : Int => 
 impB (n14 = Go.IntKind.i64.wrap (n8 + n1)) (
 impB (Int.negSucc (9223372036854775807 : Nat) ≤ n14) (
 impB (n14 ≤ Int.ofNat (9223372036854775807 : Nat)) (
 allB fun n15 : Int => 
 impB (n15 = Go.IntKind.i64.wrap (n14 - (3 : Int))) (
 impB (Int.negSucc (9223372036854775807 : Nat) ≤ n15) (
 impB (n15 ≤ Int.ofNat (9223372036854775807 : Nat)) (
 reqB (n2 ≠ (0 : Int)) (
 reqB ((0 : Int) ≤ n15.tmod n2) (
 reqB ((n15.tmod n2).toNat < l6.length) (
 reqB (Nat.add (0 : Nat) (n15.tmod n2).toNat < l6.length) (
 reqB (n8.toNat < n2.toNat) (
 reqB (Nat.add (0 : Nat) n8.toNat < l9.length) (
 bR (bR (dec (n0 = n0)) (
 bR (dec (n1 = n1)) (
 bR (dec (n2 = n2)) (
 bR (bR (dec ((0 : Nat) = (0 : Nat))) (
 dec (l4.length = l4.length)) (
 false)) (
 bR (bR (dec ((0 : Nat) = (0 : Nat))) (
 dec (l6.length = l6.length)) (
 false)) (
 bR (bR (dec ((0 : Nat) = (0 : Nat))) (
 dec (n2.toNat = n2.toNat)) (
 false)) (
 true) (
 false)) (
 false)) (
 false)) (
 false)) (
 false)) (
 false)) (
 bR (bR (bR (dec (l4.length.mul (1 : Nat) = l4.length.mul (1 : Nat))) (
 dec ([Col.i Go.IntKind.i64 (0 : Int) (1 : Int) l4] = [Col.i Go.IntKind.i64 (0 : Int) (1 : Int) l4])) (
 false)) (
 bR (bR (dec (l6.length.mul (1 : Nat) = l6.length.mul (1 : Nat))) (
 dec ([Col.i Go.IntKind.i64 (0 : Int) (1 : Int) l6] = [Col.i Go.IntKind.i64 (0 : Int) (1 : Int) l6])) (
 false)) (
 true) (
 false)) (
 false)) (
 reqB ((0 : Int) ≤ n8 + (1 : Int)) (
 reqB (n8 + (1 : Int) ≤ (1100 : Int)) (
 reqB (lenCols
 [Col.i Go.IntKind.i64 (-9223372036854775808 : Int) (9223372036854775807 : Int)
 (l9.set (Nat.add (0 : Nat) n8.toNat)
 ((1 : Int) -
 (2 : Int) *
 opI (SO.xor Go.IntKind.i64) (l6.getD (Nat.add (0 : Nat) n8.toNat) (0 : Int))
 (l6.getD (Nat.add (0 : Nat) (n15.tmod n2).toNat) (0 : Int))))] ≤
 (1000000 : Nat)) (
 reqB ((l9.set (Nat.add (0 : Nat) n8.toNat)
 ((1 : Int) -
 (2 : Int) *
 opI (SO.xor Go.IntKind.i64) (l6.getD (Nat.add (0 : Nat) n8.toNat) (0 : Int))
 (l6.getD (Nat.add (0 : Nat) (n15.tmod n2).toNat) (0 : Int)))).length =
 lenCols
 [Col.i Go.IntKind.i64 (-9223372036854775808 : Int) (9223372036854775807 : Int)
 (l9.set (Nat.add (0 : Nat) n8.toNat)
 ((1 : Int) -
 (2 : Int) *
 opI (SO.xor Go.IntKind.i64) (l6.getD (Nat.add (0 : Nat) n8.toNat) (0 : Int))
 (l6.getD (Nat.add (0 : Nat) (n15.tmod n2).toNat) (0 : Int))))]) (
 reqB (∀ (y : Int),
 y ∈
 l9.set (Nat.add (0 : Nat) n8.toNat)
 ((1 : Int) -
 (2 : Int) *
 opI (SO.xor Go.IntKind.i64) (l6.getD (Nat.add (0 : Nat) n8.toNat) (0 : Int))
 (l6.getD (Nat.add (0 : Nat) (n15.tmod n2).toNat) (0 : Int))) →
 (-9223372036854775808 : Int) ≤ y ∧ y ≤ (9223372036854775807 : Int)) (
 reqB (codeRL.inv
 [DV.l (List.take l4.length (List.drop (0 : Nat) l4)), DV.l (List.take l6.length (List.drop (0 : Nat) l6)),
 DV.n n1]
 [DV.n (n8 + (1 : Int)),
 DV.l
 (l9.set (Nat.add (0 : Nat) n8.toNat)
 ((1 : Int) -
 (2 : Int) *
 opI (SO.xor Go.IntKind.i64) (l6.getD (Nat.add (0 : Nat) n8.toNat) (0 : Int))
 (l6.getD (Nat.add (0 : Nat) (n15.tmod n2).toNat) (0 : Int))))]) (
 reqB (codeRL.mea
 [DV.l (List.take l4.length (List.drop (0 : Nat) l4)),
 DV.l (List.take l6.length (List.drop (0 : Nat) l6)), DV.n n1]
 [DV.n (n8 + (1 : Int)),
 DV.l
 (l9.set (Nat.add (0 : Nat) n8.toNat)
 ((1 : Int) -
 (2 : Int) *
 opI (SO.xor Go.IntKind.i64) (l6.getD (Nat.add (0 : Nat) n8.toNat) (0 : Int))
 (l6.getD (Nat.add (0 : Nat) (n15.tmod n2).toNat) (0 : Int))))] <
 codeRL.mea
 [DV.l (List.take l4.length (List.drop (0 : Nat) l4)),
 DV.l (List.take l6.length (List.drop (0 : Nat) l6)), DV.n n1]
 [DV.n n8, DV.l l9]) (
 true)))))))) (
 false)) (
 false)))))))))))))) (
 reqB (n8.toNat < n2.toNat) (
 reqB (Nat.add (0 : Nat) n8.toNat < l9.length) (
 bR (bR (dec (n0 = n0)) (
 bR (dec (n1 = n1)) (
 bR (dec (n2 = n2)) (
 bR (bR (dec ((0 : Nat) = (0 : Nat))) (
 dec (l4.length = l4.length)) (
 false)) (
 bR (bR (dec ((0 : Nat) = (0 : Nat))) (
 dec (l6.length = l6.length)) (
 false)) (
 bR (bR (dec ((0 : Nat) = (0 : Nat))) (
 dec (n2.toNat = n2.toNat)) (
 false)) (
 true) (
 false)) (
 false)) (
 false)) (
 false)) (
 false)) (
 false)) (
 bR (bR (bR (dec (l4.length.mul (1 : Nat) = l4.length.mul (1 : Nat))) (
 dec ([Col.i Go.IntKind.i64 (0 : Int) (1 : Int) l4] = [Col.i Go.IntKind.i64 (0 : Int) (1 : Int) l4])) (
 false)) (
 bR (bR (dec (l6.length.mul (1 : Nat) = l6.length.mul (1 : Nat))) (
 dec ([Col.i Go.IntKind.i64 (0 : Int) (1 : Int) l6] = [Col.i Go.IntKind.i64 (0 : Int) (1 : Int) l6])) (
 false)) (
 true) (
 false)) (
 false)) (
 reqB ((0 : Int) ≤ n8 + (1 : Int)) (
 reqB (n8 + (1 : Int) ≤ (1100 : Int)) (
 reqB (lenCols
 [Col.i Go.IntKind.i64 (-9223372036854775808 : Int) (9223372036854775807 : Int)
 (l9.set (Nat.add (0 : Nat) n8.toNat)
 ((1 : Int) - (2 : Int) * l6.getD (Nat.add (0 : Nat) n8.toNat) (0 : Int)))] ≤
 (1000000 : Nat)) (
 reqB ((l9.set (Nat.add (0 : Nat) n8.toNat) ((1 : Int) - (2 : Int) * l6.getD (Nat.add (0 : Nat) n8.toNat) (0 : Int))).length =
 lenCols
 [Col.i Go.IntKind.i64 (-9223372036854775808 : Int) (9223372036854775807 : Int)
 (l9.set (Nat.add (0 : Nat) n8.toNat) ((1 : Int) - (2 : Int) * l6.getD (Nat.add (0 : Nat) n8.toNat) (0 : Int)))]) (
 reqB (∀ (y : Int),
 y ∈ l9.set (Nat.add (0 : Nat) n8.toNat) ((1 : Int) - (2 : Int) * l6.getD (Nat.add (0 : Nat) n8.toNat) (0 : Int)) →
 (-9223372036854775808 : Int) ≤ y ∧ y ≤ (9223372036854775807 : Int)) (
 reqB (codeRL.inv
 [DV.l (List.take l4.length (List.drop (0 : Nat) l4)), DV.l (List.take l6.length (List.drop (0 : Nat) l6)),
 DV.n n1]
 [DV.n (n8 + (1 : Int)),
 DV.l
 (l9.set (Nat.add (0 : Nat) n8.toNat) ((1 : Int) - (2 : Int) * l6.getD (Nat.add (0 : Nat) n8.toNat) (0 : Int)))]) (
 reqB (codeRL.mea
 [DV.l (List.take l4.length (List.drop (0 : Nat) l4)),
 DV.l (List.take l6.length (List.drop (0 : Nat) l6)), DV.n n1]
 [DV.n (n8 + (1 : Int)),
 DV.l
 (l9.set (Nat.add (0 : Nat) n8.toNat)
 ((1 : Int) - (2 : Int) * l6.getD (Nat.add (0 : Nat) n8.toNat) (0 : Int)))] <
 codeRL.mea
 [DV.l (List.take l4.length (List.drop (0 : Nat) l4)),
 DV.l (List.take l6.length (List.drop (0 : Nat) l6)), DV.n n1]
 [DV.n n8, DV.l l9]) (
 true)))))))) (
 false)) (
 false))))))) (
 bR (dec ((2 : Int) < n1)) (
 allB fun n16 : Int => 
 impB (n16 = Go.IntKind.i64.wrap (n8 + n1)) (
 impB (Int.negSucc (9223372036854775807 : Nat) ≤ n16) (
 impB (n16 ≤ Int.ofNat (9223372036854775807 : Nat)) (
 allB fun n17 : Int => 
 impB (n17 = Go.IntKind.i64.wrap (n16 - (3 : Int))) (
 impB (Int.negSucc (9223372036854775807 : Nat) ≤ n17) (
 impB (n17 ≤ Int.ofNat (9223372036854775807 : Nat)) (
 reqB (n2 ≠ (0 : Int)) (
 reqB ((0 : Int) ≤ n17.tmod n2) (
 reqB ((n17.tmod n2).toNat < l6.length) (
 reqB (Nat.add (0 : Nat) (n17.tmod n2).toNat < l6.length) (
 reqB (n8.toNat < n2.toNat) (
 reqB (Nat.add (0 : Nat) n8.toNat < l9.length) (
 bR (bR (dec (n0 = n0)) (
 bR (dec (n1 = n1)) (
 bR (dec (n2 = n2)) (
 bR (bR (dec ((0 : Nat) = (0 : Nat))) (
 dec (l4.length = l4.length)) (
 false)) (
 bR (bR (dec ((0 : Nat) = (0 : Nat))) (
 dec (l6.length = l6.length)) (
 false)) (
 bR (bR (dec ((0 : Nat) = (0 : Nat))) (
 dec (n2.toNat = n2.toNat)) (
 false)) (
 true) (
 false)) (
 false)) (
 false)) (
 false)) (
 false)) (
 false)) (
 bR (bR (bR (dec (l4.length.mul (1 : Nat) = l4.length.mul (1 : Nat))) (
 dec ([Col.i Go.IntKind.i64 (0 : Int) (1 : Int) l4] = [Col.i Go.IntKind.i64 (0 : Int) (1 : Int) l4])) (
 false)) (
 bR (bR (dec (l6.length.mul (1 : Nat) = l6.length.mul (1 : Nat))) (
 dec ([Col.i Go.IntKind.i64 (0 : Int) (1 : Int) l6] = [Col.i Go.IntKind.i64 (0 : Int) (1 : Int) l6])) (
 false)) (
 true) (
 false)) (
 false)) (
 reqB ((0 : Int) ≤ n8 + (1 : Int)) (
 reqB (n8 + (1 : Int) ≤ (1100 : Int)) (
 reqB (lenCols
 [Col.i Go.IntKind.i64 (-9223372036854775808 : Int) (9223372036854775807 : Int)
 (l9.set (Nat.add (0 : Nat) n8.toNat)
 ((1 : Int) -
 (2 : Int) *
 opI (SO.xor Go.IntKind.i64) (0 : Int)
 (l6.getD (Nat.add (0 : Nat) (n17.tmod n2).toNat) (0 : Int))))] ≤
 (1000000 : Nat)) (
 reqB ((l9.set (Nat.add (0 : Nat) n8.toNat)
 ((1 : Int) -
 (2 : Int) *
 opI (SO.xor Go.IntKind.i64) (0 : Int)
 (l6.getD (Nat.add (0 : Nat) (n17.tmod n2).toNat) (0 : Int)))).length =
 lenCols
 [Col.i Go.IntKind.i64 (-9223372036854775808 : Int) (9223372036854775807 : Int)
 (l9.set (Nat.add (0 : Nat) n8.toNat)
 ((1 : Int) -
 (2 : Int) *
 opI (SO.xor Go.IntKind.i64) (0 : Int)
 (l6.getD (Nat.add (0 : Nat) (n17.tmod n2).toNat) (0 : Int))))]) (
 reqB (∀ (y : Int),
 y ∈
 l9.set (Nat.add (0 : Nat) n8.toNat)
 ((1 : Int) -
 (2 : Int) *
 opI (SO.xor Go.IntKind.i64) (0 : Int)
 (l6.getD (Nat.add (0 : Nat) (n17.tmod n2).toNat) (0 : Int))) →
 (-9223372036854775808 : Int) ≤ y ∧ y ≤ (9223372036854775807 : Int)) (
 reqB (codeRL.inv
 [DV.l (List.take l4.length (List.drop (0 : Nat) l4)), DV.l (List.take l6.length (List.drop (0 : Nat) l6)),
 DV.n n1]
 [DV.n (n8 + (1 : Int)),
 DV.l
 (l9.set (Nat.add (0 : Nat) n8.toNat)
 ((1 : Int) -
 (2 : Int) *
 opI (SO.xor Go.IntKind.i64) (0 : Int)
 (l6.getD (Nat.add (0 : Nat) (n17.tmod n2).toNat) (0 : Int))))]) (
 reqB (codeRL.mea
 [DV.l (List.take l4.length (List.drop (0 : Nat) l4)),
 DV.l (List.take l6.length (List.drop (0 : Nat) l6)), DV.n n1]
 [DV.n (n8 + (1 : Int)),
 DV.l
 (l9.set (Nat.add (0 : Nat) n8.toNat)
 ((1 : Int) -
 (2 : Int) *
 opI (SO.xor Go.IntKind.i64) (0 : Int)
 (l6.getD (Nat.add (0 : Nat) (n17.tmod n2).toNat) (0 : Int))))] <
 codeRL.mea
 [DV.l (List.take l4.length (List.drop (0 : Nat) l4)),
 DV.l (List.take l6.length (List.drop (0 : Nat) l6)), DV.n n1]
 [DV.n n8, DV.l l9]) (
 true)))))))) (
 false)) (
 false)))))))))))))) (
 reqB (n8.toNat < n2.toNat) (
 reqB (Nat.add (0 : Nat) n8.toNat < l9.length) (
 bR (bR (dec (n0 = n0)) (
 bR (dec (n1 = n1)) (
 bR (dec (n2 = n2)) (
 bR (bR (dec ((0 : Nat) = (0 : Nat))) (
 dec (l4.length = l4.length)) (
 false)) (
 bR (bR (dec ((0 : Nat) = (0 : Nat))) (
 dec (l6.length = l6.length)) (
 false)) (
 bR (bR (dec ((0 : Nat) = (0 : Nat))) (
 dec (n2.toNat = n2.toNat)) (
 false)) (
 true) (
 false)) (
 false)) (
 false)) (
 false)) (
 false)) (
 false)) (
 bR (bR (bR (dec (l4.length.mul (1 : Nat) = l4.length.mul (1 : Nat))) (
 dec ([Col.i Go.IntKind.i64 (0 : Int) (1 : Int) l4] = [Col.i Go.IntKind.i64 (0 : Int) (1 : Int) l4])) (
 false)) (
 bR (bR (dec (l6.length.mul (1 : Nat) = l6.length.mul (1 : Nat))) (
 dec ([Col.i Go.IntKind.i64 (0 : Int) (1 : Int) l6] = [Col.i Go.IntKind.i64 (0 : Int) (1 : Int) l6])) (
 false)) (
 true) (
 false)) (
 false)) (
 reqB ((0 : Int) ≤ n8 + (1 : Int)) (
 reqB (n8 + (1 : Int) ≤ (1100 : Int)) (
 reqB (lenCols
 [Col.i Go.IntKind.i64 (-9223372036854775808 : Int) (9223372036854775807 : Int)
 (l9.set (Nat.add (0 : Nat) n8.toNat) (Int.ofNat (1 : Nat)))] ≤
 (1000000 : Nat)) (
 reqB ((l9.set (Nat.add (0 : Nat) n8.toNat) (Int.ofNat (1 : Nat))).length =
 lenCols
 [Col.i Go.IntKind.i64 (-9223372036854775808 : Int) (9223372036854775807 : Int)
 (l9.set (Nat.add (0 : Nat) n8.toNat) (Int.ofNat (1 : Nat)))]) (
 reqB (∀ (y : Int),
 y ∈ l9.set (Nat.add (0 : Nat) n8.toNat) (Int.ofNat (1 : Nat)) →
 (-9223372036854775808 : Int) ≤ y ∧ y ≤ (9223372036854775807 : Int)) (
 reqB (codeRL.inv
 [DV.l (List.take l4.length (List.drop (0 : Nat) l4)), DV.l (List.take l6.length (List.drop (0 : Nat) l6)),
 DV.n n1]
 [DV.n (n8 + (1 : Int)), DV.l (l9.set (Nat.add (0 : Nat) n8.toNat) (Int.ofNat (1 : Nat)))]) (
 reqB (codeRL.mea
 [DV.l (List.take l4.length (List.drop (0 : Nat) l4)),
 DV.l (List.take l6.length (List.drop (0 : Nat) l6)), DV.n n1]
 [DV.n (n8 + (1 : Int)), DV.l (l9.set (Nat.add (0 : Nat) n8.toNat) (Int.ofNat (1 : Nat)))] <
 codeRL.mea
 [DV.l (List.take l4.length (List.drop (0 : Nat) l4)),
 DV.l (List.take l6.length (List.drop (0 : Nat) l6)), DV.n n1]
 [DV.n n8, DV.l l9]) (
 true)))))))) (
 false)) (
 false))))))) (
 reqB (((0 : Nat) + n2.toNat) * (1 : Nat) ≤ l9.length.mul (1 : Nat)) (
 reqB (n2.toNat ≤ (1100 : Nat)) (
 reqB ((List.take n2.toNat (List.drop (0 : Nat) l9)).length = n2.toNat) (
 reqB (∀ (y : Int), y ∈ List.take n2.toNat (List.drop (0 : Nat) l9) → (-1 : Int) ≤ y ∧ y ≤ (1 : Int)) (
 reqB (sigCode.post [DV.n n0, DV.n n1]
 [DV.l (List.take n2.toNat (List.drop (0 : Nat) l9)), DV.n (0 : Int)]) (
 true)))))))))))))))))))))))))))))))))))))))))))))))))))))))))))) := by kernel_rfl
set_option maxHeartbeats 8000000 in
theorem vt_codeR : vcFn Tryd.prog [(55, Ext.ctr (ctOfG gl11 sigBits)), (54, Ext.ctr (ctOfG gl11 sigLen))] (fun f p _ => at2 f p 43 2042 codeRL (none)) gl11 100 43 sigCode = true := by
  rw [vc_codeR]
  try simp only [Int.toNat_natCast, List.length_set, List.length_replicate, List.length_take, List.length_drop, List.length_append, List.length_cons, List.length_nil, Nat.min_self, List.take_take, lenCols_i, lenCols_b, List.drop_zero, List.take_length, Nat.add_eq, Nat.mul_eq, Nat.sub_eq, Nat.zero_add, Nat.sub_zero, Nat.mul_one]
  refine all_i fun n0 => ?_
  refine imp_i fun h0 => ?_
  refine imp_i fun h1 => ?_
  refine all_i fun n1 => ?_
  refine imp_i fun h2 => ?_
  refine imp_i fun h3 => ?_
  refine imp_i fun h4 => ?_
  try simp only [sigCode, cCh, codePost, List.cons.injEq, DV.b.injEq, and_true, List.length_cons, List.length_nil] at h4
  refine req_i ?_ ?_
  · -- r0
   first | omega | assumption | grind
  refine req_i ?_ ?_
  · -- r1
   first | omega | assumption | grind
  refine req_i ?_ ?_
  · -- r2
   first | trivial | assumption | (simp only [sigLen, sigLenR, iR, lenPost, List.cons.injEq, DV.b.injEq, and_true, List.length_cons, List.length_nil]; done) | ((try simp only [sigLen, sigLenR, iR, lenPost, List.cons.injEq, DV.b.injEq, and_true, List.length_cons, List.length_nil]); first | omega | assumption | grind)
  refine all_i fun n2 => ?_
  refine imp_i fun h5 => ?_
  refine imp_i fun h6 => ?_
  refine all_i fun n3 => ?_
  refine imp_i fun h7 => ?_
  refine imp_i fun h8 => ?_
  refine imp_i fun h9 => ?_
  try simp only [Int.toNat_natCast, List.length_set, List.length_replicate, List.length_take, List.length_drop, List.length_append, List.length_cons, List.length_nil, Nat.min_self, List.take_take, lenCols_i, lenCols_b, List.drop_zero, List.take_length, Nat.add_eq, Nat.mul_eq, Nat.sub_eq, Nat.zero_add, Nat.sub_zero, Nat.mul_one] at h9
  have hb := ite_case h9
  have nb := @nG_bd n0
  refine bR_dec (fun h10 => ?_) (fun h10 => ?_)
  ·
   refine req_i ?_ ?_
   · -- r3
    first | omega | assumption | grind
   refine req_i ?_ ?_
   · -- r4
    first | omega | assumption | grind
   refine req_i ?_ ?_
   · -- r5
    obtain ⟨k1, k2, k3⟩ := hb.resolve_left (fun g => h10 g.2.1); exact code_no (fun g => k1 g.1) k2
   rfl
  ·
   obtain ⟨ok, _, e2⟩ := hb.resolve_right (fun g => h10 (by rw [g.2.1]; decide))
   refine bR_dec (fun h11 => ?_) (fun h11 => ?_)
   ·
    refine req_i ?_ ?_
    · -- r6
     exact code_no (fun g => by omega) rfl
    rfl
   ·
    refine bR_dec (fun h12 => ?_) (fun h12 => ?_)
    ·
     refine req_i ?_ ?_
     · -- r7
      exact code_no (fun g => by omega) rfl
     rfl
    ·
     refine req_i ?_ ?_
     · -- r8
      first | omega | assumption | grind
     refine req_i ?_ ?_
     · -- r9
      first | omega | assumption | grind
     refine req_i ?_ ?_
     · -- r10
      first | trivial | assumption | (simp only [sigBits, sigBitsR, iR, cB, bitsPost, List.cons.injEq, DV.b.injEq, and_true, List.length_cons, List.length_nil]; done) | ((try simp only [sigBits, sigBitsR, iR, cB, bitsPost, List.cons.injEq, DV.b.injEq, and_true, List.length_cons, List.length_nil]); first | omega | assumption | grind)
     refine all_i fun l4 => ?_
     refine imp_i fun h13 => ?_
     refine imp_i fun h14 => ?_
     refine all_i fun n5 => ?_
     refine imp_i fun h15 => ?_
     refine imp_i fun h16 => ?_
     refine imp_i fun h17 => ?_
     try simp only [Int.toNat_natCast, List.length_set, List.length_replicate, List.length_take, List.length_drop, List.length_append, List.length_cons, List.length_nil, Nat.min_self, List.take_take, lenCols_i, lenCols_b, List.drop_zero, List.take_length, Nat.add_eq, Nat.mul_eq, Nat.sub_eq, Nat.zero_add, Nat.sub_zero, Nat.mul_one] at h17
     obtain ⟨_, e4⟩ := (ite_case h17).resolve_right (fun g => g.1 ⟨ok, .inl rfl⟩) |>.2
     have bl4 := bits_len (w := 1) ok (.inl rfl)
     rw [← e4] at bl4
     refine req_i ?_ ?_
     · -- r11
      first | omega | assumption | grind
     refine req_i ?_ ?_
     · -- r12
      first | omega | assumption | grind
     refine req_i ?_ ?_
     · -- r13
      first | trivial | assumption | (simp only [sigBits, sigBitsR, iR, cB, bitsPost, List.cons.injEq, DV.b.injEq, and_true, List.length_cons, List.length_nil]; done) | ((try simp only [sigBits, sigBitsR, iR, cB, bitsPost, List.cons.injEq, DV.b.injEq, and_true, List.length_cons, List.length_nil]); first | omega | assumption | grind)
     refine all_i fun l6 => ?_
     refine imp_i fun h18 => ?_
     refine imp_i fun h19 => ?_
     refine all_i fun n7 => ?_
     refine imp_i fun h20 => ?_
     refine imp_i fun h21 => ?_
     refine imp_i fun h22 => ?_
     try simp only [Int.toNat_natCast, List.length_set, List.length_replicate, List.length_take, List.length_drop, List.length_append, List.length_cons, List.length_nil, Nat.min_self, List.take_take, lenCols_i, lenCols_b, List.drop_zero, List.take_length, Nat.add_eq, Nat.mul_eq, Nat.sub_eq, Nat.zero_add, Nat.sub_zero, Nat.mul_one] at h22
     obtain ⟨_, e6⟩ := (ite_case h22).resolve_right (fun g => g.1 ⟨ok, .inr rfl⟩) |>.2
     have bl6 := bits_len (w := 2) ok (.inr rfl)
     rw [← e6, ← e2] at bl6
     refine req_i ?_ ?_
     · -- r14
      first | omega | assumption | grind
     refine req_i ?_ ?_
     · -- r15
      first | omega | assumption | grind
     refine req_i ?_ ?_
     · -- r16
      first | omega | ((try simp only [Nat.mul_eq]); first | done | omega | assumption | grind [getD_set, getD_rep, toNat_succ, cntN_yes, cntN_no])
     refine req_i ?_ ?_
     · -- r17
      first | omega | ((try simp only [Nat.zero_add]); first | done | omega | assumption | grind [getD_set, getD_rep, toNat_succ, cntN_yes, cntN_no])
     refine req_i ?_ ?_
     · -- r18
      first | omega | ((try simp only [List.length_take, List.take_length, List.take_take, Nat.min_self, List.length_drop, List.drop_zero, List.length_cons, List.length_nil]); first | done | omega | assumption | grind [getD_set, getD_rep, toNat_succ, cntN_yes, cntN_no])
     refine req_i ?_ ?_
     · -- r19
      first | assumption | exact rep_bd (by omega) (by omega) | exact set_bd (by assumption) (by omega) (by omega) | exact take_bd (by assumption) | ((try simp only [List.length_take, List.take_length, List.take_take, Nat.min_self, List.length_drop, List.drop_zero, List.length_cons, List.length_nil]); first | assumption | exact rep_bd (by omega) (by omega) | exact set_bd (by assumption) (by omega) (by omega) | exact take_bd (by assumption) | grind [getD_set, getD_rep, toNat_succ, cntN_yes, cntN_no])
     refine req_i ?_ ?_
     · -- r20
      first | omega | ((try simp only [Nat.mul_eq]); first | done | omega | assumption | grind [getD_set, getD_rep, toNat_succ, cntN_yes, cntN_no])
     refine req_i ?_ ?_
     · -- r21
      first | omega | ((try simp only [Nat.zero_add]); first | done | omega | assumption | grind [getD_set, getD_rep, toNat_succ, cntN_yes, cntN_no])
     refine req_i ?_ ?_
     · -- r22
      first | omega | ((try simp only [List.length_take, List.take_length, List.take_take, Nat.min_self, List.length_drop, List.drop_zero, List.length_cons, List.length_nil]); first | done | omega | assumption | grind [getD_set, getD_rep, toNat_succ, cntN_yes, cntN_no])
     refine req_i ?_ ?_
     · -- r23
      first | assumption | exact rep_bd (by omega) (by omega) | exact set_bd (by assumption) (by omega) (by omega) | exact take_bd (by assumption) | ((try simp only [List.length_take, List.take_length, List.take_take, Nat.min_self, List.length_drop, List.drop_zero, List.length_cons, List.length_nil]); first | assumption | exact rep_bd (by omega) (by omega) | exact set_bd (by assumption) (by omega) (by omega) | exact take_bd (by assumption) | grind [getD_set, getD_rep, toNat_succ, cntN_yes, cntN_no])
     refine req_i ?_ ?_
     · -- r24
      first | omega | assumption | grind
     refine req_i ?_ ?_
     · -- r25
      first | omega | assumption | grind
     refine req_i ?_ ?_
     · -- r26
      first | omega | ((try simp only [Int.toNat_natCast, List.length_replicate, List.length_cons, List.length_nil, lenCols_i, lenCols_b]); first | done | omega | assumption | grind [getD_set, getD_rep, toNat_succ, cntN_yes, cntN_no])
     refine req_i ?_ ?_
     · -- r27
      first | omega | ((try simp only [Int.toNat_natCast, List.length_replicate, List.length_cons, List.length_nil, lenCols_i, lenCols_b]); first | done | omega | assumption | grind [getD_set, getD_rep, toNat_succ, cntN_yes, cntN_no])
     refine req_i ?_ ?_
     · -- r28
      first | assumption | exact rep_bd (by omega) (by omega) | exact set_bd (by assumption) (by omega) (by omega) | exact take_bd (by assumption) | ((try simp only [Int.toNat_natCast, List.length_replicate, List.length_cons, List.length_nil]); first | assumption | exact rep_bd (by omega) (by omega) | exact set_bd (by assumption) (by omega) (by omega) | exact take_bd (by assumption) | grind [getD_set, getD_rep, toNat_succ, cntN_yes, cntN_no])
     refine req_i ?_ ?_
     · -- r29
      first | omega | ((try simp only [codeRL, cB, codeFInv, meaC, List.cons.injEq, DV.b.injEq, and_true, Int.toNat_natCast, List.length_replicate, List.length_take, List.take_length, List.take_take, Nat.min_self, List.length_drop, List.drop_zero, List.length_cons, List.length_nil]); first | done | omega | assumption | grind [getD_set, getD_rep, toNat_succ, cntN_yes, cntN_no])
     refine all_i fun n8 => ?_
     refine imp_i fun h23 => ?_
     refine imp_i fun h24 => ?_
     refine all_i fun l9 => ?_
     refine imp_i fun h25 => ?_
     refine imp_i fun h26 => ?_
     refine imp_i fun h27 => ?_
     try simp only [codeRL, cB, codeFInv, meaC, List.cons.injEq, DV.b.injEq, and_true, List.length_take, List.take_length, List.take_take, Nat.min_self, List.length_drop, List.drop_zero, List.length_cons, List.length_nil] at h27
     refine bR_dec (fun h28 => ?_) (fun h28 => ?_)
     ·
      have a0 := getD_bd (i := n8.toNat) h14 (by omega) (by omega)
      have a1 := getD_bd (i := n8.toNat) h19 (by omega) (by omega)
      refine bR_dec (fun h29 => ?_) (fun h29 => ?_)
      ·
       refine req_i ?_ ?_
       · -- r30
        first | omega | ((try simp only [Int.toNat_natCast, List.length_cons, List.length_nil]); first | done | omega | assumption | grind [getD_set, getD_rep, toNat_succ, cntN_yes, cntN_no])
       refine req_i ?_ ?_
       · -- r31
        first | omega | ((try simp only [Int.toNat_natCast, List.length_cons, List.length_nil, Nat.add_eq, Nat.zero_add]); first | done | omega | assumption | grind [getD_set, getD_rep, toNat_succ, cntN_yes, cntN_no])
       refine bR_dec (fun h30 => absurd h30 h29) (fun h30 => ?_)
       refine bR_dec (fun h31 => ?_) (fun h31 => ?_)
       ·
        refine all_i fun n12 => ?_
        refine imp_i fun h32 => ?_
        simp only [wrap_i64] at h32
        refine imp_i fun h33 => ?_
        refine imp_i fun h34 => ?_
        refine all_i fun n13 => ?_
        refine imp_i fun h35 => ?_
        simp only [wrap_i64] at h35
        refine imp_i fun h36 => ?_
        refine imp_i fun h37 => ?_
        have w1 : n13 = n8 + n1 - 3 := by omega
        have a2 := getD_bd (i := (n13.tmod n2).toNat) h19 (by omega) (by omega)
        have a4 := tmod_nn (a := n13) (b := n2) (by omega)
        have a5 := Int.emod_nonneg n13 (b := n2) (by omega)
        have a6 := Int.emod_lt_of_pos n13 (b := n2) (by omega)
        have a7 : n13.tmod n2 = (n8 + n1 - 3) % (l6.length : Int) := by rw [a4, w1, bl6]
        have a3 := xor_bit a0.1 a0.2 a2.1 a2.2
        refine req_i ?_ ?_
        · -- r32
         first | omega | assumption | grind
        refine req_i ?_ ?_
        · -- r33
         first | omega | assumption | grind
        refine req_i ?_ ?_
        · -- r34
         first | omega | ((try simp only [Int.toNat_natCast, List.length_cons, List.length_nil]); first | done | omega | assumption | grind [getD_set, getD_rep, toNat_succ, cntN_yes, cntN_no])
        refine req_i ?_ ?_
        · -- r35
         first | omega | ((try simp only [Int.toNat_natCast, List.length_cons, List.length_nil, Nat.add_eq, Nat.zero_add]); first | done | omega | assumption | grind [getD_set, getD_rep, toNat_succ, cntN_yes, cntN_no])
        refine req_i ?_ ?_
        · -- r36
         first | omega | assumption | grind
        refine req_i ?_ ?_
        · -- r37
         first | omega | ((try simp only [Int.toNat_natCast, List.length_cons, List.length_nil, Nat.add_eq, Nat.zero_add]); first | done | omega | assumption | grind [getD_set, getD_rep, toNat_succ, cntN_yes, cntN_no])
        refine bR_t ?_ ?_
        · -- g0
         first | rfl | (simp only [bR_iff, bR_iff_f, dec_iff, dec_f, beqB_iff', andB_iff', reduceCtorEq, imp_self, false_implies, and_true, true_and, implies_true, and_self]; done) | (simp [bR_iff, dec_iff, beqB_iff', andB_iff']; done) | (simp [bR_iff, dec_iff, beqB_iff', andB_iff']; omega)
        refine bR_t ?_ ?_
        · -- g1
         first | rfl | (simp only [bR_iff, bR_iff_f, dec_iff, dec_f, beqB_iff', andB_iff', reduceCtorEq, imp_self, false_implies, and_true, true_and, implies_true, and_self]; done) | (simp [bR_iff, dec_iff, beqB_iff', andB_iff']; done) | (simp [bR_iff, dec_iff, beqB_iff', andB_iff']; omega)
        refine req_i ?_ ?_
        · -- r38
         first | omega | assumption | grind
        refine req_i ?_ ?_
        · -- r39
         first | omega | assumption | grind
        refine req_i ?_ ?_
        · -- r40
         first | omega | ((try simp only [Int.toNat_natCast, List.length_set, List.length_cons, List.length_nil, lenCols_i, lenCols_b, Nat.add_eq, Nat.zero_add]); first | done | omega | assumption | grind [getD_set, getD_rep, toNat_succ, cntN_yes, cntN_no])
        refine req_i ?_ ?_
        · -- r41
         first | omega | ((try simp only [Int.toNat_natCast, List.length_set, List.length_cons, List.length_nil, lenCols_i, lenCols_b, Nat.add_eq, Nat.zero_add]); first | done | omega | assumption | grind [getD_set, getD_rep, toNat_succ, cntN_yes, cntN_no])
        refine req_i ?_ ?_
        · -- r42
         first | assumption | exact rep_bd (by omega) (by omega) | exact set_bd (by assumption) (by omega) (by omega) | exact take_bd (by assumption) | ((try simp only [Int.toNat_natCast, List.length_set, List.length_cons, List.length_nil, Nat.add_eq, Nat.zero_add]); first | assumption | exact rep_bd (by omega) (by omega) | exact set_bd (by assumption) (by omega) (by omega) | exact take_bd (by assumption) | grind [getD_set, getD_rep, toNat_succ, cntN_yes, cntN_no])
        refine req_i ?_ ?_
        · -- r43
         simp only [codeRL, codeFInv, List.drop_zero, List.take_length, Nat.add_eq, Nat.zero_add]; exact codeF_step h27.1 (by omega) h27.2.2.1 h27.2.2.2 (by rw [a3, chipB3 (by omega) (by omega) a7])
        refine req_i ?_ ?_
        · -- r44
         first | omega | ((try simp only [codeRL, cB, codeFInv, meaC, List.cons.injEq, DV.b.injEq, and_true, Int.toNat_natCast, List.length_set, List.length_take, List.take_length, List.take_take, Nat.min_self, List.length_drop, List.drop_zero, List.length_cons, List.length_nil, Nat.add_eq, Nat.zero_add]); first | done | omega | assumption | grind [getD_set, getD_rep, toNat_succ, cntN_yes, cntN_no])
        rfl
       ·
        refine req_i ?_ ?_
        · -- r45
         first | omega | assumption | grind
        refine req_i ?_ ?_
        · -- r46
         first | omega | ((try simp only [Int.toNat_natCast, List.length_cons, List.length_nil, Nat.add_eq, Nat.zero_add]); first | done | omega | assumption | grind [getD_set, getD_rep, toNat_succ, cntN_yes, cntN_no])
        refine bR_t ?_ ?_
        · -- g2
         first | rfl | (simp only [bR_iff, bR_iff_f, dec_iff, dec_f, beqB_iff', andB_iff', reduceCtorEq, imp_self, false_implies, and_true, true_and, implies_true, and_self]; done) | (simp [bR_iff, dec_iff, beqB_iff', andB_iff']; done) | (simp [bR_iff, dec_iff, beqB_iff', andB_iff']; omega)
        refine bR_t ?_ ?_
        · -- g3
         first | rfl | (simp only [bR_iff, bR_iff_f, dec_iff, dec_f, beqB_iff', andB_iff', reduceCtorEq, imp_self, false_implies, and_true, true_and, implies_true, and_self]; done) | (simp [bR_iff, dec_iff, beqB_iff', andB_iff']; done) | (simp [bR_iff, dec_iff, beqB_iff', andB_iff']; omega)
        refine req_i ?_ ?_
        · -- r47
         first | omega | assumption | grind
        refine req_i ?_ ?_
        · -- r48
         first | omega | assumption | grind
        refine req_i ?_ ?_
        · -- r49
         first | omega | ((try simp only [Int.toNat_natCast, List.length_set, List.length_cons, List.length_nil, lenCols_i, lenCols_b, Nat.add_eq, Nat.zero_add]); first | done | omega | assumption | grind [getD_set, getD_rep, toNat_succ, cntN_yes, cntN_no])
        refine req_i ?_ ?_
        · -- r50
         first | omega | ((try simp only [Int.toNat_natCast, List.length_set, List.length_cons, List.length_nil, lenCols_i, lenCols_b, Nat.add_eq, Nat.zero_add]); first | done | omega | assumption | grind [getD_set, getD_rep, toNat_succ, cntN_yes, cntN_no])
        refine req_i ?_ ?_
        · -- r51
         first | assumption | exact rep_bd (by omega) (by omega) | exact set_bd (by assumption) (by omega) (by omega) | exact take_bd (by assumption) | ((try simp only [Int.toNat_natCast, List.length_set, List.length_cons, List.length_nil, Nat.add_eq, Nat.zero_add]); first | assumption | exact rep_bd (by omega) (by omega) | exact set_bd (by assumption) (by omega) (by omega) | exact take_bd (by assumption) | grind [getD_set, getD_rep, toNat_succ, cntN_yes, cntN_no])
        refine req_i ?_ ?_
        · -- r52
         simp only [codeRL, codeFInv, List.drop_zero, List.take_length, Nat.add_eq, Nat.zero_add]; exact codeF_step h27.1 (by omega) h27.2.2.1 h27.2.2.2 (by rw [show n1 = 1 by omega, chipB1])
        refine req_i ?_ ?_
        · -- r53
         first | omega | ((try simp only [codeRL, cB, codeFInv, meaC, List.cons.injEq, DV.b.injEq, and_true, Int.toNat_natCast, List.length_set, List.length_take, List.take_length, List.take_take, Nat.min_self, List.length_drop, List.drop_zero, List.length_cons, List.length_nil, Nat.add_eq, Nat.zero_add]); first | done | omega | assumption | grind [getD_set, getD_rep, toNat_succ, cntN_yes, cntN_no])
        rfl
      ·
       refine bR_dec (fun h38 => ?_) (fun h38 => absurd h38 h29)
       refine req_i ?_ ?_
       · -- r54
        first | omega | ((try simp only [Int.toNat_natCast, List.length_cons, List.length_nil]); first | done | omega | assumption | grind [getD_set, getD_rep, toNat_succ, cntN_yes, cntN_no])
       refine req_i ?_ ?_
       · -- r55
        first | omega | ((try simp only [Int.toNat_natCast, List.length_cons, List.length_nil, Nat.add_eq, Nat.zero_add]); first | done | omega | assumption | grind [getD_set, getD_rep, toNat_succ, cntN_yes, cntN_no])
       refine bR_dec (fun h39 => ?_) (fun h39 => ?_)
       ·
        refine all_i fun n14 => ?_
        refine imp_i fun h40 => ?_
        simp only [wrap_i64] at h40
        refine imp_i fun h41 => ?_
        refine imp_i fun h42 => ?_
        refine all_i fun n15 => ?_
        refine imp_i fun h43 => ?_
        simp only [wrap_i64] at h43
        refine imp_i fun h44 => ?_
        refine imp_i fun h45 => ?_
        refine req_i ?_ ?_
        · -- r56
         first | omega | assumption | grind
        refine req_i ?_ ?_
        · -- r57
         first | omega | assumption | grind
        refine req_i ?_ ?_
        · -- r58
         first | omega | ((try simp only [Int.toNat_natCast, List.length_cons, List.length_nil]); first | done | omega | assumption | grind [getD_set, getD_rep, toNat_succ, cntN_yes, cntN_no])
        refine req_i ?_ ?_
        · -- r59
         first | omega | ((try simp only [Int.toNat_natCast, List.length_cons, List.length_nil, Nat.add_eq, Nat.zero_add]); first | done | omega | assumption | grind [getD_set, getD_rep, toNat_succ, cntN_yes, cntN_no])
        refine req_i ?_ ?_
        · -- r60
         first | omega | assumption | grind
        refine req_i ?_ ?_
        · -- r61
         first | omega | ((try simp only [Int.toNat_natCast, List.length_cons, List.length_nil, Nat.add_eq, Nat.zero_add]); first | done | omega | assumption | grind [getD_set, getD_rep, toNat_succ, cntN_yes, cntN_no])
        refine bR_t ?_ ?_
        · -- g4
         first | rfl | (simp only [bR_iff, bR_iff_f, dec_iff, dec_f, beqB_iff', andB_iff', reduceCtorEq, imp_self, false_implies, and_true, true_and, implies_true, and_self]; done) | (simp [bR_iff, dec_iff, beqB_iff', andB_iff']; done) | (simp [bR_iff, dec_iff, beqB_iff', andB_iff']; omega)
        refine bR_t ?_ ?_
        · -- g5
         first | rfl | (simp only [bR_iff, bR_iff_f, dec_iff, dec_f, beqB_iff', andB_iff', reduceCtorEq, imp_self, false_implies, and_true, true_and, implies_true, and_self]; done) | (simp [bR_iff, dec_iff, beqB_iff', andB_iff']; done) | (simp [bR_iff, dec_iff, beqB_iff', andB_iff']; omega)
        refine req_i ?_ ?_
        · -- r62
         first | omega | assumption | grind
        refine req_i ?_ ?_
        · -- r63
         first | omega | assumption | grind
        refine req_i ?_ ?_
        · -- r64
         first | omega | ((try simp only [Int.toNat_natCast, List.length_set, List.length_cons, List.length_nil, lenCols_i, lenCols_b, Nat.add_eq, Nat.zero_add]); first | done | omega | assumption | grind [getD_set, getD_rep, toNat_succ, cntN_yes, cntN_no])
        refine req_i ?_ ?_
        · -- r65
         first | omega | ((try simp only [Int.toNat_natCast, List.length_set, List.length_cons, List.length_nil, lenCols_i, lenCols_b, Nat.add_eq, Nat.zero_add]); first | done | omega | assumption | grind [getD_set, getD_rep, toNat_succ, cntN_yes, cntN_no])
        refine req_i ?_ ?_
        · -- r66
         first | assumption | exact rep_bd (by omega) (by omega) | exact set_bd (by assumption) (by omega) (by omega) | exact take_bd (by assumption) | ((try simp only [Int.toNat_natCast, List.length_set, List.length_cons, List.length_nil, Nat.add_eq, Nat.zero_add]); first | assumption | exact rep_bd (by omega) (by omega) | exact set_bd (by assumption) (by omega) (by omega) | exact take_bd (by assumption) | grind [getD_set, getD_rep, toNat_succ, cntN_yes, cntN_no])
        refine req_i ?_ ?_
        · -- r67
         first | omega | ((try simp only [codeRL, cB, codeFInv, meaC, List.cons.injEq, DV.b.injEq, and_true, Int.toNat_natCast, List.length_set, List.length_take, List.take_length, List.take_take, Nat.min_self, List.length_drop, List.drop_zero, List.length_cons, List.length_nil, Nat.add_eq, Nat.zero_add]); first | done | omega | assumption | grind [getD_set, getD_rep, toNat_succ, cntN_yes, cntN_no])
        refine req_i ?_ ?_
        · -- r68
         first | omega | ((try simp only [codeRL, cB, codeFInv, meaC, List.cons.injEq, DV.b.injEq, and_true, Int.toNat_natCast, List.length_set, List.length_take, List.take_length, List.take_take, Nat.min_self, List.length_drop, List.drop_zero, List.length_cons, List.length_nil, Nat.add_eq, Nat.zero_add]); first | done | omega | assumption | grind [getD_set, getD_rep, toNat_succ, cntN_yes, cntN_no])
        rfl
       ·
        refine req_i ?_ ?_
        · -- r69
         first | omega | assumption | grind
        refine req_i ?_ ?_
        · -- r70
         first | omega | ((try simp only [Int.toNat_natCast, List.length_cons, List.length_nil, Nat.add_eq, Nat.zero_add]); first | done | omega | assumption | grind [getD_set, getD_rep, toNat_succ, cntN_yes, cntN_no])
        refine bR_t ?_ ?_
        · -- g6
         first | rfl | (simp only [bR_iff, bR_iff_f, dec_iff, dec_f, beqB_iff', andB_iff', reduceCtorEq, imp_self, false_implies, and_true, true_and, implies_true, and_self]; done) | (simp [bR_iff, dec_iff, beqB_iff', andB_iff']; done) | (simp [bR_iff, dec_iff, beqB_iff', andB_iff']; omega)
        refine bR_t ?_ ?_
        · -- g7
         first | rfl | (simp only [bR_iff, bR_iff_f, dec_iff, dec_f, beqB_iff', andB_iff', reduceCtorEq, imp_self, false_implies, and_true, true_and, implies_true, and_self]; done) | (simp [bR_iff, dec_iff, beqB_iff', andB_iff']; done) | (simp [bR_iff, dec_iff, beqB_iff', andB_iff']; omega)
        refine req_i ?_ ?_
        · -- r71
         first | omega | assumption | grind
        refine req_i ?_ ?_
        · -- r72
         first | omega | assumption | grind
        refine req_i ?_ ?_
        · -- r73
         first | omega | ((try simp only [Int.toNat_natCast, List.length_set, List.length_cons, List.length_nil, lenCols_i, lenCols_b, Nat.add_eq, Nat.zero_add]); first | done | omega | assumption | grind [getD_set, getD_rep, toNat_succ, cntN_yes, cntN_no])
        refine req_i ?_ ?_
        · -- r74
         first | omega | ((try simp only [Int.toNat_natCast, List.length_set, List.length_cons, List.length_nil, lenCols_i, lenCols_b, Nat.add_eq, Nat.zero_add]); first | done | omega | assumption | grind [getD_set, getD_rep, toNat_succ, cntN_yes, cntN_no])
        refine req_i ?_ ?_
        · -- r75
         first | assumption | exact rep_bd (by omega) (by omega) | exact set_bd (by assumption) (by omega) (by omega) | exact take_bd (by assumption) | ((try simp only [Int.toNat_natCast, List.length_set, List.length_cons, List.length_nil, Nat.add_eq, Nat.zero_add]); first | assumption | exact rep_bd (by omega) (by omega) | exact set_bd (by assumption) (by omega) (by omega) | exact take_bd (by assumption) | grind [getD_set, getD_rep, toNat_succ, cntN_yes, cntN_no])
        refine req_i ?_ ?_
        · -- r76
         simp only [codeRL, codeFInv, List.drop_zero, List.take_length, Nat.add_eq, Nat.zero_add]; exact codeF_step h27.1 (by omega) h27.2.2.1 h27.2.2.2 (by rw [h38, chipB2])
        refine req_i ?_ ?_
        · -- r77
         first | omega | ((try simp only [codeRL, cB, codeFInv, meaC, List.cons.injEq, DV.b.injEq, and_true, Int.toNat_natCast, List.length_set, List.length_take, List.take_length, List.take_take, Nat.min_self, List.length_drop, List.drop_zero, List.length_cons, List.length_nil, Nat.add_eq, Nat.zero_add]); first | done | omega | assumption | grind [getD_set, getD_rep, toNat_succ, cntN_yes, cntN_no])
        rfl
     ·
      refine req_i ?_ ?_
      · -- r78
       first | omega | ((try simp only [Int.toNat_natCast, List.length_cons, List.length_nil, Nat.mul_eq]); first | done | omega | assumption | grind [getD_set, getD_rep, toNat_succ, cntN_yes, cntN_no])
      refine req_i ?_ ?_
      · -- r79
       first | omega | assumption | grind
      refine req_i ?_ ?_
      · -- r80
       first | omega | ((try simp only [Int.toNat_natCast, List.length_take, List.take_length, List.take_take, Nat.min_self, List.length_drop, List.drop_zero, List.length_cons, List.length_nil]); first | done | omega | assumption | grind [getD_set, getD_rep, toNat_succ, cntN_yes, cntN_no])
      refine req_i ?_ ?_
      · -- r81
       (try simp only [List.drop_zero]); rw [List.take_of_length_le (by omega), chips_of (p := n1) (u := l4) (v := l6) h27.2.2.1 fun j hj => h27.2.2.2 j (by omega)]; exact chips_bd h14 h19
      refine req_i ?_ ?_
      · -- r82
       (try simp only [List.drop_zero]); rw [List.take_of_length_le (by omega)]; exact code_yes ⟨ok, by omega, by omega⟩ rfl (by rw [chips_of (p := n1) (u := l4) (v := l6) h27.2.2.1 fun j hj => h27.2.2.2 j (by omega), e4, e6]; rfl)
      rfl
theorem ext_codeR : ∀ p ∈ ([(55, Ext.ctr (ctOfG gl11 sigBits)), (54, Ext.ctr (ctOfG gl11 sigLen))] : List (Nat × Ext)), ExtRow Tryd.prog p.1 p.2 := by
  intro p hp
  simp only [List.mem_cons, List.not_mem_nil, or_false] at hp
  rcases hp with rfl | rfl
  · trivial
  · trivial
theorem cts_codeR : CtsOk Tryd.prog [(55, Ext.ctr (ctOfG gl11 sigBits)), (54, Ext.ctr (ctOfG gl11 sigLen))] := ctsOk_ofG (cs := [(55, sigBits), (54, sigLen)])
  (fun p hp => by
    simp only [List.mem_cons, List.not_mem_nil, or_false] at hp
    rcases hp with rfl | rfl
    · exact fn_bitsR
    · exact fn_lenR
)
  (fun f c h => by
    simp only [List.lookup_cons] at h
    repeat' split at h
    all_goals first | (cases h; done) | (rename_i e; have e := beq_iff_eq.1 e; subst e; cases h; refine ⟨_, ?_, rfl⟩; simp))
theorem fn_codeR : FnOk Tryd.prog 43 sigCode gl11 := fn_sound (by kernel_rfl) ext_codeR cts_codeR names vt_codeR
end Go.Proofs.YtblcahackjpnjaaDoor

namespace Go.Proofs.YtblcahackjpnjaaDoor
open Go.Ev Go.Sp
set_option maxRecDepth 100000
theorem vc_chipsR : vcFn Tryd.prog [(43, Ext.ctr (ctOfG gl11 sigCode))] (fun f p _ => at2 f p 27 506 chRL (none)) gl11 100 27 sigChips = (allB fun n0 : Int => 
impB ((-9223372036854775808 : Int) ≤ n0) (
impB (n0 ≤ (9223372036854775807 : Int)) (
allB fun n1 : Int => 
impB ((-9223372036854775808 : Int) ≤ n1) (
impB (n1 ≤ (9223372036854775807 : Int)) (
allB fun n2 : Int => 
impB ((-9223372036854775808 : Int) ≤ n2) (
impB (n2 ≤ (9223372036854775807 : Int)) (
allB fun n3 : Int => 
impB ((-9223372036854775808 : Int) ≤ n3) (
impB (n3 ≤ (9223372036854775807 : Int)) (
allB fun n4 : Int => 
impB ((-9223372036854775808 : Int) ≤ n4) (
impB (n4 ≤ (9223372036854775807 : Int)) (
impB (sigChips.pre [DV.n n0, DV.n n1, DV.n n2, DV.n n3, DV.n n4]) (
reqB ((-9223372036854775808 : Int) ≤ n0) (
reqB (n0 ≤ (9223372036854775807 : Int)) (
reqB ((-9223372036854775808 : Int) ≤ n1) (
reqB (n1 ≤ (9223372036854775807 : Int)) (
reqB (sigCode.pre [DV.n n0, DV.n n1]) (
allB fun l5 : List Int => 
impB (l5.length ≤ (1100 : Nat)) (
impB (∀ (y : Int), y ∈ l5 → (-1 : Int) ≤ y ∧ y ≤ (1 : Int)) (
allB fun n6 : Int => 
impB ((0 : Int) ≤ n6) (
impB (n6 ≤ (18 : Int)) (
impB (sigCode.post [DV.n n0, DV.n n1] [DV.l l5, DV.n n6]) (
bR (dec (n6 ≠ (0 : Int))) (
 reqB ((0 : Int) ≤ n6) (
 reqB (n6 ≤ (18 : Int)) (
 reqB (sigChips.post [DV.n n0, DV.n n1, DV.n n2, DV.n n3, DV.n n4]
 [DV.l [], DV.n n6]) (
 true)))) (
 bR (dec (n2 < (-1099511627776 : Int))) (
 reqB (sigChips.post [DV.n n0, DV.n n1, DV.n n2, DV.n n3, DV.n n4]
 [DV.l [], DV.n (2 : Int)]) (
 true)) (
 bR (dec ((1099511627776 : Int) < n2)) (
 reqB (sigChips.post [DV.n n0, DV.n n1, DV.n n2, DV.n n3, DV.n n4]
 [DV.l [], DV.n (2 : Int)]) (
 true)) (
 bR (dec (n3 < (-1048576 : Int))) (
 reqB (sigChips.post [DV.n n0, DV.n n1, DV.n n2, DV.n n3, DV.n n4]
 [DV.l [], DV.n (2 : Int)]) (
 true)) (
 bR (dec ((1048576 : Int) < n3)) (
 reqB (sigChips.post [DV.n n0, DV.n n1, DV.n n2, DV.n n3, DV.n n4]
 [DV.l [], DV.n (2 : Int)]) (
 true)) (
 bR (dec (n4 < (0 : Int))) (
 reqB (sigChips.post [DV.n n0, DV.n n1, DV.n n2, DV.n n3, DV.n n4]
 [DV.l [], DV.n (2 : Int)]) (
 true)) (
 bR (dec ((100000 : Int) < n4)) (
 reqB (sigChips.post [DV.n n0, DV.n n1, DV.n n2, DV.n n3, DV.n n4]
 [DV.l [], DV.n (2 : Int)]) (
 true)) (
 reqB (((0 : Nat) + l5.length) * (1 : Nat) ≤ l5.length.mul (1 : Nat)) (
 reqB (l5.length ≤ (1100 : Nat)) (
 reqB ((List.take l5.length (List.drop (0 : Nat) l5)).length = l5.length) (
 reqB (∀ (y : Int), y ∈ List.take l5.length (List.drop (0 : Nat) l5) → (-1 : Int) ≤ y ∧ y ≤ (1 : Int)) (
 reqB ((-1099511627776 : Int) ≤ n2) (
 reqB (n2 ≤ (1099511627776 : Int)) (
 reqB ((-1048576 : Int) ≤ n3) (
 reqB (n3 ≤ (1048576 : Int)) (
 reqB ((0 : Int) ≤ n4) (
 reqB (n4 ≤ (600 : Int)) (
 reqB (chRL.inv [DV.l (List.take l5.length (List.drop (0 : Nat) l5)), DV.n n2, DV.n n3, DV.n n4]
 [DV.n (0 : Int), DV.l []]) (
 allB fun n7 : Int => 
 impB ((0 : Int) ≤ n7) (
 impB (n7 ≤ (600 : Int)) (
 allB fun l8 : List Int => 
 impB (l8.length ≤ (600 : Nat)) (
 impB (∀ (y : Int), y ∈ l8 → (-1 : Int) ≤ y ∧ y ≤ (1 : Int)) (
 impB (chRL.inv [DV.l (List.take l5.length (List.drop (0 : Nat) l5)), DV.n n2, DV.n n3, DV.n n4]
 [DV.n n7, DV.l l8]) (
 bR (dec (n7 < n4)) (
 allB fun n9 : Int => 
 impB (n9 = Go.IntKind.i64.wrap (n7 * n3)) (
 impB (Int.negSucc (9223372036854775807 : Nat) ≤ n9) (
 impB (n9 ≤ Int.ofNat (9223372036854775807 : Nat)) (
 allB fun n10 : Int => 
 impB (n10 = Go.IntKind.i64.wrap (n2 + n9)) (
 impB (Int.negSucc (9223372036854775807 : Nat) ≤ n10) (
 impB (n10 ≤ Int.ofNat (9223372036854775807 : Nat)) (
 reqB ((↑l5.length : Int) ≠ (0 : Int)) (
 bR (dec ((n10 / Int.ofNat (65536 : Nat)).tmod (↑l5.length : Int) < (0 : Int))) (
 reqB ((0 : Int) ≤ (n10 / Int.ofNat (65536 : Nat)).tmod (↑l5.length : Int) + (↑l5.length : Int)) (
 reqB (((n10 / Int.ofNat (65536 : Nat)).tmod (↑l5.length : Int) + (↑l5.length : Int)).toNat < l5.length) (
 reqB (Nat.add (0 : Nat) ((n10 / Int.ofNat (65536 : Nat)).tmod (↑l5.length : Int) + (↑l5.length : Int)).toNat < l5.length) (
 reqB (l8.length + (1 : Nat) ≤ (1000000 : Nat)) (
 reqB (((0 : Nat) + l8.length) * (0 + (1 : Nat)) ≤ l8.length.mul (1 : Nat)) (
 bR (bR (dec (n2 = n2)) (
 bR (dec (n3 = n3)) (
 bR (dec (n4 = n4)) (
 bR (bR (dec ((0 : Nat) = (0 : Nat))) (
 dec (l5.length = l5.length)) (
 false)) (
 true) (
 false)) (
 false)) (
 false)) (
 false)) (
 bR (bR (bR (dec (l5.length.mul (1 : Nat) = l5.length.mul (1 : Nat))) (
 dec ([Col.i Go.IntKind.i64 (-1 : Int) (1 : Int) l5] = [Col.i Go.IntKind.i64 (-1 : Int) (1 : Int) l5])) (
 false)) (
 true) (
 false)) (
 reqB ((0 : Int) ≤ n7 + (1 : Int)) (
 reqB (n7 + (1 : Int) ≤ (600 : Int)) (
 reqB (((0 : Nat) + l8.length.add (1 : Nat)) * (1 : Nat) ≤ (l8.length.add (1 : Nat)).mul (0 + (1 : Nat))) (
 reqB (l8.length.add (1 : Nat) ≤ (600 : Nat)) (
 reqB ((List.take (l8.length.add (1 : Nat))
 (List.drop (0 : Nat)
 (List.take l8.length (List.drop (0 : Nat) l8) ++
 [l5.getD
 (Nat.add (0 : Nat) ((n10 / Int.ofNat (65536 : Nat)).tmod (↑l5.length : Int) + (↑l5.length : Int)).toNat)
 (0 : Int)]))).length =
 l8.length.add (1 : Nat)) (
 reqB (∀ (y : Int),
 y ∈
 List.take (l8.length.add (1 : Nat))
 (List.drop (0 : Nat)
 (List.take l8.length (List.drop (0 : Nat) l8) ++
 [l5.getD
 (Nat.add (0 : Nat) ((n10 / Int.ofNat (65536 : Nat)).tmod (↑l5.length : Int) + (↑l5.length : Int)).toNat)
 (0 : Int)])) →
 (-1 : Int) ≤ y ∧ y ≤ (1 : Int)) (
 reqB (chRL.inv [DV.l (List.take l5.length (List.drop (0 : Nat) l5)), DV.n n2, DV.n n3, DV.n n4]
 [DV.n (n7 + (1 : Int)),
 DV.l
 (List.take (l8.length.add (1 : Nat))
 (List.drop (0 : Nat)
 (List.take l8.length (List.drop (0 : Nat) l8) ++
 [l5.getD
 (Nat.add (0 : Nat) ((n10 / Int.ofNat (65536 : Nat)).tmod (↑l5.length : Int) + (↑l5.length : Int)).toNat)
 (0 : Int)])))]) (
 reqB (chRL.mea [DV.l (List.take l5.length (List.drop (0 : Nat) l5)), DV.n n2, DV.n n3, DV.n n4]
 [DV.n (n7 + (1 : Int)),
 DV.l
 (List.take (l8.length.add (1 : Nat))
 (List.drop (0 : Nat)
 (List.take l8.length (List.drop (0 : Nat) l8) ++
 [l5.getD
 (Nat.add (0 : Nat)
 ((n10 / Int.ofNat (65536 : Nat)).tmod (↑l5.length : Int) + (↑l5.length : Int)).toNat)
 (0 : Int)])))] <
 chRL.mea
 [DV.l (List.take l5.length (List.drop (0 : Nat) l5)), DV.n n2, DV.n n3, DV.n n4]
 [DV.n n7, DV.l l8]) (
 true))))))))) (
 false)) (
 false))))))) (
 reqB ((0 : Int) ≤ (n10 / Int.ofNat (65536 : Nat)).tmod (↑l5.length : Int)) (
 reqB (((n10 / Int.ofNat (65536 : Nat)).tmod (↑l5.length : Int)).toNat < l5.length) (
 reqB (Nat.add (0 : Nat) ((n10 / Int.ofNat (65536 : Nat)).tmod (↑l5.length : Int)).toNat < l5.length) (
 reqB (l8.length + (1 : Nat) ≤ (1000000 : Nat)) (
 reqB (((0 : Nat) + l8.length) * (0 + (1 : Nat)) ≤ l8.length.mul (1 : Nat)) (
 bR (bR (dec (n2 = n2)) (
 bR (dec (n3 = n3)) (
 bR (dec (n4 = n4)) (
 bR (bR (dec ((0 : Nat) = (0 : Nat))) (
 dec (l5.length = l5.length)) (
 false)) (
 true) (
 false)) (
 false)) (
 false)) (
 false)) (
 bR (bR (bR (dec (l5.length.mul (1 : Nat) = l5.length.mul (1 : Nat))) (
 dec ([Col.i Go.IntKind.i64 (-1 : Int) (1 : Int) l5] = [Col.i Go.IntKind.i64 (-1 : Int) (1 : Int) l5])) (
 false)) (
 true) (
 false)) (
 reqB ((0 : Int) ≤ n7 + (1 : Int)) (
 reqB (n7 + (1 : Int) ≤ (600 : Int)) (
 reqB (((0 : Nat) + l8.length.add (1 : Nat)) * (1 : Nat) ≤ (l8.length.add (1 : Nat)).mul (0 + (1 : Nat))) (
 reqB (l8.length.add (1 : Nat) ≤ (600 : Nat)) (
 reqB ((List.take (l8.length.add (1 : Nat))
 (List.drop (0 : Nat)
 (List.take l8.length (List.drop (0 : Nat) l8) ++
 [l5.getD (Nat.add (0 : Nat) ((n10 / Int.ofNat (65536 : Nat)).tmod (↑l5.length : Int)).toNat)
 (0 : Int)]))).length =
 l8.length.add (1 : Nat)) (
 reqB (∀ (y : Int),
 y ∈
 List.take (l8.length.add (1 : Nat))
 (List.drop (0 : Nat)
 (List.take l8.length (List.drop (0 : Nat) l8) ++
 [l5.getD (Nat.add (0 : Nat) ((n10 / Int.ofNat (65536 : Nat)).tmod (↑l5.length : Int)).toNat) (0 : Int)])) →
 (-1 : Int) ≤ y ∧ y ≤ (1 : Int)) (
 reqB (chRL.inv [DV.l (List.take l5.length (List.drop (0 : Nat) l5)), DV.n n2, DV.n n3, DV.n n4]
 [DV.n (n7 + (1 : Int)),
 DV.l
 (List.take (l8.length.add (1 : Nat))
 (List.drop (0 : Nat)
 (List.take l8.length (List.drop (0 : Nat) l8) ++
 [l5.getD (Nat.add (0 : Nat) ((n10 / Int.ofNat (65536 : Nat)).tmod (↑l5.length : Int)).toNat) (0 : Int)])))]) (
 reqB (chRL.mea [DV.l (List.take l5.length (List.drop (0 : Nat) l5)), DV.n n2, DV.n n3, DV.n n4]
 [DV.n (n7 + (1 : Int)),
 DV.l
 (List.take (l8.length.add (1 : Nat))
 (List.drop (0 : Nat)
 (List.take l8.length (List.drop (0 : Nat) l8) ++
 [l5.getD (Nat.add (0 : Nat) ((n10 / Int.ofNat (65536 : Nat)).tmod (↑l5.length : Int)).toNat)
 (0 : Int)])))] <
 chRL.mea
 [DV.l (List.take l5.length (List.drop (0 : Nat) l5)), DV.n n2, DV.n n3, DV.n n4]
 [DV.n n7, DV.l l8]) (
 true))))))))) (
 false)) (
 false))))))))))))))) (
 reqB (((0 : Nat) + l8.length) * (1 : Nat) ≤ l8.length.mul (1 : Nat)) (
 reqB (l8.length ≤ (600 : Nat)) (
 reqB ((List.take l8.length (List.drop (0 : Nat) l8)).length = l8.length) (
 reqB (∀ (y : Int), y ∈ List.take l8.length (List.drop (0 : Nat) l8) → (-1 : Int) ≤ y ∧ y ≤ (1 : Int)) (
 reqB (sigChips.post [DV.n n0, DV.n n1, DV.n n2, DV.n n3, DV.n n4]
 [DV.l (List.take l8.length (List.drop (0 : Nat) l8)), DV.n (0 : Int)]) (
 true))))))))))))))))))))))))))))))))))))))))))))))))))) := by kernel_rfl
set_option maxHeartbeats 8000000 in
theorem vt_chipsR : vcFn Tryd.prog [(43, Ext.ctr (ctOfG gl11 sigCode))] (fun f p _ => at2 f p 27 506 chRL (none)) gl11 100 27 sigChips = true := by
  rw [vc_chipsR]
  try simp only [Int.toNat_natCast, List.length_set, List.length_replicate, List.length_take, List.length_drop, List.length_append, List.length_cons, List.length_nil, Nat.min_self, List.take_take, lenCols_i, lenCols_b, List.drop_zero, List.take_length, Nat.add_eq, Nat.mul_eq, Nat.sub_eq, Nat.zero_add, Nat.sub_zero, Nat.mul_one]
  try simp only [show (Int.ofNat 65536 : Int) = 65536 from rfl, show (Int.ofNat 9223372036854775807 : Int) = 9223372036854775807 from rfl, show (Int.negSucc 9223372036854775807 : Int) = -9223372036854775808 from rfl]
  refine all_i fun n0 => ?_
  refine imp_i fun h0 => ?_
  refine imp_i fun h1 => ?_
  refine all_i fun n1 => ?_
  refine imp_i fun h2 => ?_
  refine imp_i fun h3 => ?_
  refine all_i fun n2 => ?_
  refine imp_i fun h4 => ?_
  refine imp_i fun h5 => ?_
  refine all_i fun n3 => ?_
  refine imp_i fun h6 => ?_
  refine imp_i fun h7 => ?_
  refine all_i fun n4 => ?_
  refine imp_i fun h8 => ?_
  refine imp_i fun h9 => ?_
  refine imp_i fun h10 => ?_
  try simp only [sigChips, cChL, chipsPre, chipsPost, List.cons.injEq, DV.b.injEq, and_true, List.length_cons, List.length_nil] at h10
  refine req_i ?_ ?_
  · -- r0
   first | omega | assumption | grind
  refine req_i ?_ ?_
  · -- r1
   first | omega | assumption | grind
  refine req_i ?_ ?_
  · -- r2
   first | omega | assumption | grind
  refine req_i ?_ ?_
  · -- r3
   first | omega | assumption | grind
  refine req_i ?_ ?_
  · -- r4
   first | trivial | assumption | (simp only [sigCode, cCh, codePost, List.cons.injEq, DV.b.injEq, and_true, List.length_cons, List.length_nil]; done) | ((try simp only [sigCode, cCh, codePost, List.cons.injEq, DV.b.injEq, and_true, List.length_cons, List.length_nil]); first | omega | assumption | grind)
  refine all_i fun l5 => ?_
  refine imp_i fun h11 => ?_
  refine imp_i fun h12 => ?_
  refine all_i fun n6 => ?_
  refine imp_i fun h13 => ?_
  refine imp_i fun h14 => ?_
  refine imp_i fun h15 => ?_
  try simp only [Int.toNat_natCast, List.length_set, List.length_replicate, List.length_take, List.length_drop, List.length_append, List.length_cons, List.length_nil, Nat.min_self, List.take_take, lenCols_i, lenCols_b, List.drop_zero, List.take_length, Nat.add_eq, Nat.mul_eq, Nat.sub_eq, Nat.zero_add, Nat.sub_zero, Nat.mul_one] at h15
  have hb := ite_case h15
  have nb := @nG_bd n0
  refine bR_dec (fun h16 => ?_) (fun h16 => ?_)
  ·
   refine req_i ?_ ?_
   · -- r5
    first | omega | assumption | grind
   refine req_i ?_ ?_
   · -- r6
    first | omega | assumption | grind
   refine req_i ?_ ?_
   · -- r7
    obtain ⟨k1, k2, k3⟩ := hb.resolve_left (fun g => h16 g.2.1); exact chips_no (fun g => k1 g.1) k2
   rfl
  ·
   obtain ⟨ok, _, c5⟩ := hb.resolve_right (fun g => h16 (by rw [g.2.1]; decide))
   have k5 : (l5.length : Int) = nG n0 := by rw [c5, codeL, chips_len]; exact bits_len ok.1 (.inl rfl)
   refine bR_dec (fun h17 => ?_) (fun h17 => ?_)
   ·
    refine req_i ?_ ?_
    · -- r8
     exact chips_no (fun g => by obtain ⟨_, g⟩ := g; omega) rfl
    rfl
   ·
    refine bR_dec (fun h18 => ?_) (fun h18 => ?_)
    ·
     refine req_i ?_ ?_
     · -- r9
      exact chips_no (fun g => by obtain ⟨_, g⟩ := g; omega) rfl
     rfl
    ·
     refine bR_dec (fun h19 => ?_) (fun h19 => ?_)
     ·
      refine req_i ?_ ?_
      · -- r10
       exact chips_no (fun g => by obtain ⟨_, g⟩ := g; omega) rfl
      rfl
     ·
      refine bR_dec (fun h20 => ?_) (fun h20 => ?_)
      ·
       refine req_i ?_ ?_
       · -- r11
        exact chips_no (fun g => by obtain ⟨_, g⟩ := g; omega) rfl
       rfl
      ·
       refine bR_dec (fun h21 => ?_) (fun h21 => ?_)
       ·
        refine req_i ?_ ?_
        · -- r12
         exact chips_no (fun g => by obtain ⟨_, g⟩ := g; omega) rfl
        rfl
       ·
        refine bR_dec (fun h22 => ?_) (fun h22 => ?_)
        ·
         refine req_i ?_ ?_
         · -- r13
          exact chips_no (fun g => by obtain ⟨_, g⟩ := g; omega) rfl
         rfl
        ·
         refine req_i ?_ ?_
         · -- r14
          first | omega | ((try simp only [Nat.mul_eq]); first | done | omega | assumption | grind [getD_set, getD_rep, toNat_succ, cntN_yes, cntN_no])
         refine req_i ?_ ?_
         · -- r15
          first | omega | ((try simp only [Nat.zero_add]); first | done | omega | assumption | grind [getD_set, getD_rep, toNat_succ, cntN_yes, cntN_no])
         refine req_i ?_ ?_
         · -- r16
          first | omega | ((try simp only [List.length_take, List.take_length, List.take_take, Nat.min_self, List.length_drop, List.drop_zero, List.length_cons, List.length_nil]); first | done | omega | assumption | grind [getD_set, getD_rep, toNat_succ, cntN_yes, cntN_no])
         refine req_i ?_ ?_
         · -- r17
          first | assumption | exact rep_bd (by omega) (by omega) | exact set_bd (by assumption) (by omega) (by omega) | exact take_bd (by assumption) | ((try simp only [List.length_take, List.take_length, List.take_take, Nat.min_self, List.length_drop, List.drop_zero, List.length_cons, List.length_nil]); first | assumption | exact rep_bd (by omega) (by omega) | exact set_bd (by assumption) (by omega) (by omega) | exact take_bd (by assumption) | grind [getD_set, getD_rep, toNat_succ, cntN_yes, cntN_no])
         refine req_i ?_ ?_
         · -- r18
          first | omega | assumption | grind
         refine req_i ?_ ?_
         · -- r19
          first | omega | assumption | grind
         refine req_i ?_ ?_
         · -- r20
          first | omega | assumption | grind
         refine req_i ?_ ?_
         · -- r21
          first | omega | assumption | grind
         refine req_i ?_ ?_
         · -- r22
          first | omega | assumption | grind
         refine req_i ?_ ?_
         · -- r23
          first | omega | assumption | grind
         refine req_i ?_ ?_
         · -- r24
          exact ⟨by omega, by omega, rfl, fun j hj => by omega⟩
         refine all_i fun n7 => ?_
         refine imp_i fun h23 => ?_
         refine imp_i fun h24 => ?_
         refine all_i fun l8 => ?_
         refine imp_i fun h25 => ?_
         refine imp_i fun h26 => ?_
         refine imp_i fun h27 => ?_
         try simp only [chRL, cChL, cCh, chRInv, meaCh, List.cons.injEq, DV.b.injEq, and_true, List.length_take, List.take_length, List.take_take, Nat.min_self, List.length_drop, List.drop_zero, List.length_cons, List.length_nil] at h27
         refine bR_dec (fun h28 => ?_) (fun h28 => ?_)
         ·
          refine all_i fun n9 => ?_
          refine imp_i fun h29 => ?_
          simp only [wrap_i64] at h29
          have mb := mul_bd3 (i := n7) (r := n3) (by omega) (by omega) (by omega) (by omega)
          replace h29 : n9 = n7 * n3 := by omega
          refine imp_i fun h30 => ?_
          refine imp_i fun h31 => ?_
          refine all_i fun n10 => ?_
          refine imp_i fun h32 => ?_
          simp only [wrap_i64] at h32
          replace h32 : n10 = n2 + n9 := by omega
          have T := tmod_add (a := n10 / 65536) (L := (l5.length : Int)) (by omega)
          have q1 := Int.emod_nonneg (n10 / 65536) (b := (l5.length : Int)) (by omega)
          have q2 := Int.emod_lt_of_pos (n10 / 65536) (b := (l5.length : Int)) (by omega)
          have E := ch_e (c := l5) (a := n2) (r := n3) (i := n7) (m := (n10 / 65536) % (l5.length : Int)) (by omega) (by rw [h32, h29])
          have eb := chE_bd (c := l5) (a := n2) (r := n3) (j := n7.toNat) h12
          refine imp_i fun h33 => ?_
          refine imp_i fun h34 => ?_
          refine req_i ?_ ?_
          · -- r25
           first | omega | ((try simp only [Nat.zero_add]); first | done | omega | assumption | grind [getD_set, getD_rep, toNat_succ, cntN_yes, cntN_no])
          refine bR_dec (fun h35 => ?_) (fun h35 => ?_)
          ·
           have an := snoc_next (f := fun j => chE l5 n2 n3 j) (o := l8) (i := n7) (x := l5.getD ((n10 / 65536).tmod (l5.length : Int) + (l5.length : Int)).toNat 0) (by omega) h27.2.2.2 (by rw [T.2.2.2.2.1 h35]; exact E)
           have tk := take_snoc (l := l8) (m := l8) (x := l5.getD ((n10 / 65536).tmod (l5.length : Int) + (l5.length : Int)).toNat 0) rfl
           have eq : l5.getD ((n10 / 65536).tmod (l5.length : Int) + (l5.length : Int)).toNat 0 = chE l5 n2 n3 n7.toNat := by rw [T.2.2.2.2.1 h35]; exact E
           refine req_i ?_ ?_
           · -- r26
            first | omega | ((try simp only [Nat.zero_add]); first | done | omega | assumption | grind [getD_set, getD_rep, toNat_succ, cntN_yes, cntN_no])
           refine req_i ?_ ?_
           · -- r27
            first | omega | ((try simp only [Int.toNat_natCast, List.length_cons, List.length_nil]); first | done | omega | assumption | grind [getD_set, getD_rep, toNat_succ, cntN_yes, cntN_no])
           refine req_i ?_ ?_
           · -- r28
            first | omega | ((try simp only [Int.toNat_natCast, List.length_cons, List.length_nil, Nat.add_eq, Nat.zero_add]); first | done | omega | assumption | grind [getD_set, getD_rep, toNat_succ, cntN_yes, cntN_no])
           refine req_i ?_ ?_
           · -- r29
            first | omega | ((try simp only [Nat.zero_add]); first | done | omega | assumption | grind [getD_set, getD_rep, toNat_succ, cntN_yes, cntN_no])
           refine req_i ?_ ?_
           · -- r30
            first | omega | ((try simp only [Nat.mul_eq]); first | done | omega | assumption | grind [getD_set, getD_rep, toNat_succ, cntN_yes, cntN_no])
           refine bR_t ?_ ?_
           · -- g0
            first | rfl | (simp only [bR_iff, bR_iff_f, dec_iff, dec_f, beqB_iff', andB_iff', reduceCtorEq, imp_self, false_implies, and_true, true_and, implies_true, and_self]; done) | (simp [bR_iff, dec_iff, beqB_iff', andB_iff']; done) | (simp [bR_iff, dec_iff, beqB_iff', andB_iff']; omega)
           refine bR_t ?_ ?_
           · -- g1
            first | rfl | (simp only [bR_iff, bR_iff_f, dec_iff, dec_f, beqB_iff', andB_iff', reduceCtorEq, imp_self, false_implies, and_true, true_and, implies_true, and_self]; done) | (simp [bR_iff, dec_iff, beqB_iff', andB_iff']; done) | (simp [bR_iff, dec_iff, beqB_iff', andB_iff']; omega)
           refine req_i ?_ ?_
           · -- r31
            first | omega | assumption | grind
           refine req_i ?_ ?_
           · -- r32
            first | omega | assumption | grind
           refine req_i ?_ ?_
           · -- r33
            first | omega | ((try simp only [Nat.add_eq, Nat.zero_add, Nat.mul_eq]); first | done | omega | assumption | grind [getD_set, getD_rep, toNat_succ, cntN_yes, cntN_no])
           refine req_i ?_ ?_
           · -- r34
            first | omega | ((try simp only [Nat.add_eq, Nat.zero_add]); first | done | omega | assumption | grind [getD_set, getD_rep, toNat_succ, cntN_yes, cntN_no])
           refine req_i ?_ ?_
           · -- r35
            first | omega | ((try simp only [Int.toNat_natCast, List.length_take, List.take_length, List.take_take, Nat.min_self, List.length_drop, List.drop_zero, List.length_append, List.length_cons, List.length_nil, Nat.add_eq, Nat.zero_add]); first | done | omega | assumption | grind [getD_set, getD_rep, toNat_succ, cntN_yes, cntN_no])
           refine req_i ?_ ?_
           · -- r36
            (try simp only [List.drop_zero, List.take_length, Nat.add_eq, Nat.zero_add, tk]); first | assumption | exact app_bd h26 (one_bd (by omega) (by omega))
           refine req_i ?_ ?_
           · -- r37
            simp only [chRL, chRInv, List.drop_zero, List.take_length, Nat.add_eq, Nat.zero_add, tk]; exact ⟨by omega, by omega, an.1, an.2⟩
           refine req_i ?_ ?_
           · -- r38
            first | omega | ((try simp only [chRL, cChL, cCh, chRInv, meaCh, List.cons.injEq, DV.b.injEq, and_true, Int.toNat_natCast, List.length_take, List.take_length, List.take_take, Nat.min_self, List.length_drop, List.drop_zero, List.length_append, List.length_cons, List.length_nil, Nat.add_eq, Nat.zero_add]); first | done | omega | assumption | grind [getD_set, getD_rep, toNat_succ, cntN_yes, cntN_no])
           rfl
          ·
           have an := snoc_next (f := fun j => chE l5 n2 n3 j) (o := l8) (i := n7) (x := l5.getD ((n10 / 65536).tmod (l5.length : Int)).toNat 0) (by omega) h27.2.2.2 (by rw [T.2.2.2.2.2 (by omega)]; exact E)
           have tk := take_snoc (l := l8) (m := l8) (x := l5.getD ((n10 / 65536).tmod (l5.length : Int)).toNat 0) rfl
           have eq : l5.getD ((n10 / 65536).tmod (l5.length : Int)).toNat 0 = chE l5 n2 n3 n7.toNat := by rw [T.2.2.2.2.2 (by omega)]; exact E
           refine req_i ?_ ?_
           · -- r39
            first | omega | ((try simp only [Nat.zero_add]); first | done | omega | assumption | grind [getD_set, getD_rep, toNat_succ, cntN_yes, cntN_no])
           refine req_i ?_ ?_
           · -- r40
            first | omega | ((try simp only [Int.toNat_natCast, List.length_cons, List.length_nil]); first | done | omega | assumption | grind [getD_set, getD_rep, toNat_succ, cntN_yes, cntN_no])
           refine req_i ?_ ?_
           · -- r41
            first | omega | ((try simp only [Int.toNat_natCast, List.length_cons, List.length_nil, Nat.add_eq, Nat.zero_add]); first | done | omega | assumption | grind [getD_set, getD_rep, toNat_succ, cntN_yes, cntN_no])
           refine req_i ?_ ?_
           · -- r42
            first | omega | ((try simp only [Nat.zero_add]); first | done | omega | assumption | grind [getD_set, getD_rep, toNat_succ, cntN_yes, cntN_no])
           refine req_i ?_ ?_
           · -- r43
            first | omega | ((try simp only [Nat.mul_eq]); first | done | omega | assumption | grind [getD_set, getD_rep, toNat_succ, cntN_yes, cntN_no])
           refine bR_t ?_ ?_
           · -- g2
            first | rfl | (simp only [bR_iff, bR_iff_f, dec_iff, dec_f, beqB_iff', andB_iff', reduceCtorEq, imp_self, false_implies, and_true, true_and, implies_true, and_self]; done) | (simp [bR_iff, dec_iff, beqB_iff', andB_iff']; done) | (simp [bR_iff, dec_iff, beqB_iff', andB_iff']; omega)
           refine bR_t ?_ ?_
           · -- g3
            first | rfl | (simp only [bR_iff, bR_iff_f, dec_iff, dec_f, beqB_iff', andB_iff', reduceCtorEq, imp_self, false_implies, and_true, true_and, implies_true, and_self]; done) | (simp [bR_iff, dec_iff, beqB_iff', andB_iff']; done) | (simp [bR_iff, dec_iff, beqB_iff', andB_iff']; omega)
           refine req_i ?_ ?_
           · -- r44
            first | omega | assumption | grind
           refine req_i ?_ ?_
           · -- r45
            first | omega | assumption | grind
           refine req_i ?_ ?_
           · -- r46
            first | omega | ((try simp only [Nat.add_eq, Nat.zero_add, Nat.mul_eq]); first | done | omega | assumption | grind [getD_set, getD_rep, toNat_succ, cntN_yes, cntN_no])
           refine req_i ?_ ?_
           · -- r47
            first | omega | ((try simp only [Nat.add_eq, Nat.zero_add]); first | done | omega | assumption | grind [getD_set, getD_rep, toNat_succ, cntN_yes, cntN_no])
           refine req_i ?_ ?_
           · -- r48
            first | omega | ((try simp only [Int.toNat_natCast, List.length_take, List.take_length, List.take_take, Nat.min_self, List.length_drop, List.drop_zero, List.length_append, List.length_cons, List.length_nil, Nat.add_eq, Nat.zero_add]); first | done | omega | assumption | grind [getD_set, getD_rep, toNat_succ, cntN_yes, cntN_no])
           refine req_i ?_ ?_
           · -- r49
            (try simp only [List.drop_zero, List.take_length, Nat.add_eq, Nat.zero_add, tk]); first | assumption | exact app_bd h26 (one_bd (by omega) (by omega))
           refine req_i ?_ ?_
           · -- r50
            simp only [chRL, chRInv, List.drop_zero, List.take_length, Nat.add_eq, Nat.zero_add, tk]; exact ⟨by omega, by omega, an.1, an.2⟩
           refine req_i ?_ ?_
           · -- r51
            first | omega | ((try simp only [chRL, cChL, cCh, chRInv, meaCh, List.cons.injEq, DV.b.injEq, and_true, Int.toNat_natCast, List.length_take, List.take_length, List.take_take, Nat.min_self, List.length_drop, List.drop_zero, List.length_append, List.length_cons, List.length_nil, Nat.add_eq, Nat.zero_add]); first | done | omega | assumption | grind [getD_set, getD_rep, toNat_succ, cntN_yes, cntN_no])
           rfl
         ·
          refine req_i ?_ ?_
          · -- r52
           first | omega | ((try simp only [Nat.mul_eq]); first | done | omega | assumption | grind [getD_set, getD_rep, toNat_succ, cntN_yes, cntN_no])
          refine req_i ?_ ?_
          · -- r53
           first | omega | ((try simp only [Nat.zero_add]); first | done | omega | assumption | grind [getD_set, getD_rep, toNat_succ, cntN_yes, cntN_no])
          refine req_i ?_ ?_
          · -- r54
           first | omega | ((try simp only [List.length_take, List.take_length, List.take_take, Nat.min_self, List.length_drop, List.drop_zero, List.length_cons, List.length_nil]); first | done | omega | assumption | grind [getD_set, getD_rep, toNat_succ, cntN_yes, cntN_no])
          refine req_i ?_ ?_
          · -- r55
           first | assumption | exact rep_bd (by omega) (by omega) | exact set_bd (by assumption) (by omega) (by omega) | exact take_bd (by assumption) | ((try simp only [List.length_take, List.take_length, List.take_take, Nat.min_self, List.length_drop, List.drop_zero, List.length_cons, List.length_nil]); first | assumption | exact rep_bd (by omega) (by omega) | exact set_bd (by assumption) (by omega) (by omega) | exact take_bd (by assumption) | grind [getD_set, getD_rep, toNat_succ, cntN_yes, cntN_no])
          refine req_i ?_ ?_
          · -- r56
           (try simp only [List.drop_zero, List.take_length]); exact chips_yes ⟨ok, by omega, by omega, by omega, by omega, by omega, by omega⟩ rfl (by rw [← c5]; exact chipsL_of (by omega) (fun j hj => h27.2.2.2 j (by omega)))
          rfl
theorem ext_chipsR : ∀ p ∈ ([(43, Ext.ctr (ctOfG gl11 sigCode))] : List (Nat × Ext)), ExtRow Tryd.prog p.1 p.2 := by
  intro p hp
  simp only [List.mem_cons, List.not_mem_nil, or_false] at hp
  rcases hp with rfl
  · trivial
theorem cts_chipsR : CtsOk Tryd.prog [(43, Ext.ctr (ctOfG gl11 sigCode))] := ctsOk_ofG (cs := [(43, sigCode)])
  (fun p hp => by
    simp only [List.mem_cons, List.not_mem_nil, or_false] at hp
    rcases hp with rfl
    · exact fn_codeR
)
  (fun f c h => by
    simp only [List.lookup_cons] at h
    repeat' split at h
    all_goals first | (cases h; done) | (rename_i e; have e := beq_iff_eq.1 e; subst e; cases h; refine ⟨_, ?_, rfl⟩; simp))
theorem fn_chipsR : FnOk Tryd.prog 27 sigChips gl11 := fn_sound (by kernel_rfl) ext_chipsR cts_chipsR names vt_chipsR
end Go.Proofs.YtblcahackjpnjaaDoor

namespace Go.Proofs.YtblcahackjpnjaaDoor
open Go.Ev Go.Sp
set_option maxRecDepth 100000
theorem vc_equ : vcFn Tryd.prog [] (fun f p _ => at2 f p 19 58 equGL (none)) gl11 100 19 sigEquG = (allB fun l0 : List Int => 
impB (l0.length ≤ (1100 : Nat)) (
impB (∀ (y : Int), y ∈ l0 → (-9223372036854775808 : Int) ≤ y ∧ y ≤ (9223372036854775807 : Int)) (
allB fun l1 : List Int => 
impB (l1.length ≤ (1100 : Nat)) (
impB (∀ (y : Int), y ∈ l1 → (-9223372036854775808 : Int) ≤ y ∧ y ≤ (9223372036854775807 : Int)) (
impB (sigEquG.pre [DV.l l0, DV.l l1]) (
bR (dec ((↑l0.length : Int) ≠ (↑l1.length : Int))) (
 reqB (sigEquG.post [DV.l l0, DV.l l1] [DV.b Bool.false]) (
 true)) (
 reqB (((0 : Nat) + l0.length) * (1 : Nat) ≤ l0.length.mul (1 : Nat)) (
 reqB (l0.length ≤ (1100 : Nat)) (
 reqB ((List.take l0.length (List.drop (0 : Nat) l0)).length = l0.length) (
 reqB (∀ (y : Int),
 y ∈ List.take l0.length (List.drop (0 : Nat) l0) → (-9223372036854775808 : Int) ≤ y ∧ y ≤ (9223372036854775807 : Int)) (
 reqB (((0 : Nat) + l1.length) * (1 : Nat) ≤ l1.length.mul (1 : Nat)) (
 reqB (l1.length ≤ (1100 : Nat)) (
 reqB ((List.take l1.length (List.drop (0 : Nat) l1)).length = l1.length) (
 reqB (∀ (y : Int),
 y ∈ List.take l1.length (List.drop (0 : Nat) l1) → (-9223372036854775808 : Int) ≤ y ∧ y ≤ (9223372036854775807 : Int)) (
 reqB (equGL.inv
 [DV.l (List.take l0.length (List.drop (0 : Nat) l0)), DV.l (List.take l1.length (List.drop (0 : Nat) l1))]
 [DV.n (0 : Int)]) (
 allB fun n2 : Int => 
 impB ((0 : Int) ≤ n2) (
 impB (n2 ≤ (1100 : Int)) (
 impB (equGL.inv
 [DV.l (List.take l0.length (List.drop (0 : Nat) l0)), DV.l (List.take l1.length (List.drop (0 : Nat) l1))]
 [DV.n n2]) (
 bR (dec (n2 < (↑l0.length : Int))) (
 reqB (n2.toNat < l0.length) (
 reqB (Nat.add (0 : Nat) n2.toNat < l0.length) (
 reqB (n2.toNat < l1.length) (
 reqB (Nat.add (0 : Nat) n2.toNat < l1.length) (
 bR (dec (l0.getD (Nat.add (0 : Nat) n2.toNat) (0 : Int) ≠ l1.getD (Nat.add (0 : Nat) n2.toNat) (0 : Int))) (
 reqB (sigEquG.post [DV.l l0, DV.l l1] [DV.b Bool.false]) (
 true)) (
 bR (bR (bR (dec ((0 : Nat) = (0 : Nat))) (
 dec (l0.length = l0.length)) (
 false)) (
 bR (bR (dec ((0 : Nat) = (0 : Nat))) (
 dec (l1.length = l1.length)) (
 false)) (
 true) (
 false)) (
 false)) (
 reqB ((0 : Int) ≤ n2 + (1 : Int)) (
 reqB (n2 + (1 : Int) ≤ (1100 : Int)) (
 reqB (equGL.inv
 [DV.l (List.take l0.length (List.drop (0 : Nat) l0)), DV.l (List.take l1.length (List.drop (0 : Nat) l1))]
 [DV.n (n2 + (1 : Int))]) (
 reqB (equGL.mea
 [DV.l (List.take l0.length (List.drop (0 : Nat) l0)),
 DV.l (List.take l1.length (List.drop (0 : Nat) l1))]
 [DV.n (n2 + (1 : Int))] <
 equGL.mea
 [DV.l (List.take l0.length (List.drop (0 : Nat) l0)),
 DV.l (List.take l1.length (List.drop (0 : Nat) l1))]
 [DV.n n2]) (
 true))))) (
 false))))))) (
 reqB (sigEquG.post [DV.l l0, DV.l l1] [DV.b Bool.true]) (
 true))))))))))))))))))))) := by kernel_rfl
set_option maxHeartbeats 8000000 in
theorem vt_equ : vcFn Tryd.prog [] (fun f p _ => at2 f p 19 58 equGL (none)) gl11 100 19 sigEquG = true := by
  rw [vc_equ]
  try simp only [Int.toNat_natCast, List.length_set, List.length_replicate, List.length_take, List.length_drop, List.length_append, List.length_cons, List.length_nil, Nat.min_self, List.take_take, lenCols_i, lenCols_b, List.drop_zero, List.take_length, Nat.add_eq, Nat.mul_eq, Nat.sub_eq, Nat.zero_add, Nat.sub_zero, Nat.mul_one]
  refine all_i fun l0 => ?_
  refine imp_i fun h0 => ?_
  refine imp_i fun h1 => ?_
  refine all_i fun l1 => ?_
  refine imp_i fun h2 => ?_
  refine imp_i fun h3 => ?_
  refine imp_i fun h4 => ?_
  try simp only [sigEquG, cW, equGP, List.cons.injEq, DV.b.injEq, and_true, List.length_cons, List.length_nil] at h4
  refine bR_dec (fun h5 => ?_) (fun h5 => ?_)
  ·
   refine req_i ?_ ?_
   · -- r0
    first | omega | ((try simp only [sigEquG, cW, equGP, List.cons.injEq, DV.b.injEq, and_true, List.length_cons, List.length_nil]); first | done | omega | assumption | grind [getD_set, getD_rep, toNat_succ, cntN_yes, cntN_no])
   rfl
  ·
   refine req_i ?_ ?_
   · -- r1
    first | omega | ((try simp only [Nat.mul_eq]); first | done | omega | assumption | grind [getD_set, getD_rep, toNat_succ, cntN_yes, cntN_no])
   refine req_i ?_ ?_
   · -- r2
    first | omega | ((try simp only [Nat.zero_add]); first | done | omega | assumption | grind [getD_set, getD_rep, toNat_succ, cntN_yes, cntN_no])
   refine req_i ?_ ?_
   · -- r3
    first | omega | ((try simp only [List.length_take, List.take_length, List.take_take, Nat.min_self, List.length_drop, List.drop_zero, List.length_cons, List.length_nil]); first | done | omega | assumption | grind [getD_set, getD_rep, toNat_succ, cntN_yes, cntN_no])
   refine req_i ?_ ?_
   · -- r4
    first | assumption | exact rep_bd (by omega) (by omega) | exact set_bd (by assumption) (by omega) (by omega) | exact take_bd (by assumption) | ((try simp only [List.length_take, List.take_length, List.take_take, Nat.min_self, List.length_drop, List.drop_zero, List.length_cons, List.length_nil]); first | assumption | exact rep_bd (by omega) (by omega) | exact set_bd (by assumption) (by omega) (by omega) | exact take_bd (by assumption) | grind [getD_set, getD_rep, toNat_succ, cntN_yes, cntN_no])
   refine req_i ?_ ?_
   · -- r5
    first | omega | ((try simp only [Nat.mul_eq]); first | done | omega | assumption | grind [getD_set, getD_rep, toNat_succ, cntN_yes, cntN_no])
   refine req_i ?_ ?_
   · -- r6
    first | omega | ((try simp only [Nat.zero_add]); first | done | omega | assumption | grind [getD_set, getD_rep, toNat_succ, cntN_yes, cntN_no])
   refine req_i ?_ ?_
   · -- r7
    first | omega | ((try simp only [List.length_take, List.take_length, List.take_take, Nat.min_self, List.length_drop, List.drop_zero, List.length_cons, List.length_nil]); first | done | omega | assumption | grind [getD_set, getD_rep, toNat_succ, cntN_yes, cntN_no])
   refine req_i ?_ ?_
   · -- r8
    first | assumption | exact rep_bd (by omega) (by omega) | exact set_bd (by assumption) (by omega) (by omega) | exact take_bd (by assumption) | ((try simp only [List.length_take, List.take_length, List.take_take, Nat.min_self, List.length_drop, List.drop_zero, List.length_cons, List.length_nil]); first | assumption | exact rep_bd (by omega) (by omega) | exact set_bd (by assumption) (by omega) (by omega) | exact take_bd (by assumption) | grind [getD_set, getD_rep, toNat_succ, cntN_yes, cntN_no])
   refine req_i ?_ ?_
   · -- r9
    first | omega | ((try simp only [equGL, cW, equGInv, meaC, List.cons.injEq, DV.b.injEq, and_true, List.length_take, List.take_length, List.take_take, Nat.min_self, List.length_drop, List.drop_zero, List.length_cons, List.length_nil]); first | done | omega | assumption | grind [getD_set, getD_rep, toNat_succ, cntN_yes, cntN_no])
   refine all_i fun n2 => ?_
   refine imp_i fun h6 => ?_
   refine imp_i fun h7 => ?_
   refine imp_i fun h8 => ?_
   try simp only [equGL, cW, equGInv, meaC, List.cons.injEq, DV.b.injEq, and_true, List.length_take, List.take_length, List.take_take, Nat.min_self, List.length_drop, List.drop_zero, List.length_cons, List.length_nil] at h8
   refine bR_dec (fun h9 => ?_) (fun h9 => ?_)
   ·
    refine req_i ?_ ?_
    · -- r10
     first | omega | ((try simp only [Int.toNat_natCast, List.length_cons, List.length_nil]); first | done | omega | assumption | grind [getD_set, getD_rep, toNat_succ, cntN_yes, cntN_no])
    refine req_i ?_ ?_
    · -- r11
     first | omega | ((try simp only [Int.toNat_natCast, List.length_cons, List.length_nil, Nat.add_eq, Nat.zero_add]); first | done | omega | assumption | grind [getD_set, getD_rep, toNat_succ, cntN_yes, cntN_no])
    refine req_i ?_ ?_
    · -- r12
     first | omega | ((try simp only [Int.toNat_natCast, List.length_cons, List.length_nil]); first | done | omega | assumption | grind [getD_set, getD_rep, toNat_succ, cntN_yes, cntN_no])
    refine req_i ?_ ?_
    · -- r13
     first | omega | ((try simp only [Int.toNat_natCast, List.length_cons, List.length_nil, Nat.add_eq, Nat.zero_add]); first | done | omega | assumption | grind [getD_set, getD_rep, toNat_succ, cntN_yes, cntN_no])
    refine bR_dec (fun h10 => ?_) (fun h10 => ?_)
    ·
     refine req_i ?_ ?_
     · -- r14
      first | omega | ((try simp only [sigEquG, cW, equGP, List.cons.injEq, DV.b.injEq, and_true, List.length_cons, List.length_nil]); first | done | omega | assumption | grind [getD_set, getD_rep, toNat_succ, cntN_yes, cntN_no])
     rfl
    ·
     refine bR_t ?_ ?_
     · -- g0
      first | rfl | (simp only [bR_iff, bR_iff_f, dec_iff, dec_f, beqB_iff', andB_iff', reduceCtorEq, imp_self, false_implies, and_true, true_and, implies_true, and_self]; done) | (simp [bR_iff, dec_iff, beqB_iff', andB_iff']; done) | (simp [bR_iff, dec_iff, beqB_iff', andB_iff']; omega)
     refine req_i ?_ ?_
     · -- r15
      first | omega | assumption | grind
     refine req_i ?_ ?_
     · -- r16
      first | omega | assumption | grind
     refine req_i ?_ ?_
     · -- r17
      first | omega | ((try simp only [equGL, cW, equGInv, meaC, List.cons.injEq, DV.b.injEq, and_true, List.length_take, List.take_length, List.take_take, Nat.min_self, List.length_drop, List.drop_zero, List.length_cons, List.length_nil]); first | done | omega | assumption | grind [getD_set, getD_rep, toNat_succ, cntN_yes, cntN_no])
     refine req_i ?_ ?_
     · -- r18
      first | omega | ((try simp only [equGL, cW, equGInv, meaC, List.cons.injEq, DV.b.injEq, and_true, List.length_take, List.take_length, List.take_take, Nat.min_self, List.length_drop, List.drop_zero, List.length_cons, List.length_nil]); first | done | omega | assumption | grind [getD_set, getD_rep, toNat_succ, cntN_yes, cntN_no])
     rfl
   ·
    have e1 := equG_of (a := l0) (b := l1) h8.2.1 h9 h8.2.2.2
    refine req_i ?_ ?_
    · -- r19
     first | omega | ((try simp only [sigEquG, cW, equGP, List.cons.injEq, DV.b.injEq, and_true, List.length_cons, List.length_nil]); first | done | omega | assumption | grind [getD_set, getD_rep, toNat_succ, cntN_yes, cntN_no])
    rfl
theorem ext_equ : ∀ p ∈ ([] : List (Nat × Ext)), ExtRow Tryd.prog p.1 p.2 := by
  intro p hp
  cases hp
theorem cts_equ : CtsOk Tryd.prog [] := fun f c h => by cases h
theorem fn_equ : FnOk Tryd.prog 19 sigEquG gl11 := fn_sound (by kernel_rfl) ext_equ cts_equ names vt_equ
end Go.Proofs.YtblcahackjpnjaaDoor

namespace Go.Proofs.YtblcahackjpnjaaDoor
open Go.Ev Go.Sp
set_option maxRecDepth 100000
theorem vc_awake : vcFn Tryd.prog [] noA gl11 5000 18 sigTrue0 = (impB (sigTrue0.pre []) (
reqB (sigTrue0.post [] [DV.b Bool.true]) (
true))) := by kernel_rfl
set_option maxHeartbeats 8000000 in
theorem vt_awake : vcFn Tryd.prog [] noA gl11 5000 18 sigTrue0 = true := by
  rw [vc_awake]
  try simp only [bR_same, dec_same, bR_true, bR_false]
  simp only [allB_iff, impB_iff, reqB_iff, bR_iff, bR_iff_f, dec_iff, dec_f, reduceCtorEq, imp_false, Classical.not_not, implies_true, true_and, and_true]
  intro _
  first | rfl | trivial | simp [sigTrue0]
theorem ext_awake : ∀ p ∈ ([] : List (Nat × Ext)), ExtRow Tryd.prog p.1 p.2 := by
  intro p hp
  cases hp
theorem cts_awake : CtsOk Tryd.prog [] := fun f c h => by cases h
theorem fn_awake : FnOk Tryd.prog 18 sigTrue0 gl11 := fn_sound (by kernel_rfl) ext_awake cts_awake names vt_awake
end Go.Proofs.YtblcahackjpnjaaDoor

