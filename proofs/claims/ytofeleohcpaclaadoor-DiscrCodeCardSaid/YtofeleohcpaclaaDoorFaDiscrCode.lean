import Derived.Test.YtofeleohcpaclaaDoorSpec17e
import Derived.Test.YtofeleohcpaclaaDoorRows
import Derived.Test.YtofeleohcpaclaaDoorEvSS
import Derived.Test.YtofeleohcpaclaaDoorFnames
namespace Go.Proofs.YtofeleohcpaclaaDoor
open Go.Ev Go.Sp
set_option maxRecDepth 100000
theorem vc_known : vcFn Tryd.prog [] noA gl11 5000 3 sigTrue0 = (impB (sigTrue0.pre []) (
reqB (sigTrue0.post [] [DV.b !eqI (2 : Int) (0 : Int)]) (
true))) := by kernel_rfl
set_option maxHeartbeats 8000000 in
theorem vt_known : vcFn Tryd.prog [] noA gl11 5000 3 sigTrue0 = true := by
  rw [vc_known]
  try simp only [bR_same, dec_same, bR_true, bR_false]
  simp only [allB_iff, impB_iff, reqB_iff, bR_iff, bR_iff_f, dec_iff, dec_f, reduceCtorEq, imp_false, Classical.not_not, implies_true, true_and, and_true]
  intro _
  first | rfl | trivial | simp [sigTrue0]
theorem ext_known : ∀ p ∈ ([] : List (Nat × Ext)), ExtRow Tryd.prog p.1 p.2 := by
  intro p hp
  cases hp
theorem cts_known : CtsOk Tryd.prog [] := fun f c h => by cases h
theorem fn_known : FnOk Tryd.prog 3 sigTrue0 gl11 := fn_sound (by kernel_rfl) ext_known cts_known names vt_known
end Go.Proofs.YtofeleohcpaclaaDoor

namespace Go.Proofs.YtofeleohcpaclaaDoor
open Go.Ev Go.Sp
set_option maxRecDepth 100000
theorem vc_pick : vcFn Tryd.prog [] noA gl11 100 28 sigPick = (allB fun n0 : Int => 
impB ((-9223372036854775808 : Int) ≤ n0) (
impB (n0 ≤ (9223372036854775807 : Int)) (
allB fun n1 : Int => 
impB ((1 : Int) ≤ n1) (
impB (n1 ≤ (4503599627370496 : Int)) (
impB (sigPick.pre [DV.n n0, DV.n n1]) (
bR (dec (n0.tmod n1 < (0 : Int))) (
 reqB ((0 : Int) ≤ n0.tmod n1 + n1) (
 reqB (n0.tmod n1 + n1 ≤ (4503599627370496 : Int)) (
 reqB (sigPick.post [DV.n n0, DV.n n1] [DV.n (n0.tmod n1 + n1)]) (
 true)))) (
 reqB ((0 : Int) ≤ n0.tmod n1) (
 reqB (n0.tmod n1 ≤ (4503599627370496 : Int)) (
 reqB (sigPick.post [DV.n n0, DV.n n1] [DV.n (n0.tmod n1)]) (
 true)))))))))) := by kernel_rfl
set_option maxHeartbeats 8000000 in
theorem vt_pick : vcFn Tryd.prog [] noA gl11 100 28 sigPick = true := by
  rw [vc_pick]
  try simp only [Int.toNat_natCast, List.length_set, List.length_replicate, List.length_take, List.length_drop, List.length_append, List.length_cons, List.length_nil, Nat.min_self, List.take_take, lenCols_i, lenCols_b, List.drop_zero, List.take_length, Nat.add_eq, Nat.mul_eq, Nat.sub_eq, Nat.zero_add, Nat.sub_zero, Nat.mul_one]
  refine all_i fun n0 => ?_
  refine imp_i fun h0 => ?_
  refine imp_i fun h1 => ?_
  refine all_i fun n1 => ?_
  refine imp_i fun h2 => ?_
  refine imp_i fun h3 => ?_
  refine imp_i fun h4 => ?_
  try simp only [sigPick, pickPost, List.cons.injEq, DV.b.injEq, and_true, List.length_cons, List.length_nil] at h4
  have t := tmod_of (x := n0) (n := n1) (by omega)
  refine bR_dec (fun h5 => ?_) (fun h5 => ?_)
  ·
   refine req_i ?_ ?_
   · -- r0
    first | omega | assumption | grind
   refine req_i ?_ ?_
   · -- r1
    first | omega | assumption | grind
   refine req_i ?_ ?_
   · -- r2
    first | omega | ((try simp only [sigPick, pickPost, List.cons.injEq, DV.b.injEq, and_true, List.length_cons, List.length_nil]); first | done | omega | assumption | grind [getD_set, getD_rep, toNat_succ, cntN_yes, cntN_no])
   rfl
  ·
   refine req_i ?_ ?_
   · -- r3
    first | omega | assumption | grind
   refine req_i ?_ ?_
   · -- r4
    first | omega | assumption | grind
   refine req_i ?_ ?_
   · -- r5
    first | omega | ((try simp only [sigPick, pickPost, List.cons.injEq, DV.b.injEq, and_true, List.length_cons, List.length_nil]); first | done | omega | assumption | grind [getD_set, getD_rep, toNat_succ, cntN_yes, cntN_no])
   rfl
theorem ext_pick : ∀ p ∈ ([] : List (Nat × Ext)), ExtRow Tryd.prog p.1 p.2 := by
  intro p hp
  cases hp
theorem cts_pick : CtsOk Tryd.prog [] := fun f c h => by cases h
theorem fn_pick : FnOk Tryd.prog 28 sigPick gl11 := fn_sound (by kernel_rfl) ext_pick cts_pick names vt_pick
end Go.Proofs.YtofeleohcpaclaaDoor

namespace Go.Proofs.YtofeleohcpaclaaDoor
open Go.Ev Go.Sp
set_option maxRecDepth 100000
theorem vc_sum : vcFn Tryd.prog [(28, Ext.ctr (ctOfG gl11 sigPick))] noA gl11 100 27 sigSum = (allB fun n0 : Int => 
impB ((-9223372036854775808 : Int) ≤ n0) (
impB (n0 ≤ (9223372036854775807 : Int)) (
impB (sigSum.pre [DV.n n0]) (
reqB ((-9223372036854775808 : Int) ≤ n0) (
reqB (n0 ≤ (9223372036854775807 : Int)) (
reqB (sigPick.pre [DV.n n0, DV.n (1001 : Int)]) (
allB fun n1 : Int => 
impB ((0 : Int) ≤ n1) (
impB (n1 ≤ (4503599627370496 : Int)) (
impB (sigPick.post [DV.n n0, DV.n (1001 : Int)] [DV.n n1]) (
reqB ((-9223372036854775808 : Int) ≤ n0.tdiv (1001 : Int)) (
reqB (n0.tdiv (1001 : Int) ≤ (9223372036854775807 : Int)) (
reqB (sigPick.pre [DV.n (n0.tdiv (1001 : Int)), DV.n (1001 : Int)]) (
allB fun n2 : Int => 
impB ((0 : Int) ≤ n2) (
impB (n2 ≤ (4503599627370496 : Int)) (
impB (sigPick.post [DV.n (n0.tdiv (1001 : Int)), DV.n (1001 : Int)] [DV.n n2]) (
reqB ((-500 : Int) ≤ n1 - (500 : Int)) (
reqB (n1 - (500 : Int) ≤ (500 : Int)) (
reqB ((-500 : Int) ≤ n2 - (500 : Int)) (
reqB (n2 - (500 : Int) ≤ (500 : Int)) (
reqB (sigSum.post [DV.n n0] [DV.n (n1 - (500 : Int)), DV.n (n2 - (500 : Int))]) (
true))))))))))))))))))))) := by kernel_rfl
set_option maxHeartbeats 8000000 in
theorem vt_sum : vcFn Tryd.prog [(28, Ext.ctr (ctOfG gl11 sigPick))] noA gl11 100 27 sigSum = true := by
  rw [vc_sum]
  try simp only [Int.toNat_natCast, List.length_set, List.length_replicate, List.length_take, List.length_drop, List.length_append, List.length_cons, List.length_nil, Nat.min_self, List.take_take, lenCols_i, lenCols_b, List.drop_zero, List.take_length, Nat.add_eq, Nat.mul_eq, Nat.sub_eq, Nat.zero_add, Nat.sub_zero, Nat.mul_one]
  refine all_i fun n0 => ?_
  refine imp_i fun h0 => ?_
  refine imp_i fun h1 => ?_
  refine imp_i fun h2 => ?_
  try simp only [sigSum, sumPost, List.cons.injEq, DV.b.injEq, and_true, List.length_cons, List.length_nil] at h2
  refine req_i ?_ ?_
  · -- r0
   first | omega | assumption | grind
  refine req_i ?_ ?_
  · -- r1
   first | omega | assumption | grind
  refine req_i ?_ ?_
  · -- r2
   first | trivial | assumption | (simp only [sigPick, pickPost, List.cons.injEq, DV.b.injEq, and_true, List.length_cons, List.length_nil]; done) | ((try simp only [sigPick, pickPost, List.cons.injEq, DV.b.injEq, and_true, List.length_cons, List.length_nil]); first | omega | assumption | grind)
  refine all_i fun n1 => ?_
  refine imp_i fun h3 => ?_
  refine imp_i fun h4 => ?_
  refine imp_i fun h5 => ?_
  try simp only [sigPick, pickPost, List.cons.injEq, DV.b.injEq, and_true, List.length_cons, List.length_nil] at h5
  refine req_i ?_ ?_
  · -- r3
   first | omega | assumption | grind
  refine req_i ?_ ?_
  · -- r4
   first | omega | assumption | grind
  refine req_i ?_ ?_
  · -- r5
   first | trivial | assumption | (simp only [sigPick, pickPost, List.cons.injEq, DV.b.injEq, and_true, List.length_cons, List.length_nil]; done) | ((try simp only [sigPick, pickPost, List.cons.injEq, DV.b.injEq, and_true, List.length_cons, List.length_nil]); first | omega | assumption | grind)
  refine all_i fun n2 => ?_
  refine imp_i fun h6 => ?_
  refine imp_i fun h7 => ?_
  refine imp_i fun h8 => ?_
  try simp only [sigPick, pickPost, List.cons.injEq, DV.b.injEq, and_true, List.length_cons, List.length_nil] at h8
  refine req_i ?_ ?_
  · -- r6
   first | omega | assumption | grind
  refine req_i ?_ ?_
  · -- r7
   first | omega | assumption | grind
  refine req_i ?_ ?_
  · -- r8
   first | omega | assumption | grind
  refine req_i ?_ ?_
  · -- r9
   first | omega | assumption | grind
  refine req_i ?_ ?_
  · -- r10
   trivial
  rfl
theorem ext_sum : ∀ p ∈ ([(28, Ext.ctr (ctOfG gl11 sigPick))] : List (Nat × Ext)), ExtRow Tryd.prog p.1 p.2 := by
  intro p hp
  simp only [List.mem_cons, List.not_mem_nil, or_false] at hp
  rcases hp with rfl
  · trivial
theorem cts_sum : CtsOk Tryd.prog [(28, Ext.ctr (ctOfG gl11 sigPick))] := ctsOk_ofG (cs := [(28, sigPick)])
  (fun p hp => by
    simp only [List.mem_cons, List.not_mem_nil, or_false] at hp
    rcases hp with rfl
    · exact fn_pick
)
  (fun f c h => by
    simp only [List.lookup_cons] at h
    repeat' split at h
    all_goals first | (cases h; done) | (rename_i e; have e := beq_iff_eq.1 e; subst e; cases h; refine ⟨_, ?_, rfl⟩; simp))
theorem fn_sum : FnOk Tryd.prog 27 sigSum gl11 := fn_sound (by kernel_rfl) ext_sum cts_sum names vt_sum
end Go.Proofs.YtofeleohcpaclaaDoor

namespace Go.Proofs.YtofeleohcpaclaaDoor
open Go.Ev Go.Sp
set_option maxRecDepth 100000
theorem vc_share0 : vcFn Tryd.prog [] noA gl11 100 37 (sigShare 0 4398046511104) = (allB fun n0 : Int => 
impB ((0 : Int) ≤ n0) (
impB (n0 ≤ (4398046511104 : Int)) (
allB fun n1 : Int => 
impB ((0 : Int) ≤ n1) (
impB (n1 ≤ (4398046511104 : Int)) (
impB ((sigShare (0 : Int) (4398046511104 : Int)).pre [DV.n n0, DV.n n1]) (
bR (dec (n1 = (0 : Int))) (
 reqB ((sigShare (0 : Int) (4398046511104 : Int)).post [DV.n n0, DV.n n1] [DV.n (0 : Int)]) (
 true)) (
 reqB ((2 : Int) * n1 ≠ (0 : Int)) (
 allB fun n2 : Int => 
 impB (n2 = Go.IntKind.i64.wrap (((2048 : Int) * n0 + n1).tdiv ((2 : Int) * n1))) (
 impB (Int.negSucc (9223372036854775807 : Nat) ≤ n2) (
 impB (n2 ≤ Int.ofNat (9223372036854775807 : Nat)) (
 reqB ((-1024 : Int) ≤ n2) (
 reqB (n2 ≤ (1024 : Int)) (
 reqB ((sigShare (0 : Int) (4398046511104 : Int)).post [DV.n n0, DV.n n1] [DV.n n2]) (
 true)))))))))))))) := by kernel_rfl
set_option maxHeartbeats 8000000 in
theorem vt_share0 : vcFn Tryd.prog [] noA gl11 100 37 (sigShare 0 4398046511104) = true := by
  rw [vc_share0]
  try simp only [Int.toNat_natCast, List.length_set, List.length_replicate, List.length_take, List.length_drop, List.length_append, List.length_cons, List.length_nil, Nat.min_self, List.take_take, lenCols_i, lenCols_b, List.drop_zero, List.take_length, Nat.add_eq, Nat.mul_eq, Nat.sub_eq, Nat.zero_add, Nat.sub_zero, Nat.mul_one]
  refine all_i fun n0 => ?_
  refine imp_i fun h0 => ?_
  refine imp_i fun h1 => ?_
  refine all_i fun n1 => ?_
  refine imp_i fun h2 => ?_
  refine imp_i fun h3 => ?_
  refine imp_i fun h4 => ?_
  try simp only [sigShare, sharePre, sharePost, List.cons.injEq, DV.b.injEq, and_true, List.length_cons, List.length_nil] at h4
  refine bR_dec (fun h5 => ?_) (fun h5 => ?_)
  ·
   refine req_i ?_ ?_
   · -- r0
    simp only [sigShare, sharePost, shareOf]; rw [if_pos h5]
   rfl
  ·
   refine req_i ?_ ?_
   · -- r1
    first | omega | assumption | grind
   refine all_i fun n2 => ?_
   refine imp_i fun h6 => ?_
   simp only [wrap_i64] at h6
   have sb := shN_bd (a := n0) (b := n1) (by omega) (by omega) (by omega)
   have e1 := tdiv_nn (a := 2048 * n0 + n1) (b := 2 * n1) (by omega)
   rw [e1] at h6
   have h6 : n2 = shN n0 n1 := by unfold shN at *; omega
   refine imp_i fun h7 => ?_
   refine imp_i fun h8 => ?_
   refine req_i ?_ ?_
   · -- r2
    first | omega | assumption | grind
   refine req_i ?_ ?_
   · -- r3
    first | omega | assumption | grind
   refine req_i ?_ ?_
   · -- r4
    simp only [sigShare, sharePost, shareOf]; rw [if_neg h5, if_neg (by omega)]; exact h6
   rfl
theorem ext_share0 : ∀ p ∈ ([] : List (Nat × Ext)), ExtRow Tryd.prog p.1 p.2 := by
  intro p hp
  cases hp
theorem cts_share0 : CtsOk Tryd.prog [] := fun f c h => by cases h
theorem fn_share0 : FnOk Tryd.prog 37 (sigShare 0 4398046511104) gl11 := fn_sound (by kernel_rfl) ext_share0 cts_share0 names vt_share0
end Go.Proofs.YtofeleohcpaclaaDoor

namespace Go.Proofs.YtofeleohcpaclaaDoor
open Go.Ev Go.Sp
set_option maxRecDepth 100000
theorem vc_share1 : vcFn Tryd.prog [] noA gl11 100 37 (sigShare (-4398046511104) (-1)) = (allB fun n0 : Int => 
impB ((-4398046511104 : Int) ≤ n0) (
impB (n0 ≤ (-1 : Int)) (
allB fun n1 : Int => 
impB ((0 : Int) ≤ n1) (
impB (n1 ≤ (4398046511104 : Int)) (
impB ((sigShare (-4398046511104 : Int) (-1 : Int)).pre [DV.n n0, DV.n n1]) (
bR (dec (n1 = (0 : Int))) (
 reqB ((sigShare (-4398046511104 : Int) (-1 : Int)).post [DV.n n0, DV.n n1] [DV.n (0 : Int)]) (
 true)) (
 bR (dec (n1 = (0 : Int))) (
 reqB ((sigShare (-4398046511104 : Int) (-1 : Int)).post [DV.n n0, DV.n n1]
 [DV.n (Int.ofNat (0 : Nat))]) (
 true)) (
 reqB ((2 : Int) * n1 ≠ (0 : Int)) (
 allB fun n2 : Int => 
 impB (n2 = Go.IntKind.i64.wrap (((2048 : Int) * ((0 : Int) - n0) + n1).tdiv ((2 : Int) * n1))) (
 impB (Int.negSucc (9223372036854775807 : Nat) ≤ n2) (
 impB (n2 ≤ Int.ofNat (9223372036854775807 : Nat)) (
 allB fun n3 : Int => 
 impB (n3 = Go.IntKind.i64.wrap ((0 : Int) - n2)) (
 impB (Int.negSucc (9223372036854775807 : Nat) ≤ n3) (
 impB (n3 ≤ Int.ofNat (9223372036854775807 : Nat)) (
 reqB ((-1024 : Int) ≤ n3) (
 reqB (n3 ≤ (1024 : Int)) (
 reqB ((sigShare (-4398046511104 : Int) (-1 : Int)).post [DV.n n0, DV.n n1] [DV.n n3]) (
 true)))))))))))))))))) := by kernel_rfl
set_option maxHeartbeats 8000000 in
theorem vt_share1 : vcFn Tryd.prog [] noA gl11 100 37 (sigShare (-4398046511104) (-1)) = true := by
  rw [vc_share1]
  try simp only [Int.toNat_natCast, List.length_set, List.length_replicate, List.length_take, List.length_drop, List.length_append, List.length_cons, List.length_nil, Nat.min_self, List.take_take, lenCols_i, lenCols_b, List.drop_zero, List.take_length, Nat.add_eq, Nat.mul_eq, Nat.sub_eq, Nat.zero_add, Nat.sub_zero, Nat.mul_one]
  refine all_i fun n0 => ?_
  refine imp_i fun h0 => ?_
  refine imp_i fun h1 => ?_
  refine all_i fun n1 => ?_
  refine imp_i fun h2 => ?_
  refine imp_i fun h3 => ?_
  refine imp_i fun h4 => ?_
  try simp only [sigShare, sharePre, sharePost, List.cons.injEq, DV.b.injEq, and_true, List.length_cons, List.length_nil] at h4
  refine bR_dec (fun h5 => ?_) (fun h5 => ?_)
  ·
   refine req_i ?_ ?_
   · -- r0
    simp only [sigShare, sharePost, shareOf]; rw [if_pos h5]
   rfl
  ·
   refine bR_dec (fun h6 => absurd h6 h5) (fun h6 => ?_)
   refine req_i ?_ ?_
   · -- r1
    first | omega | assumption | grind
   refine all_i fun n2 => ?_
   refine imp_i fun h7 => ?_
   simp only [wrap_i64] at h7
   have sb := shN_bd (a := (0 - n0)) (b := n1) (by omega) (by omega) (by omega)
   have e1 := tdiv_nn (a := 2048 * (0 - n0) + n1) (b := 2 * n1) (by omega)
   rw [e1] at h7
   have h7 : n2 = shN (0 - n0) n1 := by unfold shN at *; omega
   refine imp_i fun h8 => ?_
   refine imp_i fun h9 => ?_
   refine all_i fun n3 => ?_
   refine imp_i fun h10 => ?_
   simp only [wrap_i64] at h10
   have h10 : n3 = 0 - n2 := by omega
   refine imp_i fun h11 => ?_
   refine imp_i fun h12 => ?_
   refine req_i ?_ ?_
   · -- r2
    first | omega | assumption | grind
   refine req_i ?_ ?_
   · -- r3
    first | omega | assumption | grind
   refine req_i ?_ ?_
   · -- r4
    simp only [sigShare, sharePost, shareOf]; rw [if_neg h5, if_pos (by omega), show -n0 = 0 - n0 by omega]; omega
   rfl
theorem ext_share1 : ∀ p ∈ ([] : List (Nat × Ext)), ExtRow Tryd.prog p.1 p.2 := by
  intro p hp
  cases hp
theorem cts_share1 : CtsOk Tryd.prog [] := fun f c h => by cases h
theorem fn_share1 : FnOk Tryd.prog 37 (sigShare (-4398046511104) (-1)) gl11 := fn_sound (by kernel_rfl) ext_share1 cts_share1 names vt_share1
end Go.Proofs.YtofeleohcpaclaaDoor

namespace Go.Proofs.YtofeleohcpaclaaDoor
open Go.Ev Go.Sp
theorem fn_share : FnOk Tryd.prog 37 (sigShare (-4398046511104) 4398046511104) gl11 := by
  exact fn_split1 (m := 0) (m' := -1) (by decide) fn_share0 fn_share1
end Go.Proofs.YtofeleohcpaclaaDoor

namespace Go.Proofs.YtofeleohcpaclaaDoor
open Go.Ev Go.Sp
set_option maxRecDepth 100000
theorem vc_Code : vcFn Tryd.prog [(37, Ext.ctr (ctOfG gl11 (sigShare (-4398046511104) 4398046511104)))] noA gl11 100 9 sigCode = (allB fun n0 : Int => 
impB ((-9223372036854775808 : Int) ≤ n0) (
impB (n0 ≤ (9223372036854775807 : Int)) (
allB fun n1 : Int => 
impB ((-9223372036854775808 : Int) ≤ n1) (
impB (n1 ≤ (9223372036854775807 : Int)) (
allB fun n2 : Int => 
impB ((-9223372036854775808 : Int) ≤ n2) (
impB (n2 ≤ (9223372036854775807 : Int)) (
allB fun n3 : Int => 
impB ((-9223372036854775808 : Int) ≤ n3) (
impB (n3 ≤ (9223372036854775807 : Int)) (
allB fun n4 : Int => 
impB ((-9223372036854775808 : Int) ≤ n4) (
impB (n4 ≤ (9223372036854775807 : Int)) (
allB fun n5 : Int => 
impB ((-9223372036854775808 : Int) ≤ n5) (
impB (n5 ≤ (9223372036854775807 : Int)) (
impB (sigCode.pre [DV.n n0, DV.n n1, DV.n n2, DV.n n3, DV.n n4, DV.n n5]) (
bR (dec (Min.min n0 n1 < (-1048576 : Int))) (
 reqB (sigCode.post [DV.n n0, DV.n n1, DV.n n2, DV.n n3, DV.n n4, DV.n n5]
 [DV.n (0 : Int), DV.n (2 : Int)]) (
 true)) (
 bR (dec ((1048576 : Int) < Max.max n0 n1)) (
 reqB (sigCode.post [DV.n n0, DV.n n1, DV.n n2, DV.n n3, DV.n n4, DV.n n5]
 [DV.n (0 : Int), DV.n (2 : Int)]) (
 true)) (
 bR (dec (Min.min n2 n3 < (-1048576 : Int))) (
 reqB (sigCode.post [DV.n n0, DV.n n1, DV.n n2, DV.n n3, DV.n n4, DV.n n5]
 [DV.n (0 : Int), DV.n (2 : Int)]) (
 true)) (
 bR (dec ((1048576 : Int) < Max.max n2 n3)) (
 reqB (sigCode.post [DV.n n0, DV.n n1, DV.n n2, DV.n n3, DV.n n4, DV.n n5]
 [DV.n (0 : Int), DV.n (2 : Int)]) (
 true)) (
 bR (dec (Min.min n4 n5 < (-1048576 : Int))) (
 reqB (sigCode.post [DV.n n0, DV.n n1, DV.n n2, DV.n n3, DV.n n4, DV.n n5]
 [DV.n (0 : Int), DV.n (2 : Int)]) (
 true)) (
 bR (dec ((1048576 : Int) < Max.max n4 n5)) (
 reqB (sigCode.post [DV.n n0, DV.n n1, DV.n n2, DV.n n3, DV.n n4, DV.n n5]
 [DV.n (0 : Int), DV.n (2 : Int)]) (
 true)) (
 allB fun n6 : Int => 
 impB (n6 = Go.IntKind.i64.wrap (n0 * n0)) (
 impB (Int.negSucc (9223372036854775807 : Nat) ≤ n6) (
 impB (n6 ≤ Int.ofNat (9223372036854775807 : Nat)) (
 allB fun n7 : Int => 
 impB (n7 = Go.IntKind.i64.wrap (n1 * n1)) (
 impB (Int.negSucc (9223372036854775807 : Nat) ≤ n7) (
 impB (n7 ≤ Int.ofNat (9223372036854775807 : Nat)) (
 allB fun n8 : Int => 
 impB (n8 = Go.IntKind.i64.wrap (n6 + n7)) (
 impB (Int.negSucc (9223372036854775807 : Nat) ≤ n8) (
 impB (n8 ≤ Int.ofNat (9223372036854775807 : Nat)) (
 allB fun n9 : Int => 
 impB (n9 = Go.IntKind.i64.wrap (n4 * n4)) (
 impB (Int.negSucc (9223372036854775807 : Nat) ≤ n9) (
 impB (n9 ≤ Int.ofNat (9223372036854775807 : Nat)) (
 allB fun n10 : Int => 
 impB (n10 = Go.IntKind.i64.wrap (n5 * n5)) (
 impB (Int.negSucc (9223372036854775807 : Nat) ≤ n10) (
 impB (n10 ≤ Int.ofNat (9223372036854775807 : Nat)) (
 allB fun n11 : Int => 
 impB (n11 = Go.IntKind.i64.wrap (n9 + n10)) (
 impB (Int.negSucc (9223372036854775807 : Nat) ≤ n11) (
 impB (n11 ≤ Int.ofNat (9223372036854775807 : Nat)) (
 allB fun n12 : Int => 
 impB (n12 = Go.IntKind.i64.wrap (n8 - n11)) (
 impB (Int.negSucc (9223372036854775807 : Nat) ≤ n12) (
 impB (n12 ≤ Int.ofNat (9223372036854775807 : Nat)) (
 allB fun n13 : Int => 
 impB (n13 = Go.IntKind.i64.wrap (n8 + n11)) (
 impB (Int.negSucc (9223372036854775807 : Nat) ≤ n13) (
 impB (n13 ≤ Int.ofNat (9223372036854775807 : Nat)) (
 reqB ((-4398046511104 : Int) ≤ n12) (
 reqB (n12 ≤ (4398046511104 : Int)) (
 reqB ((0 : Int) ≤ n13) (
 reqB (n13 ≤ (4398046511104 : Int)) (
 reqB ((sigShare (-4398046511104 : Int) (4398046511104 : Int)).pre [DV.n n12, DV.n n13]) (
 allB fun n14 : Int => 
 impB ((-1024 : Int) ≤ n14) (
 impB (n14 ≤ (1024 : Int)) (
 impB ((sigShare (-4398046511104 : Int) (4398046511104 : Int)).post [DV.n n12, DV.n n13] [DV.n n14]) (
 reqB ((-1024 : Int) ≤ n14) (
 reqB (n14 ≤ (1024 : Int)) (
 reqB (sigCode.post [DV.n n0, DV.n n1, DV.n n2, DV.n n3, DV.n n4, DV.n n5]
 [DV.n n14, DV.n (0 : Int)]) (
 true))))))))))))))))))))))))))))))))))))))))))))))))))))))) := by kernel_rfl
set_option maxHeartbeats 8000000 in
theorem vt_Code : vcFn Tryd.prog [(37, Ext.ctr (ctOfG gl11 (sigShare (-4398046511104) 4398046511104)))] noA gl11 100 9 sigCode = true := by
  rw [vc_Code]
  try simp only [Int.toNat_natCast, List.length_set, List.length_replicate, List.length_take, List.length_drop, List.length_append, List.length_cons, List.length_nil, Nat.min_self, List.take_take, lenCols_i, lenCols_b, List.drop_zero, List.take_length, Nat.add_eq, Nat.mul_eq, Nat.sub_eq, Nat.zero_add, Nat.sub_zero, Nat.mul_one]
  refine all_i fun n0 => ?_
  refine imp_i fun h0 => ?_
  refine imp_i fun h1 => ?_
  refine all_i fun n1 => ?_
  refine imp_i fun h2 => ?_
  refine imp_i fun h3 => ?_
  refine all_i fun n2 => ?_
  refine imp_i fun h4 => ?_
  refine imp_i fun h5 => ?_
  refine all_i fun n3 => ?_
  refine imp_i fun h6 => ?_
  refine imp_i fun h7 => ?_
  refine all_i fun n4 => ?_
  refine imp_i fun h8 => ?_
  refine imp_i fun h9 => ?_
  refine all_i fun n5 => ?_
  refine imp_i fun h10 => ?_
  refine imp_i fun h11 => ?_
  refine imp_i fun h12 => ?_
  try simp only [sigCode, codePost, insd, powr, List.cons.injEq, DV.b.injEq, and_true, List.length_cons, List.length_nil] at h12
  refine bR_dec (fun h13 => ?_) (fun h13 => ?_)
  ·
   refine req_i ?_ ?_
   · -- r0
    first | omega | ((try simp only [sigCode, codePost, insd, powr, List.cons.injEq, DV.b.injEq, and_true, List.length_cons, List.length_nil]); first | done | omega | assumption | grind [getD_set, getD_rep, toNat_succ, cntN_yes, cntN_no])
   rfl
  ·
   refine bR_dec (fun h14 => ?_) (fun h14 => ?_)
   ·
    refine req_i ?_ ?_
    · -- r1
     first | omega | ((try simp only [sigCode, codePost, insd, powr, List.cons.injEq, DV.b.injEq, and_true, List.length_cons, List.length_nil]); first | done | omega | assumption | grind [getD_set, getD_rep, toNat_succ, cntN_yes, cntN_no])
    rfl
   ·
    refine bR_dec (fun h15 => ?_) (fun h15 => ?_)
    ·
     refine req_i ?_ ?_
     · -- r2
      first | omega | ((try simp only [sigCode, codePost, insd, powr, List.cons.injEq, DV.b.injEq, and_true, List.length_cons, List.length_nil]); first | done | omega | assumption | grind [getD_set, getD_rep, toNat_succ, cntN_yes, cntN_no])
     rfl
    ·
     refine bR_dec (fun h16 => ?_) (fun h16 => ?_)
     ·
      refine req_i ?_ ?_
      · -- r3
       first | omega | ((try simp only [sigCode, codePost, insd, powr, List.cons.injEq, DV.b.injEq, and_true, List.length_cons, List.length_nil]); first | done | omega | assumption | grind [getD_set, getD_rep, toNat_succ, cntN_yes, cntN_no])
      rfl
     ·
      refine bR_dec (fun h17 => ?_) (fun h17 => ?_)
      ·
       refine req_i ?_ ?_
       · -- r4
        first | omega | ((try simp only [sigCode, codePost, insd, powr, List.cons.injEq, DV.b.injEq, and_true, List.length_cons, List.length_nil]); first | done | omega | assumption | grind [getD_set, getD_rep, toNat_succ, cntN_yes, cntN_no])
       rfl
      ·
       refine bR_dec (fun h18 => ?_) (fun h18 => ?_)
       ·
        refine req_i ?_ ?_
        · -- r5
         first | omega | ((try simp only [sigCode, codePost, insd, powr, List.cons.injEq, DV.b.injEq, and_true, List.length_cons, List.length_nil]); first | done | omega | assumption | grind [getD_set, getD_rep, toNat_succ, cntN_yes, cntN_no])
        rfl
       ·
        have i1 : insd n0 n1 := by unfold insd; omega
        have i2 : insd n2 n3 := by unfold insd; omega
        have i3 : insd n4 n5 := by unfold insd; omega
        refine all_i fun n6 => ?_
        refine imp_i fun h19 => ?_
        simp only [wrap_i64] at h19
        have ph19 := sq_abs (a := n0) (A := 1048576) (by omega) (by omega)
        have h19 : n6 = n0 * n0 := by omega
        refine imp_i fun h20 => ?_
        refine imp_i fun h21 => ?_
        refine all_i fun n7 => ?_
        refine imp_i fun h22 => ?_
        simp only [wrap_i64] at h22
        have ph22 := sq_abs (a := n1) (A := 1048576) (by omega) (by omega)
        have h22 : n7 = n1 * n1 := by omega
        refine imp_i fun h23 => ?_
        refine imp_i fun h24 => ?_
        refine all_i fun n8 => ?_
        refine imp_i fun h25 => ?_
        simp only [wrap_i64] at h25
        have h25 : n8 = n6 + n7 := by omega
        refine imp_i fun h26 => ?_
        refine imp_i fun h27 => ?_
        refine all_i fun n9 => ?_
        refine imp_i fun h28 => ?_
        simp only [wrap_i64] at h28
        have ph28 := sq_abs (a := n4) (A := 1048576) (by omega) (by omega)
        have h28 : n9 = n4 * n4 := by omega
        refine imp_i fun h29 => ?_
        refine imp_i fun h30 => ?_
        refine all_i fun n10 => ?_
        refine imp_i fun h31 => ?_
        simp only [wrap_i64] at h31
        have ph31 := sq_abs (a := n5) (A := 1048576) (by omega) (by omega)
        have h31 : n10 = n5 * n5 := by omega
        refine imp_i fun h32 => ?_
        refine imp_i fun h33 => ?_
        refine all_i fun n11 => ?_
        refine imp_i fun h34 => ?_
        simp only [wrap_i64] at h34
        have h34 : n11 = n9 + n10 := by omega
        refine imp_i fun h35 => ?_
        refine imp_i fun h36 => ?_
        refine all_i fun n12 => ?_
        refine imp_i fun h37 => ?_
        simp only [wrap_i64] at h37
        have h37 : n12 = n8 - n11 := by omega
        refine imp_i fun h38 => ?_
        refine imp_i fun h39 => ?_
        refine all_i fun n13 => ?_
        refine imp_i fun h40 => ?_
        simp only [wrap_i64] at h40
        have h40 : n13 = n8 + n11 := by omega
        have t1 : n12 = n0 * n0 + n1 * n1 - (n4 * n4 + n5 * n5) ∧ n13 = n0 * n0 + n1 * n1 + (n4 * n4 + n5 * n5) := by omega
        refine imp_i fun h41 => ?_
        refine imp_i fun h42 => ?_
        refine req_i ?_ ?_
        · -- r6
         first | omega | assumption | grind
        refine req_i ?_ ?_
        · -- r7
         first | omega | assumption | grind
        refine req_i ?_ ?_
        · -- r8
         first | omega | assumption | grind
        refine req_i ?_ ?_
        · -- r9
         first | omega | assumption | grind
        refine req_i ?_ ?_
        · -- r10
         first | trivial | assumption | (simp only [sigShare, sharePre, sharePost, List.cons.injEq, DV.b.injEq, and_true, List.length_cons, List.length_nil]; done) | ((try simp only [sigShare, sharePre, sharePost, List.cons.injEq, DV.b.injEq, and_true, List.length_cons, List.length_nil]); first | omega | assumption | grind)
        refine all_i fun n14 => ?_
        refine imp_i fun h43 => ?_
        refine imp_i fun h44 => ?_
        refine imp_i fun h45 => ?_
        try simp only [sigShare, sharePre, sharePost, List.cons.injEq, DV.b.injEq, and_true, List.length_cons, List.length_nil] at h45
        rw [t1.1, t1.2] at h45
        refine req_i ?_ ?_
        · -- r11
         first | omega | assumption | grind
        refine req_i ?_ ?_
        · -- r12
         first | omega | assumption | grind
        refine req_i ?_ ?_
        · -- r13
         exact .inr ⟨⟨i1, i2, i3⟩, rfl, h45⟩
        rfl
theorem ext_Code : ∀ p ∈ ([(37, Ext.ctr (ctOfG gl11 (sigShare (-4398046511104) 4398046511104)))] : List (Nat × Ext)), ExtRow Tryd.prog p.1 p.2 := by
  intro p hp
  simp only [List.mem_cons, List.not_mem_nil, or_false] at hp
  rcases hp with rfl
  · trivial
theorem cts_Code : CtsOk Tryd.prog [(37, Ext.ctr (ctOfG gl11 (sigShare (-4398046511104) 4398046511104)))] := ctsOk_ofG (cs := [(37, (sigShare (-4398046511104) 4398046511104))])
  (fun p hp => by
    simp only [List.mem_cons, List.not_mem_nil, or_false] at hp
    rcases hp with rfl
    · exact fn_share
)
  (fun f c h => by
    simp only [List.lookup_cons] at h
    repeat' split at h
    all_goals first | (cases h; done) | (rename_i e; have e := beq_iff_eq.1 e; subst e; cases h; refine ⟨_, ?_, rfl⟩; simp))
theorem fn_Code : FnOk Tryd.prog 9 sigCode gl11 := fn_sound (by kernel_rfl) ext_Code cts_Code names vt_Code
end Go.Proofs.YtofeleohcpaclaaDoor

namespace Go.Proofs.YtofeleohcpaclaaDoor
open Go.Ev Go.Sp
set_option maxRecDepth 100000
theorem vc_DiscrCode : vcFn Tryd.prog [(3, Ext.ctr (ctOfG gl11 sigTrue0)), (28, Ext.ctr (ctOfG gl11 sigPick)), (27, Ext.ctr (ctOfG gl11 sigSum)), (9, Ext.ctr (ctOfG gl11 sigCode))] noA gl11 100 6 sigI3 = (allB fun n0 : Int => 
impB ((-9223372036854775808 : Int) ≤ n0) (
impB (n0 ≤ (9223372036854775807 : Int)) (
allB fun n1 : Int => 
impB ((-9223372036854775808 : Int) ≤ n1) (
impB (n1 ≤ (9223372036854775807 : Int)) (
allB fun n2 : Int => 
impB ((-9223372036854775808 : Int) ≤ n2) (
impB (n2 ≤ (9223372036854775807 : Int)) (
impB (sigI3.pre [DV.n n0, DV.n n1, DV.n n2]) (
reqB (sigTrue0.pre []) (
allB fun b3 : Bool => 
impB (sigTrue0.post [] [DV.b b3]) (
reqB ((-9223372036854775808 : Int) ≤ n0) (
reqB (n0 ≤ (9223372036854775807 : Int)) (
reqB (sigSum.pre [DV.n n0]) (
allB fun n4 : Int => 
impB ((-500 : Int) ≤ n4) (
impB (n4 ≤ (500 : Int)) (
allB fun n5 : Int => 
impB ((-500 : Int) ≤ n5) (
impB (n5 ≤ (500 : Int)) (
impB (sigSum.post [DV.n n0] [DV.n n4, DV.n n5]) (
reqB ((-9223372036854775808 : Int) ≤ n1) (
reqB (n1 ≤ (9223372036854775807 : Int)) (
reqB (sigSum.pre [DV.n n1]) (
allB fun n6 : Int => 
impB ((-500 : Int) ≤ n6) (
impB (n6 ≤ (500 : Int)) (
allB fun n7 : Int => 
impB ((-500 : Int) ≤ n7) (
impB (n7 ≤ (500 : Int)) (
impB (sigSum.post [DV.n n1] [DV.n n6, DV.n n7]) (
reqB ((-9223372036854775808 : Int) ≤ n2) (
reqB (n2 ≤ (9223372036854775807 : Int)) (
reqB (sigPick.pre [DV.n n2, DV.n (9 : Int)]) (
allB fun n8 : Int => 
impB ((0 : Int) ≤ n8) (
impB (n8 ≤ (4503599627370496 : Int)) (
impB (sigPick.post [DV.n n2, DV.n (9 : Int)] [DV.n n8]) (
reqB ((-9223372036854775808 : Int) ≤ n4) (
reqB (n4 ≤ (9223372036854775807 : Int)) (
reqB ((-9223372036854775808 : Int) ≤ n5) (
reqB (n5 ≤ (9223372036854775807 : Int)) (
reqB ((-9223372036854775808 : Int) ≤ n6) (
reqB (n6 ≤ (9223372036854775807 : Int)) (
reqB ((-9223372036854775808 : Int) ≤ n7) (
reqB (n7 ≤ (9223372036854775807 : Int)) (
reqB (sigCode.pre
 [DV.n n4, DV.n n5, DV.n (0 : Int), DV.n (0 : Int), DV.n n6, DV.n n7]) (
allB fun n9 : Int => 
impB ((-1024 : Int) ≤ n9) (
impB (n9 ≤ (1024 : Int)) (
allB fun n10 : Int => 
impB ((0 : Int) ≤ n10) (
impB (n10 ≤ (18 : Int)) (
impB (sigCode.post
 [DV.n n4, DV.n n5, DV.n (0 : Int), DV.n (0 : Int), DV.n n6, DV.n n7]
 [DV.n n9, DV.n n10]) (
reqB ((-9223372036854775808 : Int) ≤ n6) (
reqB (n6 ≤ (9223372036854775807 : Int)) (
reqB ((-9223372036854775808 : Int) ≤ n7) (
reqB (n7 ≤ (9223372036854775807 : Int)) (
reqB ((-9223372036854775808 : Int) ≤ n4) (
reqB (n4 ≤ (9223372036854775807 : Int)) (
reqB ((-9223372036854775808 : Int) ≤ n5) (
reqB (n5 ≤ (9223372036854775807 : Int)) (
reqB (sigCode.pre
 [DV.n n6, DV.n n7, DV.n (0 : Int), DV.n (0 : Int), DV.n n4, DV.n n5]) (
allB fun n11 : Int => 
impB ((-1024 : Int) ≤ n11) (
impB (n11 ≤ (1024 : Int)) (
allB fun n12 : Int => 
impB ((0 : Int) ≤ n12) (
impB (n12 ≤ (18 : Int)) (
impB (sigCode.post
 [DV.n n6, DV.n n7, DV.n (0 : Int), DV.n (0 : Int), DV.n n4, DV.n n5]
 [DV.n n11, DV.n n12]) (
reqB ((-9223372036854775808 : Int) ≤ ((0 : Int) - ((1 : Int) + n8)) * n4) (
reqB (((0 : Int) - ((1 : Int) + n8)) * n4 ≤ (9223372036854775807 : Int)) (
reqB ((-9223372036854775808 : Int) ≤ ((0 : Int) - ((1 : Int) + n8)) * n5) (
reqB (((0 : Int) - ((1 : Int) + n8)) * n5 ≤ (9223372036854775807 : Int)) (
reqB ((-9223372036854775808 : Int) ≤ ((1 : Int) + n8) * n6) (
reqB (((1 : Int) + n8) * n6 ≤ (9223372036854775807 : Int)) (
reqB ((-9223372036854775808 : Int) ≤ ((1 : Int) + n8) * n7) (
reqB (((1 : Int) + n8) * n7 ≤ (9223372036854775807 : Int)) (
reqB (sigCode.pre
 [DV.n (((0 : Int) - ((1 : Int) + n8)) * n4), DV.n (((0 : Int) - ((1 : Int) + n8)) * n5),
 DV.n (0 : Int), DV.n (0 : Int), DV.n (((1 : Int) + n8) * n6), DV.n (((1 : Int) + n8) * n7)]) (
allB fun n13 : Int => 
impB ((-1024 : Int) ≤ n13) (
impB (n13 ≤ (1024 : Int)) (
allB fun n14 : Int => 
impB ((0 : Int) ≤ n14) (
impB (n14 ≤ (18 : Int)) (
impB (sigCode.post
 [DV.n (((0 : Int) - ((1 : Int) + n8)) * n4), DV.n (((0 : Int) - ((1 : Int) + n8)) * n5),
 DV.n (0 : Int), DV.n (0 : Int), DV.n (((1 : Int) + n8) * n6), DV.n (((1 : Int) + n8) * n7)]
 [DV.n n13, DV.n n14]) (
reqB ((-9223372036854775808 : Int) ≤ (0 : Int) - n5) (
reqB ((0 : Int) - n5 ≤ (9223372036854775807 : Int)) (
reqB ((-9223372036854775808 : Int) ≤ n4) (
reqB (n4 ≤ (9223372036854775807 : Int)) (
reqB ((-9223372036854775808 : Int) ≤ n4) (
reqB (n4 ≤ (9223372036854775807 : Int)) (
reqB ((-9223372036854775808 : Int) ≤ n5) (
reqB (n5 ≤ (9223372036854775807 : Int)) (
reqB ((-9223372036854775808 : Int) ≤ n6) (
reqB (n6 ≤ (9223372036854775807 : Int)) (
reqB ((-9223372036854775808 : Int) ≤ (0 : Int) - n7) (
reqB ((0 : Int) - n7 ≤ (9223372036854775807 : Int)) (
reqB (sigCode.pre
 [DV.n ((0 : Int) - n5), DV.n n4, DV.n n4, DV.n n5, DV.n n6, DV.n ((0 : Int) - n7)]) (
allB fun n15 : Int => 
impB ((-1024 : Int) ≤ n15) (
impB (n15 ≤ (1024 : Int)) (
allB fun n16 : Int => 
impB ((0 : Int) ≤ n16) (
impB (n16 ≤ (18 : Int)) (
impB (sigCode.post
 [DV.n ((0 : Int) - n5), DV.n n4, DV.n n4, DV.n n5, DV.n n6, DV.n ((0 : Int) - n7)]
 [DV.n n15, DV.n n16]) (
bR (b3) (
 bR (dec (n10 = (0 : Int))) (
 bR (dec (n12 = (0 : Int))) (
 bR (dec (n14 = (0 : Int))) (
 bR (dec (n16 = (0 : Int))) (
 bR (dec (n9 = (0 : Int) - n11)) (
 bR (dec (n13 = n9)) (
 bR (dec (n15 = n9)) (
 reqB (sigI3.post [DV.n n0, DV.n n1, DV.n n2] [DV.b Bool.true]) (
 true)) (
 reqB (sigI3.post [DV.n n0, DV.n n1, DV.n n2] [DV.b Bool.false]) (
 true))) (
 reqB (sigI3.post [DV.n n0, DV.n n1, DV.n n2] [DV.b Bool.false]) (
 true))) (
 reqB (sigI3.post [DV.n n0, DV.n n1, DV.n n2] [DV.b Bool.false]) (
 true))) (
 reqB (sigI3.post [DV.n n0, DV.n n1, DV.n n2] [DV.b Bool.false]) (
 true))) (
 reqB (sigI3.post [DV.n n0, DV.n n1, DV.n n2] [DV.b Bool.false]) (
 true))) (
 reqB (sigI3.post [DV.n n0, DV.n n1, DV.n n2] [DV.b Bool.false]) (
 true))) (
 reqB (sigI3.post [DV.n n0, DV.n n1, DV.n n2] [DV.b Bool.false]) (
 true))) (
 reqB (sigI3.post [DV.n n0, DV.n n1, DV.n n2] [DV.b Bool.false]) (
 true)))))))))))))))))))))))))))))))))))))))))))))))))))))))))))))))))))))))))))))))))))))))))))))) := by kernel_rfl
set_option maxHeartbeats 8000000 in
theorem vt_DiscrCode : vcFn Tryd.prog [(3, Ext.ctr (ctOfG gl11 sigTrue0)), (28, Ext.ctr (ctOfG gl11 sigPick)), (27, Ext.ctr (ctOfG gl11 sigSum)), (9, Ext.ctr (ctOfG gl11 sigCode))] noA gl11 100 6 sigI3 = true := by
  rw [vc_DiscrCode]
  try simp only [Int.toNat_natCast, List.length_set, List.length_replicate, List.length_take, List.length_drop, List.length_append, List.length_cons, List.length_nil, Nat.min_self, List.take_take, lenCols_i, lenCols_b, List.drop_zero, List.take_length, Nat.add_eq, Nat.mul_eq, Nat.sub_eq, Nat.zero_add, Nat.sub_zero, Nat.mul_one]
  refine all_i fun n0 => ?_
  refine imp_i fun h0 => ?_
  refine imp_i fun h1 => ?_
  refine all_i fun n1 => ?_
  refine imp_i fun h2 => ?_
  refine imp_i fun h3 => ?_
  refine all_i fun n2 => ?_
  refine imp_i fun h4 => ?_
  refine imp_i fun h5 => ?_
  refine imp_i fun h6 => ?_
  try simp only [sigI3, List.cons.injEq, DV.b.injEq, and_true, List.length_cons, List.length_nil] at h6
  refine req_i ?_ ?_
  · -- r0
   first | omega | assumption | grind
  refine all_i fun b3 => ?_
  refine imp_i fun h7 => ?_
  try simp only [sigTrue0, List.cons.injEq, DV.b.injEq, and_true, List.length_cons, List.length_nil] at h7
  refine req_i ?_ ?_
  · -- r1
   first | omega | assumption | grind
  refine req_i ?_ ?_
  · -- r2
   first | omega | assumption | grind
  refine req_i ?_ ?_
  · -- r3
   first | trivial | assumption | (simp only [sigSum, sumPost, List.cons.injEq, DV.b.injEq, and_true, List.length_cons, List.length_nil]; done) | ((try simp only [sigSum, sumPost, List.cons.injEq, DV.b.injEq, and_true, List.length_cons, List.length_nil]); first | omega | assumption | grind)
  refine all_i fun n4 => ?_
  refine imp_i fun h8 => ?_
  refine imp_i fun h9 => ?_
  refine all_i fun n5 => ?_
  refine imp_i fun h10 => ?_
  refine imp_i fun h11 => ?_
  refine imp_i fun h12 => ?_
  try simp only [sigSum, sumPost, List.cons.injEq, DV.b.injEq, and_true, List.length_cons, List.length_nil] at h12
  refine req_i ?_ ?_
  · -- r4
   first | omega | assumption | grind
  refine req_i ?_ ?_
  · -- r5
   first | omega | assumption | grind
  refine req_i ?_ ?_
  · -- r6
   first | trivial | assumption | (simp only [sigSum, sumPost, List.cons.injEq, DV.b.injEq, and_true, List.length_cons, List.length_nil]; done) | ((try simp only [sigSum, sumPost, List.cons.injEq, DV.b.injEq, and_true, List.length_cons, List.length_nil]); first | omega | assumption | grind)
  refine all_i fun n6 => ?_
  refine imp_i fun h13 => ?_
  refine imp_i fun h14 => ?_
  refine all_i fun n7 => ?_
  refine imp_i fun h15 => ?_
  refine imp_i fun h16 => ?_
  refine imp_i fun h17 => ?_
  try simp only [sigSum, sumPost, List.cons.injEq, DV.b.injEq, and_true, List.length_cons, List.length_nil] at h17
  refine req_i ?_ ?_
  · -- r7
   first | omega | assumption | grind
  refine req_i ?_ ?_
  · -- r8
   first | omega | assumption | grind
  refine req_i ?_ ?_
  · -- r9
   first | trivial | assumption | (simp only [sigPick, pickPost, List.cons.injEq, DV.b.injEq, and_true, List.length_cons, List.length_nil]; done) | ((try simp only [sigPick, pickPost, List.cons.injEq, DV.b.injEq, and_true, List.length_cons, List.length_nil]); first | omega | assumption | grind)
  refine all_i fun n8 => ?_
  refine imp_i fun h18 => ?_
  refine imp_i fun h19 => ?_
  refine imp_i fun h20 => ?_
  try simp only [sigPick, pickPost, List.cons.injEq, DV.b.injEq, and_true, List.length_cons, List.length_nil] at h20
  have p0 := mul_abs (a := 0 - (1 + n8)) (b := n4) (A := 9) (B := 500) (by omega) (by omega) (by omega) (by omega)
  have p1 := mul_abs (a := 0 - (1 + n8)) (b := n5) (A := 9) (B := 500) (by omega) (by omega) (by omega) (by omega)
  have p2 := mul_abs (a := 1 + n8) (b := n6) (A := 9) (B := 500) (by omega) (by omega) (by omega) (by omega)
  have p3 := mul_abs (a := 1 + n8) (b := n7) (A := 9) (B := 500) (by omega) (by omega) (by omega) (by omega)
  refine req_i ?_ ?_
  · -- r10
   first | omega | assumption | grind
  refine req_i ?_ ?_
  · -- r11
   first | omega | assumption | grind
  refine req_i ?_ ?_
  · -- r12
   first | omega | assumption | grind
  refine req_i ?_ ?_
  · -- r13
   first | omega | assumption | grind
  refine req_i ?_ ?_
  · -- r14
   first | omega | assumption | grind
  refine req_i ?_ ?_
  · -- r15
   first | omega | assumption | grind
  refine req_i ?_ ?_
  · -- r16
   first | omega | assumption | grind
  refine req_i ?_ ?_
  · -- r17
   first | omega | assumption | grind
  refine req_i ?_ ?_
  · -- r18
   first | omega | ((try simp only [sigCode, codePost, insd, powr, List.cons.injEq, DV.b.injEq, and_true, List.length_cons, List.length_nil]); first | done | omega | assumption | grind [getD_set, getD_rep, toNat_succ, cntN_yes, cntN_no])
  refine all_i fun n9 => ?_
  refine imp_i fun h21 => ?_
  refine imp_i fun h22 => ?_
  refine all_i fun n10 => ?_
  refine imp_i fun h23 => ?_
  refine imp_i fun h24 => ?_
  refine imp_i fun h25 => ?_
  try simp only [Int.toNat_natCast, List.length_set, List.length_replicate, List.length_take, List.length_drop, List.length_append, List.length_cons, List.length_nil, Nat.min_self, List.take_take, lenCols_i, lenCols_b, List.drop_zero, List.take_length, Nat.add_eq, Nat.mul_eq, Nat.sub_eq, Nat.zero_add, Nat.sub_zero, Nat.mul_one] at h25
  have c1 := code_val h25 (by unfold insd; omega) (by unfold insd; omega) (by unfold insd; omega)
  refine req_i ?_ ?_
  · -- r19
   first | omega | assumption | grind
  refine req_i ?_ ?_
  · -- r20
   first | omega | assumption | grind
  refine req_i ?_ ?_
  · -- r21
   first | omega | assumption | grind
  refine req_i ?_ ?_
  · -- r22
   first | omega | assumption | grind
  refine req_i ?_ ?_
  · -- r23
   first | omega | assumption | grind
  refine req_i ?_ ?_
  · -- r24
   first | omega | assumption | grind
  refine req_i ?_ ?_
  · -- r25
   first | omega | assumption | grind
  refine req_i ?_ ?_
  · -- r26
   first | omega | assumption | grind
  refine req_i ?_ ?_
  · -- r27
   first | omega | ((try simp only [sigCode, codePost, insd, powr, List.cons.injEq, DV.b.injEq, and_true, List.length_cons, List.length_nil]); first | done | omega | assumption | grind [getD_set, getD_rep, toNat_succ, cntN_yes, cntN_no])
  refine all_i fun n11 => ?_
  refine imp_i fun h26 => ?_
  refine imp_i fun h27 => ?_
  refine all_i fun n12 => ?_
  refine imp_i fun h28 => ?_
  refine imp_i fun h29 => ?_
  refine imp_i fun h30 => ?_
  try simp only [Int.toNat_natCast, List.length_set, List.length_replicate, List.length_take, List.length_drop, List.length_append, List.length_cons, List.length_nil, Nat.min_self, List.take_take, lenCols_i, lenCols_b, List.drop_zero, List.take_length, Nat.add_eq, Nat.mul_eq, Nat.sub_eq, Nat.zero_add, Nat.sub_zero, Nat.mul_one] at h30
  have c2 := code_val h30 (by unfold insd; omega) (by unfold insd; omega) (by unfold insd; omega)
  refine req_i ?_ ?_
  · -- r28
   first | omega | assumption | grind
  refine req_i ?_ ?_
  · -- r29
   first | omega | assumption | grind
  refine req_i ?_ ?_
  · -- r30
   first | omega | assumption | grind
  refine req_i ?_ ?_
  · -- r31
   first | omega | assumption | grind
  refine req_i ?_ ?_
  · -- r32
   first | omega | assumption | grind
  refine req_i ?_ ?_
  · -- r33
   first | omega | assumption | grind
  refine req_i ?_ ?_
  · -- r34
   first | omega | assumption | grind
  refine req_i ?_ ?_
  · -- r35
   first | omega | assumption | grind
  refine req_i ?_ ?_
  · -- r36
   first | omega | ((try simp only [sigCode, codePost, insd, powr, List.cons.injEq, DV.b.injEq, and_true, List.length_cons, List.length_nil]); first | done | omega | assumption | grind [getD_set, getD_rep, toNat_succ, cntN_yes, cntN_no])
  refine all_i fun n13 => ?_
  refine imp_i fun h31 => ?_
  refine imp_i fun h32 => ?_
  refine all_i fun n14 => ?_
  refine imp_i fun h33 => ?_
  refine imp_i fun h34 => ?_
  refine imp_i fun h35 => ?_
  try simp only [Int.toNat_natCast, List.length_set, List.length_replicate, List.length_take, List.length_drop, List.length_append, List.length_cons, List.length_nil, Nat.min_self, List.take_take, lenCols_i, lenCols_b, List.drop_zero, List.take_length, Nat.add_eq, Nat.mul_eq, Nat.sub_eq, Nat.zero_add, Nat.sub_zero, Nat.mul_one] at h35
  have c3 := code_val h35 (by unfold insd; omega) (by unfold insd; omega) (by unfold insd; omega)
  refine req_i ?_ ?_
  · -- r37
   first | omega | assumption | grind
  refine req_i ?_ ?_
  · -- r38
   first | omega | assumption | grind
  refine req_i ?_ ?_
  · -- r39
   first | omega | assumption | grind
  refine req_i ?_ ?_
  · -- r40
   first | omega | assumption | grind
  refine req_i ?_ ?_
  · -- r41
   first | omega | assumption | grind
  refine req_i ?_ ?_
  · -- r42
   first | omega | assumption | grind
  refine req_i ?_ ?_
  · -- r43
   first | omega | assumption | grind
  refine req_i ?_ ?_
  · -- r44
   first | omega | assumption | grind
  refine req_i ?_ ?_
  · -- r45
   first | omega | assumption | grind
  refine req_i ?_ ?_
  · -- r46
   first | omega | assumption | grind
  refine req_i ?_ ?_
  · -- r47
   first | omega | assumption | grind
  refine req_i ?_ ?_
  · -- r48
   first | omega | assumption | grind
  refine req_i ?_ ?_
  · -- r49
   first | omega | ((try simp only [sigCode, codePost, insd, powr, List.cons.injEq, DV.b.injEq, and_true, List.length_cons, List.length_nil]); first | done | omega | assumption | grind [getD_set, getD_rep, toNat_succ, cntN_yes, cntN_no])
  refine all_i fun n15 => ?_
  refine imp_i fun h36 => ?_
  refine imp_i fun h37 => ?_
  refine all_i fun n16 => ?_
  refine imp_i fun h38 => ?_
  refine imp_i fun h39 => ?_
  refine imp_i fun h40 => ?_
  try simp only [Int.toNat_natCast, List.length_set, List.length_replicate, List.length_take, List.length_drop, List.length_append, List.length_cons, List.length_nil, Nat.min_self, List.take_take, lenCols_i, lenCols_b, List.drop_zero, List.take_length, Nat.add_eq, Nat.mul_eq, Nat.sub_eq, Nat.zero_add, Nat.sub_zero, Nat.mul_one] at h40
  have c4 := code_val h40 (by unfold insd; omega) (by unfold insd; omega) (by unfold insd; omega)
  have cl := code_law (k := 1 + n8) (by omega) c1.2 c2.2 c3.2 c4.2
  refine bR_i (fun h41 => ?_) (fun h41 => ?_)
  ·
   refine bR_dec (fun h42 => ?_) (fun h42 => ?_)
   ·
    refine bR_dec (fun h43 => ?_) (fun h43 => ?_)
    ·
     refine bR_dec (fun h44 => ?_) (fun h44 => ?_)
     ·
      refine bR_dec (fun h45 => ?_) (fun h45 => ?_)
      ·
       refine bR_dec (fun h46 => ?_) (fun h46 => ?_)
       ·
        refine bR_dec (fun h47 => ?_) (fun h47 => ?_)
        ·
         refine bR_dec (fun h48 => ?_) (fun h48 => ?_)
         ·
          refine req_i ?_ ?_
          · -- r50
           first | omega | ((try simp only [sigI3, List.cons.injEq, DV.b.injEq, and_true, List.length_cons, List.length_nil]); first | done | omega | assumption | grind [getD_set, getD_rep, toNat_succ, cntN_yes, cntN_no])
          rfl
         ·
          refine req_i ?_ ?_
          · -- r51
           first | omega | ((try simp only [sigI3, List.cons.injEq, DV.b.injEq, and_true, List.length_cons, List.length_nil]); first | done | omega | assumption | grind [getD_set, getD_rep, toNat_succ, cntN_yes, cntN_no])
          rfl
        ·
         refine req_i ?_ ?_
         · -- r52
          first | omega | ((try simp only [sigI3, List.cons.injEq, DV.b.injEq, and_true, List.length_cons, List.length_nil]); first | done | omega | assumption | grind [getD_set, getD_rep, toNat_succ, cntN_yes, cntN_no])
         rfl
       ·
        refine req_i ?_ ?_
        · -- r53
         first | omega | ((try simp only [sigI3, List.cons.injEq, DV.b.injEq, and_true, List.length_cons, List.length_nil]); first | done | omega | assumption | grind [getD_set, getD_rep, toNat_succ, cntN_yes, cntN_no])
        rfl
      ·
       refine req_i ?_ ?_
       · -- r54
        first | omega | ((try simp only [sigI3, List.cons.injEq, DV.b.injEq, and_true, List.length_cons, List.length_nil]); first | done | omega | assumption | grind [getD_set, getD_rep, toNat_succ, cntN_yes, cntN_no])
       rfl
     ·
      refine req_i ?_ ?_
      · -- r55
       first | omega | ((try simp only [sigI3, List.cons.injEq, DV.b.injEq, and_true, List.length_cons, List.length_nil]); first | done | omega | assumption | grind [getD_set, getD_rep, toNat_succ, cntN_yes, cntN_no])
      rfl
    ·
     refine req_i ?_ ?_
     · -- r56
      first | omega | ((try simp only [sigI3, List.cons.injEq, DV.b.injEq, and_true, List.length_cons, List.length_nil]); first | done | omega | assumption | grind [getD_set, getD_rep, toNat_succ, cntN_yes, cntN_no])
     rfl
   ·
    refine req_i ?_ ?_
    · -- r57
     first | omega | ((try simp only [sigI3, List.cons.injEq, DV.b.injEq, and_true, List.length_cons, List.length_nil]); first | done | omega | assumption | grind [getD_set, getD_rep, toNat_succ, cntN_yes, cntN_no])
    rfl
  ·
   refine req_i ?_ ?_
   · -- r58
    first | omega | ((try simp only [sigI3, List.cons.injEq, DV.b.injEq, and_true, List.length_cons, List.length_nil]); first | done | omega | assumption | grind [getD_set, getD_rep, toNat_succ, cntN_yes, cntN_no])
   rfl
theorem ext_DiscrCode : ∀ p ∈ ([(3, Ext.ctr (ctOfG gl11 sigTrue0)), (28, Ext.ctr (ctOfG gl11 sigPick)), (27, Ext.ctr (ctOfG gl11 sigSum)), (9, Ext.ctr (ctOfG gl11 sigCode))] : List (Nat × Ext)), ExtRow Tryd.prog p.1 p.2 := by
  intro p hp
  simp only [List.mem_cons, List.not_mem_nil, or_false] at hp
  rcases hp with rfl | rfl | rfl | rfl
  · trivial
  · trivial
  · trivial
  · trivial
theorem cts_DiscrCode : CtsOk Tryd.prog [(3, Ext.ctr (ctOfG gl11 sigTrue0)), (28, Ext.ctr (ctOfG gl11 sigPick)), (27, Ext.ctr (ctOfG gl11 sigSum)), (9, Ext.ctr (ctOfG gl11 sigCode))] := ctsOk_ofG (cs := [(3, sigTrue0), (28, sigPick), (27, sigSum), (9, sigCode)])
  (fun p hp => by
    simp only [List.mem_cons, List.not_mem_nil, or_false] at hp
    rcases hp with rfl | rfl | rfl | rfl
    · exact fn_known
    · exact fn_pick
    · exact fn_sum
    · exact fn_Code
)
  (fun f c h => by
    simp only [List.lookup_cons] at h
    repeat' split at h
    all_goals first | (cases h; done) | (rename_i e; have e := beq_iff_eq.1 e; subst e; cases h; refine ⟨_, ?_, rfl⟩; simp))
theorem fn_DiscrCode : FnOk Tryd.prog 6 sigI3 gl11 := fn_sound (by kernel_rfl) ext_DiscrCode cts_DiscrCode names vt_DiscrCode
end Go.Proofs.YtofeleohcpaclaaDoor

