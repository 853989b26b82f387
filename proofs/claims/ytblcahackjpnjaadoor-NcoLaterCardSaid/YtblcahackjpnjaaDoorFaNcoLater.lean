import Derived.Test.YtblcahackjpnjaaDoorSpec11e
import Derived.Test.YtblcahackjpnjaaDoorRows
import Derived.Test.YtblcahackjpnjaaDoorFnames
namespace Go.Proofs.YtblcahackjpnjaaDoor
open Go.Ev Go.Sp
set_option maxRecDepth 100000
theorem vc_known : vcFn Tryd.prog [] noA gl11 5000 3 sigTrue0 = (impB (sigTrue0.pre []) (
reqB (sigTrue0.post [] [DV.b (eqI (2 : Int) (2 : Int))]) (
true))) := by kernel_rfl
set_option maxHeartbeats 8000000 in
theorem vt_known : vcFn Tryd.prog [] noA gl11 5000 3 sigTrue0 = true := by
  rw [vc_known]
  try simp only [bR_same, dec_same, bR_true, bR_false]
  simp only [allB_iff, impB_iff, reqB_iff, bR_iff, bR_iff_f, dec_iff, dec_f, reduceCtorEq, imp_false, Classical.not_not, implies_true, true_and, and_true]
  intro _
  first | rfl | trivial | simp [sigTrue0]
theorem ext_known : ∀ p ∈ ([] : List (Nat × Ext)), ExtRow Tryd.prog p.1 p.2 := by
  intro p hp
  cases hp
theorem cts_known : CtsOk Tryd.prog [] := fun f c h => by cases h
theorem fn_known : FnOk Tryd.prog 3 sigTrue0 gl11 := fn_sound (by kernel_rfl) ext_known cts_known names vt_known
end Go.Proofs.YtblcahackjpnjaaDoor

namespace Go.Proofs.YtblcahackjpnjaaDoor
open Go.Ev Go.Sp
set_option maxRecDepth 100000
theorem vc_pick : vcFn Tryd.prog [] noA gl11 100 28 sigPick = (allB fun n0 : Int => 
impB ((-9223372036854775808 : Int) ≤ n0) (
impB (n0 ≤ (9223372036854775807 : Int)) (
allB fun n1 : Int => 
impB ((1 : Int) ≤ n1) (
impB (n1 ≤ (4503599627370496 : Int)) (
impB (sigPick.pre [DV.n n0, DV.n n1]) (
bR (dec (n0.tmod n1 < (0 : Int))) (
 reqB ((0 : Int) ≤ n0.tmod n1 + n1) (
 reqB (n0.tmod n1 + n1 ≤ (4503599627370496 : Int)) (
 reqB (sigPick.post [DV.n n0, DV.n n1] [DV.n (n0.tmod n1 + n1)]) (
 true)))) (
 reqB ((0 : Int) ≤ n0.tmod n1) (
 reqB (n0.tmod n1 ≤ (4503599627370496 : Int)) (
 reqB (sigPick.post [DV.n n0, DV.n n1] [DV.n (n0.tmod n1)]) (
 true)))))))))) := by kernel_rfl
set_option maxHeartbeats 8000000 in
theorem vt_pick : vcFn Tryd.prog [] noA gl11 100 28 sigPick = true := by
  rw [vc_pick]
  try simp only [Int.toNat_natCast, List.length_set, List.length_replicate, List.length_take, List.length_drop, List.length_append, List.length_cons, List.length_nil, Nat.min_self, List.take_take, lenCols_i, lenCols_b, List.drop_zero, List.take_length, Nat.add_eq, Nat.mul_eq, Nat.sub_eq, Nat.zero_add, Nat.sub_zero, Nat.mul_one]
  refine all_i fun n0 => ?_
  refine imp_i fun h0 => ?_
  refine imp_i fun h1 => ?_
  refine all_i fun n1 => ?_
  refine imp_i fun h2 => ?_
  refine imp_i fun h3 => ?_
  refine imp_i fun h4 => ?_
  try simp only [sigPick, pickPost, List.cons.injEq, DV.b.injEq, and_true, List.length_cons, List.length_nil] at h4
  have t := tmod_of (x := n0) (n := n1) (by omega)
  refine bR_dec (fun h5 => ?_) (fun h5 => ?_)
  ·
   refine req_i ?_ ?_
   · -- r0
    first | omega | assumption | grind
   refine req_i ?_ ?_
   · -- r1
    first | omega | assumption | grind
   refine req_i ?_ ?_
   · -- r2
    first | omega | ((try simp only [sigPick, pickPost, List.cons.injEq, DV.b.injEq, and_true, List.length_cons, List.length_nil]); first | done | omega | assumption | grind [getD_set, getD_rep, toNat_succ, cntN_yes, cntN_no])
   rfl
  ·
   refine req_i ?_ ?_
   · -- r3
    first | omega | assumption | grind
   refine req_i ?_ ?_
   · -- r4
    first | omega | assumption | grind
   refine req_i ?_ ?_
   · -- r5
    first | omega | ((try simp only [sigPick, pickPost, List.cons.injEq, DV.b.injEq, and_true, List.length_cons, List.length_nil]); first | done | omega | assumption | grind [getD_set, getD_rep, toNat_succ, cntN_yes, cntN_no])
   rfl
theorem ext_pick : ∀ p ∈ ([] : List (Nat × Ext)), ExtRow Tryd.prog p.1 p.2 := by
  intro p hp
  cases hp
theorem cts_pick : CtsOk Tryd.prog [] := fun f c h => by cases h
theorem fn_pick : FnOk Tryd.prog 28 sigPick gl11 := fn_sound (by kernel_rfl) ext_pick cts_pick names vt_pick
end Go.Proofs.YtblcahackjpnjaaDoor

namespace Go.Proofs.YtblcahackjpnjaaDoor
open Go.Ev Go.Sp
set_option maxRecDepth 100000
theorem vc_adv : vcFn Tryd.prog [] noA gl11 100 46 sigAdv = (allB fun n0 : Int => 
impB ((0 : Int) ≤ n0) (
impB (n0 ≤ (4294967295 : Int)) (
allB fun n1 : Int => 
impB ((0 : Int) ≤ n1) (
impB (n1 ≤ (4294967295 : Int)) (
allB fun n2 : Int => 
impB ((-9223372036854775808 : Int) ≤ n2) (
impB (n2 ≤ (9223372036854775807 : Int)) (
impB (sigAdv.pre [DV.n n0, DV.n n1, DV.n n2]) (
allB fun n3 : Int => 
impB (n3 = Go.IntKind.u32.wrap n2) (
impB (Int.ofNat (0 : Nat) ≤ n3) (
impB (n3 ≤ Int.ofNat (4294967295 : Nat)) (
allB fun n4 : Int => 
impB (n4 = Go.IntKind.u32.wrap (n1 * n3)) (
impB (Int.ofNat (0 : Nat) ≤ n4) (
impB (n4 ≤ Int.ofNat (4294967295 : Nat)) (
allB fun n5 : Int => 
impB (n5 = Go.IntKind.u32.wrap (n0 + n4)) (
impB (Int.ofNat (0 : Nat) ≤ n5) (
impB (n5 ≤ Int.ofNat (4294967295 : Nat)) (
reqB ((0 : Int) ≤ n5) (
reqB (n5 ≤ (4294967295 : Int)) (
reqB (sigAdv.post [DV.n n0, DV.n n1, DV.n n2] [DV.n n5]) (
true)))))))))))))))))))) := by kernel_rfl
set_option maxHeartbeats 8000000 in
theorem vt_adv : vcFn Tryd.prog [] noA gl11 100 46 sigAdv = true := by
  rw [vc_adv]
  try simp only [Int.toNat_natCast, List.length_set, List.length_replicate, List.length_take, List.length_drop, List.length_append, List.length_cons, List.length_nil, Nat.min_self, List.take_take, lenCols_i, lenCols_b, List.drop_zero, List.take_length, Nat.add_eq, Nat.mul_eq, Nat.sub_eq, Nat.zero_add, Nat.sub_zero, Nat.mul_one]
  refine all_i fun n0 => ?_
  refine imp_i fun h0 => ?_
  refine imp_i fun h1 => ?_
  refine all_i fun n1 => ?_
  refine imp_i fun h2 => ?_
  refine imp_i fun h3 => ?_
  refine all_i fun n2 => ?_
  refine imp_i fun h4 => ?_
  refine imp_i fun h5 => ?_
  refine imp_i fun h6 => ?_
  try simp only [sigAdv, u32, advPost, adv, List.cons.injEq, DV.b.injEq, and_true, List.length_cons, List.length_nil] at h6
  refine all_i fun n3 => ?_
  refine imp_i fun h7 => ?_
  simp only [wrap_u32] at h7
  refine imp_i fun h8 => ?_
  refine imp_i fun h9 => ?_
  refine all_i fun n4 => ?_
  refine imp_i fun h10 => ?_
  simp only [wrap_u32] at h10
  refine imp_i fun h11 => ?_
  refine imp_i fun h12 => ?_
  refine all_i fun n5 => ?_
  refine imp_i fun h13 => ?_
  simp only [wrap_u32] at h13
  refine imp_i fun h14 => ?_
  refine imp_i fun h15 => ?_
  refine req_i ?_ ?_
  · -- r0
   first | omega | assumption | grind
  refine req_i ?_ ?_
  · -- r1
   first | omega | assumption | grind
  refine req_i ?_ ?_
  · -- r2
   show n5 = adv n0 n1 n2; rw [h13, h10, h7, adv_calc]
  rfl
theorem ext_adv : ∀ p ∈ ([] : List (Nat × Ext)), ExtRow Tryd.prog p.1 p.2 := by
  intro p hp
  cases hp
theorem cts_adv : CtsOk Tryd.prog [] := fun f c h => by cases h
theorem fn_adv : FnOk Tryd.prog 46 sigAdv gl11 := fn_sound (by kernel_rfl) ext_adv cts_adv names vt_adv
end Go.Proofs.YtblcahackjpnjaaDoor

namespace Go.Proofs.YtblcahackjpnjaaDoor
open Go.Ev Go.Sp
set_option maxRecDepth 100000
theorem vc_phase : vcFn Tryd.prog [(46, Ext.ctr (ctOfG gl11 sigAdv))] noA gl11 100 11 sigPhase = (allB fun n0 : Int => 
impB ((0 : Int) ≤ n0) (
impB (n0 ≤ (4294967295 : Int)) (
allB fun n1 : Int => 
impB ((0 : Int) ≤ n1) (
impB (n1 ≤ (4294967295 : Int)) (
allB fun n2 : Int => 
impB ((-9223372036854775808 : Int) ≤ n2) (
impB (n2 ≤ (9223372036854775807 : Int)) (
impB (sigPhase.pre [DV.n n0, DV.n n1, DV.n n2]) (
reqB ((0 : Int) ≤ n0) (
reqB (n0 ≤ (4294967295 : Int)) (
reqB ((0 : Int) ≤ n1) (
reqB (n1 ≤ (4294967295 : Int)) (
reqB ((-9223372036854775808 : Int) ≤ n2) (
reqB (n2 ≤ (9223372036854775807 : Int)) (
reqB (sigAdv.pre [DV.n n0, DV.n n1, DV.n n2]) (
allB fun n3 : Int => 
impB ((0 : Int) ≤ n3) (
impB (n3 ≤ (4294967295 : Int)) (
impB (sigAdv.post [DV.n n0, DV.n n1, DV.n n2] [DV.n n3]) (
reqB ((0 : Int) ≤ n3) (
reqB (n3 ≤ (4294967295 : Int)) (
reqB (sigPhase.post [DV.n n0, DV.n n1, DV.n n2] [DV.n n3]) (
true))))))))))))))))))))) := by kernel_rfl
set_option maxHeartbeats 8000000 in
theorem vt_phase : vcFn Tryd.prog [(46, Ext.ctr (ctOfG gl11 sigAdv))] noA gl11 100 11 sigPhase = true := by
  rw [vc_phase]
  try simp only [Int.toNat_natCast, List.length_set, List.length_replicate, List.length_take, List.length_drop, List.length_append, List.length_cons, List.length_nil, Nat.min_self, List.take_take, lenCols_i, lenCols_b, List.drop_zero, List.take_length, Nat.add_eq, Nat.mul_eq, Nat.sub_eq, Nat.zero_add, Nat.sub_zero, Nat.mul_one]
  refine all_i fun n0 => ?_
  refine imp_i fun h0 => ?_
  refine imp_i fun h1 => ?_
  refine all_i fun n1 => ?_
  refine imp_i fun h2 => ?_
  refine imp_i fun h3 => ?_
  refine all_i fun n2 => ?_
  refine imp_i fun h4 => ?_
  refine imp_i fun h5 => ?_
  refine imp_i fun h6 => ?_
  try simp only [sigPhase, u32, advPost, adv, List.cons.injEq, DV.b.injEq, and_true, List.length_cons, List.length_nil] at h6
  refine req_i ?_ ?_
  · -- r0
   first | omega | assumption | grind
  refine req_i ?_ ?_
  · -- r1
   first | omega | assumption | grind
  refine req_i ?_ ?_
  · -- r2
   first | omega | assumption | grind
  refine req_i ?_ ?_
  · -- r3
   first | omega | assumption | grind
  refine req_i ?_ ?_
  · -- r4
   first | omega | assumption | grind
  refine req_i ?_ ?_
  · -- r5
   first | omega | assumption | grind
  refine req_i ?_ ?_
  · -- r6
   first | trivial | assumption | (simp only [sigAdv, u32, advPost, adv, List.cons.injEq, DV.b.injEq, and_true, List.length_cons, List.length_nil]; done) | ((try simp only [sigAdv, u32, advPost, adv, List.cons.injEq, DV.b.injEq, and_true, List.length_cons, List.length_nil]); first | omega | assumption | grind)
  refine all_i fun n3 => ?_
  refine imp_i fun h7 => ?_
  refine imp_i fun h8 => ?_
  refine imp_i fun h9 => ?_
  try simp only [sigAdv, u32, advPost, adv, List.cons.injEq, DV.b.injEq, and_true, List.length_cons, List.length_nil] at h9
  refine req_i ?_ ?_
  · -- r7
   first | omega | assumption | grind
  refine req_i ?_ ?_
  · -- r8
   first | omega | assumption | grind
  refine req_i ?_ ?_
  · -- r9
   first | omega | ((try simp only [sigPhase, u32, advPost, adv, List.cons.injEq, DV.b.injEq, and_true, List.length_cons, List.length_nil]); first | done | omega | assumption | grind [getD_set, getD_rep, toNat_succ, cntN_yes, cntN_no])
  rfl
theorem ext_phase : ∀ p ∈ ([(46, Ext.ctr (ctOfG gl11 sigAdv))] : List (Nat × Ext)), ExtRow Tryd.prog p.1 p.2 := by
  intro p hp
  simp only [List.mem_cons, List.not_mem_nil, or_false] at hp
  rcases hp with rfl
  · trivial
theorem cts_phase : CtsOk Tryd.prog [(46, Ext.ctr (ctOfG gl11 sigAdv))] := ctsOk_ofG (cs := [(46, sigAdv)])
  (fun p hp => by
    simp only [List.mem_cons, List.not_mem_nil, or_false] at hp
    rcases hp with rfl
    · exact fn_adv
)
  (fun f c h => by
    simp only [List.lookup_cons] at h
    repeat' split at h
    all_goals first | (cases h; done) | (rename_i e; have e := beq_iff_eq.1 e; subst e; cases h; refine ⟨_, ?_, rfl⟩; simp))
theorem fn_phase : FnOk Tryd.prog 11 sigPhase gl11 := fn_sound (by kernel_rfl) ext_phase cts_phase names vt_phase
end Go.Proofs.YtblcahackjpnjaaDoor

namespace Go.Proofs.YtblcahackjpnjaaDoor
open Go.Ev Go.Sp
set_option maxRecDepth 100000
theorem vc_later : vcFn Tryd.prog [(11, Ext.ctr (ctOfG gl11 sigPhase))] noA gl11 100 23 sigLater = (allB fun n0 : Int => 
impB ((0 : Int) ≤ n0) (
impB (n0 ≤ (4294967295 : Int)) (
allB fun n1 : Int => 
impB ((0 : Int) ≤ n1) (
impB (n1 ≤ (4294967295 : Int)) (
allB fun n2 : Int => 
impB ((-9223372036854775808 : Int) ≤ n2) (
impB (n2 ≤ (9223372036854775807 : Int)) (
impB (sigLater.pre [DV.n n0, DV.n n1, DV.n n2]) (
reqB ((0 : Int) ≤ n0) (
reqB (n0 ≤ (4294967295 : Int)) (
reqB ((0 : Int) ≤ n1) (
reqB (n1 ≤ (4294967295 : Int)) (
reqB ((-9223372036854775808 : Int) ≤ n2) (
reqB (n2 ≤ (9223372036854775807 : Int)) (
reqB (sigPhase.pre [DV.n n0, DV.n n1, DV.n n2]) (
allB fun n3 : Int => 
impB ((0 : Int) ≤ n3) (
impB (n3 ≤ (4294967295 : Int)) (
impB (sigPhase.post [DV.n n0, DV.n n1, DV.n n2] [DV.n n3]) (
reqB ((0 : Int) ≤ n3) (
reqB (n3 ≤ (4294967295 : Int)) (
reqB ((0 : Int) ≤ n1) (
reqB (n1 ≤ (4294967295 : Int)) (
reqB (sigLater.post [DV.n n0, DV.n n1, DV.n n2] [DV.n n3, DV.n n1]) (
true))))))))))))))))))))))) := by kernel_rfl
set_option maxHeartbeats 8000000 in
theorem vt_later : vcFn Tryd.prog [(11, Ext.ctr (ctOfG gl11 sigPhase))] noA gl11 100 23 sigLater = true := by
  rw [vc_later]
  try simp only [Int.toNat_natCast, List.length_set, List.length_replicate, List.length_take, List.length_drop, List.length_append, List.length_cons, List.length_nil, Nat.min_self, List.take_take, lenCols_i, lenCols_b, List.drop_zero, List.take_length, Nat.add_eq, Nat.mul_eq, Nat.sub_eq, Nat.zero_add, Nat.sub_zero, Nat.mul_one]
  refine all_i fun n0 => ?_
  refine imp_i fun h0 => ?_
  refine imp_i fun h1 => ?_
  refine all_i fun n1 => ?_
  refine imp_i fun h2 => ?_
  refine imp_i fun h3 => ?_
  refine all_i fun n2 => ?_
  refine imp_i fun h4 => ?_
  refine imp_i fun h5 => ?_
  refine imp_i fun h6 => ?_
  try simp only [sigLater, u32, laterPost, adv, List.cons.injEq, DV.b.injEq, and_true, List.length_cons, List.length_nil] at h6
  refine req_i ?_ ?_
  · -- r0
   first | omega | assumption | grind
  refine req_i ?_ ?_
  · -- r1
   first | omega | assumption | grind
  refine req_i ?_ ?_
  · -- r2
   first | omega | assumption | grind
  refine req_i ?_ ?_
  · -- r3
   first | omega | assumption | grind
  refine req_i ?_ ?_
  · -- r4
   first | omega | assumption | grind
  refine req_i ?_ ?_
  · -- r5
   first | omega | assumption | grind
  refine req_i ?_ ?_
  · -- r6
   first | trivial | assumption | (simp only [sigPhase, u32, advPost, adv, List.cons.injEq, DV.b.injEq, and_true, List.length_cons, List.length_nil]; done) | ((try simp only [sigPhase, u32, advPost, adv, List.cons.injEq, DV.b.injEq, and_true, List.length_cons, List.length_nil]); first | omega | assumption | grind)
  refine all_i fun n3 => ?_
  refine imp_i fun h7 => ?_
  refine imp_i fun h8 => ?_
  refine imp_i fun h9 => ?_
  try simp only [sigPhase, u32, advPost, adv, List.cons.injEq, DV.b.injEq, and_true, List.length_cons, List.length_nil] at h9
  refine req_i ?_ ?_
  · -- r7
   first | omega | assumption | grind
  refine req_i ?_ ?_
  · -- r8
   first | omega | assumption | grind
  refine req_i ?_ ?_
  · -- r9
   first | omega | assumption | grind
  refine req_i ?_ ?_
  · -- r10
   first | omega | assumption | grind
  refine req_i ?_ ?_
  · -- r11
   first | omega | ((try simp only [sigLater, u32, laterPost, adv, List.cons.injEq, DV.b.injEq, and_true, List.length_cons, List.length_nil]); first | done | omega | assumption | grind [getD_set, getD_rep, toNat_succ, cntN_yes, cntN_no])
  rfl
theorem ext_later : ∀ p ∈ ([(11, Ext.ctr (ctOfG gl11 sigPhase))] : List (Nat × Ext)), ExtRow Tryd.prog p.1 p.2 := by
  intro p hp
  simp only [List.mem_cons, List.not_mem_nil, or_false] at hp
  rcases hp with rfl
  · trivial
theorem cts_later : CtsOk Tryd.prog [(11, Ext.ctr (ctOfG gl11 sigPhase))] := ctsOk_ofG (cs := [(11, sigPhase)])
  (fun p hp => by
    simp only [List.mem_cons, List.not_mem_nil, or_false] at hp
    rcases hp with rfl
    · exact fn_phase
)
  (fun f c h => by
    simp only [List.lookup_cons] at h
    repeat' split at h
    all_goals first | (cases h; done) | (rename_i e; have e := beq_iff_eq.1 e; subst e; cases h; refine ⟨_, ?_, rfl⟩; simp))
theorem fn_later : FnOk Tryd.prog 23 sigLater gl11 := fn_sound (by kernel_rfl) ext_later cts_later names vt_later
end Go.Proofs.YtblcahackjpnjaaDoor

namespace Go.Proofs.YtblcahackjpnjaaDoor
open Go.Ev Go.Sp
set_option maxRecDepth 100000
theorem vc_del : vcFn Tryd.prog [] noA gl11 100 33 sigDel = (allB fun n0 : Int => 
impB ((0 : Int) ≤ n0) (
impB (n0 ≤ (4294967295 : Int)) (
allB fun n1 : Int => 
impB ((0 : Int) ≤ n1) (
impB (n1 ≤ (4294967295 : Int)) (
impB (sigDel.pre [DV.n n0, DV.n n1]) (
allB fun n2 : Int => 
impB (n2 = Go.IntKind.u32.wrap (n0 - n1)) (
impB (Int.ofNat (0 : Nat) ≤ n2) (
impB (n2 ≤ Int.ofNat (4294967295 : Nat)) (
allB fun n3 : Int => 
impB (n3 = Go.IntKind.i32.wrap n2) (
impB (Int.negSucc (2147483647 : Nat) ≤ n3) (
impB (n3 ≤ Int.ofNat (2147483647 : Nat)) (
reqB ((-2147483648 : Int) ≤ n3) (
reqB (n3 ≤ (2147483647 : Int)) (
reqB (sigDel.post [DV.n n0, DV.n n1] [DV.n n3]) (
true))))))))))))))) := by kernel_rfl
set_option maxHeartbeats 8000000 in
theorem vt_del : vcFn Tryd.prog [] noA gl11 100 33 sigDel = true := by
  rw [vc_del]
  try simp only [Int.toNat_natCast, List.length_set, List.length_replicate, List.length_take, List.length_drop, List.length_append, List.length_cons, List.length_nil, Nat.min_self, List.take_take, lenCols_i, lenCols_b, List.drop_zero, List.take_length, Nat.add_eq, Nat.mul_eq, Nat.sub_eq, Nat.zero_add, Nat.sub_zero, Nat.mul_one]
  refine all_i fun n0 => ?_
  refine imp_i fun h0 => ?_
  refine imp_i fun h1 => ?_
  refine all_i fun n1 => ?_
  refine imp_i fun h2 => ?_
  refine imp_i fun h3 => ?_
  refine imp_i fun h4 => ?_
  try simp only [sigDel, u32, i32c, delPost, del, List.cons.injEq, DV.b.injEq, and_true, List.length_cons, List.length_nil] at h4
  refine all_i fun n2 => ?_
  refine imp_i fun h5 => ?_
  simp only [wrap_u32] at h5
  refine imp_i fun h6 => ?_
  refine imp_i fun h7 => ?_
  refine all_i fun n3 => ?_
  refine imp_i fun h8 => ?_
  simp only [wrap_i32] at h8
  refine imp_i fun h9 => ?_
  refine imp_i fun h10 => ?_
  refine req_i ?_ ?_
  · -- r0
   first | omega | assumption | grind
  refine req_i ?_ ?_
  · -- r1
   first | omega | assumption | grind
  refine req_i ?_ ?_
  · -- r2
   first | omega | ((try simp only [sigDel, u32, i32c, delPost, del, List.cons.injEq, DV.b.injEq, and_true, List.length_cons, List.length_nil]); first | done | omega | assumption | grind [getD_set, getD_rep, toNat_succ, cntN_yes, cntN_no])
  rfl
theorem ext_del : ∀ p ∈ ([] : List (Nat × Ext)), ExtRow Tryd.prog p.1 p.2 := by
  intro p hp
  cases hp
theorem cts_del : CtsOk Tryd.prog [] := fun f c h => by cases h
theorem fn_del : FnOk Tryd.prog 33 sigDel gl11 := fn_sound (by kernel_rfl) ext_del cts_del names vt_del
end Go.Proofs.YtblcahackjpnjaaDoor

namespace Go.Proofs.YtblcahackjpnjaaDoor
open Go.Ev Go.Sp
set_option maxRecDepth 100000
theorem vc_apart : vcFn Tryd.prog [(11, Ext.ctr (ctOfG gl11 sigPhase)), (33, Ext.ctr (ctOfG gl11 sigDel))] noA gl11 100 12 sigApart = (allB fun n0 : Int => 
impB ((0 : Int) ≤ n0) (
impB (n0 ≤ (4294967295 : Int)) (
allB fun n1 : Int => 
impB ((0 : Int) ≤ n1) (
impB (n1 ≤ (4294967295 : Int)) (
allB fun n2 : Int => 
impB ((0 : Int) ≤ n2) (
impB (n2 ≤ (4294967295 : Int)) (
allB fun n3 : Int => 
impB ((0 : Int) ≤ n3) (
impB (n3 ≤ (4294967295 : Int)) (
allB fun n4 : Int => 
impB ((-9223372036854775808 : Int) ≤ n4) (
impB (n4 ≤ (9223372036854775807 : Int)) (
impB (sigApart.pre [DV.n n0, DV.n n1, DV.n n2, DV.n n3, DV.n n4]) (
reqB ((0 : Int) ≤ n0) (
reqB (n0 ≤ (4294967295 : Int)) (
reqB ((0 : Int) ≤ n1) (
reqB (n1 ≤ (4294967295 : Int)) (
reqB ((-9223372036854775808 : Int) ≤ n4) (
reqB (n4 ≤ (9223372036854775807 : Int)) (
reqB (sigPhase.pre [DV.n n0, DV.n n1, DV.n n4]) (
allB fun n5 : Int => 
impB ((0 : Int) ≤ n5) (
impB (n5 ≤ (4294967295 : Int)) (
impB (sigPhase.post [DV.n n0, DV.n n1, DV.n n4] [DV.n n5]) (
reqB ((0 : Int) ≤ n2) (
reqB (n2 ≤ (4294967295 : Int)) (
reqB ((0 : Int) ≤ n3) (
reqB (n3 ≤ (4294967295 : Int)) (
reqB ((-9223372036854775808 : Int) ≤ n4) (
reqB (n4 ≤ (9223372036854775807 : Int)) (
reqB (sigPhase.pre [DV.n n2, DV.n n3, DV.n n4]) (
allB fun n6 : Int => 
impB ((0 : Int) ≤ n6) (
impB (n6 ≤ (4294967295 : Int)) (
impB (sigPhase.post [DV.n n2, DV.n n3, DV.n n4] [DV.n n6]) (
reqB ((0 : Int) ≤ n5) (
reqB (n5 ≤ (4294967295 : Int)) (
reqB ((0 : Int) ≤ n6) (
reqB (n6 ≤ (4294967295 : Int)) (
reqB (sigDel.pre [DV.n n5, DV.n n6]) (
allB fun n7 : Int => 
impB ((-2147483648 : Int) ≤ n7) (
impB (n7 ≤ (2147483647 : Int)) (
impB (sigDel.post [DV.n n5, DV.n n6] [DV.n n7]) (
reqB ((-2147483648 : Int) ≤ n7) (
reqB (n7 ≤ (2147483647 : Int)) (
reqB (sigApart.post [DV.n n0, DV.n n1, DV.n n2, DV.n n3, DV.n n4] [DV.n n7]) (
true))))))))))))))))))))))))))))))))))))))))))) := by kernel_rfl
set_option maxHeartbeats 8000000 in
theorem vt_apart : vcFn Tryd.prog [(11, Ext.ctr (ctOfG gl11 sigPhase)), (33, Ext.ctr (ctOfG gl11 sigDel))] noA gl11 100 12 sigApart = true := by
  rw [vc_apart]
  try simp only [Int.toNat_natCast, List.length_set, List.length_replicate, List.length_take, List.length_drop, List.length_append, List.length_cons, List.length_nil, Nat.min_self, List.take_take, lenCols_i, lenCols_b, List.drop_zero, List.take_length, Nat.add_eq, Nat.mul_eq, Nat.sub_eq, Nat.zero_add, Nat.sub_zero, Nat.mul_one]
  refine all_i fun n0 => ?_
  refine imp_i fun h0 => ?_
  refine imp_i fun h1 => ?_
  refine all_i fun n1 => ?_
  refine imp_i fun h2 => ?_
  refine imp_i fun h3 => ?_
  refine all_i fun n2 => ?_
  refine imp_i fun h4 => ?_
  refine imp_i fun h5 => ?_
  refine all_i fun n3 => ?_
  refine imp_i fun h6 => ?_
  refine imp_i fun h7 => ?_
  refine all_i fun n4 => ?_
  refine imp_i fun h8 => ?_
  refine imp_i fun h9 => ?_
  refine imp_i fun h10 => ?_
  try simp only [sigApart, u32, i32c, apartPost, del, adv, List.cons.injEq, DV.b.injEq, and_true, List.length_cons, List.length_nil] at h10
  refine req_i ?_ ?_
  · -- r0
   first | omega | assumption | grind
  refine req_i ?_ ?_
  · -- r1
   first | omega | assumption | grind
  refine req_i ?_ ?_
  · -- r2
   first | omega | assumption | grind
  refine req_i ?_ ?_
  · -- r3
   first | omega | assumption | grind
  refine req_i ?_ ?_
  · -- r4
   first | omega | assumption | grind
  refine req_i ?_ ?_
  · -- r5
   first | omega | assumption | grind
  refine req_i ?_ ?_
  · -- r6
   first | trivial | assumption | (simp only [sigPhase, u32, advPost, adv, List.cons.injEq, DV.b.injEq, and_true, List.length_cons, List.length_nil]; done) | ((try simp only [sigPhase, u32, advPost, adv, List.cons.injEq, DV.b.injEq, and_true, List.length_cons, List.length_nil]); first | omega | assumption | grind)
  refine all_i fun n5 => ?_
  refine imp_i fun h11 => ?_
  refine imp_i fun h12 => ?_
  refine imp_i fun h13 => ?_
  try simp only [sigPhase, u32, advPost, adv, List.cons.injEq, DV.b.injEq, and_true, List.length_cons, List.length_nil] at h13
  refine req_i ?_ ?_
  · -- r7
   first | omega | assumption | grind
  refine req_i ?_ ?_
  · -- r8
   first | omega | assumption | grind
  refine req_i ?_ ?_
  · -- r9
   first | omega | assumption | grind
  refine req_i ?_ ?_
  · -- r10
   first | omega | assumption | grind
  refine req_i ?_ ?_
  · -- r11
   first | omega | assumption | grind
  refine req_i ?_ ?_
  · -- r12
   first | omega | assumption | grind
  refine req_i ?_ ?_
  · -- r13
   first | trivial | assumption | (simp only [sigPhase, u32, advPost, adv, List.cons.injEq, DV.b.injEq, and_true, List.length_cons, List.length_nil]; done) | ((try simp only [sigPhase, u32, advPost, adv, List.cons.injEq, DV.b.injEq, and_true, List.length_cons, List.length_nil]); first | omega | assumption | grind)
  refine all_i fun n6 => ?_
  refine imp_i fun h14 => ?_
  refine imp_i fun h15 => ?_
  refine imp_i fun h16 => ?_
  try simp only [sigPhase, u32, advPost, adv, List.cons.injEq, DV.b.injEq, and_true, List.length_cons, List.length_nil] at h16
  refine req_i ?_ ?_
  · -- r14
   first | omega | assumption | grind
  refine req_i ?_ ?_
  · -- r15
   first | omega | assumption | grind
  refine req_i ?_ ?_
  · -- r16
   first | omega | assumption | grind
  refine req_i ?_ ?_
  · -- r17
   first | omega | assumption | grind
  refine req_i ?_ ?_
  · -- r18
   first | trivial | assumption | (simp only [sigDel, u32, i32c, delPost, del, List.cons.injEq, DV.b.injEq, and_true, List.length_cons, List.length_nil]; done) | ((try simp only [sigDel, u32, i32c, delPost, del, List.cons.injEq, DV.b.injEq, and_true, List.length_cons, List.length_nil]); first | omega | assumption | grind)
  refine all_i fun n7 => ?_
  refine imp_i fun h17 => ?_
  refine imp_i fun h18 => ?_
  refine imp_i fun h19 => ?_
  try simp only [sigDel, u32, i32c, delPost, del, List.cons.injEq, DV.b.injEq, and_true, List.length_cons, List.length_nil] at h19
  refine req_i ?_ ?_
  · -- r19
   first | omega | assumption | grind
  refine req_i ?_ ?_
  · -- r20
   first | omega | assumption | grind
  refine req_i ?_ ?_
  · -- r21
   first | omega | ((try simp only [sigApart, u32, i32c, apartPost, del, adv, List.cons.injEq, DV.b.injEq, and_true, List.length_cons, List.length_nil]); first | done | omega | assumption | grind [getD_set, getD_rep, toNat_succ, cntN_yes, cntN_no])
  rfl
theorem ext_apart : ∀ p ∈ ([(11, Ext.ctr (ctOfG gl11 sigPhase)), (33, Ext.ctr (ctOfG gl11 sigDel))] : List (Nat × Ext)), ExtRow Tryd.prog p.1 p.2 := by
  intro p hp
  simp only [List.mem_cons, List.not_mem_nil, or_false] at hp
  rcases hp with rfl | rfl
  · trivial
  · trivial
theorem cts_apart : CtsOk Tryd.prog [(11, Ext.ctr (ctOfG gl11 sigPhase)), (33, Ext.ctr (ctOfG gl11 sigDel))] := ctsOk_ofG (cs := [(11, sigPhase), (33, sigDel)])
  (fun p hp => by
    simp only [List.mem_cons, List.not_mem_nil, or_false] at hp
    rcases hp with rfl | rfl
    · exact fn_phase
    · exact fn_del
)
  (fun f c h => by
    simp only [List.lookup_cons] at h
    repeat' split at h
    all_goals first | (cases h; done) | (rename_i e; have e := beq_iff_eq.1 e; subst e; cases h; refine ⟨_, ?_, rfl⟩; simp))
theorem fn_apart : FnOk Tryd.prog 12 sigApart gl11 := fn_sound (by kernel_rfl) ext_apart cts_apart names vt_apart
end Go.Proofs.YtblcahackjpnjaaDoor

namespace Go.Proofs.YtblcahackjpnjaaDoor
open Go.Ev Go.Sp
set_option maxRecDepth 100000
theorem vc_entry : vcFn Tryd.prog [] noA gl11 100 49 sigEnt = (allB fun n0 : Int => 
impB ((-2 : Int) ≤ n0) (
impB (n0 ≤ (70 : Int)) (
impB (sigEnt.pre [DV.n n0]) (
reqB ((n0 % Int.ofNat (16 : Nat)).toNat < (17 : Nat)) (
reqB (Nat.add (0 : Nat) (n0 % Int.ofNat (16 : Nat)).toNat <
 [(127 : Int), (126 : Int), (125 : Int), (122 : Int), (117 : Int), (112 : Int), (106 : Int), (98 : Int), (90 : Int),
 (81 : Int), (71 : Int), (60 : Int), (49 : Int), (37 : Int), (25 : Int), (12 : Int), (0 : Int)].length) (
reqB (((16 : Int) - n0 % Int.ofNat (16 : Nat)).toNat < (17 : Nat)) (
reqB (Nat.add (0 : Nat) ((16 : Int) - n0 % Int.ofNat (16 : Nat)).toNat <
 [(127 : Int), (126 : Int), (125 : Int), (122 : Int), (117 : Int), (112 : Int), (106 : Int), (98 : Int), (90 : Int),
 (81 : Int), (71 : Int), (60 : Int), (49 : Int), (37 : Int), (25 : Int), (12 : Int), (0 : Int)].length) (
bR (dec (n0 / Int.ofNat (16 : Nat) % Int.ofNat (4 : Nat) = (1 : Int))) (
 reqB ((-127 : Int) ≤
 (0 : Int) -
 [(127 : Int), (126 : Int), (125 : Int), (122 : Int), (117 : Int), (112 : Int), (106 : Int), (98 : Int), (90 : Int),
 (81 : Int), (71 : Int), (60 : Int), (49 : Int), (37 : Int), (25 : Int), (12 : Int), (0 : Int)].getD
 (Nat.add (0 : Nat) ((16 : Int) - n0 % Int.ofNat (16 : Nat)).toNat) (0 : Int)) (
 reqB ((0 : Int) -
 [(127 : Int), (126 : Int), (125 : Int), (122 : Int), (117 : Int), (112 : Int), (106 : Int), (98 : Int), (90 : Int),
 (81 : Int), (71 : Int), (60 : Int), (49 : Int), (37 : Int), (25 : Int), (12 : Int), (0 : Int)].getD
 (Nat.add (0 : Nat) ((16 : Int) - n0 % Int.ofNat (16 : Nat)).toNat) (0 : Int) ≤
 (127 : Int)) (
 reqB ((-127 : Int) ≤
 [(127 : Int), (126 : Int), (125 : Int), (122 : Int), (117 : Int), (112 : Int), (106 : Int), (98 : Int), (90 : Int),
 (81 : Int), (71 : Int), (60 : Int), (49 : Int), (37 : Int), (25 : Int), (12 : Int), (0 : Int)].getD
 (Nat.add (0 : Nat) (n0 % Int.ofNat (16 : Nat)).toNat) (0 : Int)) (
 reqB ([(127 : Int), (126 : Int), (125 : Int), (122 : Int), (117 : Int), (112 : Int), (106 : Int), (98 : Int), (90 : Int),
 (81 : Int), (71 : Int), (60 : Int), (49 : Int), (37 : Int), (25 : Int), (12 : Int), (0 : Int)].getD
 (Nat.add (0 : Nat) (n0 % Int.ofNat (16 : Nat)).toNat) (0 : Int) ≤
 (127 : Int)) (
 reqB (sigEnt.post [DV.n n0]
 [DV.n
 ((0 : Int) -
 [(127 : Int), (126 : Int), (125 : Int), (122 : Int), (117 : Int), (112 : Int), (106 : Int), (98 : Int),
 (90 : Int), (81 : Int), (71 : Int), (60 : Int), (49 : Int), (37 : Int), (25 : Int), (12 : Int),
 (0 : Int)].getD
 (Nat.add (0 : Nat) ((16 : Int) - n0 % Int.ofNat (16 : Nat)).toNat) (0 : Int)),
 DV.n
 ([(127 : Int), (126 : Int), (125 : Int), (122 : Int), (117 : Int), (112 : Int), (106 : Int), (98 : Int),
 (90 : Int), (81 : Int), (71 : Int), (60 : Int), (49 : Int), (37 : Int), (25 : Int), (12 : Int),
 (0 : Int)].getD
 (Nat.add (0 : Nat) (n0 % Int.ofNat (16 : Nat)).toNat) (0 : Int))]) (
 true)))))) (
 bR (dec (n0 / Int.ofNat (16 : Nat) % Int.ofNat (4 : Nat) = (2 : Int))) (
 reqB ((-127 : Int) ≤
 (0 : Int) -
 [(127 : Int), (126 : Int), (125 : Int), (122 : Int), (117 : Int), (112 : Int), (106 : Int), (98 : Int), (90 : Int),
 (81 : Int), (71 : Int), (60 : Int), (49 : Int), (37 : Int), (25 : Int), (12 : Int), (0 : Int)].getD
 (Nat.add (0 : Nat) (n0 % Int.ofNat (16 : Nat)).toNat) (0 : Int)) (
 reqB ((0 : Int) -
 [(127 : Int), (126 : Int), (125 : Int), (122 : Int), (117 : Int), (112 : Int), (106 : Int), (98 : Int), (90 : Int),
 (81 : Int), (71 : Int), (60 : Int), (49 : Int), (37 : Int), (25 : Int), (12 : Int), (0 : Int)].getD
 (Nat.add (0 : Nat) (n0 % Int.ofNat (16 : Nat)).toNat) (0 : Int) ≤
 (127 : Int)) (
 reqB ((-127 : Int) ≤
 (0 : Int) -
 [(127 : Int), (126 : Int), (125 : Int), (122 : Int), (117 : Int), (112 : Int), (106 : Int), (98 : Int), (90 : Int),
 (81 : Int), (71 : Int), (60 : Int), (49 : Int), (37 : Int), (25 : Int), (12 : Int), (0 : Int)].getD
 (Nat.add (0 : Nat) ((16 : Int) - n0 % Int.ofNat (16 : Nat)).toNat) (0 : Int)) (
 reqB ((0 : Int) -
 [(127 : Int), (126 : Int), (125 : Int), (122 : Int), (117 : Int), (112 : Int), (106 : Int), (98 : Int), (90 : Int),
 (81 : Int), (71 : Int), (60 : Int), (49 : Int), (37 : Int), (25 : Int), (12 : Int), (0 : Int)].getD
 (Nat.add (0 : Nat) ((16 : Int) - n0 % Int.ofNat (16 : Nat)).toNat) (0 : Int) ≤
 (127 : Int)) (
 reqB (sigEnt.post [DV.n n0]
 [DV.n
 ((0 : Int) -
 [(127 : Int), (126 : Int), (125 : Int), (122 : Int), (117 : Int), (112 : Int), (106 : Int), (98 : Int),
 (90 : Int), (81 : Int), (71 : Int), (60 : Int), (49 : Int), (37 : Int), (25 : Int), (12 : Int),
 (0 : Int)].getD
 (Nat.add (0 : Nat) (n0 % Int.ofNat (16 : Nat)).toNat) (0 : Int)),
 DV.n
 ((0 : Int) -
 [(127 : Int), (126 : Int), (125 : Int), (122 : Int), (117 : Int), (112 : Int), (106 : Int), (98 : Int),
 (90 : Int), (81 : Int), (71 : Int), (60 : Int), (49 : Int), (37 : Int), (25 : Int), (12 : Int),
 (0 : Int)].getD
 (Nat.add (0 : Nat) ((16 : Int) - n0 % Int.ofNat (16 : Nat)).toNat) (0 : Int))]) (
 true)))))) (
 bR (dec (n0 / Int.ofNat (16 : Nat) % Int.ofNat (4 : Nat) = (3 : Int))) (
 reqB ((-127 : Int) ≤
 [(127 : Int), (126 : Int), (125 : Int), (122 : Int), (117 : Int), (112 : Int), (106 : Int), (98 : Int), (90 : Int),
 (81 : Int), (71 : Int), (60 : Int), (49 : Int), (37 : Int), (25 : Int), (12 : Int), (0 : Int)].getD
 (Nat.add (0 : Nat) ((16 : Int) - n0 % Int.ofNat (16 : Nat)).toNat) (0 : Int)) (
 reqB ([(127 : Int), (126 : Int), (125 : Int), (122 : Int), (117 : Int), (112 : Int), (106 : Int), (98 : Int), (90 : Int),
 (81 : Int), (71 : Int), (60 : Int), (49 : Int), (37 : Int), (25 : Int), (12 : Int), (0 : Int)].getD
 (Nat.add (0 : Nat) ((16 : Int) - n0 % Int.ofNat (16 : Nat)).toNat) (0 : Int) ≤
 (127 : Int)) (
 reqB ((-127 : Int) ≤
 (0 : Int) -
 [(127 : Int), (126 : Int), (125 : Int), (122 : Int), (117 : Int), (112 : Int), (106 : Int), (98 : Int), (90 : Int),
 (81 : Int), (71 : Int), (60 : Int), (49 : Int), (37 : Int), (25 : Int), (12 : Int), (0 : Int)].getD
 (Nat.add (0 : Nat) (n0 % Int.ofNat (16 : Nat)).toNat) (0 : Int)) (
 reqB ((0 : Int) -
 [(127 : Int), (126 : Int), (125 : Int), (122 : Int), (117 : Int), (112 : Int), (106 : Int), (98 : Int), (90 : Int),
 (81 : Int), (71 : Int), (60 : Int), (49 : Int), (37 : Int), (25 : Int), (12 : Int), (0 : Int)].getD
 (Nat.add (0 : Nat) (n0 % Int.ofNat (16 : Nat)).toNat) (0 : Int) ≤
 (127 : Int)) (
 reqB (sigEnt.post [DV.n n0]
 [DV.n
 ([(127 : Int), (126 : Int), (125 : Int), (122 : Int), (117 : Int), (112 : Int), (106 : Int), (98 : Int),
 (90 : Int), (81 : Int), (71 : Int), (60 : Int), (49 : Int), (37 : Int), (25 : Int), (12 : Int),
 (0 : Int)].getD
 (Nat.add (0 : Nat) ((16 : Int) - n0 % Int.ofNat (16 : Nat)).toNat) (0 : Int)),
 DV.n
 ((0 : Int) -
 [(127 : Int), (126 : Int), (125 : Int), (122 : Int), (117 : Int), (112 : Int), (106 : Int), (98 : Int),
 (90 : Int), (81 : Int), (71 : Int), (60 : Int), (49 : Int), (37 : Int), (25 : Int), (12 : Int),
 (0 : Int)].getD
 (Nat.add (0 : Nat) (n0 % Int.ofNat (16 : Nat)).toNat) (0 : Int))]) (
 true)))))) (
 reqB ((-127 : Int) ≤
 [(127 : Int), (126 : Int), (125 : Int), (122 : Int), (117 : Int), (112 : Int), (106 : Int), (98 : Int), (90 : Int),
 (81 : Int), (71 : Int), (60 : Int), (49 : Int), (37 : Int), (25 : Int), (12 : Int), (0 : Int)].getD
 (Nat.add (0 : Nat) (n0 % Int.ofNat (16 : Nat)).toNat) (0 : Int)) (
 reqB ([(127 : Int), (126 : Int), (125 : Int), (122 : Int), (117 : Int), (112 : Int), (106 : Int), (98 : Int), (90 : Int),
 (81 : Int), (71 : Int), (60 : Int), (49 : Int), (37 : Int), (25 : Int), (12 : Int), (0 : Int)].getD
 (Nat.add (0 : Nat) (n0 % Int.ofNat (16 : Nat)).toNat) (0 : Int) ≤
 (127 : Int)) (
 reqB ((-127 : Int) ≤
 [(127 : Int), (126 : Int), (125 : Int), (122 : Int), (117 : Int), (112 : Int), (106 : Int), (98 : Int), (90 : Int),
 (81 : Int), (71 : Int), (60 : Int), (49 : Int), (37 : Int), (25 : Int), (12 : Int), (0 : Int)].getD
 (Nat.add (0 : Nat) ((16 : Int) - n0 % Int.ofNat (16 : Nat)).toNat) (0 : Int)) (
 reqB ([(127 : Int), (126 : Int), (125 : Int), (122 : Int), (117 : Int), (112 : Int), (106 : Int), (98 : Int), (90 : Int),
 (81 : Int), (71 : Int), (60 : Int), (49 : Int), (37 : Int), (25 : Int), (12 : Int), (0 : Int)].getD
 (Nat.add (0 : Nat) ((16 : Int) - n0 % Int.ofNat (16 : Nat)).toNat) (0 : Int) ≤
 (127 : Int)) (
 reqB (sigEnt.post [DV.n n0]
 [DV.n
 ([(127 : Int), (126 : Int), (125 : Int), (122 : Int), (117 : Int), (112 : Int), (106 : Int), (98 : Int),
 (90 : Int), (81 : Int), (71 : Int), (60 : Int), (49 : Int), (37 : Int), (25 : Int), (12 : Int),
 (0 : Int)].getD
 (Nat.add (0 : Nat) (n0 % Int.ofNat (16 : Nat)).toNat) (0 : Int)),
 DV.n
 ([(127 : Int), (126 : Int), (125 : Int), (122 : Int), (117 : Int), (112 : Int), (106 : Int), (98 : Int),
 (90 : Int), (81 : Int), (71 : Int), (60 : Int), (49 : Int), (37 : Int), (25 : Int), (12 : Int),
 (0 : Int)].getD
 (Nat.add (0 : Nat) ((16 : Int) - n0 % Int.ofNat (16 : Nat)).toNat) (0 : Int))]) (
 true)))))))))))))))) := by kernel_rfl
set_option maxHeartbeats 8000000 in
theorem vt_entry : vcFn Tryd.prog [] noA gl11 100 49 sigEnt = true := by
  rw [vc_entry]
  try simp only [Int.toNat_natCast, List.length_set, List.length_replicate, List.length_take, List.length_drop, List.length_append, List.length_cons, List.length_nil, Nat.min_self, List.take_take, lenCols_i, lenCols_b, List.drop_zero, List.take_length, Nat.add_eq, Nat.mul_eq, Nat.sub_eq, Nat.zero_add, Nat.sub_zero, Nat.mul_one]
  refine all_i fun n0 => ?_
  refine imp_i fun h0 => ?_
  refine imp_i fun h1 => ?_
  refine imp_i fun h2 => ?_
  try simp only [sigEnt, entPost, List.cons.injEq, DV.b.injEq, and_true, List.length_cons, List.length_nil] at h2
  refine req_i ?_ ?_
  · -- r0
   (try revert h3); (try revert h4); (try revert h5); (try revert h6); (try simp only [sigEnt, entPost]); (apply upto _ n0 h0 h1); decide +kernel
  refine req_i ?_ ?_
  · -- r1
   (try revert h3); (try revert h4); (try revert h5); (try revert h6); (try simp only [sigEnt, entPost]); (apply upto _ n0 h0 h1); decide +kernel
  refine req_i ?_ ?_
  · -- r2
   (try revert h3); (try revert h4); (try revert h5); (try revert h6); (try simp only [sigEnt, entPost]); (apply upto _ n0 h0 h1); decide +kernel
  refine req_i ?_ ?_
  · -- r3
   (try revert h3); (try revert h4); (try revert h5); (try revert h6); (try simp only [sigEnt, entPost]); (apply upto _ n0 h0 h1); decide +kernel
  refine bR_dec (fun h3 => ?_) (fun h3 => ?_)
  ·
   refine req_i ?_ ?_
   · -- r4
    (try revert h3); (try revert h4); (try revert h5); (try revert h6); (try simp only [sigEnt, entPost]); (apply upto _ n0 h0 h1); decide +kernel
   refine req_i ?_ ?_
   · -- r5
    (try revert h3); (try revert h4); (try revert h5); (try revert h6); (try simp only [sigEnt, entPost]); (apply upto _ n0 h0 h1); decide +kernel
   refine req_i ?_ ?_
   · -- r6
    (try revert h3); (try revert h4); (try revert h5); (try revert h6); (try simp only [sigEnt, entPost]); (apply upto _ n0 h0 h1); decide +kernel
   refine req_i ?_ ?_
   · -- r7
    (try revert h3); (try revert h4); (try revert h5); (try revert h6); (try simp only [sigEnt, entPost]); (apply upto _ n0 h0 h1); decide +kernel
   refine req_i ?_ ?_
   · -- r8
    (try revert h3); (try revert h4); (try revert h5); (try revert h6); (try simp only [sigEnt, entPost]); (apply upto _ n0 h0 h1); decide +kernel
   rfl
  ·
   refine bR_dec (fun h4 => ?_) (fun h4 => ?_)
   ·
    refine req_i ?_ ?_
    · -- r9
     (try revert h3); (try revert h4); (try revert h5); (try revert h6); (try simp only [sigEnt, entPost]); (apply upto _ n0 h0 h1); decide +kernel
    refine req_i ?_ ?_
    · -- r10
     (try revert h3); (try revert h4); (try revert h5); (try revert h6); (try simp only [sigEnt, entPost]); (apply upto _ n0 h0 h1); decide +kernel
    refine req_i ?_ ?_
    · -- r11
     (try revert h3); (try revert h4); (try revert h5); (try revert h6); (try simp only [sigEnt, entPost]); (apply upto _ n0 h0 h1); decide +kernel
    refine req_i ?_ ?_
    · -- r12
     (try revert h3); (try revert h4); (try revert h5); (try revert h6); (try simp only [sigEnt, entPost]); (apply upto _ n0 h0 h1); decide +kernel
    refine req_i ?_ ?_
    · -- r13
     (try revert h3); (try revert h4); (try revert h5); (try revert h6); (try simp only [sigEnt, entPost]); (apply upto _ n0 h0 h1); decide +kernel
    rfl
   ·
    refine bR_dec (fun h5 => ?_) (fun h5 => ?_)
    ·
     refine req_i ?_ ?_
     · -- r14
      (try revert h3); (try revert h4); (try revert h5); (try revert h6); (try simp only [sigEnt, entPost]); (apply upto _ n0 h0 h1); decide +kernel
     refine req_i ?_ ?_
     · -- r15
      (try revert h3); (try revert h4); (try revert h5); (try revert h6); (try simp only [sigEnt, entPost]); (apply upto _ n0 h0 h1); decide +kernel
     refine req_i ?_ ?_
     · -- r16
      (try revert h3); (try revert h4); (try revert h5); (try revert h6); (try simp only [sigEnt, entPost]); (apply upto _ n0 h0 h1); decide +kernel
     refine req_i ?_ ?_
     · -- r17
      (try revert h3); (try revert h4); (try revert h5); (try revert h6); (try simp only [sigEnt, entPost]); (apply upto _ n0 h0 h1); decide +kernel
     refine req_i ?_ ?_
     · -- r18
      (try revert h3); (try revert h4); (try revert h5); (try revert h6); (try simp only [sigEnt, entPost]); (apply upto _ n0 h0 h1); decide +kernel
     rfl
    ·
     refine req_i ?_ ?_
     · -- r19
      (try revert h3); (try revert h4); (try revert h5); (try revert h6); (try simp only [sigEnt, entPost]); (apply upto _ n0 h0 h1); decide +kernel
     refine req_i ?_ ?_
     · -- r20
      (try revert h3); (try revert h4); (try revert h5); (try revert h6); (try simp only [sigEnt, entPost]); (apply upto _ n0 h0 h1); decide +kernel
     refine req_i ?_ ?_
     · -- r21
      (try revert h3); (try revert h4); (try revert h5); (try revert h6); (try simp only [sigEnt, entPost]); (apply upto _ n0 h0 h1); decide +kernel
     refine req_i ?_ ?_
     · -- r22
      (try revert h3); (try revert h4); (try revert h5); (try revert h6); (try simp only [sigEnt, entPost]); (apply upto _ n0 h0 h1); decide +kernel
     refine req_i ?_ ?_
     · -- r23
      (try revert h3); (try revert h4); (try revert h5); (try revert h6); (try simp only [sigEnt, entPost]); (apply upto _ n0 h0 h1); decide +kernel
     rfl
theorem ext_entry : ∀ p ∈ ([] : List (Nat × Ext)), ExtRow Tryd.prog p.1 p.2 := by
  intro p hp
  cases hp
theorem cts_entry : CtsOk Tryd.prog [] := fun f c h => by cases h
theorem fn_entry : FnOk Tryd.prog 49 sigEnt gl11 := fn_sound (by kernel_rfl) ext_entry cts_entry names vt_entry
end Go.Proofs.YtblcahackjpnjaaDoor

namespace Go.Proofs.YtblcahackjpnjaaDoor
open Go.Ev Go.Sp
set_option maxRecDepth 100000
theorem vc_car : vcFn Tryd.prog [(49, Ext.ctr (ctOfG gl11 sigEnt))] noA gl11 100 35 sigCar = (allB fun n0 : Int => 
impB ((0 : Int) ≤ n0) (
impB (n0 ≤ (4294967295 : Int)) (
impB (sigCar.pre [DV.n n0]) (
reqB ((-2 : Int) ≤ n0 / Int.ofNat (67108864 : Nat)) (
reqB (n0 / Int.ofNat (67108864 : Nat) ≤ (70 : Int)) (
reqB (sigEnt.pre [DV.n (n0 / Int.ofNat (67108864 : Nat))]) (
allB fun n1 : Int => 
impB ((-127 : Int) ≤ n1) (
impB (n1 ≤ (127 : Int)) (
allB fun n2 : Int => 
impB ((-127 : Int) ≤ n2) (
impB (n2 ≤ (127 : Int)) (
impB (sigEnt.post [DV.n (n0 / Int.ofNat (67108864 : Nat))] [DV.n n1, DV.n n2]) (
reqB ((-127 : Int) ≤ n1) (
reqB (n1 ≤ (127 : Int)) (
reqB ((-127 : Int) ≤ n2) (
reqB (n2 ≤ (127 : Int)) (
reqB (sigCar.post [DV.n n0] [DV.n n1, DV.n n2]) (
true))))))))))))))))) := by kernel_rfl
set_option maxHeartbeats 8000000 in
theorem vt_car : vcFn Tryd.prog [(49, Ext.ctr (ctOfG gl11 sigEnt))] noA gl11 100 35 sigCar = true := by
  rw [vc_car]
  try simp only [Int.toNat_natCast, List.length_set, List.length_replicate, List.length_take, List.length_drop, List.length_append, List.length_cons, List.length_nil, Nat.min_self, List.take_take, lenCols_i, lenCols_b, List.drop_zero, List.take_length, Nat.add_eq, Nat.mul_eq, Nat.sub_eq, Nat.zero_add, Nat.sub_zero, Nat.mul_one]
  refine all_i fun n0 => ?_
  refine imp_i fun h0 => ?_
  refine imp_i fun h1 => ?_
  refine imp_i fun h2 => ?_
  try simp only [sigCar, u32, carPost, List.cons.injEq, DV.b.injEq, and_true, List.length_cons, List.length_nil] at h2
  refine req_i ?_ ?_
  · -- r0
   first | omega | assumption | grind
  refine req_i ?_ ?_
  · -- r1
   first | omega | assumption | grind
  refine req_i ?_ ?_
  · -- r2
   first | trivial | assumption | (simp only [sigEnt, entPost, List.cons.injEq, DV.b.injEq, and_true, List.length_cons, List.length_nil]; done) | ((try simp only [sigEnt, entPost, List.cons.injEq, DV.b.injEq, and_true, List.length_cons, List.length_nil]); first | omega | assumption | grind)
  refine all_i fun n1 => ?_
  refine imp_i fun h3 => ?_
  refine imp_i fun h4 => ?_
  refine all_i fun n2 => ?_
  refine imp_i fun h5 => ?_
  refine imp_i fun h6 => ?_
  refine imp_i fun h7 => ?_
  try simp only [sigEnt, entPost, List.cons.injEq, DV.b.injEq, and_true, List.length_cons, List.length_nil] at h7
  refine req_i ?_ ?_
  · -- r3
   first | omega | assumption | grind
  refine req_i ?_ ?_
  · -- r4
   first | omega | assumption | grind
  refine req_i ?_ ?_
  · -- r5
   first | omega | assumption | grind
  refine req_i ?_ ?_
  · -- r6
   first | omega | assumption | grind
  refine req_i ?_ ?_
  · -- r7
   first | omega | ((try simp only [sigCar, u32, carPost, List.cons.injEq, DV.b.injEq, and_true, List.length_cons, List.length_nil]); first | done | omega | assumption | grind [getD_set, getD_rep, toNat_succ, cntN_yes, cntN_no])
  rfl
theorem ext_car : ∀ p ∈ ([(49, Ext.ctr (ctOfG gl11 sigEnt))] : List (Nat × Ext)), ExtRow Tryd.prog p.1 p.2 := by
  intro p hp
  simp only [List.mem_cons, List.not_mem_nil, or_false] at hp
  rcases hp with rfl
  · trivial
theorem cts_car : CtsOk Tryd.prog [(49, Ext.ctr (ctOfG gl11 sigEnt))] := ctsOk_ofG (cs := [(49, sigEnt)])
  (fun p hp => by
    simp only [List.mem_cons, List.not_mem_nil, or_false] at hp
    rcases hp with rfl
    · exact fn_entry
)
  (fun f c h => by
    simp only [List.lookup_cons] at h
    repeat' split at h
    all_goals first | (cases h; done) | (rename_i e; have e := beq_iff_eq.1 e; subst e; cases h; refine ⟨_, ?_, rfl⟩; simp))
theorem fn_car : FnOk Tryd.prog 35 sigCar gl11 := fn_sound (by kernel_rfl) ext_car cts_car names vt_car
end Go.Proofs.YtblcahackjpnjaaDoor

namespace Go.Proofs.YtblcahackjpnjaaDoor
open Go.Ev Go.Sp
set_option maxRecDepth 100000
theorem vc_wave : vcFn Tryd.prog [(46, Ext.ctr (ctOfG gl11 sigAdv)), (35, Ext.ctr (ctOfG gl11 sigCar))] (fun f p _ => at2 f p 47 30 wavL (none)) gl11 100 13 sigWave = (allB fun n0 : Int => 
impB ((0 : Int) ≤ n0) (
impB (n0 ≤ (4294967295 : Int)) (
allB fun n1 : Int => 
impB ((0 : Int) ≤ n1) (
impB (n1 ≤ (4294967295 : Int)) (
allB fun n2 : Int => 
impB ((-9223372036854775808 : Int) ≤ n2) (
impB (n2 ≤ (9223372036854775807 : Int)) (
impB (sigWave.pre [DV.n n0, DV.n n1, DV.n n2]) (
bR (dec (n2 < (0 : Int))) (
 reqB (sigWave.post [DV.n n0, DV.n n1, DV.n n2] [DV.l [], DV.l [], DV.n (2 : Int)]) (
 true)) (
 bR (dec ((100000 : Int) < n2)) (
 reqB (sigWave.post [DV.n n0, DV.n n1, DV.n n2] [DV.l [], DV.l [], DV.n (2 : Int)]) (
 true)) (
 reqB ((0 : Int) ≤ n2) (
 reqB ((0 : Int) ≤ n2) (
 reqB (n2.toNat ≤ n2.toNat) (
 reqB (n2.toNat ≤ (1000000 : Nat)) (
 reqB ((0 : Int) ≤ n0) (
 reqB (n0 ≤ (4294967295 : Int)) (
 reqB ((0 : Int) ≤ n1) (
 reqB (n1 ≤ (4294967295 : Int)) (
 reqB (sigAdv.pre [DV.n n0, DV.n n1, DV.n (0 : Int)]) (
 allB fun n3 : Int => 
 impB ((0 : Int) ≤ n3) (
 impB (n3 ≤ (4294967295 : Int)) (
 impB (sigAdv.post [DV.n n0, DV.n n1, DV.n (0 : Int)] [DV.n n3]) (
 reqB ((0 : Int) ≤ n0) (
 reqB (n0 ≤ (4294967295 : Int)) (
 reqB ((0 : Int) ≤ n1) (
 reqB (n1 ≤ (4294967295 : Int)) (
 reqB (sigAdv.pre [DV.n n0, DV.n n1, DV.n (1 : Int)]) (
 allB fun n4 : Int => 
 impB ((0 : Int) ≤ n4) (
 impB (n4 ≤ (4294967295 : Int)) (
 impB (sigAdv.post [DV.n n0, DV.n n1, DV.n (1 : Int)] [DV.n n4]) (
 reqB ((0 : Int) ≤ n0) (
 reqB (n0 ≤ (4294967295 : Int)) (
 reqB ((0 : Int) ≤ n1) (
 reqB (n1 ≤ (4294967295 : Int)) (
 reqB (sigAdv.pre [DV.n n0, DV.n n1, DV.n (0 : Int)]) (
 allB fun n5 : Int => 
 impB ((0 : Int) ≤ n5) (
 impB (n5 ≤ (4294967295 : Int)) (
 impB (sigAdv.post [DV.n n0, DV.n n1, DV.n (0 : Int)] [DV.n n5]) (
 allB fun n6 : Int => 
 impB (n6 = Go.IntKind.u32.wrap (n4 - n5)) (
 impB (Int.ofNat (0 : Nat) ≤ n6) (
 impB (n6 ≤ Int.ofNat (4294967295 : Nat)) (
 reqB ((0 : Int) ≤ n0) (
 reqB (n0 ≤ (4294967295 : Int)) (
 reqB ((0 : Int) ≤ n1) (
 reqB (n1 ≤ (4294967295 : Int)) (
 reqB ((-9223372036854775808 : Int) ≤ n2) (
 reqB (n2 ≤ (9223372036854775807 : Int)) (
 reqB ((0 : Int) ≤ n3) (
 reqB (n3 ≤ (4294967295 : Int)) (
 reqB (lenCols
 [Col.i Go.IntKind.i64 (Int.negSucc (9223372036854775807 : Nat)) (Int.ofNat (9223372036854775807 : Nat))
 (List.replicate n2.toNat (0 : Int)),
 Col.i Go.IntKind.i64 (Int.negSucc (9223372036854775807 : Nat)) (Int.ofNat (9223372036854775807 : Nat))
 (List.replicate n2.toNat (0 : Int))] ≤
 (1000000 : Nat)) (
 reqB ((List.replicate n2.toNat (0 : Int)).length =
 lenCols
 [Col.i Go.IntKind.i64 (Int.negSucc (9223372036854775807 : Nat)) (Int.ofNat (9223372036854775807 : Nat))
 (List.replicate n2.toNat (0 : Int)),
 Col.i Go.IntKind.i64 (Int.negSucc (9223372036854775807 : Nat)) (Int.ofNat (9223372036854775807 : Nat))
 (List.replicate n2.toNat (0 : Int))]) (
 reqB (∀ (y : Int), y ∈ List.replicate n2.toNat (0 : Int) → (-9223372036854775808 : Int) ≤ y ∧ y ≤ (9223372036854775807 : Int)) (
 reqB ((List.replicate n2.toNat (0 : Int)).length =
 lenCols
 [Col.i Go.IntKind.i64 (Int.negSucc (9223372036854775807 : Nat)) (Int.ofNat (9223372036854775807 : Nat))
 (List.replicate n2.toNat (0 : Int)),
 Col.i Go.IntKind.i64 (Int.negSucc (9223372036854775807 : Nat)) (Int.ofNat (9223372036854775807 : Nat))
 (List.replicate n2.toNat (0 : Int))]) (
 reqB (∀ (y : Int), y ∈ List.replicate n2.toNat (0 : Int) → (-9223372036854775808 : Int) ≤ y ∧ y ≤ (9223372036854775807 : Int)) (
 reqB (wavL.inv [DV.n n0, DV.n n1, DV.n n2]
 [DV.n (0 : Int), DV.n n3, DV.l (List.replicate n2.toNat (0 : Int)),
 DV.l (List.replicate n2.toNat (0 : Int))]) (
 allB fun n7 : Int => 
 impB ((0 : Int) ≤ n7) (
 impB (n7 ≤ (100000 : Int)) (
 allB fun n8 : Int => 
 impB ((0 : Int) ≤ n8) (
 impB (n8 ≤ (4294967295 : Int)) (
 allB fun l9 : List Int => 
 impB (l9.length ≤ (1000000 : Nat)) (
 impB (∀ (y : Int), y ∈ l9 → (-9223372036854775808 : Int) ≤ y ∧ y ≤ (9223372036854775807 : Int)) (
 allB fun l10 : List Int => 
 impB (l10.length = l9.length) (
 impB (∀ (y : Int), y ∈ l10 → (-9223372036854775808 : Int) ≤ y ∧ y ≤ (9223372036854775807 : Int)) (
 impB (wavL.inv [DV.n n0, DV.n n1, DV.n n2]
 [DV.n n7, DV.n n8, DV.l l9, DV.l l10]) (
 bR (dec (n7 < n2)) (
 reqB ((0 : Int) ≤ n8) (
 reqB (n8 ≤ (4294967295 : Int)) (
 reqB (sigCar.pre [DV.n n8]) (
 allB fun n11 : Int => 
 impB ((-127 : Int) ≤ n11) (
 impB (n11 ≤ (127 : Int)) (
 allB fun n12 : Int => 
 impB ((-127 : Int) ≤ n12) (
 impB (n12 ≤ (127 : Int)) (
 impB (sigCar.post [DV.n n8] [DV.n n11, DV.n n12]) (
 reqB (n7.toNat < n2.toNat) (
 reqB (Nat.add (0 : Nat) n7.toNat < l9.length) (
 reqB (Nat.add (0 : Nat) n7.toNat < l10.length) (
 allB fun n13 : Int => 
 impB (n13 = Go.IntKind.u32.wrap (n8 + n6)) (
 impB (Int.ofNat (0 : Nat) ≤ n13) (
 impB (n13 ≤ Int.ofNat (4294967295 : Nat)) (
 bR (bR (bR (bR (dec (n2 = n2)) (
 bR (bR (bR (bR (dec (n0 = n0)) (
 bR (dec (n1 = n1)) (
 true) (
 false)) (
 false)) (
 true) (
 false)) (
 true) (
 false)) (
 bR (bR (dec (n0 = n0)) (
 bR (dec (n1 = n1)) (
 true) (
 false)) (
 false)) (
 bR (bR (dec ((0 : Nat) = (0 : Nat))) (
 dec (n2.toNat = n2.toNat)) (
 false)) (
 bR (dec (n2 = n2)) (
 bR (bR (dec ((100000 : Int) < n2)) (
 dec ((100000 : Int) < n2)) (
 bR (dec ((100000 : Int) < n2)) (
 false) (
 true))) (
 bR (dec (n2 = n2)) (
 bR (bR (dec (n2 < (0 : Int))) (
 dec (n2 < (0 : Int))) (
 bR (dec (n2 < (0 : Int))) (
 false) (
 true))) (
 bR (dec (n2 = n2)) (
 bR (dec (n2 = n2)) (
 bR (bR (dec (n0 = n0)) (
 bR (dec (n1 = n1)) (
 true) (
 false)) (
 false)) (
 true) (
 false)) (
 false)) (
 false)) (
 false)) (
 false)) (
 false)) (
 false)) (
 false)) (
 false)) (
 false)) (
 false)) (
 dec (sameRT
 (rtAt Go.Proofs.Tryd.prog (13 : Nat) [Bool.true, Bool.true, Bool.true, Bool.false, Bool.true, Bool.false]).fst
 (rtAt Go.Proofs.Tryd.prog (13 : Nat)
 [Bool.true, Bool.true, Bool.true, Bool.false, Bool.true, Bool.false]).snd.fst
 (rtAt Go.Proofs.Tryd.prog (13 : Nat)
 [Bool.true, Bool.true, Bool.true, Bool.false, Bool.true, Bool.false]).snd.snd
 (rtAt Go.Proofs.Tryd.prog (13 : Nat) [Bool.true, Bool.true, Bool.true, Bool.false, Bool.true, Bool.false]).fst
 (rtAt Go.Proofs.Tryd.prog (13 : Nat)
 [Bool.true, Bool.true, Bool.true, Bool.false, Bool.true, Bool.false]).snd.fst
 (rtAt Go.Proofs.Tryd.prog (13 : Nat)
 [Bool.true, Bool.true, Bool.true, Bool.false, Bool.true, Bool.false]).snd.snd)) (
 false)) (
 true) (
 false)) (
 bR (bR (dec (n2 = n2)) (
 true) (
 false)) (
 bR (bR (bR (dec (n0 = n0)) (
 bR (dec (n1 = n1)) (
 true) (
 false)) (
 false)) (
 bR (bR (bR (dec ((0 : Nat) = (0 : Nat))) (
 dec (n2.toNat = n2.toNat)) (
 false)) (
 true) (
 false)) (
 bR (bR (bR (bR (bR (dec (n0 = n0)) (
 bR (dec (n1 = n1)) (
 true) (
 false)) (
 false)) (
 true) (
 false)) (
 true) (
 false)) (
 true) (
 false)) (
 bR (bR (dec (n2 = n2)) (
 true) (
 false)) (
 bR (bR (dec (n0 = n0)) (
 bR (dec (n1 = n1)) (
 true) (
 false)) (
 false)) (
 bR (bR (dec (n0 = n0)) (
 bR (dec (n1 = n1)) (
 true) (
 false)) (
 false)) (
 bR (bR (dec (n0 = n0)) (
 bR (dec (n1 = n1)) (
 true) (
 false)) (
 false)) (
 bR (bR (dec (n6 = n6)) (
 true) (
 false)) (
 true) (
 false)) (
 false)) (
 false)) (
 false)) (
 false)) (
 false)) (
 false)) (
 false)) (
 reqB ((0 : Int) ≤ n7 + (1 : Int)) (
 reqB (n7 + (1 : Int) ≤ (100000 : Int)) (
 reqB ((0 : Int) ≤ n13) (
 reqB (n13 ≤ (4294967295 : Int)) (
 reqB (lenCols
 [Col.i Go.IntKind.i64 (-9223372036854775808 : Int) (9223372036854775807 : Int)
 (l9.set (Nat.add (0 : Nat) n7.toNat) n11),
 Col.i Go.IntKind.i64 (-9223372036854775808 : Int) (9223372036854775807 : Int)
 (l10.set (Nat.add (0 : Nat) n7.toNat) n12)] ≤
 (1000000 : Nat)) (
 reqB ((l9.set (Nat.add (0 : Nat) n7.toNat) n11).length =
 lenCols
 [Col.i Go.IntKind.i64 (-9223372036854775808 : Int) (9223372036854775807 : Int)
 (l9.set (Nat.add (0 : Nat) n7.toNat) n11),
 Col.i Go.IntKind.i64 (-9223372036854775808 : Int) (9223372036854775807 : Int)
 (l10.set (Nat.add (0 : Nat) n7.toNat) n12)]) (
 reqB (∀ (y : Int),
 y ∈ l9.set (Nat.add (0 : Nat) n7.toNat) n11 → (-9223372036854775808 : Int) ≤ y ∧ y ≤ (9223372036854775807 : Int)) (
 reqB ((l10.set (Nat.add (0 : Nat) n7.toNat) n12).length =
 lenCols
 [Col.i Go.IntKind.i64 (-9223372036854775808 : Int) (9223372036854775807 : Int)
 (l9.set (Nat.add (0 : Nat) n7.toNat) n11),
 Col.i Go.IntKind.i64 (-9223372036854775808 : Int) (9223372036854775807 : Int)
 (l10.set (Nat.add (0 : Nat) n7.toNat) n12)]) (
 reqB (∀ (y : Int),
 y ∈ l10.set (Nat.add (0 : Nat) n7.toNat) n12 → (-9223372036854775808 : Int) ≤ y ∧ y ≤ (9223372036854775807 : Int)) (
 reqB (wavL.inv [DV.n n0, DV.n n1, DV.n n2]
 [DV.n (n7 + (1 : Int)), DV.n n13, DV.l (l9.set (Nat.add (0 : Nat) n7.toNat) n11),
 DV.l (l10.set (Nat.add (0 : Nat) n7.toNat) n12)]) (
 reqB (wavL.mea [DV.n n0, DV.n n1, DV.n n2]
 [DV.n (n7 + (1 : Int)), DV.n n13, DV.l (l9.set (Nat.add (0 : Nat) n7.toNat) n11),
 DV.l (l10.set (Nat.add (0 : Nat) n7.toNat) n12)] <
 wavL.mea [DV.n n0, DV.n n1, DV.n n2]
 [DV.n n7, DV.n n8, DV.l l9, DV.l l10]) (
 true)))))))))))) (
 false)) (
 false)) (
 false)))))))))))))))) (
 reqB (((0 : Nat) + n2.toNat) * (2 : Nat) ≤ l9.length.mul (2 : Nat)) (
 reqB (n2.toNat ≤ (100000 : Nat)) (
 reqB ((List.take n2.toNat (List.drop (0 : Nat) l9)).length = n2.toNat) (
 reqB (∀ (y : Int), y ∈ List.take n2.toNat (List.drop (0 : Nat) l9) → (-127 : Int) ≤ y ∧ y ≤ (127 : Int)) (
 reqB ((List.take n2.toNat (List.drop (0 : Nat) l10)).length = n2.toNat) (
 reqB (∀ (y : Int), y ∈ List.take n2.toNat (List.drop (0 : Nat) l10) → (-127 : Int) ≤ y ∧ y ≤ (127 : Int)) (
 reqB (sigWave.post [DV.n n0, DV.n n1, DV.n n2]
 [DV.l (List.take n2.toNat (List.drop (0 : Nat) l9)), DV.l (List.take n2.toNat (List.drop (0 : Nat) l10)),
 DV.n (0 : Int)]) (
 true)))))))))))))))))))))))))))))))))))))))))))))))))))))))))))))))))))))))) := by kernel_rfl
set_option maxHeartbeats 8000000 in
theorem vt_wave : vcFn Tryd.prog [(46, Ext.ctr (ctOfG gl11 sigAdv)), (35, Ext.ctr (ctOfG gl11 sigCar))] (fun f p _ => at2 f p 47 30 wavL (none)) gl11 100 13 sigWave = true := by
  rw [vc_wave]
  try simp only [Int.toNat_natCast, List.length_set, List.length_replicate, List.length_take, List.length_drop, List.length_append, List.length_cons, List.length_nil, Nat.min_self, List.take_take, lenCols_i, lenCols_b, List.drop_zero, List.take_length, Nat.add_eq, Nat.mul_eq, Nat.sub_eq, Nat.zero_add, Nat.sub_zero, Nat.mul_one]
  refine all_i fun n0 => ?_
  refine imp_i fun h0 => ?_
  refine imp_i fun h1 => ?_
  refine all_i fun n1 => ?_
  refine imp_i fun h2 => ?_
  refine imp_i fun h3 => ?_
  refine all_i fun n2 => ?_
  refine imp_i fun h4 => ?_
  refine imp_i fun h5 => ?_
  refine imp_i fun h6 => ?_
  try simp only [sigWave, u32, smpW, wavPost, wC, adv, wS, List.cons.injEq, DV.b.injEq, and_true, List.length_cons, List.length_nil] at h6
  refine bR_dec (fun h7 => ?_) (fun h7 => ?_)
  ·
   refine req_i ?_ ?_
   · -- r0
    first | omega | ((try simp only [sigWave, u32, smpW, wavPost, wC, adv, wS, List.cons.injEq, DV.b.injEq, and_true, List.length_cons, List.length_nil]); first | done | omega | assumption | grind [getD_set, getD_rep, toNat_succ, cntN_yes, cntN_no])
   rfl
  ·
   refine bR_dec (fun h8 => ?_) (fun h8 => ?_)
   ·
    refine req_i ?_ ?_
    · -- r1
     first | omega | ((try simp only [sigWave, u32, smpW, wavPost, wC, adv, wS, List.cons.injEq, DV.b.injEq, and_true, List.length_cons, List.length_nil]); first | done | omega | assumption | grind [getD_set, getD_rep, toNat_succ, cntN_yes, cntN_no])
    rfl
   ·
    refine req_i ?_ ?_
    · -- r2
     first | omega | assumption | grind
    refine req_i ?_ ?_
    · -- r3
     first | omega | assumption | grind
    refine req_i ?_ ?_
    · -- r4
     first | omega | assumption | grind
    refine req_i ?_ ?_
    · -- r5
     first | omega | assumption | grind
    refine req_i ?_ ?_
    · -- r6
     first | omega | assumption | grind
    refine req_i ?_ ?_
    · -- r7
     first | omega | assumption | grind
    refine req_i ?_ ?_
    · -- r8
     first | omega | assumption | grind
    refine req_i ?_ ?_
    · -- r9
     first | omega | assumption | grind
    refine req_i ?_ ?_
    · -- r10
     first | trivial | assumption | (simp only [sigAdv, u32, advPost, adv, List.cons.injEq, DV.b.injEq, and_true, List.length_cons, List.length_nil]; done) | ((try simp only [sigAdv, u32, advPost, adv, List.cons.injEq, DV.b.injEq, and_true, List.length_cons, List.length_nil]); first | omega | assumption | grind)
    refine all_i fun n3 => ?_
    refine imp_i fun h9 => ?_
    refine imp_i fun h10 => ?_
    refine imp_i fun h11 => ?_
    try simp only [sigAdv, u32, advPost, adv, List.cons.injEq, DV.b.injEq, and_true, List.length_cons, List.length_nil] at h11
    refine req_i ?_ ?_
    · -- r11
     first | omega | assumption | grind
    refine req_i ?_ ?_
    · -- r12
     first | omega | assumption | grind
    refine req_i ?_ ?_
    · -- r13
     first | omega | assumption | grind
    refine req_i ?_ ?_
    · -- r14
     first | omega | assumption | grind
    refine req_i ?_ ?_
    · -- r15
     first | trivial | assumption | (simp only [sigAdv, u32, advPost, adv, List.cons.injEq, DV.b.injEq, and_true, List.length_cons, List.length_nil]; done) | ((try simp only [sigAdv, u32, advPost, adv, List.cons.injEq, DV.b.injEq, and_true, List.length_cons, List.length_nil]); first | omega | assumption | grind)
    refine all_i fun n4 => ?_
    refine imp_i fun h12 => ?_
    refine imp_i fun h13 => ?_
    refine imp_i fun h14 => ?_
    try simp only [sigAdv, u32, advPost, adv, List.cons.injEq, DV.b.injEq, and_true, List.length_cons, List.length_nil] at h14
    refine req_i ?_ ?_
    · -- r16
     first | omega | assumption | grind
    refine req_i ?_ ?_
    · -- r17
     first | omega | assumption | grind
    refine req_i ?_ ?_
    · -- r18
     first | omega | assumption | grind
    refine req_i ?_ ?_
    · -- r19
     first | omega | assumption | grind
    refine req_i ?_ ?_
    · -- r20
     first | trivial | assumption | (simp only [sigAdv, u32, advPost, adv, List.cons.injEq, DV.b.injEq, and_true, List.length_cons, List.length_nil]; done) | ((try simp only [sigAdv, u32, advPost, adv, List.cons.injEq, DV.b.injEq, and_true, List.length_cons, List.length_nil]); first | omega | assumption | grind)
    refine all_i fun n5 => ?_
    refine imp_i fun h15 => ?_
    refine imp_i fun h16 => ?_
    refine imp_i fun h17 => ?_
    try simp only [sigAdv, u32, advPost, adv, List.cons.injEq, DV.b.injEq, and_true, List.length_cons, List.length_nil] at h17
    refine all_i fun n6 => ?_
    refine imp_i fun h18 => ?_
    simp only [wrap_u32] at h18
    refine imp_i fun h19 => ?_
    refine imp_i fun h20 => ?_
    refine req_i ?_ ?_
    · -- r21
     first | omega | assumption | grind
    refine req_i ?_ ?_
    · -- r22
     first | omega | assumption | grind
    refine req_i ?_ ?_
    · -- r23
     first | omega | assumption | grind
    refine req_i ?_ ?_
    · -- r24
     first | omega | assumption | grind
    refine req_i ?_ ?_
    · -- r25
     first | omega | assumption | grind
    refine req_i ?_ ?_
    · -- r26
     first | omega | assumption | grind
    refine req_i ?_ ?_
    · -- r27
     first | omega | assumption | grind
    refine req_i ?_ ?_
    · -- r28
     first | omega | assumption | grind
    refine req_i ?_ ?_
    · -- r29
     first | omega | ((try simp only [Int.toNat_natCast, List.length_replicate, List.length_cons, List.length_nil, lenCols_i, lenCols_b]); first | done | omega | assumption | grind [getD_set, getD_rep, toNat_succ, cntN_yes, cntN_no])
    refine req_i ?_ ?_
    · -- r30
     first | omega | ((try simp only [Int.toNat_natCast, List.length_replicate, List.length_cons, List.length_nil, lenCols_i, lenCols_b]); first | done | omega | assumption | grind [getD_set, getD_rep, toNat_succ, cntN_yes, cntN_no])
    refine req_i ?_ ?_
    · -- r31
     first | assumption | exact rep_bd (by omega) (by omega) | exact set_bd (by assumption) (by omega) (by omega) | exact take_bd (by assumption) | ((try simp only [Int.toNat_natCast, List.length_replicate, List.length_cons, List.length_nil]); first | assumption | exact rep_bd (by omega) (by omega) | exact set_bd (by assumption) (by omega) (by omega) | exact take_bd (by assumption) | grind [getD_set, getD_rep, toNat_succ, cntN_yes, cntN_no])
    refine req_i ?_ ?_
    · -- r32
     first | omega | ((try simp only [Int.toNat_natCast, List.length_replicate, List.length_cons, List.length_nil, lenCols_i, lenCols_b]); first | done | omega | assumption | grind [getD_set, getD_rep, toNat_succ, cntN_yes, cntN_no])
    refine req_i ?_ ?_
    · -- r33
     first | assumption | exact rep_bd (by omega) (by omega) | exact set_bd (by assumption) (by omega) (by omega) | exact take_bd (by assumption) | ((try simp only [Int.toNat_natCast, List.length_replicate, List.length_cons, List.length_nil]); first | assumption | exact rep_bd (by omega) (by omega) | exact set_bd (by assumption) (by omega) (by omega) | exact take_bd (by assumption) | grind [getD_set, getD_rep, toNat_succ, cntN_yes, cntN_no])
    refine req_i ?_ ?_
    · -- r34
     exact ⟨by omega, by omega, h11, by simp; omega, fun j hj => absurd hj (by omega)⟩
    refine all_i fun n7 => ?_
    refine imp_i fun h21 => ?_
    refine imp_i fun h22 => ?_
    refine all_i fun n8 => ?_
    refine imp_i fun h23 => ?_
    refine imp_i fun h24 => ?_
    refine all_i fun l9 => ?_
    refine imp_i fun h25 => ?_
    refine imp_i fun h26 => ?_
    refine all_i fun l10 => ?_
    refine imp_i fun h27 => ?_
    have tkl10 := take_eq h27
    try simp only [tkl10]
    refine imp_i fun h28 => ?_
    refine imp_i fun h29 => ?_
    try simp only [Int.toNat_natCast, List.length_set, List.length_replicate, List.length_take, List.length_drop, List.length_append, List.length_cons, List.length_nil, Nat.min_self, List.take_take, lenCols_i, lenCols_b, List.drop_zero, List.take_length, Nat.add_eq, Nat.mul_eq, Nat.sub_eq, Nat.zero_add, Nat.sub_zero, Nat.mul_one] at h29
    obtain ⟨i1, i2, i3, i4, i5⟩ := h29
    refine bR_dec (fun h30 => ?_) (fun h30 => ?_)
    ·
     refine req_i ?_ ?_
     · -- r35
      first | omega | assumption | grind
     refine req_i ?_ ?_
     · -- r36
      first | omega | assumption | grind
     refine req_i ?_ ?_
     · -- r37
      first | trivial | assumption | (simp only [sigCar, u32, carPost, List.cons.injEq, DV.b.injEq, and_true, List.length_cons, List.length_nil]; done) | ((try simp only [sigCar, u32, carPost, List.cons.injEq, DV.b.injEq, and_true, List.length_cons, List.length_nil]); first | omega | assumption | grind)
     refine all_i fun n11 => ?_
     refine imp_i fun h31 => ?_
     refine imp_i fun h32 => ?_
     refine all_i fun n12 => ?_
     refine imp_i fun h33 => ?_
     refine imp_i fun h34 => ?_
     refine imp_i fun h35 => ?_
     try simp only [sigCar, u32, carPost, List.cons.injEq, DV.b.injEq, and_true, List.length_cons, List.length_nil] at h35
     have c1 : n11 = wC (adv n0 n1 n7) ∧ n12 = wS (adv n0 n1 n7) := by rw [← i3]; exact h35
     refine req_i ?_ ?_
     · -- r38
      first | omega | assumption | grind
     refine req_i ?_ ?_
     · -- r39
      first | omega | ((try simp only [Int.toNat_natCast, List.length_cons, List.length_nil, Nat.add_eq, Nat.zero_add]); first | done | omega | assumption | grind [getD_set, getD_rep, toNat_succ, cntN_yes, cntN_no])
     refine req_i ?_ ?_
     · -- r40
      first | omega | ((try simp only [Int.toNat_natCast, List.length_cons, List.length_nil, Nat.add_eq, Nat.zero_add]); first | done | omega | assumption | grind [getD_set, getD_rep, toNat_succ, cntN_yes, cntN_no])
     refine all_i fun n13 => ?_
     refine imp_i fun h36 => ?_
     simp only [wrap_u32] at h36
     have a1 : n13 = adv n0 n1 (n7 + 1) := by rw [h36, i3]; exact adv_step (h18.trans (by rw [h14, h17]; rfl))
     refine imp_i fun h37 => ?_
     refine imp_i fun h38 => ?_
     refine bR_t ?_ ?_
     · -- g0
      first | (simp only [sameRT_self, bR_iff, bR_iff_f, dec_iff, dec_f, beqB_iff', andB_iff', reduceCtorEq, imp_self, false_implies, and_true, true_and, implies_true, and_self, not_true_eq_false, forall_const]; done) | (simp [sameRT_self, bR_iff, dec_iff, beqB_iff', andB_iff']; done) | (simp [sameRT_self, bR_iff, dec_iff, beqB_iff', andB_iff']; omega)
     refine bR_t ?_ ?_
     · -- g1
      first | rfl | (simp only [bR_iff, bR_iff_f, dec_iff, dec_f, beqB_iff', andB_iff', reduceCtorEq, imp_self, false_implies, and_true, true_and, implies_true, and_self]; done) | (simp [bR_iff, dec_iff, beqB_iff', andB_iff']; done) | (simp [bR_iff, dec_iff, beqB_iff', andB_iff']; omega)
     refine bR_t ?_ ?_
     · -- g2
      first | rfl | (simp only [bR_iff, bR_iff_f, dec_iff, dec_f, beqB_iff', andB_iff', reduceCtorEq, imp_self, false_implies, and_true, true_and, implies_true, and_self]; done) | (simp [bR_iff, dec_iff, beqB_iff', andB_iff']; done) | (simp [bR_iff, dec_iff, beqB_iff', andB_iff']; omega)
     refine req_i ?_ ?_
     · -- r41
      first | omega | assumption | grind
     refine req_i ?_ ?_
     · -- r42
      first | omega | assumption | grind
     refine req_i ?_ ?_
     · -- r43
      first | omega | assumption | grind
     refine req_i ?_ ?_
     · -- r44
      first | omega | assumption | grind
     refine req_i ?_ ?_
     · -- r45
      first | omega | ((try simp only [Int.toNat_natCast, List.length_set, List.length_cons, List.length_nil, lenCols_i, lenCols_b, Nat.add_eq, Nat.zero_add]); first | done | omega | assumption | grind [getD_set, getD_rep, toNat_succ, cntN_yes, cntN_no])
     refine req_i ?_ ?_
     · -- r46
      first | omega | ((try simp only [Int.toNat_natCast, List.length_set, List.length_cons, List.length_nil, lenCols_i, lenCols_b, Nat.add_eq, Nat.zero_add]); first | done | omega | assumption | grind [getD_set, getD_rep, toNat_succ, cntN_yes, cntN_no])
     refine req_i ?_ ?_
     · -- r47
      first | assumption | exact rep_bd (by omega) (by omega) | exact set_bd (by assumption) (by omega) (by omega) | exact take_bd (by assumption) | ((try simp only [Int.toNat_natCast, List.length_set, List.length_cons, List.length_nil, Nat.add_eq, Nat.zero_add]); first | assumption | exact rep_bd (by omega) (by omega) | exact set_bd (by assumption) (by omega) (by omega) | exact take_bd (by assumption) | grind [getD_set, getD_rep, toNat_succ, cntN_yes, cntN_no])
     refine req_i ?_ ?_
     · -- r48
      first | omega | ((try simp only [Int.toNat_natCast, List.length_set, List.length_cons, List.length_nil, lenCols_i, lenCols_b, Nat.add_eq, Nat.zero_add]); first | done | omega | assumption | grind [getD_set, getD_rep, toNat_succ, cntN_yes, cntN_no])
     refine req_i ?_ ?_
     · -- r49
      first | assumption | exact rep_bd (by omega) (by omega) | exact set_bd (by assumption) (by omega) (by omega) | exact take_bd (by assumption) | ((try simp only [Int.toNat_natCast, List.length_set, List.length_cons, List.length_nil, Nat.add_eq, Nat.zero_add]); first | assumption | exact rep_bd (by omega) (by omega) | exact set_bd (by assumption) (by omega) (by omega) | exact take_bd (by assumption) | grind [getD_set, getD_rep, toNat_succ, cntN_yes, cntN_no])
     refine req_i ?_ ?_
     · -- r50
      (try simp only [Nat.add_eq, Nat.zero_add]); exact ⟨by omega, by omega, a1, by rw [List.length_set]; exact i4, wAt_set i1 (by omega) h27 i5 c1.1 c1.2⟩
     refine req_i ?_ ?_
     · -- r51
      show (n2 - (n7 + 1)).toNat < (n2 - n7).toNat; omega
     rfl
    ·
     have e7 : n7 = n2 := by omega
     have tk1 : l9.take n2.toNat = l9 := List.take_of_length_le (by omega)
     have tk2 : l10.take n2.toNat = l10 := List.take_of_length_le (by omega)
     try simp only [List.drop_zero, tk1, tk2]
     refine req_i ?_ ?_
     · -- r52
      first | omega | ((try simp only [Int.toNat_natCast, List.length_cons, List.length_nil, Nat.mul_eq]); first | done | omega | assumption | grind [getD_set, getD_rep, toNat_succ, cntN_yes, cntN_no])
     refine req_i ?_ ?_
     · -- r53
      first | omega | assumption | grind
     refine req_i ?_ ?_
     · -- r54
      first | omega | ((try simp only [Int.toNat_natCast, List.length_take, List.take_length, List.take_take, Nat.min_self, List.length_drop, List.drop_zero, List.length_cons, List.length_nil]); first | done | omega | assumption | grind [getD_set, getD_rep, toNat_succ, cntN_yes, cntN_no])
     refine req_i ?_ ?_
     · -- r55
      exact all_getD fun j hj => by have := w_bd (adv n0 n1 j); have := i5 j (by omega); omega
     refine req_i ?_ ?_
     · -- r56
      first | omega | ((try simp only [Int.toNat_natCast, List.length_take, List.take_length, List.take_take, Nat.min_self, List.length_drop, List.drop_zero, List.length_cons, List.length_nil]); first | done | omega | assumption | grind [getD_set, getD_rep, toNat_succ, cntN_yes, cntN_no])
     refine req_i ?_ ?_
     · -- r57
      exact all_getD fun j hj => by have := w_bd (adv n0 n1 j); have := i5 j (by omega); omega
     refine req_i ?_ ?_
     · -- r58
      exact .inr ⟨by omega, by omega, rfl, i4, fun j hj => i5 j (by omega)⟩
     rfl
theorem ext_wave : ∀ p ∈ ([(46, Ext.ctr (ctOfG gl11 sigAdv)), (35, Ext.ctr (ctOfG gl11 sigCar))] : List (Nat × Ext)), ExtRow Tryd.prog p.1 p.2 := by
  intro p hp
  simp only [List.mem_cons, List.not_mem_nil, or_false] at hp
  rcases hp with rfl | rfl
  · trivial
  · trivial
theorem cts_wave : CtsOk Tryd.prog [(46, Ext.ctr (ctOfG gl11 sigAdv)), (35, Ext.ctr (ctOfG gl11 sigCar))] := ctsOk_ofG (cs := [(46, sigAdv), (35, sigCar)])
  (fun p hp => by
    simp only [List.mem_cons, List.not_mem_nil, or_false] at hp
    rcases hp with rfl | rfl
    · exact fn_adv
    · exact fn_car
)
  (fun f c h => by
    simp only [List.lookup_cons] at h
    repeat' split at h
    all_goals first | (cases h; done) | (rename_i e; have e := beq_iff_eq.1 e; subst e; cases h; refine ⟨_, ?_, rfl⟩; simp))
theorem fn_wave : FnOk Tryd.prog 13 sigWave gl11 := fn_sound (by kernel_rfl) ext_wave cts_wave names vt_wave
end Go.Proofs.YtblcahackjpnjaaDoor

namespace Go.Proofs.YtblcahackjpnjaaDoor
open Go.Ev Go.Sp
set_option maxRecDepth 100000
theorem vc_small : vcFn Tryd.prog [] noA gl11 100 50 sigSmall = (allB fun n0 : Int => 
impB ((-9223372036854775808 : Int) ≤ n0) (
impB (n0 ≤ (9223372036854775807 : Int)) (
allB fun n1 : Int => 
impB ((-9223372036854775808 : Int) ≤ n1) (
impB (n1 ≤ (9223372036854775807 : Int)) (
impB (sigSmall.pre [DV.n n0, DV.n n1]) (
bR (dec (n0 < (-70368744177664 : Int))) (
 reqB (sigSmall.post [DV.n n0, DV.n n1] [DV.n (2 : Int)]) (
 true)) (
 bR (dec ((70368744177664 : Int) < n0)) (
 reqB (sigSmall.post [DV.n n0, DV.n n1] [DV.n (2 : Int)]) (
 true)) (
 bR (dec (n1 < (-70368744177664 : Int))) (
 reqB (sigSmall.post [DV.n n0, DV.n n1] [DV.n (2 : Int)]) (
 true)) (
 bR (dec ((70368744177664 : Int) < n1)) (
 reqB (sigSmall.post [DV.n n0, DV.n n1] [DV.n (2 : Int)]) (
 true)) (
 reqB (sigSmall.post [DV.n n0, DV.n n1] [DV.n (0 : Int)]) (
 true))))))))))) := by kernel_rfl
set_option maxHeartbeats 8000000 in
theorem vt_small : vcFn Tryd.prog [] noA gl11 100 50 sigSmall = true := by
  rw [vc_small]
  try simp only [Int.toNat_natCast, List.length_set, List.length_replicate, List.length_take, List.length_drop, List.length_append, List.length_cons, List.length_nil, Nat.min_self, List.take_take, lenCols_i, lenCols_b, List.drop_zero, List.take_length, Nat.add_eq, Nat.mul_eq, Nat.sub_eq, Nat.zero_add, Nat.sub_zero, Nat.mul_one]
  refine all_i fun n0 => ?_
  refine imp_i fun h0 => ?_
  refine imp_i fun h1 => ?_
  refine all_i fun n1 => ?_
  refine imp_i fun h2 => ?_
  refine imp_i fun h3 => ?_
  refine imp_i fun h4 => ?_
  try simp only [sigSmall, smpV, smallPost, sml, List.cons.injEq, DV.b.injEq, and_true, List.length_cons, List.length_nil] at h4
  refine bR_dec (fun h5 => ?_) (fun h5 => ?_)
  ·
   refine req_i ?_ ?_
   · -- r0
    first | omega | ((try simp only [sigSmall, smpV, smallPost, sml, List.cons.injEq, DV.b.injEq, and_true, List.length_cons, List.length_nil]); first | done | omega | assumption | grind [getD_set, getD_rep, toNat_succ, cntN_yes, cntN_no])
   rfl
  ·
   refine bR_dec (fun h6 => ?_) (fun h6 => ?_)
   ·
    refine req_i ?_ ?_
    · -- r1
     first | omega | ((try simp only [sigSmall, smpV, smallPost, sml, List.cons.injEq, DV.b.injEq, and_true, List.length_cons, List.length_nil]); first | done | omega | assumption | grind [getD_set, getD_rep, toNat_succ, cntN_yes, cntN_no])
    rfl
   ·
    refine bR_dec (fun h7 => ?_) (fun h7 => ?_)
    ·
     refine req_i ?_ ?_
     · -- r2
      first | omega | ((try simp only [sigSmall, smpV, smallPost, sml, List.cons.injEq, DV.b.injEq, and_true, List.length_cons, List.length_nil]); first | done | omega | assumption | grind [getD_set, getD_rep, toNat_succ, cntN_yes, cntN_no])
     rfl
    ·
     refine bR_dec (fun h8 => ?_) (fun h8 => ?_)
     ·
      refine req_i ?_ ?_
      · -- r3
       first | omega | ((try simp only [sigSmall, smpV, smallPost, sml, List.cons.injEq, DV.b.injEq, and_true, List.length_cons, List.length_nil]); first | done | omega | assumption | grind [getD_set, getD_rep, toNat_succ, cntN_yes, cntN_no])
      rfl
     ·
      refine req_i ?_ ?_
      · -- r4
       first | omega | ((try simp only [sigSmall, smpV, smallPost, sml, List.cons.injEq, DV.b.injEq, and_true, List.length_cons, List.length_nil]); first | done | omega | assumption | grind [getD_set, getD_rep, toNat_succ, cntN_yes, cntN_no])
      rfl
theorem ext_small : ∀ p ∈ ([] : List (Nat × Ext)), ExtRow Tryd.prog p.1 p.2 := by
  intro p hp
  cases hp
theorem cts_small : CtsOk Tryd.prog [] := fun f c h => by cases h
theorem fn_small : FnOk Tryd.prog 50 sigSmall gl11 := fn_sound (by kernel_rfl) ext_small cts_small names vt_small
end Go.Proofs.YtblcahackjpnjaaDoor

namespace Go.Proofs.YtblcahackjpnjaaDoor
open Go.Ev Go.Sp
set_option maxRecDepth 100000
theorem vc_wipe : vcFn Tryd.prog [(50, Ext.ctr (ctOfG gl11 sigSmall)), (35, Ext.ctr (ctOfG gl11 sigCar))] noA gl11 100 36 sigWipe = (allB fun n0 : Int => 
impB ((-9223372036854775808 : Int) ≤ n0) (
impB (n0 ≤ (9223372036854775807 : Int)) (
allB fun n1 : Int => 
impB ((-9223372036854775808 : Int) ≤ n1) (
impB (n1 ≤ (9223372036854775807 : Int)) (
allB fun n2 : Int => 
impB ((0 : Int) ≤ n2) (
impB (n2 ≤ (4294967295 : Int)) (
impB (sigWipe.pre [DV.n n0, DV.n n1, DV.n n2]) (
reqB ((-9223372036854775808 : Int) ≤ n0) (
reqB (n0 ≤ (9223372036854775807 : Int)) (
reqB ((-9223372036854775808 : Int) ≤ n1) (
reqB (n1 ≤ (9223372036854775807 : Int)) (
reqB (sigSmall.pre [DV.n n0, DV.n n1]) (
allB fun n3 : Int => 
impB ((0 : Int) ≤ n3) (
impB (n3 ≤ (18 : Int)) (
impB (sigSmall.post [DV.n n0, DV.n n1] [DV.n n3]) (
bR (dec (n3 ≠ (0 : Int))) (
 reqB ((0 : Int) ≤ n3) (
 reqB (n3 ≤ (18 : Int)) (
 reqB (sigWipe.post [DV.n n0, DV.n n1, DV.n n2]
 [DV.n (0 : Int), DV.n (0 : Int), DV.n n3]) (
 true)))) (
 reqB ((0 : Int) ≤ n2) (
 reqB (n2 ≤ (4294967295 : Int)) (
 reqB (sigCar.pre [DV.n n2]) (
 allB fun n4 : Int => 
 impB ((-127 : Int) ≤ n4) (
 impB (n4 ≤ (127 : Int)) (
 allB fun n5 : Int => 
 impB ((-127 : Int) ≤ n5) (
 impB (n5 ≤ (127 : Int)) (
 impB (sigCar.post [DV.n n2] [DV.n n4, DV.n n5]) (
 allB fun n6 : Int => 
 impB (n6 = Go.IntKind.i64.wrap (n0 * n4)) (
 impB (Int.negSucc (9223372036854775807 : Nat) ≤ n6) (
 impB (n6 ≤ Int.ofNat (9223372036854775807 : Nat)) (
 allB fun n7 : Int => 
 impB (n7 = Go.IntKind.i64.wrap (n1 * n5)) (
 impB (Int.negSucc (9223372036854775807 : Nat) ≤ n7) (
 impB (n7 ≤ Int.ofNat (9223372036854775807 : Nat)) (
 allB fun n8 : Int => 
 impB (n8 = Go.IntKind.i64.wrap (n6 + n7)) (
 impB (Int.negSucc (9223372036854775807 : Nat) ≤ n8) (
 impB (n8 ≤ Int.ofNat (9223372036854775807 : Nat)) (
 allB fun n9 : Int => 
 impB (n9 = Go.IntKind.i64.wrap (n1 * n4)) (
 impB (Int.negSucc (9223372036854775807 : Nat) ≤ n9) (
 impB (n9 ≤ Int.ofNat (9223372036854775807 : Nat)) (
 allB fun n10 : Int => 
 impB (n10 = Go.IntKind.i64.wrap (n0 * n5)) (
 impB (Int.negSucc (9223372036854775807 : Nat) ≤ n10) (
 impB (n10 ≤ Int.ofNat (9223372036854775807 : Nat)) (
 allB fun n11 : Int => 
 impB (n11 = Go.IntKind.i64.wrap (n9 - n10)) (
 impB (Int.negSucc (9223372036854775807 : Nat) ≤ n11) (
 impB (n11 ≤ Int.ofNat (9223372036854775807 : Nat)) (
 reqB ((-17873661021126656 : Int) ≤ n8) (
 reqB (n8 ≤ (17873661021126656 : Int)) (
 reqB ((-17873661021126656 : Int) ≤ n11) (
 reqB (n11 ≤ (17873661021126656 : Int)) (
 reqB (sigWipe.post [DV.n n0, DV.n n1, DV.n n2] [DV.n n8, DV.n n11, DV.n (0 : Int)]) (
 true)))))))))))))))))))))))))))))))))))))))))))))))) := by kernel_rfl
set_option maxHeartbeats 8000000 in
theorem vt_wipe : vcFn Tryd.prog [(50, Ext.ctr (ctOfG gl11 sigSmall)), (35, Ext.ctr (ctOfG gl11 sigCar))] noA gl11 100 36 sigWipe = true := by
  rw [vc_wipe]
  try simp only [Int.toNat_natCast, List.length_set, List.length_replicate, List.length_take, List.length_drop, List.length_append, List.length_cons, List.length_nil, Nat.min_self, List.take_take, lenCols_i, lenCols_b, List.drop_zero, List.take_length, Nat.add_eq, Nat.mul_eq, Nat.sub_eq, Nat.zero_add, Nat.sub_zero, Nat.mul_one]
  refine all_i fun n0 => ?_
  refine imp_i fun h0 => ?_
  refine imp_i fun h1 => ?_
  refine all_i fun n1 => ?_
  refine imp_i fun h2 => ?_
  refine imp_i fun h3 => ?_
  refine all_i fun n2 => ?_
  refine imp_i fun h4 => ?_
  refine imp_i fun h5 => ?_
  refine imp_i fun h6 => ?_
  try simp only [sigWipe, smpV, u32, mxW, wipPost, sml, wC, wS, List.cons.injEq, DV.b.injEq, and_true, List.length_cons, List.length_nil] at h6
  refine req_i ?_ ?_
  · -- r0
   first | omega | assumption | grind
  refine req_i ?_ ?_
  · -- r1
   first | omega | assumption | grind
  refine req_i ?_ ?_
  · -- r2
   first | omega | assumption | grind
  refine req_i ?_ ?_
  · -- r3
   first | omega | assumption | grind
  refine req_i ?_ ?_
  · -- r4
   first | trivial | assumption | (simp only [sigSmall, smpV, smallPost, sml, List.cons.injEq, DV.b.injEq, and_true, List.length_cons, List.length_nil]; done) | ((try simp only [sigSmall, smpV, smallPost, sml, List.cons.injEq, DV.b.injEq, and_true, List.length_cons, List.length_nil]); first | omega | assumption | grind)
  refine all_i fun n3 => ?_
  refine imp_i fun h7 => ?_
  refine imp_i fun h8 => ?_
  refine imp_i fun h9 => ?_
  try simp only [sigSmall, smpV, smallPost, sml, List.cons.injEq, DV.b.injEq, and_true, List.length_cons, List.length_nil] at h9
  refine bR_dec (fun h10 => ?_) (fun h10 => ?_)
  ·
   refine req_i ?_ ?_
   · -- r5
    first | omega | assumption | grind
   refine req_i ?_ ?_
   · -- r6
    first | omega | assumption | grind
   refine req_i ?_ ?_
   · -- r7
    first | omega | ((try simp only [sigWipe, smpV, u32, mxW, wipPost, sml, wC, wS, List.cons.injEq, DV.b.injEq, and_true, List.length_cons, List.length_nil]); first | done | omega | assumption | grind [getD_set, getD_rep, toNat_succ, cntN_yes, cntN_no])
   rfl
  ·
   refine req_i ?_ ?_
   · -- r8
    first | omega | assumption | grind
   refine req_i ?_ ?_
   · -- r9
    first | omega | assumption | grind
   refine req_i ?_ ?_
   · -- r10
    first | trivial | assumption | (simp only [sigCar, u32, carPost, List.cons.injEq, DV.b.injEq, and_true, List.length_cons, List.length_nil]; done) | ((try simp only [sigCar, u32, carPost, List.cons.injEq, DV.b.injEq, and_true, List.length_cons, List.length_nil]); first | omega | assumption | grind)
   refine all_i fun n4 => ?_
   refine imp_i fun h11 => ?_
   refine imp_i fun h12 => ?_
   refine all_i fun n5 => ?_
   refine imp_i fun h13 => ?_
   refine imp_i fun h14 => ?_
   refine imp_i fun h15 => ?_
   try simp only [sigCar, u32, carPost, List.cons.injEq, DV.b.injEq, and_true, List.length_cons, List.length_nil] at h15
   refine all_i fun n6 => ?_
   refine imp_i fun h16 => ?_
   simp only [wrap_i64] at h16
   have ph16 := mul_abs (a := n0) (b := n4) (A := 70368744177664) (B := 127) (by omega) (by omega) (by omega) (by omega)
   have h16 : n6 = n0 * n4 := by omega
   refine imp_i fun h17 => ?_
   refine imp_i fun h18 => ?_
   refine all_i fun n7 => ?_
   refine imp_i fun h19 => ?_
   simp only [wrap_i64] at h19
   have ph19 := mul_abs (a := n1) (b := n5) (A := 70368744177664) (B := 127) (by omega) (by omega) (by omega) (by omega)
   have h19 : n7 = n1 * n5 := by omega
   refine imp_i fun h20 => ?_
   refine imp_i fun h21 => ?_
   refine all_i fun n8 => ?_
   refine imp_i fun h22 => ?_
   simp only [wrap_i64] at h22
   have h22 : n8 = n6 + n7 := by omega
   refine imp_i fun h23 => ?_
   refine imp_i fun h24 => ?_
   refine all_i fun n9 => ?_
   refine imp_i fun h25 => ?_
   simp only [wrap_i64] at h25
   have ph25 := mul_abs (a := n1) (b := n4) (A := 70368744177664) (B := 127) (by omega) (by omega) (by omega) (by omega)
   have h25 : n9 = n1 * n4 := by omega
   refine imp_i fun h26 => ?_
   refine imp_i fun h27 => ?_
   refine all_i fun n10 => ?_
   refine imp_i fun h28 => ?_
   simp only [wrap_i64] at h28
   have ph28 := mul_abs (a := n0) (b := n5) (A := 70368744177664) (B := 127) (by omega) (by omega) (by omega) (by omega)
   have h28 : n10 = n0 * n5 := by omega
   refine imp_i fun h29 => ?_
   refine imp_i fun h30 => ?_
   refine all_i fun n11 => ?_
   refine imp_i fun h31 => ?_
   simp only [wrap_i64] at h31
   have h31 : n11 = n9 - n10 := by omega
   refine imp_i fun h32 => ?_
   refine imp_i fun h33 => ?_
   refine req_i ?_ ?_
   · -- r11
    first | omega | assumption | grind
   refine req_i ?_ ?_
   · -- r12
    first | omega | assumption | grind
   refine req_i ?_ ?_
   · -- r13
    first | omega | assumption | grind
   refine req_i ?_ ?_
   · -- r14
    first | omega | assumption | grind
   refine req_i ?_ ?_
   · -- r15
    first | omega | ((try simp only [sigWipe, smpV, u32, mxW, wipPost, sml, wC, wS, List.cons.injEq, DV.b.injEq, and_true, List.length_cons, List.length_nil]); first | done | omega | assumption | grind [getD_set, getD_rep, toNat_succ, cntN_yes, cntN_no])
   rfl
theorem ext_wipe : ∀ p ∈ ([(50, Ext.ctr (ctOfG gl11 sigSmall)), (35, Ext.ctr (ctOfG gl11 sigCar))] : List (Nat × Ext)), ExtRow Tryd.prog p.1 p.2 := by
  intro p hp
  simp only [List.mem_cons, List.not_mem_nil, or_false] at hp
  rcases hp with rfl | rfl
  · trivial
  · trivial
theorem cts_wipe : CtsOk Tryd.prog [(50, Ext.ctr (ctOfG gl11 sigSmall)), (35, Ext.ctr (ctOfG gl11 sigCar))] := ctsOk_ofG (cs := [(50, sigSmall), (35, sigCar)])
  (fun p hp => by
    simp only [List.mem_cons, List.not_mem_nil, or_false] at hp
    rcases hp with rfl | rfl
    · exact fn_small
    · exact fn_car
)
  (fun f c h => by
    simp only [List.lookup_cons] at h
    repeat' split at h
    all_goals first | (cases h; done) | (rename_i e; have e := beq_iff_eq.1 e; subst e; cases h; refine ⟨_, ?_, rfl⟩; simp))
theorem fn_wipe : FnOk Tryd.prog 36 sigWipe gl11 := fn_sound (by kernel_rfl) ext_wipe cts_wipe names vt_wipe
end Go.Proofs.YtblcahackjpnjaaDoor

namespace Go.Proofs.YtblcahackjpnjaaDoor
open Go.Ev Go.Sp
set_option maxRecDepth 100000
theorem vc_mix : vcFn Tryd.prog [(46, Ext.ctr (ctOfG gl11 sigAdv)), (36, Ext.ctr (ctOfG gl11 sigWipe))] (fun f p _ => at2 f p 14 58 chkL (at2 f p 47 30 mixL (none))) gl11 100 14 sigMix = (allB fun l0 : List Int => 
impB (l0.length ≤ (400 : Nat)) (
impB (∀ (y : Int), y ∈ l0 → (-9223372036854775808 : Int) ≤ y ∧ y ≤ (9223372036854775807 : Int)) (
allB fun l1 : List Int => 
impB (l1.length = l0.length) (
impB (∀ (y : Int), y ∈ l1 → (-9223372036854775808 : Int) ≤ y ∧ y ≤ (9223372036854775807 : Int)) (
allB fun n2 : Int => 
impB ((0 : Int) ≤ n2) (
impB (n2 ≤ (4294967295 : Int)) (
allB fun n3 : Int => 
impB ((0 : Int) ≤ n3) (
impB (n3 ≤ (4294967295 : Int)) (
impB (sigMix.pre [DV.l l0, DV.l l1, DV.n n2, DV.n n3]) (
reqB (((0 : Nat) + l0.length) * (2 : Nat) ≤ l0.length.mul (2 : Nat)) (
reqB (l0.length ≤ (9223372036854775807 : Nat)) (
reqB ((List.take l0.length (List.drop (0 : Nat) l0)).length = l0.length) (
reqB (∀ (y : Int),
 y ∈ List.take l0.length (List.drop (0 : Nat) l0) → (-9223372036854775808 : Int) ≤ y ∧ y ≤ (9223372036854775807 : Int)) (
reqB ((List.take l0.length (List.drop (0 : Nat) l1)).length = l0.length) (
reqB (∀ (y : Int),
 y ∈ List.take l0.length (List.drop (0 : Nat) l1) → (-9223372036854775808 : Int) ≤ y ∧ y ≤ (9223372036854775807 : Int)) (
reqB (chkL.inv
 [DV.l (List.take l0.length (List.drop (0 : Nat) l0)), DV.l (List.take l0.length (List.drop (0 : Nat) l1))]
 [DV.n (0 : Int)]) (
allB fun n4 : Int => 
impB ((0 : Int) ≤ n4) (
impB (n4 ≤ (400 : Int)) (
impB (chkL.inv
 [DV.l (List.take l0.length (List.drop (0 : Nat) l0)), DV.l (List.take l0.length (List.drop (0 : Nat) l1))]
 [DV.n n4]) (
bR (dec (n4 < (↑l0.length : Int))) (
 reqB (n4.toNat < l0.length) (
 reqB (Nat.add (0 : Nat) n4.toNat < l0.length) (
 reqB (Nat.add (0 : Nat) n4.toNat < l1.length) (
 reqB ((-9223372036854775808 : Int) ≤ l0.getD (Nat.add (0 : Nat) n4.toNat) (0 : Int)) (
 reqB (l0.getD (Nat.add (0 : Nat) n4.toNat) (0 : Int) ≤ (9223372036854775807 : Int)) (
 reqB ((-9223372036854775808 : Int) ≤ l1.getD (Nat.add (0 : Nat) n4.toNat) (0 : Int)) (
 reqB (l1.getD (Nat.add (0 : Nat) n4.toNat) (0 : Int) ≤ (9223372036854775807 : Int)) (
 reqB (sigWipe.pre
 [DV.n (l0.getD (Nat.add (0 : Nat) n4.toNat) (0 : Int)),
 DV.n (l1.getD (Nat.add (0 : Nat) n4.toNat) (0 : Int)), DV.n (0 : Int)]) (
 allB fun n5 : Int => 
 impB ((-17873661021126656 : Int) ≤ n5) (
 impB (n5 ≤ (17873661021126656 : Int)) (
 allB fun n6 : Int => 
 impB ((-17873661021126656 : Int) ≤ n6) (
 impB (n6 ≤ (17873661021126656 : Int)) (
 allB fun n7 : Int => 
 impB ((0 : Int) ≤ n7) (
 impB (n7 ≤ (18 : Int)) (
 impB (sigWipe.post
 [DV.n (l0.getD (Nat.add (0 : Nat) n4.toNat) (0 : Int)),
 DV.n (l1.getD (Nat.add (0 : Nat) n4.toNat) (0 : Int)), DV.n (0 : Int)]
 [DV.n n5, DV.n n6, DV.n n7]) (
 bR (dec (n7 ≠ (0 : Int))) (
 reqB ((0 : Int) ≤ n7) (
 reqB (n7 ≤ (18 : Int)) (
 reqB (sigMix.post [DV.l l0, DV.l l1, DV.n n2, DV.n n3]
 [DV.l [], DV.l [], DV.n n7]) (
 true)))) (
 bR (bR (bR (dec ((0 : Nat) = (0 : Nat))) (
 dec (l0.length = l0.length)) (
 false)) (
 bR (bR (dec ((0 : Nat) = (0 : Nat))) (
 dec (l0.length = l0.length)) (
 false)) (
 bR (dec ((↑l0.length : Int) = (↑l0.length : Int))) (
 true) (
 false)) (
 false)) (
 false)) (
 bR (bR (bR (dec (n2 = n2)) (
 bR (dec (n3 = n3)) (
 true) (
 false)) (
 false)) (
 true) (
 false)) (
 reqB ((0 : Int) ≤ n4 + (1 : Int)) (
 reqB (n4 + (1 : Int) ≤ (400 : Int)) (
 reqB (chkL.inv
 [DV.l (List.take l0.length (List.drop (0 : Nat) l0)), DV.l (List.take l0.length (List.drop (0 : Nat) l1))]
 [DV.n (n4 + (1 : Int))]) (
 reqB (chkL.mea
 [DV.l (List.take l0.length (List.drop (0 : Nat) l0)),
 DV.l (List.take l0.length (List.drop (0 : Nat) l1))]
 [DV.n (n4 + (1 : Int))] <
 chkL.mea
 [DV.l (List.take l0.length (List.drop (0 : Nat) l0)),
 DV.l (List.take l0.length (List.drop (0 : Nat) l1))]
 [DV.n n4]) (
 true))))) (
 false)) (
 false)))))))))))))))))) (
 reqB ((↑l0.length : Int).toNat ≤ (↑l0.length : Int).toNat) (
 reqB ((↑l0.length : Int).toNat ≤ (1000000 : Nat)) (
 reqB ((0 : Int) ≤ n2) (
 reqB (n2 ≤ (4294967295 : Int)) (
 reqB ((0 : Int) ≤ n3) (
 reqB (n3 ≤ (4294967295 : Int)) (
 reqB (sigAdv.pre [DV.n n2, DV.n n3, DV.n (0 : Int)]) (
 allB fun n8 : Int => 
 impB ((0 : Int) ≤ n8) (
 impB (n8 ≤ (4294967295 : Int)) (
 impB (sigAdv.post [DV.n n2, DV.n n3, DV.n (0 : Int)] [DV.n n8]) (
 reqB ((0 : Int) ≤ n2) (
 reqB (n2 ≤ (4294967295 : Int)) (
 reqB ((0 : Int) ≤ n3) (
 reqB (n3 ≤ (4294967295 : Int)) (
 reqB (sigAdv.pre [DV.n n2, DV.n n3, DV.n (1 : Int)]) (
 allB fun n9 : Int => 
 impB ((0 : Int) ≤ n9) (
 impB (n9 ≤ (4294967295 : Int)) (
 impB (sigAdv.post [DV.n n2, DV.n n3, DV.n (1 : Int)] [DV.n n9]) (
 reqB ((0 : Int) ≤ n2) (
 reqB (n2 ≤ (4294967295 : Int)) (
 reqB ((0 : Int) ≤ n3) (
 reqB (n3 ≤ (4294967295 : Int)) (
 reqB (sigAdv.pre [DV.n n2, DV.n n3, DV.n (0 : Int)]) (
 allB fun n10 : Int => 
 impB ((0 : Int) ≤ n10) (
 impB (n10 ≤ (4294967295 : Int)) (
 impB (sigAdv.post [DV.n n2, DV.n n3, DV.n (0 : Int)] [DV.n n10]) (
 allB fun n11 : Int => 
 impB (n11 = Go.IntKind.u32.wrap (n9 - n10)) (
 impB (Int.ofNat (0 : Nat) ≤ n11) (
 impB (n11 ≤ Int.ofNat (4294967295 : Nat)) (
 reqB (((0 : Nat) + l0.length) * (2 : Nat) ≤ l0.length.mul (2 : Nat)) (
 reqB (l0.length ≤ (9223372036854775807 : Nat)) (
 reqB ((List.take l0.length (List.drop (0 : Nat) l0)).length = l0.length) (
 reqB (∀ (y : Int),
 y ∈ List.take l0.length (List.drop (0 : Nat) l0) → (-9223372036854775808 : Int) ≤ y ∧ y ≤ (9223372036854775807 : Int)) (
 reqB ((List.take l0.length (List.drop (0 : Nat) l1)).length = l0.length) (
 reqB (∀ (y : Int),
 y ∈ List.take l0.length (List.drop (0 : Nat) l1) → (-9223372036854775808 : Int) ≤ y ∧ y ≤ (9223372036854775807 : Int)) (
 reqB ((0 : Int) ≤ n2) (
 reqB (n2 ≤ (4294967295 : Int)) (
 reqB ((0 : Int) ≤ n3) (
 reqB (n3 ≤ (4294967295 : Int)) (
 reqB ((0 : Int) ≤ n8) (
 reqB (n8 ≤ (4294967295 : Int)) (
 reqB (lenCols
 [Col.i Go.IntKind.i64 (Int.negSucc (9223372036854775807 : Nat)) (Int.ofNat (9223372036854775807 : Nat))
 (List.replicate (↑l0.length : Int).toNat (0 : Int)),
 Col.i Go.IntKind.i64 (Int.negSucc (9223372036854775807 : Nat)) (Int.ofNat (9223372036854775807 : Nat))
 (List.replicate (↑l0.length : Int).toNat (0 : Int))] ≤
 (400 : Nat)) (
 reqB ((List.replicate (↑l0.length : Int).toNat (0 : Int)).length =
 lenCols
 [Col.i Go.IntKind.i64 (Int.negSucc (9223372036854775807 : Nat)) (Int.ofNat (9223372036854775807 : Nat))
 (List.replicate (↑l0.length : Int).toNat (0 : Int)),
 Col.i Go.IntKind.i64 (Int.negSucc (9223372036854775807 : Nat)) (Int.ofNat (9223372036854775807 : Nat))
 (List.replicate (↑l0.length : Int).toNat (0 : Int))]) (
 reqB (∀ (y : Int),
 y ∈ List.replicate (↑l0.length : Int).toNat (0 : Int) →
 (-9223372036854775808 : Int) ≤ y ∧ y ≤ (9223372036854775807 : Int)) (
 reqB ((List.replicate (↑l0.length : Int).toNat (0 : Int)).length =
 lenCols
 [Col.i Go.IntKind.i64 (Int.negSucc (9223372036854775807 : Nat)) (Int.ofNat (9223372036854775807 : Nat))
 (List.replicate (↑l0.length : Int).toNat (0 : Int)),
 Col.i Go.IntKind.i64 (Int.negSucc (9223372036854775807 : Nat)) (Int.ofNat (9223372036854775807 : Nat))
 (List.replicate (↑l0.length : Int).toNat (0 : Int))]) (
 reqB (∀ (y : Int),
 y ∈ List.replicate (↑l0.length : Int).toNat (0 : Int) →
 (-9223372036854775808 : Int) ≤ y ∧ y ≤ (9223372036854775807 : Int)) (
 reqB (mixL.inv
 [DV.l (List.take l0.length (List.drop (0 : Nat) l0)), DV.l (List.take l0.length (List.drop (0 : Nat) l1)),
 DV.n n2, DV.n n3]
 [DV.n (0 : Int), DV.n n8, DV.l (List.replicate (↑l0.length : Int).toNat (0 : Int)),
 DV.l (List.replicate (↑l0.length : Int).toNat (0 : Int))]) (
 allB fun n12 : Int => 
 impB ((0 : Int) ≤ n12) (
 impB (n12 ≤ (400 : Int)) (
 allB fun n13 : Int => 
 impB ((0 : Int) ≤ n13) (
 impB (n13 ≤ (4294967295 : Int)) (
 allB fun l14 : List Int => 
 impB (l14.length ≤ (400 : Nat)) (
 impB (∀ (y : Int), y ∈ l14 → (-9223372036854775808 : Int) ≤ y ∧ y ≤ (9223372036854775807 : Int)) (
 allB fun l15 : List Int => 
 impB (l15.length = l14.length) (
 impB (∀ (y : Int), y ∈ l15 → (-9223372036854775808 : Int) ≤ y ∧ y ≤ (9223372036854775807 : Int)) (
 impB (mixL.inv
 [DV.l (List.take l0.length (List.drop (0 : Nat) l0)), DV.l (List.take l0.length (List.drop (0 : Nat) l1)),
 DV.n n2, DV.n n3]
 [DV.n n12, DV.n n13, DV.l l14, DV.l l15]) (
 bR (dec (n12 < (↑l0.length : Int))) (
 reqB (n12.toNat < l0.length) (
 reqB (Nat.add (0 : Nat) n12.toNat < l0.length) (
 reqB (Nat.add (0 : Nat) n12.toNat < l1.length) (
 reqB ((-9223372036854775808 : Int) ≤ l0.getD (Nat.add (0 : Nat) n12.toNat) (0 : Int)) (
 reqB (l0.getD (Nat.add (0 : Nat) n12.toNat) (0 : Int) ≤ (9223372036854775807 : Int)) (
 reqB ((-9223372036854775808 : Int) ≤ l1.getD (Nat.add (0 : Nat) n12.toNat) (0 : Int)) (
 reqB (l1.getD (Nat.add (0 : Nat) n12.toNat) (0 : Int) ≤ (9223372036854775807 : Int)) (
 reqB ((0 : Int) ≤ n13) (
 reqB (n13 ≤ (4294967295 : Int)) (
 reqB (sigWipe.pre
 [DV.n (l0.getD (Nat.add (0 : Nat) n12.toNat) (0 : Int)),
 DV.n (l1.getD (Nat.add (0 : Nat) n12.toNat) (0 : Int)), DV.n n13]) (
 allB fun n16 : Int => 
 impB ((-17873661021126656 : Int) ≤ n16) (
 impB (n16 ≤ (17873661021126656 : Int)) (
 allB fun n17 : Int => 
 impB ((-17873661021126656 : Int) ≤ n17) (
 impB (n17 ≤ (17873661021126656 : Int)) (
 allB fun n18 : Int => 
 impB ((0 : Int) ≤ n18) (
 impB (n18 ≤ (18 : Int)) (
 impB (sigWipe.post
 [DV.n (l0.getD (Nat.add (0 : Nat) n12.toNat) (0 : Int)),
 DV.n (l1.getD (Nat.add (0 : Nat) n12.toNat) (0 : Int)), DV.n n13]
 [DV.n n16, DV.n n17, DV.n n18]) (
 reqB (n12.toNat < (↑l0.length : Int).toNat) (
 reqB (Nat.add (0 : Nat) n12.toNat < l14.length) (
 reqB (Nat.add (0 : Nat) n12.toNat < l15.length) (
 allB fun n19 : Int => 
 impB (n19 = Go.IntKind.u32.wrap (n13 + n11)) (
 impB (Int.ofNat (0 : Nat) ≤ n19) (
 impB (n19 ≤ Int.ofNat (4294967295 : Nat)) (
 bR (bR (bR (bR (dec ((↑l0.length : Int) = (↑l0.length : Int))) (
 bR (bR (dec ((0 : Nat) = (0 : Nat))) (
 dec (l0.length = l0.length)) (
 false)) (
 bR (bR (bR (bR (dec (n2 = n2)) (
 bR (dec (n3 = n3)) (
 true) (
 false)) (
 false)) (
 true) (
 false)) (
 true) (
 false)) (
 bR (bR (dec ((0 : Nat) = (0 : Nat))) (
 dec ((↑l0.length : Int).toNat = (↑l0.length : Int).toNat)) (
 false)) (
 bR (dec ((↑l0.length : Int) = (↑l0.length : Int))) (
 bR (bR (dec ((0 : Nat) = (0 : Nat))) (
 dec (l0.length = l0.length)) (
 false)) (
 bR (bR (bR (bR (true) (
 true) (
 false)) (
 true) (
 false)) (
 true) (
 false)) (
 bR (bR (bR (bR (dec (n2 = n2)) (
 bR (dec (n3 = n3)) (
 true) (
 false)) (
 false)) (
 true) (
 false)) (
 true) (
 false)) (
 bR (bR (dec ((0 : Nat) = (0 : Nat))) (
 dec (l0.length = l0.length)) (
 false)) (
 true) (
 false)) (
 false)) (
 false)) (
 false)) (
 false)) (
 false)) (
 false)) (
 false)) (
 false)) (
 dec (sameRT (rtAt Go.Proofs.Tryd.prog (37 : Nat) [Bool.true, Bool.true, Bool.false, Bool.true, Bool.false]).fst
 (rtAt Go.Proofs.Tryd.prog (37 : Nat) [Bool.true, Bool.true, Bool.false, Bool.true, Bool.false]).snd.fst
 (rtAt Go.Proofs.Tryd.prog (37 : Nat) [Bool.true, Bool.true, Bool.false, Bool.true, Bool.false]).snd.snd
 (rtAt Go.Proofs.Tryd.prog (37 : Nat) [Bool.true, Bool.true, Bool.false, Bool.true, Bool.false]).fst
 (rtAt Go.Proofs.Tryd.prog (37 : Nat) [Bool.true, Bool.true, Bool.false, Bool.true, Bool.false]).snd.fst
 (rtAt Go.Proofs.Tryd.prog (37 : Nat) [Bool.true, Bool.true, Bool.false, Bool.true, Bool.false]).snd.snd)) (
 false)) (
 true) (
 false)) (
 bR (bR (dec ((↑l0.length : Int) = (↑l0.length : Int))) (
 true) (
 false)) (
 bR (bR (bR (dec (n2 = n2)) (
 bR (dec (n3 = n3)) (
 true) (
 false)) (
 false)) (
 bR (bR (bR (dec ((0 : Nat) = (0 : Nat))) (
 dec (l0.length = l0.length)) (
 false)) (
 true) (
 false)) (
 bR (bR (bR (dec ((0 : Nat) = (0 : Nat))) (
 dec ((↑l0.length : Int).toNat = (↑l0.length : Int).toNat)) (
 false)) (
 true) (
 false)) (
 bR (bR (bR (bR (bR (dec (n2 = n2)) (
 bR (dec (n3 = n3)) (
 true) (
 false)) (
 false)) (
 true) (
 false)) (
 true) (
 false)) (
 true) (
 false)) (
 bR (bR (dec ((↑l0.length : Int) = (↑l0.length : Int))) (
 true) (
 false)) (
 bR (bR (dec (n2 = n2)) (
 bR (dec (n3 = n3)) (
 true) (
 false)) (
 false)) (
 bR (bR (dec (n2 = n2)) (
 bR (dec (n3 = n3)) (
 true) (
 false)) (
 false)) (
 bR (bR (dec (n2 = n2)) (
 bR (dec (n3 = n3)) (
 true) (
 false)) (
 false)) (
 bR (bR (dec (n11 = n11)) (
 true) (
 false)) (
 true) (
 false)) (
 false)) (
 false)) (
 false)) (
 false)) (
 false)) (
 false)) (
 false)) (
 false)) (
 reqB ((0 : Int) ≤ n12 + (1 : Int)) (
 reqB (n12 + (1 : Int) ≤ (400 : Int)) (
 reqB ((0 : Int) ≤ n19) (
 reqB (n19 ≤ (4294967295 : Int)) (
 reqB (lenCols
 [Col.i Go.IntKind.i64 (-9223372036854775808 : Int) (9223372036854775807 : Int)
 (l14.set (Nat.add (0 : Nat) n12.toNat) n16),
 Col.i Go.IntKind.i64 (-9223372036854775808 : Int) (9223372036854775807 : Int)
 (l15.set (Nat.add (0 : Nat) n12.toNat) n17)] ≤
 (400 : Nat)) (
 reqB ((l14.set (Nat.add (0 : Nat) n12.toNat) n16).length =
 lenCols
 [Col.i Go.IntKind.i64 (-9223372036854775808 : Int) (9223372036854775807 : Int)
 (l14.set (Nat.add (0 : Nat) n12.toNat) n16),
 Col.i Go.IntKind.i64 (-9223372036854775808 : Int) (9223372036854775807 : Int)
 (l15.set (Nat.add (0 : Nat) n12.toNat) n17)]) (
 reqB (∀ (y : Int),
 y ∈ l14.set (Nat.add (0 : Nat) n12.toNat) n16 → (-9223372036854775808 : Int) ≤ y ∧ y ≤ (9223372036854775807 : Int)) (
 reqB ((l15.set (Nat.add (0 : Nat) n12.toNat) n17).length =
 lenCols
 [Col.i Go.IntKind.i64 (-9223372036854775808 : Int) (9223372036854775807 : Int)
 (l14.set (Nat.add (0 : Nat) n12.toNat) n16),
 Col.i Go.IntKind.i64 (-9223372036854775808 : Int) (9223372036854775807 : Int)
 (l15.set (Nat.add (0 : Nat) n12.toNat) n17)]) (
 reqB (∀ (y : Int),
 y ∈ l15.set (Nat.add (0 : Nat) n12.toNat) n17 → (-9223372036854775808 : Int) ≤ y ∧ y ≤ (9223372036854775807 : Int)) (
 reqB (mixL.inv
 [DV.l (List.take l0.length (List.drop (0 : Nat) l0)), DV.l (List.take l0.length (List.drop (0 : Nat) l1)),
 DV.n n2, DV.n n3]
 [DV.n (n12 + (1 : Int)), DV.n n19, DV.l (l14.set (Nat.add (0 : Nat) n12.toNat) n16),
 DV.l (l15.set (Nat.add (0 : Nat) n12.toNat) n17)]) (
 reqB (mixL.mea
 [DV.l (List.take l0.length (List.drop (0 : Nat) l0)),
 DV.l (List.take l0.length (List.drop (0 : Nat) l1)), DV.n n2, DV.n n3]
 [DV.n (n12 + (1 : Int)), DV.n n19, DV.l (l14.set (Nat.add (0 : Nat) n12.toNat) n16),
 DV.l (l15.set (Nat.add (0 : Nat) n12.toNat) n17)] <
 mixL.mea
 [DV.l (List.take l0.length (List.drop (0 : Nat) l0)),
 DV.l (List.take l0.length (List.drop (0 : Nat) l1)), DV.n n2, DV.n n3]
 [DV.n n12, DV.n n13, DV.l l14, DV.l l15]) (
 true)))))))))))) (
 false)) (
 false)) (
 false))))))))))))))))))))))))) (
 reqB (((0 : Nat) + (↑l0.length : Int).toNat) * (2 : Nat) ≤ l14.length.mul (2 : Nat)) (
 reqB ((↑l0.length : Int).toNat ≤ (400 : Nat)) (
 reqB ((List.take (↑l0.length : Int).toNat (List.drop (0 : Nat) l14)).length = (↑l0.length : Int).toNat) (
 reqB (∀ (y : Int),
 y ∈ List.take (↑l0.length : Int).toNat (List.drop (0 : Nat) l14) →
 (-17873661021126656 : Int) ≤ y ∧ y ≤ (17873661021126656 : Int)) (
 reqB ((List.take (↑l0.length : Int).toNat (List.drop (0 : Nat) l15)).length = (↑l0.length : Int).toNat) (
 reqB (∀ (y : Int),
 y ∈ List.take (↑l0.length : Int).toNat (List.drop (0 : Nat) l15) →
 (-17873661021126656 : Int) ≤ y ∧ y ≤ (17873661021126656 : Int)) (
 reqB (sigMix.post [DV.l l0, DV.l l1, DV.n n2, DV.n n3]
 [DV.l (List.take (↑l0.length : Int).toNat (List.drop (0 : Nat) l14)),
 DV.l (List.take (↑l0.length : Int).toNat (List.drop (0 : Nat) l15)), DV.n (0 : Int)]) (
 true))))))))))))))))))))))))))))))))))))))))))))))))))))))))))))))))))))))))))))))))))))) := by kernel_rfl
set_option maxHeartbeats 8000000 in
theorem vt_mix : vcFn Tryd.prog [(46, Ext.ctr (ctOfG gl11 sigAdv)), (36, Ext.ctr (ctOfG gl11 sigWipe))] (fun f p _ => at2 f p 14 58 chkL (at2 f p 47 30 mixL (none))) gl11 100 14 sigMix = true := by
  rw [vc_mix]
  try simp only [Int.toNat_natCast, List.length_set, List.length_replicate, List.length_take, List.length_drop, List.length_append, List.length_cons, List.length_nil, Nat.min_self, List.take_take, lenCols_i, lenCols_b, List.drop_zero, List.take_length, Nat.add_eq, Nat.mul_eq, Nat.sub_eq, Nat.zero_add, Nat.sub_zero, Nat.mul_one]
  refine all_i fun l0 => ?_
  refine imp_i fun h0 => ?_
  refine imp_i fun h1 => ?_
  refine all_i fun l1 => ?_
  refine imp_i fun h2 => ?_
  have tkl1 := take_eq h2
  try simp only [tkl1]
  refine imp_i fun h3 => ?_
  refine all_i fun n2 => ?_
  refine imp_i fun h4 => ?_
  refine imp_i fun h5 => ?_
  refine all_i fun n3 => ?_
  refine imp_i fun h6 => ?_
  refine imp_i fun h7 => ?_
  refine imp_i fun h8 => ?_
  try simp only [sigMix, smpI, u32, mxL, mixPost, wC, adv, wS, List.cons.injEq, DV.b.injEq, and_true, List.length_cons, List.length_nil] at h8
  refine req_i ?_ ?_
  · -- r0
   first | omega | ((try simp only [Nat.mul_eq]); first | done | omega | assumption | grind [getD_set, getD_rep, toNat_succ, cntN_yes, cntN_no])
  refine req_i ?_ ?_
  · -- r1
   first | omega | ((try simp only [Nat.zero_add]); first | done | omega | assumption | grind [getD_set, getD_rep, toNat_succ, cntN_yes, cntN_no])
  refine req_i ?_ ?_
  · -- r2
   first | omega | ((try simp only [List.length_take, List.take_length, List.take_take, Nat.min_self, List.length_drop, List.drop_zero, List.length_cons, List.length_nil]); first | done | omega | assumption | grind [getD_set, getD_rep, toNat_succ, cntN_yes, cntN_no])
  refine req_i ?_ ?_
  · -- r3
   first | assumption | exact rep_bd (by omega) (by omega) | exact set_bd (by assumption) (by omega) (by omega) | exact take_bd (by assumption) | ((try simp only [List.length_take, List.take_length, List.take_take, Nat.min_self, List.length_drop, List.drop_zero, List.length_cons, List.length_nil]); first | assumption | exact rep_bd (by omega) (by omega) | exact set_bd (by assumption) (by omega) (by omega) | exact take_bd (by assumption) | grind [getD_set, getD_rep, toNat_succ, cntN_yes, cntN_no])
  refine req_i ?_ ?_
  · -- r4
   first | omega | ((try simp only [List.length_take, List.take_length, List.take_take, Nat.min_self, List.length_drop, List.drop_zero, List.length_cons, List.length_nil]); first | done | omega | assumption | grind [getD_set, getD_rep, toNat_succ, cntN_yes, cntN_no])
  refine req_i ?_ ?_
  · -- r5
   first | assumption | exact rep_bd (by omega) (by omega) | exact set_bd (by assumption) (by omega) (by omega) | exact take_bd (by assumption) | ((try simp only [List.length_take, List.take_length, List.take_take, Nat.min_self, List.length_drop, List.drop_zero, List.length_cons, List.length_nil]); first | assumption | exact rep_bd (by omega) (by omega) | exact set_bd (by assumption) (by omega) (by omega) | exact take_bd (by assumption) | grind [getD_set, getD_rep, toNat_succ, cntN_yes, cntN_no])
  refine req_i ?_ ?_
  · -- r6
   exact ⟨by omega, by omega, fun j hj => absurd hj (by omega)⟩
  refine all_i fun n4 => ?_
  refine imp_i fun h9 => ?_
  refine imp_i fun h10 => ?_
  refine imp_i fun h11 => ?_
  try simp only [Int.toNat_natCast, List.length_set, List.length_replicate, List.length_take, List.length_drop, List.length_append, List.length_cons, List.length_nil, Nat.min_self, List.take_take, lenCols_i, lenCols_b, List.drop_zero, List.take_length, Nat.add_eq, Nat.mul_eq, Nat.sub_eq, Nat.zero_add, Nat.sub_zero, Nat.mul_one] at h11
  obtain ⟨i1, i2, i3⟩ := h11
  refine bR_dec (fun h12 => ?_) (fun h12 => ?_)
  ·
   have b1 := getD_in h1 (i := n4.toNat) (by omega)
   have b2 := getD_in h3 (i := n4.toNat) (by omega)
   refine req_i ?_ ?_
   · -- r7
    first | omega | ((try simp only [Int.toNat_natCast, List.length_cons, List.length_nil]); first | done | omega | assumption | grind [getD_set, getD_rep, toNat_succ, cntN_yes, cntN_no])
   refine req_i ?_ ?_
   · -- r8
    first | omega | ((try simp only [Int.toNat_natCast, List.length_cons, List.length_nil, Nat.add_eq, Nat.zero_add]); first | done | omega | assumption | grind [getD_set, getD_rep, toNat_succ, cntN_yes, cntN_no])
   refine req_i ?_ ?_
   · -- r9
    first | omega | ((try simp only [Int.toNat_natCast, List.length_cons, List.length_nil, Nat.add_eq, Nat.zero_add]); first | done | omega | assumption | grind [getD_set, getD_rep, toNat_succ, cntN_yes, cntN_no])
   refine req_i ?_ ?_
   · -- r10
    first | omega | assumption | grind
   refine req_i ?_ ?_
   · -- r11
    first | omega | assumption | grind
   refine req_i ?_ ?_
   · -- r12
    first | omega | assumption | grind
   refine req_i ?_ ?_
   · -- r13
    first | omega | assumption | grind
   refine req_i ?_ ?_
   · -- r14
    first | omega | ((try simp only [sigWipe, smpV, u32, mxW, wipPost, sml, wC, wS, List.cons.injEq, DV.b.injEq, and_true, Int.toNat_natCast, List.length_cons, List.length_nil, Nat.add_eq, Nat.zero_add]); first | done | omega | assumption | grind [getD_set, getD_rep, toNat_succ, cntN_yes, cntN_no])
   refine all_i fun n5 => ?_
   refine imp_i fun h13 => ?_
   refine imp_i fun h14 => ?_
   refine all_i fun n6 => ?_
   refine imp_i fun h15 => ?_
   refine imp_i fun h16 => ?_
   refine all_i fun n7 => ?_
   refine imp_i fun h17 => ?_
   refine imp_i fun h18 => ?_
   refine imp_i fun h19 => ?_
   try simp only [Int.toNat_natCast, List.length_set, List.length_replicate, List.length_take, List.length_drop, List.length_append, List.length_cons, List.length_nil, Nat.min_self, List.take_take, lenCols_i, lenCols_b, List.drop_zero, List.take_length, Nat.add_eq, Nat.mul_eq, Nat.sub_eq, Nat.zero_add, Nat.sub_zero, Nat.mul_one] at h19
   refine bR_dec (fun h20 => ?_) (fun h20 => ?_)
   ·
    have ns := wip_bad h19 h20
    refine req_i ?_ ?_
    · -- r15
     first | omega | assumption | grind
    refine req_i ?_ ?_
    · -- r16
     first | omega | assumption | grind
    refine req_i ?_ ?_
    · -- r17
     exact .inr (.inl ⟨by omega, fun g => ns.1 (g n4.toNat (by omega)), rfl, rfl, ns.2⟩)
    rfl
   ·
    have ok := wip_good h19 h20
    refine bR_t ?_ ?_
    · -- g0
     first | rfl | (simp only [bR_iff, bR_iff_f, dec_iff, dec_f, beqB_iff', andB_iff', reduceCtorEq, imp_self, false_implies, and_true, true_and, implies_true, and_self]; done) | (simp [bR_iff, dec_iff, beqB_iff', andB_iff']; done) | (simp [bR_iff, dec_iff, beqB_iff', andB_iff']; omega)
    refine bR_t ?_ ?_
    · -- g1
     first | rfl | (simp only [bR_iff, bR_iff_f, dec_iff, dec_f, beqB_iff', andB_iff', reduceCtorEq, imp_self, false_implies, and_true, true_and, implies_true, and_self]; done) | (simp [bR_iff, dec_iff, beqB_iff', andB_iff']; done) | (simp [bR_iff, dec_iff, beqB_iff', andB_iff']; omega)
    refine req_i ?_ ?_
    · -- r18
     first | omega | assumption | grind
    refine req_i ?_ ?_
    · -- r19
     first | omega | assumption | grind
    refine req_i ?_ ?_
    · -- r20
     exact ⟨by omega, by omega, chk_step i3 ok.1⟩
    refine req_i ?_ ?_
    · -- r21
     show ((l0.length : Int) - (n4 + 1)).toNat < ((l0.length : Int) - n4).toNat; omega
    rfl
  ·
   have e4 : n4 = (l0.length : Int) := by omega
   have all : ∀ j : Nat, j < l0.length → sml (l0.getD j 0) (l1.getD j 0) := fun j hj => i3 j (by omega)
   refine req_i ?_ ?_
   · -- r22
    first | omega | ((try simp only [Int.toNat_natCast, List.length_cons, List.length_nil]); first | done | omega | assumption | grind [getD_set, getD_rep, toNat_succ, cntN_yes, cntN_no])
   refine req_i ?_ ?_
   · -- r23
    first | omega | ((try simp only [Int.toNat_natCast, List.length_cons, List.length_nil]); first | done | omega | assumption | grind [getD_set, getD_rep, toNat_succ, cntN_yes, cntN_no])
   refine req_i ?_ ?_
   · -- r24
    first | omega | assumption | grind
   refine req_i ?_ ?_
   · -- r25
    first | omega | assumption | grind
   refine req_i ?_ ?_
   · -- r26
    first | omega | assumption | grind
   refine req_i ?_ ?_
   · -- r27
    first | omega | assumption | grind
   refine req_i ?_ ?_
   · -- r28
    first | trivial | assumption | (simp only [sigAdv, u32, advPost, adv, List.cons.injEq, DV.b.injEq, and_true, List.length_cons, List.length_nil]; done) | ((try simp only [sigAdv, u32, advPost, adv, List.cons.injEq, DV.b.injEq, and_true, List.length_cons, List.length_nil]); first | omega | assumption | grind)
   refine all_i fun n8 => ?_
   refine imp_i fun h21 => ?_
   refine imp_i fun h22 => ?_
   refine imp_i fun h23 => ?_
   try simp only [Int.toNat_natCast, List.length_set, List.length_replicate, List.length_take, List.length_drop, List.length_append, List.length_cons, List.length_nil, Nat.min_self, List.take_take, lenCols_i, lenCols_b, List.drop_zero, List.take_length, Nat.add_eq, Nat.mul_eq, Nat.sub_eq, Nat.zero_add, Nat.sub_zero, Nat.mul_one] at h23
   refine req_i ?_ ?_
   · -- r29
    first | omega | assumption | grind
   refine req_i ?_ ?_
   · -- r30
    first | omega | assumption | grind
   refine req_i ?_ ?_
   · -- r31
    first | omega | assumption | grind
   refine req_i ?_ ?_
   · -- r32
    first | omega | assumption | grind
   refine req_i ?_ ?_
   · -- r33
    first | trivial | assumption | (simp only [sigAdv, u32, advPost, adv, List.cons.injEq, DV.b.injEq, and_true, List.length_cons, List.length_nil]; done) | ((try simp only [sigAdv, u32, advPost, adv, List.cons.injEq, DV.b.injEq, and_true, List.length_cons, List.length_nil]); first | omega | assumption | grind)
   refine all_i fun n9 => ?_
   refine imp_i fun h24 => ?_
   refine imp_i fun h25 => ?_
   refine imp_i fun h26 => ?_
   try simp only [Int.toNat_natCast, List.length_set, List.length_replicate, List.length_take, List.length_drop, List.length_append, List.length_cons, List.length_nil, Nat.min_self, List.take_take, lenCols_i, lenCols_b, List.drop_zero, List.take_length, Nat.add_eq, Nat.mul_eq, Nat.sub_eq, Nat.zero_add, Nat.sub_zero, Nat.mul_one] at h26
   refine req_i ?_ ?_
   · -- r34
    first | omega | assumption | grind
   refine req_i ?_ ?_
   · -- r35
    first | omega | assumption | grind
   refine req_i ?_ ?_
   · -- r36
    first | omega | assumption | grind
   refine req_i ?_ ?_
   · -- r37
    first | omega | assumption | grind
   refine req_i ?_ ?_
   · -- r38
    first | trivial | assumption | (simp only [sigAdv, u32, advPost, adv, List.cons.injEq, DV.b.injEq, and_true, List.length_cons, List.length_nil]; done) | ((try simp only [sigAdv, u32, advPost, adv, List.cons.injEq, DV.b.injEq, and_true, List.length_cons, List.length_nil]); first | omega | assumption | grind)
   refine all_i fun n10 => ?_
   refine imp_i fun h27 => ?_
   refine imp_i fun h28 => ?_
   refine imp_i fun h29 => ?_
   try simp only [Int.toNat_natCast, List.length_set, List.length_replicate, List.length_take, List.length_drop, List.length_append, List.length_cons, List.length_nil, Nat.min_self, List.take_take, lenCols_i, lenCols_b, List.drop_zero, List.take_length, Nat.add_eq, Nat.mul_eq, Nat.sub_eq, Nat.zero_add, Nat.sub_zero, Nat.mul_one] at h29
   refine all_i fun n11 => ?_
   refine imp_i fun h30 => ?_
   simp only [wrap_u32] at h30
   refine imp_i fun h31 => ?_
   refine imp_i fun h32 => ?_
   refine req_i ?_ ?_
   · -- r39
    first | omega | ((try simp only [Nat.mul_eq]); first | done | omega | assumption | grind [getD_set, getD_rep, toNat_succ, cntN_yes, cntN_no])
   refine req_i ?_ ?_
   · -- r40
    first | omega | ((try simp only [Nat.zero_add]); first | done | omega | assumption | grind [getD_set, getD_rep, toNat_succ, cntN_yes, cntN_no])
   refine req_i ?_ ?_
   · -- r41
    first | omega | ((try simp only [List.length_take, List.take_length, List.take_take, Nat.min_self, List.length_drop, List.drop_zero, List.length_cons, List.length_nil]); first | done | omega | assumption | grind [getD_set, getD_rep, toNat_succ, cntN_yes, cntN_no])
   refine req_i ?_ ?_
   · -- r42
    first | assumption | exact rep_bd (by omega) (by omega) | exact set_bd (by assumption) (by omega) (by omega) | exact take_bd (by assumption) | ((try simp only [List.length_take, List.take_length, List.take_take, Nat.min_self, List.length_drop, List.drop_zero, List.length_cons, List.length_nil]); first | assumption | exact rep_bd (by omega) (by omega) | exact set_bd (by assumption) (by omega) (by omega) | exact take_bd (by assumption) | grind [getD_set, getD_rep, toNat_succ, cntN_yes, cntN_no])
   refine req_i ?_ ?_
   · -- r43
    first | omega | ((try simp only [List.length_take, List.take_length, List.take_take, Nat.min_self, List.length_drop, List.drop_zero, List.length_cons, List.length_nil]); first | done | omega | assumption | grind [getD_set, getD_rep, toNat_succ, cntN_yes, cntN_no])
   refine req_i ?_ ?_
   · -- r44
    first | assumption | exact rep_bd (by omega) (by omega) | exact set_bd (by assumption) (by omega) (by omega) | exact take_bd (by assumption) | ((try simp only [List.length_take, List.take_length, List.take_take, Nat.min_self, List.length_drop, List.drop_zero, List.length_cons, List.length_nil]); first | assumption | exact rep_bd (by omega) (by omega) | exact set_bd (by assumption) (by omega) (by omega) | exact take_bd (by assumption) | grind [getD_set, getD_rep, toNat_succ, cntN_yes, cntN_no])
   refine req_i ?_ ?_
   · -- r45
    first | omega | assumption | grind
   refine req_i ?_ ?_
   · -- r46
    first | omega | assumption | grind
   refine req_i ?_ ?_
   · -- r47
    first | omega | assumption | grind
   refine req_i ?_ ?_
   · -- r48
    first | omega | assumption | grind
   refine req_i ?_ ?_
   · -- r49
    first | omega | assumption | grind
   refine req_i ?_ ?_
   · -- r50
    first | omega | assumption | grind
   refine req_i ?_ ?_
   · -- r51
    first | omega | ((try simp only [Int.toNat_natCast, List.length_replicate, List.length_cons, List.length_nil, lenCols_i, lenCols_b]); first | done | omega | assumption | grind [getD_set, getD_rep, toNat_succ, cntN_yes, cntN_no])
   refine req_i ?_ ?_
   · -- r52
    first | omega | ((try simp only [Int.toNat_natCast, List.length_replicate, List.length_cons, List.length_nil, lenCols_i, lenCols_b]); first | done | omega | assumption | grind [getD_set, getD_rep, toNat_succ, cntN_yes, cntN_no])
   refine req_i ?_ ?_
   · -- r53
    first | assumption | exact rep_bd (by omega) (by omega) | exact set_bd (by assumption) (by omega) (by omega) | exact take_bd (by assumption) | ((try simp only [Int.toNat_natCast, List.length_replicate, List.length_cons, List.length_nil]); first | assumption | exact rep_bd (by omega) (by omega) | exact set_bd (by assumption) (by omega) (by omega) | exact take_bd (by assumption) | grind [getD_set, getD_rep, toNat_succ, cntN_yes, cntN_no])
   refine req_i ?_ ?_
   · -- r54
    first | omega | ((try simp only [Int.toNat_natCast, List.length_replicate, List.length_cons, List.length_nil, lenCols_i, lenCols_b]); first | done | omega | assumption | grind [getD_set, getD_rep, toNat_succ, cntN_yes, cntN_no])
   refine req_i ?_ ?_
   · -- r55
    first | assumption | exact rep_bd (by omega) (by omega) | exact set_bd (by assumption) (by omega) (by omega) | exact take_bd (by assumption) | ((try simp only [Int.toNat_natCast, List.length_replicate, List.length_cons, List.length_nil]); first | assumption | exact rep_bd (by omega) (by omega) | exact set_bd (by assumption) (by omega) (by omega) | exact take_bd (by assumption) | grind [getD_set, getD_rep, toNat_succ, cntN_yes, cntN_no])
   refine req_i ?_ ?_
   · -- r56
    exact ⟨by omega, by omega, h23, by simp, fun j hj => absurd hj (by omega)⟩
   refine all_i fun n12 => ?_
   refine imp_i fun h33 => ?_
   refine imp_i fun h34 => ?_
   refine all_i fun n13 => ?_
   refine imp_i fun h35 => ?_
   refine imp_i fun h36 => ?_
   refine all_i fun l14 => ?_
   refine imp_i fun h37 => ?_
   refine imp_i fun h38 => ?_
   refine all_i fun l15 => ?_
   refine imp_i fun h39 => ?_
   have tkl15 := take_eq h39
   try simp only [tkl15]
   refine imp_i fun h40 => ?_
   refine imp_i fun h41 => ?_
   try simp only [Int.toNat_natCast, List.length_set, List.length_replicate, List.length_take, List.length_drop, List.length_append, List.length_cons, List.length_nil, Nat.min_self, List.take_take, lenCols_i, lenCols_b, List.drop_zero, List.take_length, Nat.add_eq, Nat.mul_eq, Nat.sub_eq, Nat.zero_add, Nat.sub_zero, Nat.mul_one] at h41
   obtain ⟨k1, k2, k3, k4, k5⟩ := h41
   refine bR_dec (fun h42 => ?_) (fun h42 => ?_)
   ·
    have b3 := getD_in h1 (i := n12.toNat) (by omega)
    have b4 := getD_in h3 (i := n12.toNat) (by omega)
    refine req_i ?_ ?_
    · -- r57
     first | omega | ((try simp only [Int.toNat_natCast, List.length_cons, List.length_nil]); first | done | omega | assumption | grind [getD_set, getD_rep, toNat_succ, cntN_yes, cntN_no])
    refine req_i ?_ ?_
    · -- r58
     first | omega | ((try simp only [Int.toNat_natCast, List.length_cons, List.length_nil, Nat.add_eq, Nat.zero_add]); first | done | omega | assumption | grind [getD_set, getD_rep, toNat_succ, cntN_yes, cntN_no])
    refine req_i ?_ ?_
    · -- r59
     first | omega | ((try simp only [Int.toNat_natCast, List.length_cons, List.length_nil, Nat.add_eq, Nat.zero_add]); first | done | omega | assumption | grind [getD_set, getD_rep, toNat_succ, cntN_yes, cntN_no])
    refine req_i ?_ ?_
    · -- r60
     first | omega | assumption | grind
    refine req_i ?_ ?_
    · -- r61
     first | omega | assumption | grind
    refine req_i ?_ ?_
    · -- r62
     first | omega | assumption | grind
    refine req_i ?_ ?_
    · -- r63
     first | omega | assumption | grind
    refine req_i ?_ ?_
    · -- r64
     first | omega | assumption | grind
    refine req_i ?_ ?_
    · -- r65
     first | omega | assumption | grind
    refine req_i ?_ ?_
    · -- r66
     first | omega | ((try simp only [sigWipe, smpV, u32, mxW, wipPost, sml, wC, wS, List.cons.injEq, DV.b.injEq, and_true, Int.toNat_natCast, List.length_cons, List.length_nil, Nat.add_eq, Nat.zero_add]); first | done | omega | assumption | grind [getD_set, getD_rep, toNat_succ, cntN_yes, cntN_no])
    refine all_i fun n16 => ?_
    refine imp_i fun h43 => ?_
    refine imp_i fun h44 => ?_
    refine all_i fun n17 => ?_
    refine imp_i fun h45 => ?_
    refine imp_i fun h46 => ?_
    refine all_i fun n18 => ?_
    refine imp_i fun h47 => ?_
    refine imp_i fun h48 => ?_
    refine imp_i fun h49 => ?_
    try simp only [Int.toNat_natCast, List.length_set, List.length_replicate, List.length_take, List.length_drop, List.length_append, List.length_cons, List.length_nil, Nat.min_self, List.take_take, lenCols_i, lenCols_b, List.drop_zero, List.take_length, Nat.add_eq, Nat.mul_eq, Nat.sub_eq, Nat.zero_add, Nat.sub_zero, Nat.mul_one] at h49
    have ok := wip_sml h49 (all n12.toNat (by omega))
    rw [k3] at ok
    refine req_i ?_ ?_
    · -- r67
     first | omega | ((try simp only [Int.toNat_natCast, List.length_cons, List.length_nil]); first | done | omega | assumption | grind [getD_set, getD_rep, toNat_succ, cntN_yes, cntN_no])
    refine req_i ?_ ?_
    · -- r68
     first | omega | ((try simp only [Int.toNat_natCast, List.length_cons, List.length_nil, Nat.add_eq, Nat.zero_add]); first | done | omega | assumption | grind [getD_set, getD_rep, toNat_succ, cntN_yes, cntN_no])
    refine req_i ?_ ?_
    · -- r69
     first | omega | ((try simp only [Int.toNat_natCast, List.length_cons, List.length_nil, Nat.add_eq, Nat.zero_add]); first | done | omega | assumption | grind [getD_set, getD_rep, toNat_succ, cntN_yes, cntN_no])
    refine all_i fun n19 => ?_
    refine imp_i fun h50 => ?_
    simp only [wrap_u32] at h50
    have a1 : n19 = adv n2 n3 (n12 + 1) := by rw [h50, k3]; exact adv_step (h30.trans (by rw [show n9 = adv n2 n3 1 from h26, show n10 = adv n2 n3 0 from h29]))
    refine imp_i fun h51 => ?_
    refine imp_i fun h52 => ?_
    refine bR_t ?_ ?_
    · -- g2
     first | (simp only [sameRT_self, bR_iff, bR_iff_f, dec_iff, dec_f, beqB_iff', andB_iff', reduceCtorEq, imp_self, false_implies, and_true, true_and, implies_true, and_self, not_true_eq_false, forall_const]; done) | (simp [sameRT_self, bR_iff, dec_iff, beqB_iff', andB_iff']; done) | (simp [sameRT_self, bR_iff, dec_iff, beqB_iff', andB_iff']; omega)
    refine bR_t ?_ ?_
    · -- g3
     first | rfl | (simp only [bR_iff, bR_iff_f, dec_iff, dec_f, beqB_iff', andB_iff', reduceCtorEq, imp_self, false_implies, and_true, true_and, implies_true, and_self]; done) | (simp [bR_iff, dec_iff, beqB_iff', andB_iff']; done) | (simp [bR_iff, dec_iff, beqB_iff', andB_iff']; omega)
    refine bR_t ?_ ?_
    · -- g4
     first | rfl | (simp only [bR_iff, bR_iff_f, dec_iff, dec_f, beqB_iff', andB_iff', reduceCtorEq, imp_self, false_implies, and_true, true_and, implies_true, and_self]; done) | (simp [bR_iff, dec_iff, beqB_iff', andB_iff']; done) | (simp [bR_iff, dec_iff, beqB_iff', andB_iff']; omega)
    refine req_i ?_ ?_
    · -- r70
     first | omega | assumption | grind
    refine req_i ?_ ?_
    · -- r71
     first | omega | assumption | grind
    refine req_i ?_ ?_
    · -- r72
     first | omega | assumption | grind
    refine req_i ?_ ?_
    · -- r73
     first | omega | assumption | grind
    refine req_i ?_ ?_
    · -- r74
     first | omega | ((try simp only [Int.toNat_natCast, List.length_set, List.length_cons, List.length_nil, lenCols_i, lenCols_b, Nat.add_eq, Nat.zero_add]); first | done | omega | assumption | grind [getD_set, getD_rep, toNat_succ, cntN_yes, cntN_no])
    refine req_i ?_ ?_
    · -- r75
     first | omega | ((try simp only [Int.toNat_natCast, List.length_set, List.length_cons, List.length_nil, lenCols_i, lenCols_b, Nat.add_eq, Nat.zero_add]); first | done | omega | assumption | grind [getD_set, getD_rep, toNat_succ, cntN_yes, cntN_no])
    refine req_i ?_ ?_
    · -- r76
     first | assumption | exact rep_bd (by omega) (by omega) | exact set_bd (by assumption) (by omega) (by omega) | exact take_bd (by assumption) | ((try simp only [Int.toNat_natCast, List.length_set, List.length_cons, List.length_nil, Nat.add_eq, Nat.zero_add]); first | assumption | exact rep_bd (by omega) (by omega) | exact set_bd (by assumption) (by omega) (by omega) | exact take_bd (by assumption) | grind [getD_set, getD_rep, toNat_succ, cntN_yes, cntN_no])
    refine req_i ?_ ?_
    · -- r77
     first | omega | ((try simp only [Int.toNat_natCast, List.length_set, List.length_cons, List.length_nil, lenCols_i, lenCols_b, Nat.add_eq, Nat.zero_add]); first | done | omega | assumption | grind [getD_set, getD_rep, toNat_succ, cntN_yes, cntN_no])
    refine req_i ?_ ?_
    · -- r78
     first | assumption | exact rep_bd (by omega) (by omega) | exact set_bd (by assumption) (by omega) (by omega) | exact take_bd (by assumption) | ((try simp only [Int.toNat_natCast, List.length_set, List.length_cons, List.length_nil, Nat.add_eq, Nat.zero_add]); first | assumption | exact rep_bd (by omega) (by omega) | exact set_bd (by assumption) (by omega) (by omega) | exact take_bd (by assumption) | grind [getD_set, getD_rep, toNat_succ, cntN_yes, cntN_no])
    refine req_i ?_ ?_
    · -- r79
     (try simp only [Nat.add_eq, Nat.zero_add]); exact ⟨by omega, by omega, a1, by rw [List.length_set]; exact k4, mAt_set k1 (by omega) h39 k5 (all n12.toNat (by omega)) ok.1 ok.2⟩
    refine req_i ?_ ?_
    · -- r80
     show ((l0.length : Int) - (n12 + 1)).toNat < ((l0.length : Int) - n12).toNat; omega
    rfl
   ·
    have tk1 : l14.take l0.length = l14 := List.take_of_length_le (by omega)
    have tk2 : l15.take l0.length = l15 := List.take_of_length_le (by omega)
    try simp only [List.drop_zero, Int.toNat_natCast, tk1, tk2]
    refine req_i ?_ ?_
    · -- r81
     first | omega | ((try simp only [Int.toNat_natCast, List.length_cons, List.length_nil, Nat.mul_eq]); first | done | omega | assumption | grind [getD_set, getD_rep, toNat_succ, cntN_yes, cntN_no])
    refine req_i ?_ ?_
    · -- r82
     first | omega | ((try simp only [Int.toNat_natCast, List.length_cons, List.length_nil]); first | done | omega | assumption | grind [getD_set, getD_rep, toNat_succ, cntN_yes, cntN_no])
    refine req_i ?_ ?_
    · -- r83
     first | omega | ((try simp only [Int.toNat_natCast, List.length_take, List.take_length, List.take_take, Nat.min_self, List.length_drop, List.drop_zero, List.length_cons, List.length_nil]); first | done | omega | assumption | grind [getD_set, getD_rep, toNat_succ, cntN_yes, cntN_no])
    refine req_i ?_ ?_
    · -- r84
     exact all_getD fun j hj => by have := mx_bd (p := adv n2 n3 j) (all j (by omega)); have := (k5 j (by omega)).2; omega
    refine req_i ?_ ?_
    · -- r85
     first | omega | ((try simp only [Int.toNat_natCast, List.length_take, List.take_length, List.take_take, Nat.min_self, List.length_drop, List.drop_zero, List.length_cons, List.length_nil]); first | done | omega | assumption | grind [getD_set, getD_rep, toNat_succ, cntN_yes, cntN_no])
    refine req_i ?_ ?_
    · -- r86
     exact all_getD fun j hj => by have := mx_bd (p := adv n2 n3 j) (all j (by omega)); have := (k5 j (by omega)).2; omega
    refine req_i ?_ ?_
    · -- r87
     exact .inr (.inr ⟨by omega, all, rfl, by omega, fun j hj => (k5 j (by omega)).2⟩)
    rfl
theorem ext_mix : ∀ p ∈ ([(46, Ext.ctr (ctOfG gl11 sigAdv)), (36, Ext.ctr (ctOfG gl11 sigWipe))] : List (Nat × Ext)), ExtRow Tryd.prog p.1 p.2 := by
  intro p hp
  simp only [List.mem_cons, List.not_mem_nil, or_false] at hp
  rcases hp with rfl | rfl
  · trivial
  · trivial
theorem cts_mix : CtsOk Tryd.prog [(46, Ext.ctr (ctOfG gl11 sigAdv)), (36, Ext.ctr (ctOfG gl11 sigWipe))] := ctsOk_ofG (cs := [(46, sigAdv), (36, sigWipe)])
  (fun p hp => by
    simp only [List.mem_cons, List.not_mem_nil, or_false] at hp
    rcases hp with rfl | rfl
    · exact fn_adv
    · exact fn_wipe
)
  (fun f c h => by
    simp only [List.lookup_cons] at h
    repeat' split at h
    all_goals first | (cases h; done) | (rename_i e; have e := beq_iff_eq.1 e; subst e; cases h; refine ⟨_, ?_, rfl⟩; simp))
theorem fn_mix : FnOk Tryd.prog 14 sigMix gl11 := fn_sound (by kernel_rfl) ext_mix cts_mix names vt_mix
end Go.Proofs.YtblcahackjpnjaaDoor

namespace Go.Proofs.YtblcahackjpnjaaDoor
open Go.Ev Go.Sp
set_option maxRecDepth 100000
theorem vc_smps : vcFn Tryd.prog [] (fun f p _ => at2 f p 15 58 samPL (none)) gl11 100 15 sigSamP = (allB fun l0 : List Int => 
impB (l0.length ≤ (9223372036854775807 : Nat)) (
impB (∀ (y : Int), y ∈ l0 → (-9223372036854775808 : Int) ≤ y ∧ y ≤ (9223372036854775807 : Int)) (
allB fun l1 : List Int => 
impB (l1.length = l0.length) (
impB (∀ (y : Int), y ∈ l1 → (-9223372036854775808 : Int) ≤ y ∧ y ≤ (9223372036854775807 : Int)) (
allB fun l2 : List Int => 
impB (l2.length ≤ (9223372036854775807 : Nat)) (
impB (∀ (y : Int), y ∈ l2 → (-9223372036854775808 : Int) ≤ y ∧ y ≤ (9223372036854775807 : Int)) (
allB fun l3 : List Int => 
impB (l3.length = l2.length) (
impB (∀ (y : Int), y ∈ l3 → (-9223372036854775808 : Int) ≤ y ∧ y ≤ (9223372036854775807 : Int)) (
impB (sigSamP.pre [DV.l l0, DV.l l1, DV.l l2, DV.l l3]) (
bR (dec ((↑l0.length : Int) ≠ (↑l2.length : Int))) (
 reqB (sigSamP.post [DV.l l0, DV.l l1, DV.l l2, DV.l l3] [DV.b Bool.false]) (
 true)) (
 reqB (((0 : Nat) + l0.length) * (2 : Nat) ≤ l0.length.mul (2 : Nat)) (
 reqB (l0.length ≤ (9223372036854775807 : Nat)) (
 reqB ((List.take l0.length (List.drop (0 : Nat) l0)).length = l0.length) (
 reqB (∀ (y : Int),
 y ∈ List.take l0.length (List.drop (0 : Nat) l0) → (-9223372036854775808 : Int) ≤ y ∧ y ≤ (9223372036854775807 : Int)) (
 reqB ((List.take l0.length (List.drop (0 : Nat) l1)).length = l0.length) (
 reqB (∀ (y : Int),
 y ∈ List.take l0.length (List.drop (0 : Nat) l1) → (-9223372036854775808 : Int) ≤ y ∧ y ≤ (9223372036854775807 : Int)) (
 reqB (((0 : Nat) + l2.length) * (2 : Nat) ≤ l2.length.mul (2 : Nat)) (
 reqB (l2.length ≤ (9223372036854775807 : Nat)) (
 reqB ((List.take l2.length (List.drop (0 : Nat) l2)).length = l2.length) (
 reqB (∀ (y : Int),
 y ∈ List.take l2.length (List.drop (0 : Nat) l2) → (-9223372036854775808 : Int) ≤ y ∧ y ≤ (9223372036854775807 : Int)) (
 reqB ((List.take l2.length (List.drop (0 : Nat) l3)).length = l2.length) (
 reqB (∀ (y : Int),
 y ∈ List.take l2.length (List.drop (0 : Nat) l3) → (-9223372036854775808 : Int) ≤ y ∧ y ≤ (9223372036854775807 : Int)) (
 reqB (samPL.inv
 [DV.l (List.take l0.length (List.drop (0 : Nat) l0)), DV.l (List.take l0.length (List.drop (0 : Nat) l1)),
 DV.l (List.take l2.length (List.drop (0 : Nat) l2)),
 DV.l (List.take l2.length (List.drop (0 : Nat) l3))]
 [DV.n (0 : Int)]) (
 allB fun n4 : Int => 
 impB ((0 : Int) ≤ n4) (
 impB (n4 ≤ (9223372036854775807 : Int)) (
 impB (samPL.inv
 [DV.l (List.take l0.length (List.drop (0 : Nat) l0)), DV.l (List.take l0.length (List.drop (0 : Nat) l1)),
 DV.l (List.take l2.length (List.drop (0 : Nat) l2)),
 DV.l (List.take l2.length (List.drop (0 : Nat) l3))]
 [DV.n n4]) (
 bR (dec (n4 < (↑l0.length : Int))) (
 reqB (n4.toNat < l0.length) (
 reqB (Nat.add (0 : Nat) n4.toNat < l0.length) (
 reqB (Nat.add (0 : Nat) n4.toNat < l1.length) (
 reqB (n4.toNat < l2.length) (
 reqB (Nat.add (0 : Nat) n4.toNat < l2.length) (
 reqB (Nat.add (0 : Nat) n4.toNat < l3.length) (
 bR (bR (bR (dec (l0.getD (Nat.add (0 : Nat) n4.toNat) (0 : Int) = l2.getD (Nat.add (0 : Nat) n4.toNat) (0 : Int))) (
 bR (dec (l1.getD (Nat.add (0 : Nat) n4.toNat) (0 : Int) = l3.getD (Nat.add (0 : Nat) n4.toNat) (0 : Int))) (
 true) (
 false)) (
 false)) (
 false) (
 true)) (
 reqB (sigSamP.post [DV.l l0, DV.l l1, DV.l l2, DV.l l3] [DV.b Bool.false]) (
 true)) (
 allB fun n5 : Int => 
 impB (n5 = Go.IntKind.i64.wrap (n4 + (1 : Int))) (
 impB (Int.negSucc (9223372036854775807 : Nat) ≤ n5) (
 impB (n5 ≤ Int.ofNat (9223372036854775807 : Nat)) (
 bR (bR (bR (dec ((0 : Nat) = (0 : Nat))) (
 dec (l0.length = l0.length)) (
 false)) (
 bR (bR (dec ((0 : Nat) = (0 : Nat))) (
 dec (l2.length = l2.length)) (
 false)) (
 true) (
 false)) (
 false)) (
 reqB ((0 : Int) ≤ n5) (
 reqB (n5 ≤ (9223372036854775807 : Int)) (
 reqB (samPL.inv
 [DV.l (List.take l0.length (List.drop (0 : Nat) l0)), DV.l (List.take l0.length (List.drop (0 : Nat) l1)),
 DV.l (List.take l2.length (List.drop (0 : Nat) l2)),
 DV.l (List.take l2.length (List.drop (0 : Nat) l3))]
 [DV.n n5]) (
 reqB (samPL.mea
 [DV.l (List.take l0.length (List.drop (0 : Nat) l0)),
 DV.l (List.take l0.length (List.drop (0 : Nat) l1)),
 DV.l (List.take l2.length (List.drop (0 : Nat) l2)),
 DV.l (List.take l2.length (List.drop (0 : Nat) l3))]
 [DV.n n5] <
 samPL.mea
 [DV.l (List.take l0.length (List.drop (0 : Nat) l0)),
 DV.l (List.take l0.length (List.drop (0 : Nat) l1)),
 DV.l (List.take l2.length (List.drop (0 : Nat) l2)),
 DV.l (List.take l2.length (List.drop (0 : Nat) l3))]
 [DV.n n4]) (
 true))))) (
 false)))))))))))) (
 reqB (sigSamP.post [DV.l l0, DV.l l1, DV.l l2, DV.l l3] [DV.b Bool.true]) (
 true))))))))))))))))))))))))))))) := by kernel_rfl
set_option maxHeartbeats 8000000 in
theorem vt_smps : vcFn Tryd.prog [] (fun f p _ => at2 f p 15 58 samPL (none)) gl11 100 15 sigSamP = true := by
  rw [vc_smps]
  try simp only [Int.toNat_natCast, List.length_set, List.length_replicate, List.length_take, List.length_drop, List.length_append, List.length_cons, List.length_nil, Nat.min_self, List.take_take, lenCols_i, lenCols_b, List.drop_zero, List.take_length, Nat.add_eq, Nat.mul_eq, Nat.sub_eq, Nat.zero_add, Nat.sub_zero, Nat.mul_one]
  refine all_i fun l0 => ?_
  refine imp_i fun h0 => ?_
  refine imp_i fun h1 => ?_
  refine all_i fun l1 => ?_
  refine imp_i fun h2 => ?_
  have tkl1 := take_eq h2
  try simp only [tkl1]
  refine imp_i fun h3 => ?_
  refine all_i fun l2 => ?_
  refine imp_i fun h4 => ?_
  refine imp_i fun h5 => ?_
  refine all_i fun l3 => ?_
  refine imp_i fun h6 => ?_
  have tkl3 := take_eq h6
  try simp only [tkl3]
  refine imp_i fun h7 => ?_
  refine imp_i fun h8 => ?_
  try simp only [sigSamP, smpL, samP, List.cons.injEq, DV.b.injEq, and_true, List.length_cons, List.length_nil] at h8
  refine bR_dec (fun h9 => ?_) (fun h9 => ?_)
  ·
   refine req_i ?_ ?_
   · -- r0
    first | omega | ((try simp only [sigSamP, smpL, samP, List.cons.injEq, DV.b.injEq, and_true, List.length_cons, List.length_nil]); first | done | omega | assumption | grind [getD_set, getD_rep, toNat_succ, cntN_yes, cntN_no])
   rfl
  ·
   refine req_i ?_ ?_
   · -- r1
    first | omega | ((try simp only [Nat.mul_eq]); first | done | omega | assumption | grind [getD_set, getD_rep, toNat_succ, cntN_yes, cntN_no])
   refine req_i ?_ ?_
   · -- r2
    first | omega | ((try simp only [Nat.zero_add]); first | done | omega | assumption | grind [getD_set, getD_rep, toNat_succ, cntN_yes, cntN_no])
   refine req_i ?_ ?_
   · -- r3
    first | omega | ((try simp only [List.length_take, List.take_length, List.take_take, Nat.min_self, List.length_drop, List.drop_zero, List.length_cons, List.length_nil]); first | done | omega | assumption | grind [getD_set, getD_rep, toNat_succ, cntN_yes, cntN_no])
   refine req_i ?_ ?_
   · -- r4
    first | assumption | exact rep_bd (by omega) (by omega) | exact set_bd (by assumption) (by omega) (by omega) | exact take_bd (by assumption) | ((try simp only [List.length_take, List.take_length, List.take_take, Nat.min_self, List.length_drop, List.drop_zero, List.length_cons, List.length_nil]); first | assumption | exact rep_bd (by omega) (by omega) | exact set_bd (by assumption) (by omega) (by omega) | exact take_bd (by assumption) | grind [getD_set, getD_rep, toNat_succ, cntN_yes, cntN_no])
   refine req_i ?_ ?_
   · -- r5
    first | omega | ((try simp only [List.length_take, List.take_length, List.take_take, Nat.min_self, List.length_drop, List.drop_zero, List.length_cons, List.length_nil]); first | done | omega | assumption | grind [getD_set, getD_rep, toNat_succ, cntN_yes, cntN_no])
   refine req_i ?_ ?_
   · -- r6
    first | assumption | exact rep_bd (by omega) (by omega) | exact set_bd (by assumption) (by omega) (by omega) | exact take_bd (by assumption) | ((try simp only [List.length_take, List.take_length, List.take_take, Nat.min_self, List.length_drop, List.drop_zero, List.length_cons, List.length_nil]); first | assumption | exact rep_bd (by omega) (by omega) | exact set_bd (by assumption) (by omega) (by omega) | exact take_bd (by assumption) | grind [getD_set, getD_rep, toNat_succ, cntN_yes, cntN_no])
   refine req_i ?_ ?_
   · -- r7
    first | omega | ((try simp only [Nat.mul_eq]); first | done | omega | assumption | grind [getD_set, getD_rep, toNat_succ, cntN_yes, cntN_no])
   refine req_i ?_ ?_
   · -- r8
    first | omega | ((try simp only [Nat.zero_add]); first | done | omega | assumption | grind [getD_set, getD_rep, toNat_succ, cntN_yes, cntN_no])
   refine req_i ?_ ?_
   · -- r9
    first | omega | ((try simp only [List.length_take, List.take_length, List.take_take, Nat.min_self, List.length_drop, List.drop_zero, List.length_cons, List.length_nil]); first | done | omega | assumption | grind [getD_set, getD_rep, toNat_succ, cntN_yes, cntN_no])
   refine req_i ?_ ?_
   · -- r10
    first | assumption | exact rep_bd (by omega) (by omega) | exact set_bd (by assumption) (by omega) (by omega) | exact take_bd (by assumption) | ((try simp only [List.length_take, List.take_length, List.take_take, Nat.min_self, List.length_drop, List.drop_zero, List.length_cons, List.length_nil]); first | assumption | exact rep_bd (by omega) (by omega) | exact set_bd (by assumption) (by omega) (by omega) | exact take_bd (by assumption) | grind [getD_set, getD_rep, toNat_succ, cntN_yes, cntN_no])
   refine req_i ?_ ?_
   · -- r11
    first | omega | ((try simp only [List.length_take, List.take_length, List.take_take, Nat.min_self, List.length_drop, List.drop_zero, List.length_cons, List.length_nil]); first | done | omega | assumption | grind [getD_set, getD_rep, toNat_succ, cntN_yes, cntN_no])
   refine req_i ?_ ?_
   · -- r12
    first | assumption | exact rep_bd (by omega) (by omega) | exact set_bd (by assumption) (by omega) (by omega) | exact take_bd (by assumption) | ((try simp only [List.length_take, List.take_length, List.take_take, Nat.min_self, List.length_drop, List.drop_zero, List.length_cons, List.length_nil]); first | assumption | exact rep_bd (by omega) (by omega) | exact set_bd (by assumption) (by omega) (by omega) | exact take_bd (by assumption) | grind [getD_set, getD_rep, toNat_succ, cntN_yes, cntN_no])
   refine req_i ?_ ?_
   · -- r13
    first | omega | ((try simp only [samPL, smpL, samPInv, mea0, List.cons.injEq, DV.b.injEq, and_true, List.length_take, List.take_length, List.take_take, Nat.min_self, List.length_drop, List.drop_zero, List.length_cons, List.length_nil]); first | done | omega | assumption | grind [getD_set, getD_rep, toNat_succ, cntN_yes, cntN_no])
   refine all_i fun n4 => ?_
   refine imp_i fun h10 => ?_
   refine imp_i fun h11 => ?_
   refine imp_i fun h12 => ?_
   try simp only [samPL, smpL, samPInv, mea0, List.cons.injEq, DV.b.injEq, and_true, List.length_take, List.take_length, List.take_take, Nat.min_self, List.length_drop, List.drop_zero, List.length_cons, List.length_nil] at h12
   refine bR_dec (fun h13 => ?_) (fun h13 => ?_)
   ·
    refine req_i ?_ ?_
    · -- r14
     first | omega | ((try simp only [Int.toNat_natCast, List.length_cons, List.length_nil]); first | done | omega | assumption | grind [getD_set, getD_rep, toNat_succ, cntN_yes, cntN_no])
    refine req_i ?_ ?_
    · -- r15
     first | omega | ((try simp only [Int.toNat_natCast, List.length_cons, List.length_nil, Nat.add_eq, Nat.zero_add]); first | done | omega | assumption | grind [getD_set, getD_rep, toNat_succ, cntN_yes, cntN_no])
    refine req_i ?_ ?_
    · -- r16
     first | omega | ((try simp only [Int.toNat_natCast, List.length_cons, List.length_nil, Nat.add_eq, Nat.zero_add]); first | done | omega | assumption | grind [getD_set, getD_rep, toNat_succ, cntN_yes, cntN_no])
    refine req_i ?_ ?_
    · -- r17
     first | omega | ((try simp only [Int.toNat_natCast, List.length_cons, List.length_nil]); first | done | omega | assumption | grind [getD_set, getD_rep, toNat_succ, cntN_yes, cntN_no])
    refine req_i ?_ ?_
    · -- r18
     first | omega | ((try simp only [Int.toNat_natCast, List.length_cons, List.length_nil, Nat.add_eq, Nat.zero_add]); first | done | omega | assumption | grind [getD_set, getD_rep, toNat_succ, cntN_yes, cntN_no])
    refine req_i ?_ ?_
    · -- r19
     first | omega | ((try simp only [Int.toNat_natCast, List.length_cons, List.length_nil, Nat.add_eq, Nat.zero_add]); first | done | omega | assumption | grind [getD_set, getD_rep, toNat_succ, cntN_yes, cntN_no])
    refine bR_i (fun h14 => ?_) (fun h14 => ?_)
    ·
     simp only [bR_iff, bR_iff_f, dec_iff, dec_f, Bool.false_eq_true, Bool.true_eq_false, false_implies, imp_false, and_true, true_and, implies_true, Classical.not_not] at h14
     refine req_i ?_ ?_
     · -- r20
      first | omega | ((try simp only [sigSamP, smpL, samP, List.cons.injEq, DV.b.injEq, and_true, List.length_cons, List.length_nil]); first | done | omega | assumption | grind [getD_set, getD_rep, toNat_succ, cntN_yes, cntN_no])
     rfl
    ·
     simp only [bR_iff, bR_iff_f, dec_iff, dec_f, Bool.false_eq_true, Bool.true_eq_false, false_implies, imp_false, and_true, true_and, implies_true, Classical.not_not] at h14
     refine all_i fun n5 => ?_
     refine imp_i fun h15 => ?_
     simp only [wrap_i64] at h15
     refine imp_i fun h16 => ?_
     refine imp_i fun h17 => ?_
     refine bR_t ?_ ?_
     · -- g0
      first | rfl | (simp only [bR_iff, bR_iff_f, dec_iff, dec_f, beqB_iff', andB_iff', reduceCtorEq, imp_self, false_implies, and_true, true_and, implies_true, and_self]; done) | (simp [bR_iff, dec_iff, beqB_iff', andB_iff']; done) | (simp [bR_iff, dec_iff, beqB_iff', andB_iff']; omega)
     refine req_i ?_ ?_
     · -- r21
      first | omega | assumption | grind
     refine req_i ?_ ?_
     · -- r22
      first | omega | assumption | grind
     refine req_i ?_ ?_
     · -- r23
      first | omega | ((try simp only [samPL, smpL, samPInv, mea0, List.cons.injEq, DV.b.injEq, and_true, List.length_take, List.take_length, List.take_take, Nat.min_self, List.length_drop, List.drop_zero, List.length_cons, List.length_nil]); first | done | omega | assumption | grind [getD_set, getD_rep, toNat_succ, cntN_yes, cntN_no])
     refine req_i ?_ ?_
     · -- r24
      first | omega | ((try simp only [samPL, smpL, samPInv, mea0, List.cons.injEq, DV.b.injEq, and_true, List.length_take, List.take_length, List.take_take, Nat.min_self, List.length_drop, List.drop_zero, List.length_cons, List.length_nil]); first | done | omega | assumption | grind [getD_set, getD_rep, toNat_succ, cntN_yes, cntN_no])
     rfl
   ·
    have e1 := equ_of (a := l0) (c := l2) h12.2.2.1 h13 (fun j hj => (h12.2.2.2 j hj).1)
    have e2 := equ_of (a := l1) (c := l3) (i := n4) (by omega) (by omega) (fun j hj => (h12.2.2.2 j hj).2)
    refine req_i ?_ ?_
    · -- r25
     first | omega | ((try simp only [sigSamP, smpL, samP, List.cons.injEq, DV.b.injEq, and_true, List.length_cons, List.length_nil]); first | done | omega | assumption | grind [getD_set, getD_rep, toNat_succ, cntN_yes, cntN_no])
    rfl
theorem ext_smps : ∀ p ∈ ([] : List (Nat × Ext)), ExtRow Tryd.prog p.1 p.2 := by
  intro p hp
  cases hp
theorem cts_smps : CtsOk Tryd.prog [] := fun f c h => by cases h
theorem fn_smps : FnOk Tryd.prog 15 sigSamP gl11 := fn_sound (by kernel_rfl) ext_smps cts_smps names vt_smps
end Go.Proofs.YtblcahackjpnjaaDoor

namespace Go.Proofs.YtblcahackjpnjaaDoor
open Go.Ev Go.Sp
set_option maxRecDepth 100000
theorem vc_entryR : vcFn Tryd.prog [] noA gl11 100 44 sigEnt = (allB fun n0 : Int => 
impB ((-2 : Int) ≤ n0) (
impB (n0 ≤ (70 : Int)) (
impB (sigEnt.pre [DV.n n0]) (
reqB (((n0 % Int.ofNat (64 : Nat)).tmod (16 : Int)).toNat < (17 : Nat)) (
reqB (Nat.add (0 : Nat) ((n0 % Int.ofNat (64 : Nat)).tmod (16 : Int)).toNat <
 [(127 : Int), (126 : Int), (125 : Int), (122 : Int), (117 : Int), (112 : Int), (106 : Int), (98 : Int), (90 : Int),
 (81 : Int), (71 : Int), (60 : Int), (49 : Int), (37 : Int), (25 : Int), (12 : Int), (0 : Int)].length) (
reqB (((16 : Int) - (n0 % Int.ofNat (64 : Nat)).tmod (16 : Int)).toNat < (17 : Nat)) (
reqB (Nat.add (0 : Nat) ((16 : Int) - (n0 % Int.ofNat (64 : Nat)).tmod (16 : Int)).toNat <
 [(127 : Int), (126 : Int), (125 : Int), (122 : Int), (117 : Int), (112 : Int), (106 : Int), (98 : Int), (90 : Int),
 (81 : Int), (71 : Int), (60 : Int), (49 : Int), (37 : Int), (25 : Int), (12 : Int), (0 : Int)].length) (
bR (dec ((16 : Int) ≤ n0 % Int.ofNat (64 : Nat))) (
 bR (dec ((16 : Int) ≤ n0 % Int.ofNat (64 : Nat) - (16 : Int))) (
 bR (dec ((16 : Int) ≤ n0 % Int.ofNat (64 : Nat) - (16 : Int) - (16 : Int))) (
 reqB ((-127 : Int) ≤
 (0 : Int) -
 ((0 : Int) -
 [(127 : Int), (126 : Int), (125 : Int), (122 : Int), (117 : Int), (112 : Int), (106 : Int), (98 : Int),
 (90 : Int), (81 : Int), (71 : Int), (60 : Int), (49 : Int), (37 : Int), (25 : Int), (12 : Int),
 (0 : Int)].getD
 (Nat.add (0 : Nat) ((16 : Int) - (n0 % Int.ofNat (64 : Nat)).tmod (16 : Int)).toNat) (0 : Int))) (
 reqB ((0 : Int) -
 ((0 : Int) -
 [(127 : Int), (126 : Int), (125 : Int), (122 : Int), (117 : Int), (112 : Int), (106 : Int), (98 : Int),
 (90 : Int), (81 : Int), (71 : Int), (60 : Int), (49 : Int), (37 : Int), (25 : Int), (12 : Int),
 (0 : Int)].getD
 (Nat.add (0 : Nat) ((16 : Int) - (n0 % Int.ofNat (64 : Nat)).tmod (16 : Int)).toNat) (0 : Int)) ≤
 (127 : Int)) (
 reqB ((-127 : Int) ≤
 (0 : Int) -
 [(127 : Int), (126 : Int), (125 : Int), (122 : Int), (117 : Int), (112 : Int), (106 : Int), (98 : Int), (90 : Int),
 (81 : Int), (71 : Int), (60 : Int), (49 : Int), (37 : Int), (25 : Int), (12 : Int), (0 : Int)].getD
 (Nat.add (0 : Nat) ((n0 % Int.ofNat (64 : Nat)).tmod (16 : Int)).toNat) (0 : Int)) (
 reqB ((0 : Int) -
 [(127 : Int), (126 : Int), (125 : Int), (122 : Int), (117 : Int), (112 : Int), (106 : Int), (98 : Int), (90 : Int),
 (81 : Int), (71 : Int), (60 : Int), (49 : Int), (37 : Int), (25 : Int), (12 : Int), (0 : Int)].getD
 (Nat.add (0 : Nat) ((n0 % Int.ofNat (64 : Nat)).tmod (16 : Int)).toNat) (0 : Int) ≤
 (127 : Int)) (
 reqB (sigEnt.post [DV.n n0]
 [DV.n
 ((0 : Int) -
 ((0 : Int) -
 [(127 : Int), (126 : Int), (125 : Int), (122 : Int), (117 : Int), (112 : Int), (106 : Int), (98 : Int),
 (90 : Int), (81 : Int), (71 : Int), (60 : Int), (49 : Int), (37 : Int), (25 : Int), (12 : Int),
 (0 : Int)].getD
 (Nat.add (0 : Nat) ((16 : Int) - (n0 % Int.ofNat (64 : Nat)).tmod (16 : Int)).toNat) (0 : Int))),
 DV.n
 ((0 : Int) -
 [(127 : Int), (126 : Int), (125 : Int), (122 : Int), (117 : Int), (112 : Int), (106 : Int), (98 : Int),
 (90 : Int), (81 : Int), (71 : Int), (60 : Int), (49 : Int), (37 : Int), (25 : Int), (12 : Int),
 (0 : Int)].getD
 (Nat.add (0 : Nat) ((n0 % Int.ofNat (64 : Nat)).tmod (16 : Int)).toNat) (0 : Int))]) (
 true)))))) (
 reqB ((-127 : Int) ≤
 (0 : Int) -
 [(127 : Int), (126 : Int), (125 : Int), (122 : Int), (117 : Int), (112 : Int), (106 : Int), (98 : Int), (90 : Int),
 (81 : Int), (71 : Int), (60 : Int), (49 : Int), (37 : Int), (25 : Int), (12 : Int), (0 : Int)].getD
 (Nat.add (0 : Nat) ((n0 % Int.ofNat (64 : Nat)).tmod (16 : Int)).toNat) (0 : Int)) (
 reqB ((0 : Int) -
 [(127 : Int), (126 : Int), (125 : Int), (122 : Int), (117 : Int), (112 : Int), (106 : Int), (98 : Int), (90 : Int),
 (81 : Int), (71 : Int), (60 : Int), (49 : Int), (37 : Int), (25 : Int), (12 : Int), (0 : Int)].getD
 (Nat.add (0 : Nat) ((n0 % Int.ofNat (64 : Nat)).tmod (16 : Int)).toNat) (0 : Int) ≤
 (127 : Int)) (
 reqB ((-127 : Int) ≤
 (0 : Int) -
 [(127 : Int), (126 : Int), (125 : Int), (122 : Int), (117 : Int), (112 : Int), (106 : Int), (98 : Int), (90 : Int),
 (81 : Int), (71 : Int), (60 : Int), (49 : Int), (37 : Int), (25 : Int), (12 : Int), (0 : Int)].getD
 (Nat.add (0 : Nat) ((16 : Int) - (n0 % Int.ofNat (64 : Nat)).tmod (16 : Int)).toNat) (0 : Int)) (
 reqB ((0 : Int) -
 [(127 : Int), (126 : Int), (125 : Int), (122 : Int), (117 : Int), (112 : Int), (106 : Int), (98 : Int), (90 : Int),
 (81 : Int), (71 : Int), (60 : Int), (49 : Int), (37 : Int), (25 : Int), (12 : Int), (0 : Int)].getD
 (Nat.add (0 : Nat) ((16 : Int) - (n0 % Int.ofNat (64 : Nat)).tmod (16 : Int)).toNat) (0 : Int) ≤
 (127 : Int)) (
 reqB (sigEnt.post [DV.n n0]
 [DV.n
 ((0 : Int) -
 [(127 : Int), (126 : Int), (125 : Int), (122 : Int), (117 : Int), (112 : Int), (106 : Int), (98 : Int),
 (90 : Int), (81 : Int), (71 : Int), (60 : Int), (49 : Int), (37 : Int), (25 : Int), (12 : Int),
 (0 : Int)].getD
 (Nat.add (0 : Nat) ((n0 % Int.ofNat (64 : Nat)).tmod (16 : Int)).toNat) (0 : Int)),
 DV.n
 ((0 : Int) -
 [(127 : Int), (126 : Int), (125 : Int), (122 : Int), (117 : Int), (112 : Int), (106 : Int), (98 : Int),
 (90 : Int), (81 : Int), (71 : Int), (60 : Int), (49 : Int), (37 : Int), (25 : Int), (12 : Int),
 (0 : Int)].getD
 (Nat.add (0 : Nat) ((16 : Int) - (n0 % Int.ofNat (64 : Nat)).tmod (16 : Int)).toNat) (0 : Int))]) (
 true))))))) (
 reqB ((-127 : Int) ≤
 (0 : Int) -
 [(127 : Int), (126 : Int), (125 : Int), (122 : Int), (117 : Int), (112 : Int), (106 : Int), (98 : Int), (90 : Int),
 (81 : Int), (71 : Int), (60 : Int), (49 : Int), (37 : Int), (25 : Int), (12 : Int), (0 : Int)].getD
 (Nat.add (0 : Nat) ((16 : Int) - (n0 % Int.ofNat (64 : Nat)).tmod (16 : Int)).toNat) (0 : Int)) (
 reqB ((0 : Int) -
 [(127 : Int), (126 : Int), (125 : Int), (122 : Int), (117 : Int), (112 : Int), (106 : Int), (98 : Int), (90 : Int),
 (81 : Int), (71 : Int), (60 : Int), (49 : Int), (37 : Int), (25 : Int), (12 : Int), (0 : Int)].getD
 (Nat.add (0 : Nat) ((16 : Int) - (n0 % Int.ofNat (64 : Nat)).tmod (16 : Int)).toNat) (0 : Int) ≤
 (127 : Int)) (
 reqB ((-127 : Int) ≤
 [(127 : Int), (126 : Int), (125 : Int), (122 : Int), (117 : Int), (112 : Int), (106 : Int), (98 : Int), (90 : Int),
 (81 : Int), (71 : Int), (60 : Int), (49 : Int), (37 : Int), (25 : Int), (12 : Int), (0 : Int)].getD
 (Nat.add (0 : Nat) ((n0 % Int.ofNat (64 : Nat)).tmod (16 : Int)).toNat) (0 : Int)) (
 reqB ([(127 : Int), (126 : Int), (125 : Int), (122 : Int), (117 : Int), (112 : Int), (106 : Int), (98 : Int), (90 : Int),
 (81 : Int), (71 : Int), (60 : Int), (49 : Int), (37 : Int), (25 : Int), (12 : Int), (0 : Int)].getD
 (Nat.add (0 : Nat) ((n0 % Int.ofNat (64 : Nat)).tmod (16 : Int)).toNat) (0 : Int) ≤
 (127 : Int)) (
 reqB (sigEnt.post [DV.n n0]
 [DV.n
 ((0 : Int) -
 [(127 : Int), (126 : Int), (125 : Int), (122 : Int), (117 : Int), (112 : Int), (106 : Int), (98 : Int),
 (90 : Int), (81 : Int), (71 : Int), (60 : Int), (49 : Int), (37 : Int), (25 : Int), (12 : Int),
 (0 : Int)].getD
 (Nat.add (0 : Nat) ((16 : Int) - (n0 % Int.ofNat (64 : Nat)).tmod (16 : Int)).toNat) (0 : Int)),
 DV.n
 ([(127 : Int), (126 : Int), (125 : Int), (122 : Int), (117 : Int), (112 : Int), (106 : Int), (98 : Int),
 (90 : Int), (81 : Int), (71 : Int), (60 : Int), (49 : Int), (37 : Int), (25 : Int), (12 : Int),
 (0 : Int)].getD
 (Nat.add (0 : Nat) ((n0 % Int.ofNat (64 : Nat)).tmod (16 : Int)).toNat) (0 : Int))]) (
 true))))))) (
 reqB ((-127 : Int) ≤
 [(127 : Int), (126 : Int), (125 : Int), (122 : Int), (117 : Int), (112 : Int), (106 : Int), (98 : Int), (90 : Int),
 (81 : Int), (71 : Int), (60 : Int), (49 : Int), (37 : Int), (25 : Int), (12 : Int), (0 : Int)].getD
 (Nat.add (0 : Nat) ((n0 % Int.ofNat (64 : Nat)).tmod (16 : Int)).toNat) (0 : Int)) (
 reqB ([(127 : Int), (126 : Int), (125 : Int), (122 : Int), (117 : Int), (112 : Int), (106 : Int), (98 : Int), (90 : Int),
 (81 : Int), (71 : Int), (60 : Int), (49 : Int), (37 : Int), (25 : Int), (12 : Int), (0 : Int)].getD
 (Nat.add (0 : Nat) ((n0 % Int.ofNat (64 : Nat)).tmod (16 : Int)).toNat) (0 : Int) ≤
 (127 : Int)) (
 reqB ((-127 : Int) ≤
 [(127 : Int), (126 : Int), (125 : Int), (122 : Int), (117 : Int), (112 : Int), (106 : Int), (98 : Int), (90 : Int),
 (81 : Int), (71 : Int), (60 : Int), (49 : Int), (37 : Int), (25 : Int), (12 : Int), (0 : Int)].getD
 (Nat.add (0 : Nat) ((16 : Int) - (n0 % Int.ofNat (64 : Nat)).tmod (16 : Int)).toNat) (0 : Int)) (
 reqB ([(127 : Int), (126 : Int), (125 : Int), (122 : Int), (117 : Int), (112 : Int), (106 : Int), (98 : Int), (90 : Int),
 (81 : Int), (71 : Int), (60 : Int), (49 : Int), (37 : Int), (25 : Int), (12 : Int), (0 : Int)].getD
 (Nat.add (0 : Nat) ((16 : Int) - (n0 % Int.ofNat (64 : Nat)).tmod (16 : Int)).toNat) (0 : Int) ≤
 (127 : Int)) (
 reqB (sigEnt.post [DV.n n0]
 [DV.n
 ([(127 : Int), (126 : Int), (125 : Int), (122 : Int), (117 : Int), (112 : Int), (106 : Int), (98 : Int),
 (90 : Int), (81 : Int), (71 : Int), (60 : Int), (49 : Int), (37 : Int), (25 : Int), (12 : Int),
 (0 : Int)].getD
 (Nat.add (0 : Nat) ((n0 % Int.ofNat (64 : Nat)).tmod (16 : Int)).toNat) (0 : Int)),
 DV.n
 ([(127 : Int), (126 : Int), (125 : Int), (122 : Int), (117 : Int), (112 : Int), (106 : Int), (98 : Int),
 (90 : Int), (81 : Int), (71 : Int), (60 : Int), (49 : Int), (37 : Int), (25 : Int), (12 : Int),
 (0 : Int)].getD
 (Nat.add (0 : Nat) ((16 : Int) - (n0 % Int.ofNat (64 : Nat)).tmod (16 : Int)).toNat) (0 : Int))]) (
 true)))))))))))))) := by kernel_rfl
set_option maxHeartbeats 8000000 in
theorem vt_entryR : vcFn Tryd.prog [] noA gl11 100 44 sigEnt = true := by
  rw [vc_entryR]
  try simp only [Int.toNat_natCast, List.length_set, List.length_replicate, List.length_take, List.length_drop, List.length_append, List.length_cons, List.length_nil, Nat.min_self, List.take_take, lenCols_i, lenCols_b, List.drop_zero, List.take_length, Nat.add_eq, Nat.mul_eq, Nat.sub_eq, Nat.zero_add, Nat.sub_zero, Nat.mul_one]
  refine all_i fun n0 => ?_
  refine imp_i fun h0 => ?_
  refine imp_i fun h1 => ?_
  refine imp_i fun h2 => ?_
  try simp only [sigEnt, entPost, List.cons.injEq, DV.b.injEq, and_true, List.length_cons, List.length_nil] at h2
  refine req_i ?_ ?_
  · -- r0
   (try revert h3); (try revert h4); (try revert h5); (try revert h6); (try simp only [sigEnt, entPost]); (apply upto _ n0 h0 h1); decide +kernel
  refine req_i ?_ ?_
  · -- r1
   (try revert h3); (try revert h4); (try revert h5); (try revert h6); (try simp only [sigEnt, entPost]); (apply upto _ n0 h0 h1); decide +kernel
  refine req_i ?_ ?_
  · -- r2
   (try revert h3); (try revert h4); (try revert h5); (try revert h6); (try simp only [sigEnt, entPost]); (apply upto _ n0 h0 h1); decide +kernel
  refine req_i ?_ ?_
  · -- r3
   (try revert h3); (try revert h4); (try revert h5); (try revert h6); (try simp only [sigEnt, entPost]); (apply upto _ n0 h0 h1); decide +kernel
  refine bR_dec (fun h3 => ?_) (fun h3 => ?_)
  ·
   refine bR_dec (fun h4 => ?_) (fun h4 => ?_)
   ·
    refine bR_dec (fun h5 => ?_) (fun h5 => ?_)
    ·
     refine req_i ?_ ?_
     · -- r4
      (try revert h3); (try revert h4); (try revert h5); (try revert h6); (try simp only [sigEnt, entPost]); (apply upto _ n0 h0 h1); decide +kernel
     refine req_i ?_ ?_
     · -- r5
      (try revert h3); (try revert h4); (try revert h5); (try revert h6); (try simp only [sigEnt, entPost]); (apply upto _ n0 h0 h1); decide +kernel
     refine req_i ?_ ?_
     · -- r6
      (try revert h3); (try revert h4); (try revert h5); (try revert h6); (try simp only [sigEnt, entPost]); (apply upto _ n0 h0 h1); decide +kernel
     refine req_i ?_ ?_
     · -- r7
      (try revert h3); (try revert h4); (try revert h5); (try revert h6); (try simp only [sigEnt, entPost]); (apply upto _ n0 h0 h1); decide +kernel
     refine req_i ?_ ?_
     · -- r8
      (try revert h3); (try revert h4); (try revert h5); (try revert h6); (try simp only [sigEnt, entPost]); (apply upto _ n0 h0 h1); decide +kernel
     rfl
    ·
     refine req_i ?_ ?_
     · -- r9
      (try revert h3); (try revert h4); (try revert h5); (try revert h6); (try simp only [sigEnt, entPost]); (apply upto _ n0 h0 h1); decide +kernel
     refine req_i ?_ ?_
     · -- r10
      (try revert h3); (try revert h4); (try revert h5); (try revert h6); (try simp only [sigEnt, entPost]); (apply upto _ n0 h0 h1); decide +kernel
     refine req_i ?_ ?_
     · -- r11
      (try revert h3); (try revert h4); (try revert h5); (try revert h6); (try simp only [sigEnt, entPost]); (apply upto _ n0 h0 h1); decide +kernel
     refine req_i ?_ ?_
     · -- r12
      (try revert h3); (try revert h4); (try revert h5); (try revert h6); (try simp only [sigEnt, entPost]); (apply upto _ n0 h0 h1); decide +kernel
     refine req_i ?_ ?_
     · -- r13
      (try revert h3); (try revert h4); (try revert h5); (try revert h6); (try simp only [sigEnt, entPost]); (apply upto _ n0 h0 h1); decide +kernel
     rfl
   ·
    refine req_i ?_ ?_
    · -- r14
     (try revert h3); (try revert h4); (try revert h5); (try revert h6); (try simp only [sigEnt, entPost]); (apply upto _ n0 h0 h1); decide +kernel
    refine req_i ?_ ?_
    · -- r15
     (try revert h3); (try revert h4); (try revert h5); (try revert h6); (try simp only [sigEnt, entPost]); (apply upto _ n0 h0 h1); decide +kernel
    refine req_i ?_ ?_
    · -- r16
     (try revert h3); (try revert h4); (try revert h5); (try revert h6); (try simp only [sigEnt, entPost]); (apply upto _ n0 h0 h1); decide +kernel
    refine req_i ?_ ?_
    · -- r17
     (try revert h3); (try revert h4); (try revert h5); (try revert h6); (try simp only [sigEnt, entPost]); (apply upto _ n0 h0 h1); decide +kernel
    refine req_i ?_ ?_
    · -- r18
     (try revert h3); (try revert h4); (try revert h5); (try revert h6); (try simp only [sigEnt, entPost]); (apply upto _ n0 h0 h1); decide +kernel
    rfl
  ·
   refine req_i ?_ ?_
   · -- r19
    (try revert h3); (try revert h4); (try revert h5); (try revert h6); (try simp only [sigEnt, entPost]); (apply upto _ n0 h0 h1); decide +kernel
   refine req_i ?_ ?_
   · -- r20
    (try revert h3); (try revert h4); (try revert h5); (try revert h6); (try simp only [sigEnt, entPost]); (apply upto _ n0 h0 h1); decide +kernel
   refine req_i ?_ ?_
   · -- r21
    (try revert h3); (try revert h4); (try revert h5); (try revert h6); (try simp only [sigEnt, entPost]); (apply upto _ n0 h0 h1); decide +kernel
   refine req_i ?_ ?_
   · -- r22
    (try revert h3); (try revert h4); (try revert h5); (try revert h6); (try simp only [sigEnt, entPost]); (apply upto _ n0 h0 h1); decide +kernel
   refine req_i ?_ ?_
   · -- r23
    (try revert h3); (try revert h4); (try revert h5); (try revert h6); (try simp only [sigEnt, entPost]); (apply upto _ n0 h0 h1); decide +kernel
   rfl
theorem ext_entryR : ∀ p ∈ ([] : List (Nat × Ext)), ExtRow Tryd.prog p.1 p.2 := by
  intro p hp
  cases hp
theorem cts_entryR : CtsOk Tryd.prog [] := fun f c h => by cases h
theorem fn_entryR : FnOk Tryd.prog 44 sigEnt gl11 := fn_sound (by kernel_rfl) ext_entryR cts_entryR names vt_entryR
end Go.Proofs.YtblcahackjpnjaaDoor

namespace Go.Proofs.YtblcahackjpnjaaDoor
open Go.Ev Go.Sp
set_option maxRecDepth 100000
theorem vc_carR : vcFn Tryd.prog [(44, Ext.ctr (ctOfG gl11 sigEnt))] noA gl11 100 29 sigCar = (allB fun n0 : Int => 
impB ((0 : Int) ≤ n0) (
impB (n0 ≤ (4294967295 : Int)) (
impB (sigCar.pre [DV.n n0]) (
reqB ((-2 : Int) ≤ n0 / Int.ofNat (67108864 : Nat)) (
reqB (n0 / Int.ofNat (67108864 : Nat) ≤ (70 : Int)) (
reqB (sigEnt.pre [DV.n (n0 / Int.ofNat (67108864 : Nat))]) (
allB fun n1 : Int => 
impB ((-127 : Int) ≤ n1) (
impB (n1 ≤ (127 : Int)) (
allB fun n2 : Int => 
impB ((-127 : Int) ≤ n2) (
impB (n2 ≤ (127 : Int)) (
impB (sigEnt.post [DV.n (n0 / Int.ofNat (67108864 : Nat))] [DV.n n1, DV.n n2]) (
reqB ((-127 : Int) ≤ n1) (
reqB (n1 ≤ (127 : Int)) (
reqB ((-127 : Int) ≤ n2) (
reqB (n2 ≤ (127 : Int)) (
reqB (sigCar.post [DV.n n0] [DV.n n1, DV.n n2]) (
true))))))))))))))))) := by kernel_rfl
set_option maxHeartbeats 8000000 in
theorem vt_carR : vcFn Tryd.prog [(44, Ext.ctr (ctOfG gl11 sigEnt))] noA gl11 100 29 sigCar = true := by
  rw [vc_carR]
  try simp only [Int.toNat_natCast, List.length_set, List.length_replicate, List.length_take, List.length_drop, List.length_append, List.length_cons, List.length_nil, Nat.min_self, List.take_take, lenCols_i, lenCols_b, List.drop_zero, List.take_length, Nat.add_eq, Nat.mul_eq, Nat.sub_eq, Nat.zero_add, Nat.sub_zero, Nat.mul_one]
  refine all_i fun n0 => ?_
  refine imp_i fun h0 => ?_
  refine imp_i fun h1 => ?_
  refine imp_i fun h2 => ?_
  try simp only [sigCar, u32, carPost, List.cons.injEq, DV.b.injEq, and_true, List.length_cons, List.length_nil] at h2
  refine req_i ?_ ?_
  · -- r0
   first | omega | assumption | grind
  refine req_i ?_ ?_
  · -- r1
   first | omega | assumption | grind
  refine req_i ?_ ?_
  · -- r2
   first | trivial | assumption | (simp only [sigEnt, entPost, List.cons.injEq, DV.b.injEq, and_true, List.length_cons, List.length_nil]; done) | ((try simp only [sigEnt, entPost, List.cons.injEq, DV.b.injEq, and_true, List.length_cons, List.length_nil]); first | omega | assumption | grind)
  refine all_i fun n1 => ?_
  refine imp_i fun h3 => ?_
  refine imp_i fun h4 => ?_
  refine all_i fun n2 => ?_
  refine imp_i fun h5 => ?_
  refine imp_i fun h6 => ?_
  refine imp_i fun h7 => ?_
  try simp only [sigEnt, entPost, List.cons.injEq, DV.b.injEq, and_true, List.length_cons, List.length_nil] at h7
  refine req_i ?_ ?_
  · -- r3
   first | omega | assumption | grind
  refine req_i ?_ ?_
  · -- r4
   first | omega | assumption | grind
  refine req_i ?_ ?_
  · -- r5
   first | omega | assumption | grind
  refine req_i ?_ ?_
  · -- r6
   first | omega | assumption | grind
  refine req_i ?_ ?_
  · -- r7
   first | omega | ((try simp only [sigCar, u32, carPost, List.cons.injEq, DV.b.injEq, and_true, List.length_cons, List.length_nil]); first | done | omega | assumption | grind [getD_set, getD_rep, toNat_succ, cntN_yes, cntN_no])
  rfl
theorem ext_carR : ∀ p ∈ ([(44, Ext.ctr (ctOfG gl11 sigEnt))] : List (Nat × Ext)), ExtRow Tryd.prog p.1 p.2 := by
  intro p hp
  simp only [List.mem_cons, List.not_mem_nil, or_false] at hp
  rcases hp with rfl
  · trivial
theorem cts_carR : CtsOk Tryd.prog [(44, Ext.ctr (ctOfG gl11 sigEnt))] := ctsOk_ofG (cs := [(44, sigEnt)])
  (fun p hp => by
    simp only [List.mem_cons, List.not_mem_nil, or_false] at hp
    rcases hp with rfl
    · exact fn_entryR
)
  (fun f c h => by
    simp only [List.lookup_cons] at h
    repeat' split at h
    all_goals first | (cases h; done) | (rename_i e; have e := beq_iff_eq.1 e; subst e; cases h; refine ⟨_, ?_, rfl⟩; simp))
theorem fn_carR : FnOk Tryd.prog 29 sigCar gl11 := fn_sound (by kernel_rfl) ext_carR cts_carR names vt_carR
end Go.Proofs.YtblcahackjpnjaaDoor

namespace Go.Proofs.YtblcahackjpnjaaDoor
open Go.Ev Go.Sp
set_option maxRecDepth 100000
theorem vc_NcoLater : vcFn Tryd.prog [(3, Ext.ctr (ctOfG gl11 sigTrue0)), (28, Ext.ctr (ctOfG gl11 sigPick)), (11, Ext.ctr (ctOfG gl11 sigPhase)), (23, Ext.ctr (ctOfG gl11 sigLater)), (12, Ext.ctr (ctOfG gl11 sigApart)), (13, Ext.ctr (ctOfG gl11 sigWave)), (14, Ext.ctr (ctOfG gl11 sigMix)), (15, Ext.ctr (ctOfG gl11 sigSamP)), (29, Ext.ctr (ctOfG gl11 sigCar))] (fun f p _ => at2 f p 7 4090 latL (none)) gl11 100 7 sigNL = (allB fun n0 : Int => 
impB ((0 : Int) ≤ n0) (
impB (n0 ≤ (4294967295 : Int)) (
allB fun n1 : Int => 
impB ((0 : Int) ≤ n1) (
impB (n1 ≤ (4294967295 : Int)) (
allB fun n2 : Int => 
impB ((-9223372036854775808 : Int) ≤ n2) (
impB (n2 ≤ (9223372036854775807 : Int)) (
allB fun n3 : Int => 
impB ((-9223372036854775808 : Int) ≤ n3) (
impB (n3 ≤ (9223372036854775807 : Int)) (
allB fun n4 : Int => 
impB ((-9223372036854775808 : Int) ≤ n4) (
impB (n4 ≤ (9223372036854775807 : Int)) (
impB (sigNL.pre [DV.n n0, DV.n n1, DV.n n2, DV.n n3, DV.n n4]) (
reqB (sigTrue0.pre []) (
allB fun b5 : Bool => 
impB (sigTrue0.post [] [DV.b b5]) (
reqB ((-9223372036854775808 : Int) ≤ n2) (
reqB (n2 ≤ (9223372036854775807 : Int)) (
reqB (sigPick.pre [DV.n n2, DV.n (51 : Int)]) (
allB fun n6 : Int => 
impB ((0 : Int) ≤ n6) (
impB (n6 ≤ (4503599627370496 : Int)) (
impB (sigPick.post [DV.n n2, DV.n (51 : Int)] [DV.n n6]) (
reqB ((-9223372036854775808 : Int) ≤ n4) (
reqB (n4 ≤ (9223372036854775807 : Int)) (
reqB (sigPick.pre [DV.n n4, DV.n (61 : Int)]) (
allB fun n7 : Int => 
impB ((0 : Int) ≤ n7) (
impB (n7 ≤ (4503599627370496 : Int)) (
impB (sigPick.post [DV.n n4, DV.n (61 : Int)] [DV.n n7]) (
reqB ((0 : Int) ≤ n0) (
reqB (n0 ≤ (4294967295 : Int)) (
reqB ((0 : Int) ≤ n1) (
reqB (n1 ≤ (4294967295 : Int)) (
reqB ((-9223372036854775808 : Int) ≤ n6) (
reqB (n6 ≤ (9223372036854775807 : Int)) (
reqB (sigLater.pre [DV.n n0, DV.n n1, DV.n n6]) (
allB fun n8 : Int => 
impB ((0 : Int) ≤ n8) (
impB (n8 ≤ (4294967295 : Int)) (
allB fun n9 : Int => 
impB ((0 : Int) ≤ n9) (
impB (n9 ≤ (4294967295 : Int)) (
impB (sigLater.post [DV.n n0, DV.n n1, DV.n n6] [DV.n n8, DV.n n9]) (
reqB ((0 : Int) ≤ n0) (
reqB (n0 ≤ (4294967295 : Int)) (
reqB ((0 : Int) ≤ n1) (
reqB (n1 ≤ (4294967295 : Int)) (
reqB ((-9223372036854775808 : Int) ≤ n6 + n7) (
reqB (n6 + n7 ≤ (9223372036854775807 : Int)) (
reqB (sigWave.pre [DV.n n0, DV.n n1, DV.n (n6 + n7)]) (
allB fun l10 : List Int => 
impB (l10.length ≤ (100000 : Nat)) (
impB (∀ (y : Int), y ∈ l10 → (-127 : Int) ≤ y ∧ y ≤ (127 : Int)) (
allB fun l11 : List Int => 
impB (l11.length = l10.length) (
impB (∀ (y : Int), y ∈ l11 → (-127 : Int) ≤ y ∧ y ≤ (127 : Int)) (
allB fun n12 : Int => 
impB ((0 : Int) ≤ n12) (
impB (n12 ≤ (18 : Int)) (
impB (sigWave.post [DV.n n0, DV.n n1, DV.n (n6 + n7)] [DV.l l10, DV.l l11, DV.n n12]) (
reqB ((0 : Int) ≤ n8) (
reqB (n8 ≤ (4294967295 : Int)) (
reqB ((0 : Int) ≤ n9) (
reqB (n9 ≤ (4294967295 : Int)) (
reqB ((-9223372036854775808 : Int) ≤ n7) (
reqB (n7 ≤ (9223372036854775807 : Int)) (
reqB (sigWave.pre [DV.n n8, DV.n n9, DV.n n7]) (
allB fun l13 : List Int => 
impB (l13.length ≤ (100000 : Nat)) (
impB (∀ (y : Int), y ∈ l13 → (-127 : Int) ≤ y ∧ y ≤ (127 : Int)) (
allB fun l14 : List Int => 
impB (l14.length = l13.length) (
impB (∀ (y : Int), y ∈ l14 → (-127 : Int) ≤ y ∧ y ≤ (127 : Int)) (
allB fun n15 : Int => 
impB ((0 : Int) ≤ n15) (
impB (n15 ≤ (18 : Int)) (
impB (sigWave.post [DV.n n8, DV.n n9, DV.n n7] [DV.l l13, DV.l l14, DV.n n15]) (
reqB (((0 : Nat) + l10.length) * (2 : Nat) ≤ l10.length.mul (2 : Nat)) (
reqB (l10.length ≤ (400 : Nat)) (
reqB ((List.take l10.length (List.drop (0 : Nat) l10)).length = l10.length) (
reqB (∀ (y : Int),
 y ∈ List.take l10.length (List.drop (0 : Nat) l10) →
 (-9223372036854775808 : Int) ≤ y ∧ y ≤ (9223372036854775807 : Int)) (
reqB ((List.take l10.length (List.drop (0 : Nat) l11)).length = l10.length) (
reqB (∀ (y : Int),
 y ∈ List.take l10.length (List.drop (0 : Nat) l11) →
 (-9223372036854775808 : Int) ≤ y ∧ y ≤ (9223372036854775807 : Int)) (
reqB ((0 : Int) ≤ n0) (
reqB (n0 ≤ (4294967295 : Int)) (
reqB ((0 : Int) ≤ n1) (
reqB (n1 ≤ (4294967295 : Int)) (
reqB (sigMix.pre
 [DV.l (List.take l10.length (List.drop (0 : Nat) l10)),
 DV.l (List.take l10.length (List.drop (0 : Nat) l11)), DV.n n0, DV.n n1]) (
allB fun l16 : List Int => 
impB (l16.length ≤ (400 : Nat)) (
impB (∀ (y : Int), y ∈ l16 → (-17873661021126656 : Int) ≤ y ∧ y ≤ (17873661021126656 : Int)) (
allB fun l17 : List Int => 
impB (l17.length = l16.length) (
impB (∀ (y : Int), y ∈ l17 → (-17873661021126656 : Int) ≤ y ∧ y ≤ (17873661021126656 : Int)) (
allB fun n18 : Int => 
impB ((0 : Int) ≤ n18) (
impB (n18 ≤ (18 : Int)) (
impB (sigMix.post
 [DV.l (List.take l10.length (List.drop (0 : Nat) l10)),
 DV.l (List.take l10.length (List.drop (0 : Nat) l11)), DV.n n0, DV.n n1]
 [DV.l l16, DV.l l17, DV.n n18]) (
bR (dec (n12 ≠ (0 : Int))) (
 reqB (sigNL.post [DV.n n0, DV.n n1, DV.n n2, DV.n n3, DV.n n4] [DV.b Bool.false]) (
 true)) (
 bR (dec (n15 ≠ (0 : Int))) (
 reqB (sigNL.post [DV.n n0, DV.n n1, DV.n n2, DV.n n3, DV.n n4] [DV.b Bool.false]) (
 true)) (
 bR (dec (n18 ≠ (0 : Int))) (
 reqB (sigNL.post [DV.n n0, DV.n n1, DV.n n2, DV.n n3, DV.n n4] [DV.b Bool.false]) (
 true)) (
 bR (dec ((↑l10.length : Int) ≠ n6 + n7)) (
 reqB (sigNL.post [DV.n n0, DV.n n1, DV.n n2, DV.n n3, DV.n n4] [DV.b Bool.false]) (
 true)) (
 bR (dec ((↑l16.length : Int) ≠ n6 + n7)) (
 reqB (sigNL.post [DV.n n0, DV.n n1, DV.n n2, DV.n n3, DV.n n4] [DV.b Bool.false]) (
 true)) (
 reqB (n6.toNat ≤ l10.length) (
 reqB (l10.length ≤ l10.length) (
 reqB ((Nat.add (0 : Nat) n6.toNat + l10.length.sub n6.toNat) * (2 : Nat) ≤ l10.length.mul (2 : Nat)) (
 reqB (l10.length.sub n6.toNat ≤ (9223372036854775807 : Nat)) (
 reqB ((List.take (l10.length.sub n6.toNat) (List.drop (Nat.add (0 : Nat) n6.toNat) l10)).length = l10.length.sub n6.toNat) (
 reqB (∀ (y : Int),
 y ∈ List.take (l10.length.sub n6.toNat) (List.drop (Nat.add (0 : Nat) n6.toNat) l10) →
 (-9223372036854775808 : Int) ≤ y ∧ y ≤ (9223372036854775807 : Int)) (
 reqB ((List.take (l10.length.sub n6.toNat) (List.drop (Nat.add (0 : Nat) n6.toNat) l11)).length = l10.length.sub n6.toNat) (
 reqB (∀ (y : Int),
 y ∈ List.take (l10.length.sub n6.toNat) (List.drop (Nat.add (0 : Nat) n6.toNat) l11) →
 (-9223372036854775808 : Int) ≤ y ∧ y ≤ (9223372036854775807 : Int)) (
 reqB (((0 : Nat) + l13.length) * (2 : Nat) ≤ l13.length.mul (2 : Nat)) (
 reqB (l13.length ≤ (9223372036854775807 : Nat)) (
 reqB ((List.take l13.length (List.drop (0 : Nat) l13)).length = l13.length) (
 reqB (∀ (y : Int),
 y ∈ List.take l13.length (List.drop (0 : Nat) l13) →
 (-9223372036854775808 : Int) ≤ y ∧ y ≤ (9223372036854775807 : Int)) (
 reqB ((List.take l13.length (List.drop (0 : Nat) l14)).length = l13.length) (
 reqB (∀ (y : Int),
 y ∈ List.take l13.length (List.drop (0 : Nat) l14) →
 (-9223372036854775808 : Int) ≤ y ∧ y ≤ (9223372036854775807 : Int)) (
 reqB (sigSamP.pre
 [DV.l (List.take (l10.length.sub n6.toNat) (List.drop (Nat.add (0 : Nat) n6.toNat) l10)),
 DV.l (List.take (l10.length.sub n6.toNat) (List.drop (Nat.add (0 : Nat) n6.toNat) l11)),
 DV.l (List.take l13.length (List.drop (0 : Nat) l13)),
 DV.l (List.take l13.length (List.drop (0 : Nat) l14))]) (
 allB fun b19 : Bool => 
 impB (sigSamP.post
 [DV.l (List.take (l10.length.sub n6.toNat) (List.drop (Nat.add (0 : Nat) n6.toNat) l10)),
 DV.l (List.take (l10.length.sub n6.toNat) (List.drop (Nat.add (0 : Nat) n6.toNat) l11)),
 DV.l (List.take l13.length (List.drop (0 : Nat) l13)),
 DV.l (List.take l13.length (List.drop (0 : Nat) l14))]
 [DV.b b19]) (
 bR (bR (b19) (
 false) (
 true)) (
 reqB (sigNL.post [DV.n n0, DV.n n1, DV.n n2, DV.n n3, DV.n n4] [DV.b Bool.false]) (
 true)) (
 reqB (((0 : Nat) + l10.length) * (2 : Nat) ≤ l10.length.mul (2 : Nat)) (
 reqB (l10.length ≤ (9223372036854775807 : Nat)) (
 reqB ((List.take l10.length (List.drop (0 : Nat) l10)).length = l10.length) (
 reqB (∀ (y : Int),
 y ∈ List.take l10.length (List.drop (0 : Nat) l10) →
 (-9223372036854775808 : Int) ≤ y ∧ y ≤ (9223372036854775807 : Int)) (
 reqB ((List.take l10.length (List.drop (0 : Nat) l11)).length = l10.length) (
 reqB (∀ (y : Int),
 y ∈ List.take l10.length (List.drop (0 : Nat) l11) →
 (-9223372036854775808 : Int) ≤ y ∧ y ≤ (9223372036854775807 : Int)) (
 reqB (latL.inv
 [DV.l (List.take l10.length (List.drop (0 : Nat) l10)),
 DV.l (List.take l10.length (List.drop (0 : Nat) l11))]
 [DV.n (0 : Int)]) (
 allB fun n20 : Int => 
 impB ((0 : Int) ≤ n20) (
 impB (n20 ≤ (100000 : Int)) (
 impB (latL.inv
 [DV.l (List.take l10.length (List.drop (0 : Nat) l10)),
 DV.l (List.take l10.length (List.drop (0 : Nat) l11))]
 [DV.n n20]) (
 bR (dec (n20 < (↑l10.length : Int))) (
 reqB (n20.toNat < l16.length) (
 reqB (Nat.add (0 : Nat) n20.toNat < l16.length) (
 reqB (Nat.add (0 : Nat) n20.toNat < l17.length) (
 reqB (n20.toNat < l10.length) (
 reqB (Nat.add (0 : Nat) n20.toNat < l10.length) (
 reqB (n20.toNat < l10.length) (
 reqB (Nat.add (0 : Nat) n20.toNat < l10.length) (
 reqB (n20.toNat < l10.length) (
 reqB (Nat.add (0 : Nat) n20.toNat < l11.length) (
 reqB (n20.toNat < l10.length) (
 reqB (Nat.add (0 : Nat) n20.toNat < l11.length) (
 bR (bR (bR (dec (l16.getD (Nat.add (0 : Nat) n20.toNat) (0 : Int) =
 l10.getD (Nat.add (0 : Nat) n20.toNat) (0 : Int) * l10.getD (Nat.add (0 : Nat) n20.toNat) (0 : Int) +
 l11.getD (Nat.add (0 : Nat) n20.toNat) (0 : Int) * l11.getD (Nat.add (0 : Nat) n20.toNat) (0 : Int))) (
 bR (dec (l17.getD (Nat.add (0 : Nat) n20.toNat) (0 : Int) = (0 : Int))) (
 true) (
 false)) (
 false)) (
 false) (
 true)) (
 reqB (sigNL.post [DV.n n0, DV.n n1, DV.n n2, DV.n n3, DV.n n4] [DV.b Bool.false]) (
 true)) (
 reqB (n20.toNat < l10.length) (
 reqB (Nat.add (0 : Nat) n20.toNat < l10.length) (
 reqB (Nat.add (0 : Nat) n20.toNat < l11.length) (
 reqB ((0 : Int) ≤ n0) (
 reqB (n0 ≤ (4294967295 : Int)) (
 reqB ((0 : Int) ≤ n1) (
 reqB (n1 ≤ (4294967295 : Int)) (
 reqB ((-9223372036854775808 : Int) ≤ n20) (
 reqB (n20 ≤ (9223372036854775807 : Int)) (
 reqB (sigPhase.pre [DV.n n0, DV.n n1, DV.n n20]) (
 allB fun n21 : Int => 
 impB ((0 : Int) ≤ n21) (
 impB (n21 ≤ (4294967295 : Int)) (
 impB (sigPhase.post [DV.n n0, DV.n n1, DV.n n20] [DV.n n21]) (
 reqB ((0 : Int) ≤ n21) (
 reqB (n21 ≤ (4294967295 : Int)) (
 reqB (sigCar.pre [DV.n n21]) (
 allB fun n22 : Int => 
 impB ((-127 : Int) ≤ n22) (
 impB (n22 ≤ (127 : Int)) (
 allB fun n23 : Int => 
 impB ((-127 : Int) ≤ n23) (
 impB (n23 ≤ (127 : Int)) (
 impB (sigCar.post [DV.n n21] [DV.n n22, DV.n n23]) (
 bR (bR (bR (dec (l10.getD (Nat.add (0 : Nat) n20.toNat) (0 : Int) = n22)) (
 bR (dec (l11.getD (Nat.add (0 : Nat) n20.toNat) (0 : Int) = n23)) (
 true) (
 false)) (
 false)) (
 false) (
 true)) (
 reqB (sigNL.post [DV.n n0, DV.n n1, DV.n n2, DV.n n3, DV.n n4] [DV.b Bool.false]) (
 true)) (
 bR (bR (dec (n6 = n6)) (
 bR (dec (n3 = n3)) (
 bR (bR (b5) (
 b5) (
 bR (b5) (
 false) (
 true))) (
 bR (bR (dec ((0 : Nat) = (0 : Nat))) (
 dec (l10.length = l10.length)) (
 false)) (
 bR (bR (dec ((0 : Nat) = (0 : Nat))) (
 dec (l16.length = l16.length)) (
 false)) (
 true) (
 false)) (
 false)) (
 false)) (
 false)) (
 false)) (
 bR (bR (bR (dec (n0 = n0)) (
 bR (dec (n1 = n1)) (
 true) (
 false)) (
 false)) (
 bR (bR (dec (n8 = n8)) (
 bR (dec (n9 = n9)) (
 true) (
 false)) (
 false)) (
 bR (bR (dec (l10.length.mul (2 : Nat) = l10.length.mul (2 : Nat))) (
 dec ([Col.i Go.IntKind.i64 (-127 : Int) (127 : Int) l10, Col.i Go.IntKind.i64 (-127 : Int) (127 : Int) l11] =
 [Col.i Go.IntKind.i64 (-127 : Int) (127 : Int) l10, Col.i Go.IntKind.i64 (-127 : Int) (127 : Int) l11])) (
 false)) (
 bR (bR (dec (l13.length.mul (2 : Nat) = l13.length.mul (2 : Nat))) (
 dec ([Col.i Go.IntKind.i64 (-127 : Int) (127 : Int) l13, Col.i Go.IntKind.i64 (-127 : Int) (127 : Int) l14] =
 [Col.i Go.IntKind.i64 (-127 : Int) (127 : Int) l13, Col.i Go.IntKind.i64 (-127 : Int) (127 : Int) l14])) (
 false)) (
 bR (bR (dec (l16.length.mul (2 : Nat) = l16.length.mul (2 : Nat))) (
 dec ([Col.i Go.IntKind.i64 (-17873661021126656 : Int) (17873661021126656 : Int) l16,
 Col.i Go.IntKind.i64 (-17873661021126656 : Int) (17873661021126656 : Int) l17] =
 [Col.i Go.IntKind.i64 (-17873661021126656 : Int) (17873661021126656 : Int) l16,
 Col.i Go.IntKind.i64 (-17873661021126656 : Int) (17873661021126656 : Int) l17])) (
 false)) (
 true) (
 false)) (
 false)) (
 false)) (
 false)) (
 false)) (
 reqB ((0 : Int) ≤ n20 + (1 : Int)) (
 reqB (n20 + (1 : Int) ≤ (100000 : Int)) (
 reqB (latL.inv
 [DV.l (List.take l10.length (List.drop (0 : Nat) l10)),
 DV.l (List.take l10.length (List.drop (0 : Nat) l11))]
 [DV.n (n20 + (1 : Int))]) (
 reqB (latL.mea
 [DV.l (List.take l10.length (List.drop (0 : Nat) l10)),
 DV.l (List.take l10.length (List.drop (0 : Nat) l11))]
 [DV.n (n20 + (1 : Int))] <
 latL.mea
 [DV.l (List.take l10.length (List.drop (0 : Nat) l10)),
 DV.l (List.take l10.length (List.drop (0 : Nat) l11))]
 [DV.n n20]) (
 true))))) (
 false)) (
 false)))))))))))))))))))))))))))))))))))) (
 bR (b5) (
 reqB ((0 : Int) ≤ n8) (
 reqB (n8 ≤ (4294967295 : Int)) (
 reqB ((0 : Int) ≤ n9) (
 reqB (n9 ≤ (4294967295 : Int)) (
 reqB ((-9223372036854775808 : Int) ≤ n3) (
 reqB (n3 ≤ (9223372036854775807 : Int)) (
 reqB (sigLater.pre [DV.n n8, DV.n n9, DV.n n3]) (
 allB fun n24 : Int => 
 impB ((0 : Int) ≤ n24) (
 impB (n24 ≤ (4294967295 : Int)) (
 allB fun n25 : Int => 
 impB ((0 : Int) ≤ n25) (
 impB (n25 ≤ (4294967295 : Int)) (
 impB (sigLater.post [DV.n n8, DV.n n9, DV.n n3] [DV.n n24, DV.n n25]) (
 allB fun n26 : Int => 
 impB (n26 = Go.IntKind.i64.wrap (n6 + n3)) (
 impB (Int.negSucc (9223372036854775807 : Nat) ≤ n26) (
 impB (n26 ≤ Int.ofNat (9223372036854775807 : Nat)) (
 reqB ((0 : Int) ≤ n0) (
 reqB (n0 ≤ (4294967295 : Int)) (
 reqB ((0 : Int) ≤ n1) (
 reqB (n1 ≤ (4294967295 : Int)) (
 reqB ((-9223372036854775808 : Int) ≤ n26) (
 reqB (n26 ≤ (9223372036854775807 : Int)) (
 reqB (sigLater.pre [DV.n n0, DV.n n1, DV.n n26]) (
 allB fun n27 : Int => 
 impB ((0 : Int) ≤ n27) (
 impB (n27 ≤ (4294967295 : Int)) (
 allB fun n28 : Int => 
 impB ((0 : Int) ≤ n28) (
 impB (n28 ≤ (4294967295 : Int)) (
 impB (sigLater.post [DV.n n0, DV.n n1, DV.n n26] [DV.n n27, DV.n n28]) (
 bR (bR (dec (n24 = n27)) (
 bR (dec (n25 = n28)) (
 true) (
 false)) (
 false)) (
 reqB ((0 : Int) ≤ n8) (
 reqB (n8 ≤ (4294967295 : Int)) (
 reqB ((0 : Int) ≤ n9) (
 reqB (n9 ≤ (4294967295 : Int)) (
 reqB ((0 : Int) ≤ n0) (
 reqB (n0 ≤ (4294967295 : Int)) (
 reqB ((0 : Int) ≤ n1) (
 reqB (n1 ≤ (4294967295 : Int)) (
 reqB ((-9223372036854775808 : Int) ≤ n3) (
 reqB (n3 ≤ (9223372036854775807 : Int)) (
 reqB (sigApart.pre [DV.n n8, DV.n n9, DV.n n0, DV.n n1, DV.n n3]) (
 allB fun n29 : Int => 
 impB ((-2147483648 : Int) ≤ n29) (
 impB (n29 ≤ (2147483647 : Int)) (
 impB (sigApart.post [DV.n n8, DV.n n9, DV.n n0, DV.n n1, DV.n n3] [DV.n n29]) (
 reqB ((0 : Int) ≤ n0) (
 reqB (n0 ≤ (4294967295 : Int)) (
 reqB ((0 : Int) ≤ n1) (
 reqB (n1 ≤ (4294967295 : Int)) (
 reqB ((-9223372036854775808 : Int) ≤ n6) (
 reqB (n6 ≤ (9223372036854775807 : Int)) (
 reqB (sigPhase.pre [DV.n n0, DV.n n1, DV.n n6]) (
 allB fun n30 : Int => 
 impB ((0 : Int) ≤ n30) (
 impB (n30 ≤ (4294967295 : Int)) (
 impB (sigPhase.post [DV.n n0, DV.n n1, DV.n n6] [DV.n n30]) (
 reqB ((0 : Int) ≤ n30) (
 reqB (n30 ≤ (4294967295 : Int)) (
 reqB ((0 : Int) ≤ n0) (
 reqB (n0 ≤ (4294967295 : Int)) (
 reqB (sigApart.pre [DV.n n30, DV.n (0 : Int), DV.n n0, DV.n (0 : Int), DV.n (0 : Int)]) (
 allB fun n31 : Int => 
 impB ((-2147483648 : Int) ≤ n31) (
 impB (n31 ≤ (2147483647 : Int)) (
 impB (sigApart.post [DV.n n30, DV.n (0 : Int), DV.n n0, DV.n (0 : Int), DV.n (0 : Int)]
 [DV.n n31]) (
 reqB (sigNL.post [DV.n n0, DV.n n1, DV.n n2, DV.n n3, DV.n n4]
 [DV.b (dec (n29 = n31))]) (
 true)))))))))))))))))))))))))))))))))) (
 reqB (sigNL.post [DV.n n0, DV.n n1, DV.n n2, DV.n n3, DV.n n4] [DV.b Bool.false]) (
 true)))))))))))))))))))))))))))))) (
 reqB (sigNL.post [DV.n n0, DV.n n1, DV.n n2, DV.n n3, DV.n n4] [DV.b Bool.false]) (
 true))))))))))))))))))))))))))))))))))))))))))))))))))))))))))))))))))))))))))))))))))))))))))))))))))))))))))))))))))))))) := by kernel_rfl
set_option maxHeartbeats 8000000 in
theorem vt_NcoLater : vcFn Tryd.prog [(3, Ext.ctr (ctOfG gl11 sigTrue0)), (28, Ext.ctr (ctOfG gl11 sigPick)), (11, Ext.ctr (ctOfG gl11 sigPhase)), (23, Ext.ctr (ctOfG gl11 sigLater)), (12, Ext.ctr (ctOfG gl11 sigApart)), (13, Ext.ctr (ctOfG gl11 sigWave)), (14, Ext.ctr (ctOfG gl11 sigMix)), (15, Ext.ctr (ctOfG gl11 sigSamP)), (29, Ext.ctr (ctOfG gl11 sigCar))] (fun f p _ => at2 f p 7 4090 latL (none)) gl11 100 7 sigNL = true := by
  rw [vc_NcoLater]
  try simp only [Int.toNat_natCast, List.length_set, List.length_replicate, List.length_take, List.length_drop, List.length_append, List.length_cons, List.length_nil, Nat.min_self, List.take_take, lenCols_i, lenCols_b, List.drop_zero, List.take_length, Nat.add_eq, Nat.mul_eq, Nat.sub_eq, Nat.zero_add, Nat.sub_zero, Nat.mul_one]
  refine all_i fun n0 => ?_
  refine imp_i fun h0 => ?_
  refine imp_i fun h1 => ?_
  refine all_i fun n1 => ?_
  refine imp_i fun h2 => ?_
  refine imp_i fun h3 => ?_
  refine all_i fun n2 => ?_
  refine imp_i fun h4 => ?_
  refine imp_i fun h5 => ?_
  refine all_i fun n3 => ?_
  refine imp_i fun h6 => ?_
  refine imp_i fun h7 => ?_
  refine all_i fun n4 => ?_
  refine imp_i fun h8 => ?_
  refine imp_i fun h9 => ?_
  refine imp_i fun h10 => ?_
  try simp only [sigNL, u32, List.cons.injEq, DV.b.injEq, and_true, List.length_cons, List.length_nil] at h10
  refine req_i ?_ ?_
  · -- r0
   first | omega | assumption | grind
  refine all_i fun b5 => ?_
  refine imp_i fun h11 => ?_
  try simp only [sigTrue0, List.cons.injEq, DV.b.injEq, and_true, List.length_cons, List.length_nil] at h11
  refine req_i ?_ ?_
  · -- r1
   first | omega | assumption | grind
  refine req_i ?_ ?_
  · -- r2
   first | omega | assumption | grind
  refine req_i ?_ ?_
  · -- r3
   first | trivial | assumption | (simp only [sigPick, pickPost, List.cons.injEq, DV.b.injEq, and_true, List.length_cons, List.length_nil]; done) | ((try simp only [sigPick, pickPost, List.cons.injEq, DV.b.injEq, and_true, List.length_cons, List.length_nil]); first | omega | assumption | grind)
  refine all_i fun n6 => ?_
  refine imp_i fun h12 => ?_
  refine imp_i fun h13 => ?_
  refine imp_i fun h14 => ?_
  try simp only [sigPick, pickPost, List.cons.injEq, DV.b.injEq, and_true, List.length_cons, List.length_nil] at h14
  refine req_i ?_ ?_
  · -- r4
   first | omega | assumption | grind
  refine req_i ?_ ?_
  · -- r5
   first | omega | assumption | grind
  refine req_i ?_ ?_
  · -- r6
   first | trivial | assumption | (simp only [sigPick, pickPost, List.cons.injEq, DV.b.injEq, and_true, List.length_cons, List.length_nil]; done) | ((try simp only [sigPick, pickPost, List.cons.injEq, DV.b.injEq, and_true, List.length_cons, List.length_nil]); first | omega | assumption | grind)
  refine all_i fun n7 => ?_
  refine imp_i fun h15 => ?_
  refine imp_i fun h16 => ?_
  refine imp_i fun h17 => ?_
  try simp only [sigPick, pickPost, List.cons.injEq, DV.b.injEq, and_true, List.length_cons, List.length_nil] at h17
  refine req_i ?_ ?_
  · -- r7
   first | omega | assumption | grind
  refine req_i ?_ ?_
  · -- r8
   first | omega | assumption | grind
  refine req_i ?_ ?_
  · -- r9
   first | omega | assumption | grind
  refine req_i ?_ ?_
  · -- r10
   first | omega | assumption | grind
  refine req_i ?_ ?_
  · -- r11
   first | omega | assumption | grind
  refine req_i ?_ ?_
  · -- r12
   first | omega | assumption | grind
  refine req_i ?_ ?_
  · -- r13
   first | trivial | assumption | (simp only [sigLater, u32, laterPost, adv, List.cons.injEq, DV.b.injEq, and_true, List.length_cons, List.length_nil]; done) | ((try simp only [sigLater, u32, laterPost, adv, List.cons.injEq, DV.b.injEq, and_true, List.length_cons, List.length_nil]); first | omega | assumption | grind)
  refine all_i fun n8 => ?_
  refine imp_i fun h18 => ?_
  refine imp_i fun h19 => ?_
  refine all_i fun n9 => ?_
  refine imp_i fun h20 => ?_
  refine imp_i fun h21 => ?_
  refine imp_i fun h22 => ?_
  try simp only [Int.toNat_natCast, List.length_set, List.length_replicate, List.length_take, List.length_drop, List.length_append, List.length_cons, List.length_nil, Nat.min_self, List.take_take, lenCols_i, lenCols_b, List.drop_zero, List.take_length, Nat.add_eq, Nat.mul_eq, Nat.sub_eq, Nat.zero_add, Nat.sub_zero, Nat.mul_one] at h22
  refine req_i ?_ ?_
  · -- r14
   first | omega | assumption | grind
  refine req_i ?_ ?_
  · -- r15
   first | omega | assumption | grind
  refine req_i ?_ ?_
  · -- r16
   first | omega | assumption | grind
  refine req_i ?_ ?_
  · -- r17
   first | omega | assumption | grind
  refine req_i ?_ ?_
  · -- r18
   first | omega | assumption | grind
  refine req_i ?_ ?_
  · -- r19
   first | omega | assumption | grind
  refine req_i ?_ ?_
  · -- r20
   first | trivial | assumption | (simp only [sigWave, u32, smpW, wavPost, wC, adv, wS, List.cons.injEq, DV.b.injEq, and_true, List.length_cons, List.length_nil]; done) | ((try simp only [sigWave, u32, smpW, wavPost, wC, adv, wS, List.cons.injEq, DV.b.injEq, and_true, List.length_cons, List.length_nil]); first | omega | assumption | grind)
  refine all_i fun l10 => ?_
  refine imp_i fun h23 => ?_
  refine imp_i fun h24 => ?_
  refine all_i fun l11 => ?_
  refine imp_i fun h25 => ?_
  have tkl11 := take_eq h25
  try simp only [tkl11]
  refine imp_i fun h26 => ?_
  refine all_i fun n12 => ?_
  refine imp_i fun h27 => ?_
  refine imp_i fun h28 => ?_
  refine imp_i fun h29 => ?_
  try simp only [Int.toNat_natCast, List.length_set, List.length_replicate, List.length_take, List.length_drop, List.length_append, List.length_cons, List.length_nil, Nat.min_self, List.take_take, lenCols_i, lenCols_b, List.drop_zero, List.take_length, Nat.add_eq, Nat.mul_eq, Nat.sub_eq, Nat.zero_add, Nat.sub_zero, Nat.mul_one] at h29
  obtain ⟨w1, w2, w3⟩ := wav_val h29 (by omega) (by omega)
  refine req_i ?_ ?_
  · -- r21
   first | omega | assumption | grind
  refine req_i ?_ ?_
  · -- r22
   first | omega | assumption | grind
  refine req_i ?_ ?_
  · -- r23
   first | omega | assumption | grind
  refine req_i ?_ ?_
  · -- r24
   first | omega | assumption | grind
  refine req_i ?_ ?_
  · -- r25
   first | omega | assumption | grind
  refine req_i ?_ ?_
  · -- r26
   first | omega | assumption | grind
  refine req_i ?_ ?_
  · -- r27
   first | trivial | assumption | (simp only [sigWave, u32, smpW, wavPost, wC, adv, wS, List.cons.injEq, DV.b.injEq, and_true, List.length_cons, List.length_nil]; done) | ((try simp only [sigWave, u32, smpW, wavPost, wC, adv, wS, List.cons.injEq, DV.b.injEq, and_true, List.length_cons, List.length_nil]); first | omega | assumption | grind)
  refine all_i fun l13 => ?_
  refine imp_i fun h30 => ?_
  refine imp_i fun h31 => ?_
  refine all_i fun l14 => ?_
  refine imp_i fun h32 => ?_
  have tkl14 := take_eq h32
  try simp only [tkl14]
  refine imp_i fun h33 => ?_
  refine all_i fun n15 => ?_
  refine imp_i fun h34 => ?_
  refine imp_i fun h35 => ?_
  refine imp_i fun h36 => ?_
  try simp only [Int.toNat_natCast, List.length_set, List.length_replicate, List.length_take, List.length_drop, List.length_append, List.length_cons, List.length_nil, Nat.min_self, List.take_take, lenCols_i, lenCols_b, List.drop_zero, List.take_length, Nat.add_eq, Nat.mul_eq, Nat.sub_eq, Nat.zero_add, Nat.sub_zero, Nat.mul_one] at h36
  obtain ⟨v1, v2, v3⟩ := wav_val h36 (by omega) (by omega)
  obtain ⟨p1, p2⟩ : n8 = adv n0 n1 n6 ∧ n9 = n1 := h22
  refine req_i ?_ ?_
  · -- r28
   first | omega | ((try simp only [Nat.mul_eq]); first | done | omega | assumption | grind [getD_set, getD_rep, toNat_succ, cntN_yes, cntN_no])
  refine req_i ?_ ?_
  · -- r29
   first | omega | ((try simp only [Nat.zero_add]); first | done | omega | assumption | grind [getD_set, getD_rep, toNat_succ, cntN_yes, cntN_no])
  refine req_i ?_ ?_
  · -- r30
   first | omega | ((try simp only [List.length_take, List.take_length, List.take_take, Nat.min_self, List.length_drop, List.drop_zero, List.length_cons, List.length_nil]); first | done | omega | assumption | grind [getD_set, getD_rep, toNat_succ, cntN_yes, cntN_no])
  refine req_i ?_ ?_
  · -- r31
   first | assumption | exact rep_bd (by omega) (by omega) | exact set_bd (by assumption) (by omega) (by omega) | exact take_bd (by assumption) | ((try simp only [List.length_take, List.take_length, List.take_take, Nat.min_self, List.length_drop, List.drop_zero, List.length_cons, List.length_nil]); first | assumption | exact rep_bd (by omega) (by omega) | exact set_bd (by assumption) (by omega) (by omega) | exact take_bd (by assumption) | grind [getD_set, getD_rep, toNat_succ, cntN_yes, cntN_no])
  refine req_i ?_ ?_
  · -- r32
   first | omega | ((try simp only [List.length_take, List.take_length, List.take_take, Nat.min_self, List.length_drop, List.drop_zero, List.length_cons, List.length_nil]); first | done | omega | assumption | grind [getD_set, getD_rep, toNat_succ, cntN_yes, cntN_no])
  refine req_i ?_ ?_
  · -- r33
   first | assumption | exact rep_bd (by omega) (by omega) | exact set_bd (by assumption) (by omega) (by omega) | exact take_bd (by assumption) | ((try simp only [List.length_take, List.take_length, List.take_take, Nat.min_self, List.length_drop, List.drop_zero, List.length_cons, List.length_nil]); first | assumption | exact rep_bd (by omega) (by omega) | exact set_bd (by assumption) (by omega) (by omega) | exact take_bd (by assumption) | grind [getD_set, getD_rep, toNat_succ, cntN_yes, cntN_no])
  refine req_i ?_ ?_
  · -- r34
   first | omega | assumption | grind
  refine req_i ?_ ?_
  · -- r35
   first | omega | assumption | grind
  refine req_i ?_ ?_
  · -- r36
   first | omega | assumption | grind
  refine req_i ?_ ?_
  · -- r37
   first | omega | assumption | grind
  refine req_i ?_ ?_
  · -- r38
   first | omega | ((try simp only [sigMix, smpI, u32, mxL, mixPost, wC, adv, wS, List.cons.injEq, DV.b.injEq, and_true, List.length_take, List.take_length, List.take_take, Nat.min_self, List.length_drop, List.drop_zero, List.length_cons, List.length_nil]); first | done | omega | assumption | grind [getD_set, getD_rep, toNat_succ, cntN_yes, cntN_no])
  refine all_i fun l16 => ?_
  refine imp_i fun h37 => ?_
  refine imp_i fun h38 => ?_
  refine all_i fun l17 => ?_
  refine imp_i fun h39 => ?_
  have tkl17 := take_eq h39
  try simp only [tkl17]
  refine imp_i fun h40 => ?_
  refine all_i fun n18 => ?_
  refine imp_i fun h41 => ?_
  refine imp_i fun h42 => ?_
  refine imp_i fun h43 => ?_
  try simp only [Int.toNat_natCast, List.length_set, List.length_replicate, List.length_take, List.length_drop, List.length_append, List.length_cons, List.length_nil, Nat.min_self, List.take_take, lenCols_i, lenCols_b, List.drop_zero, List.take_length, Nat.add_eq, Nat.mul_eq, Nat.sub_eq, Nat.zero_add, Nat.sub_zero, Nat.mul_one] at h43
  obtain ⟨x1, x2, x3⟩ := mix_val h43 (by omega) (sml_of h24 h26 h25)
  refine bR_dec (fun h44 => ?_) (fun h44 => ?_)
  ·
   refine req_i ?_ ?_
   · -- r39
    first | omega | ((try simp only [sigNL, u32, List.cons.injEq, DV.b.injEq, and_true, List.length_cons, List.length_nil]); first | done | omega | assumption | grind [getD_set, getD_rep, toNat_succ, cntN_yes, cntN_no])
   rfl
  ·
   refine bR_dec (fun h45 => ?_) (fun h45 => ?_)
   ·
    refine req_i ?_ ?_
    · -- r40
     first | omega | ((try simp only [sigNL, u32, List.cons.injEq, DV.b.injEq, and_true, List.length_cons, List.length_nil]); first | done | omega | assumption | grind [getD_set, getD_rep, toNat_succ, cntN_yes, cntN_no])
    rfl
   ·
    refine bR_dec (fun h46 => ?_) (fun h46 => ?_)
    ·
     refine req_i ?_ ?_
     · -- r41
      first | omega | ((try simp only [sigNL, u32, List.cons.injEq, DV.b.injEq, and_true, List.length_cons, List.length_nil]); first | done | omega | assumption | grind [getD_set, getD_rep, toNat_succ, cntN_yes, cntN_no])
     rfl
    ·
     refine bR_dec (fun h47 => ?_) (fun h47 => ?_)
     ·
      refine req_i ?_ ?_
      · -- r42
       first | omega | ((try simp only [sigNL, u32, List.cons.injEq, DV.b.injEq, and_true, List.length_cons, List.length_nil]); first | done | omega | assumption | grind [getD_set, getD_rep, toNat_succ, cntN_yes, cntN_no])
      rfl
     ·
      refine bR_dec (fun h48 => ?_) (fun h48 => ?_)
      ·
       refine req_i ?_ ?_
       · -- r43
        first | omega | ((try simp only [sigNL, u32, List.cons.injEq, DV.b.injEq, and_true, List.length_cons, List.length_nil]); first | done | omega | assumption | grind [getD_set, getD_rep, toNat_succ, cntN_yes, cntN_no])
       rfl
      ·
       refine req_i ?_ ?_
       · -- r44
        first | omega | ((try simp only [Int.toNat_natCast, List.length_cons, List.length_nil]); first | done | omega | assumption | grind [getD_set, getD_rep, toNat_succ, cntN_yes, cntN_no])
       refine req_i ?_ ?_
       · -- r45
        first | omega | ((try simp only [Nat.zero_add]); first | done | omega | assumption | grind [getD_set, getD_rep, toNat_succ, cntN_yes, cntN_no])
       refine req_i ?_ ?_
       · -- r46
        first | omega | ((try simp only [Int.toNat_natCast, List.length_cons, List.length_nil, Nat.add_eq, Nat.zero_add, Nat.mul_eq, Nat.sub_eq, Nat.sub_zero]); first | done | omega | assumption | grind [getD_set, getD_rep, toNat_succ, cntN_yes, cntN_no])
       refine req_i ?_ ?_
       · -- r47
        first | omega | ((try simp only [Int.toNat_natCast, List.length_cons, List.length_nil, Nat.sub_eq, Nat.sub_zero]); first | done | omega | assumption | grind [getD_set, getD_rep, toNat_succ, cntN_yes, cntN_no])
       refine req_i ?_ ?_
       · -- r48
        first | omega | ((try simp only [Int.toNat_natCast, List.length_take, List.take_length, List.take_take, Nat.min_self, List.length_drop, List.drop_zero, List.length_cons, List.length_nil, Nat.add_eq, Nat.zero_add, Nat.sub_eq, Nat.sub_zero]); first | done | omega | assumption | grind [getD_set, getD_rep, toNat_succ, cntN_yes, cntN_no])
       refine req_i ?_ ?_
       · -- r49
        first | assumption | exact rep_bd (by omega) (by omega) | exact set_bd (by assumption) (by omega) (by omega) | exact take_bd (by assumption) | ((try simp only [Int.toNat_natCast, List.length_take, List.take_length, List.take_take, Nat.min_self, List.length_drop, List.drop_zero, List.length_cons, List.length_nil, Nat.add_eq, Nat.zero_add, Nat.sub_eq, Nat.sub_zero]); first | assumption | exact rep_bd (by omega) (by omega) | exact set_bd (by assumption) (by omega) (by omega) | exact take_bd (by assumption) | grind [getD_set, getD_rep, toNat_succ, cntN_yes, cntN_no])
       refine req_i ?_ ?_
       · -- r50
        first | omega | ((try simp only [Int.toNat_natCast, List.length_take, List.take_length, List.take_take, Nat.min_self, List.length_drop, List.drop_zero, List.length_cons, List.length_nil, Nat.add_eq, Nat.zero_add, Nat.sub_eq, Nat.sub_zero]); first | done | omega | assumption | grind [getD_set, getD_rep, toNat_succ, cntN_yes, cntN_no])
       refine req_i ?_ ?_
       · -- r51
        first | assumption | exact rep_bd (by omega) (by omega) | exact set_bd (by assumption) (by omega) (by omega) | exact take_bd (by assumption) | ((try simp only [Int.toNat_natCast, List.length_take, List.take_length, List.take_take, Nat.min_self, List.length_drop, List.drop_zero, List.length_cons, List.length_nil, Nat.add_eq, Nat.zero_add, Nat.sub_eq, Nat.sub_zero]); first | assumption | exact rep_bd (by omega) (by omega) | exact set_bd (by assumption) (by omega) (by omega) | exact take_bd (by assumption) | grind [getD_set, getD_rep, toNat_succ, cntN_yes, cntN_no])
       refine req_i ?_ ?_
       · -- r52
        first | omega | ((try simp only [Nat.mul_eq]); first | done | omega | assumption | grind [getD_set, getD_rep, toNat_succ, cntN_yes, cntN_no])
       refine req_i ?_ ?_
       · -- r53
        first | omega | ((try simp only [Nat.zero_add]); first | done | omega | assumption | grind [getD_set, getD_rep, toNat_succ, cntN_yes, cntN_no])
       refine req_i ?_ ?_
       · -- r54
        first | omega | ((try simp only [List.length_take, List.take_length, List.take_take, Nat.min_self, List.length_drop, List.drop_zero, List.length_cons, List.length_nil]); first | done | omega | assumption | grind [getD_set, getD_rep, toNat_succ, cntN_yes, cntN_no])
       refine req_i ?_ ?_
       · -- r55
        first | assumption | exact rep_bd (by omega) (by omega) | exact set_bd (by assumption) (by omega) (by omega) | exact take_bd (by assumption) | ((try simp only [List.length_take, List.take_length, List.take_take, Nat.min_self, List.length_drop, List.drop_zero, List.length_cons, List.length_nil]); first | assumption | exact rep_bd (by omega) (by omega) | exact set_bd (by assumption) (by omega) (by omega) | exact take_bd (by assumption) | grind [getD_set, getD_rep, toNat_succ, cntN_yes, cntN_no])
       refine req_i ?_ ?_
       · -- r56
        first | omega | ((try simp only [List.length_take, List.take_length, List.take_take, Nat.min_self, List.length_drop, List.drop_zero, List.length_cons, List.length_nil]); first | done | omega | assumption | grind [getD_set, getD_rep, toNat_succ, cntN_yes, cntN_no])
       refine req_i ?_ ?_
       · -- r57
        first | assumption | exact rep_bd (by omega) (by omega) | exact set_bd (by assumption) (by omega) (by omega) | exact take_bd (by assumption) | ((try simp only [List.length_take, List.take_length, List.take_take, Nat.min_self, List.length_drop, List.drop_zero, List.length_cons, List.length_nil]); first | assumption | exact rep_bd (by omega) (by omega) | exact set_bd (by assumption) (by omega) (by omega) | exact take_bd (by assumption) | grind [getD_set, getD_rep, toNat_succ, cntN_yes, cntN_no])
       refine req_i ?_ ?_
       · -- r58
        first | omega | ((try simp only [sigSamP, smpL, samP, List.cons.injEq, DV.b.injEq, and_true, Int.toNat_natCast, List.length_take, List.take_length, List.take_take, Nat.min_self, List.length_drop, List.drop_zero, List.length_cons, List.length_nil, Nat.add_eq, Nat.zero_add, Nat.sub_eq, Nat.sub_zero]); first | done | omega | assumption | grind [getD_set, getD_rep, toNat_succ, cntN_yes, cntN_no])
       refine all_i fun b19 => ?_
       refine imp_i fun h49 => ?_
       try simp only [Int.toNat_natCast, List.length_set, List.length_replicate, List.length_take, List.length_drop, List.length_append, List.length_cons, List.length_nil, Nat.min_self, List.take_take, lenCols_i, lenCols_b, List.drop_zero, List.take_length, Nat.add_eq, Nat.mul_eq, Nat.sub_eq, Nat.zero_add, Nat.sub_zero, Nat.mul_one] at h49
       have d1 := drop_fun (x := l10) (z := l13) (m := n6.toNat) (f := fun j => wC (adv n0 n1 j)) (by omega) (fun j hj => (w3 j (by omega)).1) (fun j hj => by rw [(v3 j (by omega)).1, p1, p2, adv_adv]; congr 2; omega)
       have d2 := drop_fun (x := l11) (z := l14) (m := n6.toNat) (f := fun j => wS (adv n0 n1 j)) (by omega) (fun j hj => (w3 j (by omega)).2) (fun j hj => by rw [(v3 j (by omega)).2, p1, p2, adv_adv]; congr 2; omega)
       rw [show l11.length = l10.length by omega] at d2
       have tk5 : l14.take l13.length = l14 := List.take_of_length_le (by omega)
       have sp : b19 = true := h49.2 (by first | exact ⟨d1, d2⟩ | (simp only [List.drop_zero, List.take_length, tk5, Nat.zero_add, Nat.add_eq, Nat.sub_eq]; exact ⟨d1, d2⟩))
       refine bR_i (fun h50 => ?_) (fun h50 => ?_)
       ·
        simp only [bR_iff, bR_iff_f, dec_iff, dec_f, Bool.false_eq_true, Bool.true_eq_false, false_implies, imp_false, and_true, true_and, implies_true, Classical.not_not] at h50
        refine req_i ?_ ?_
        · -- r59
         first | omega | ((try simp only [sigNL, u32, List.cons.injEq, DV.b.injEq, and_true, List.length_cons, List.length_nil]); first | done | omega | assumption | grind [getD_set, getD_rep, toNat_succ, cntN_yes, cntN_no])
        rfl
       ·
        simp only [bR_iff, bR_iff_f, dec_iff, dec_f, Bool.false_eq_true, Bool.true_eq_false, false_implies, imp_false, and_true, true_and, implies_true, Classical.not_not] at h50
        refine req_i ?_ ?_
        · -- r60
         first | omega | ((try simp only [Nat.mul_eq]); first | done | omega | assumption | grind [getD_set, getD_rep, toNat_succ, cntN_yes, cntN_no])
        refine req_i ?_ ?_
        · -- r61
         first | omega | ((try simp only [Nat.zero_add]); first | done | omega | assumption | grind [getD_set, getD_rep, toNat_succ, cntN_yes, cntN_no])
        refine req_i ?_ ?_
        · -- r62
         first | omega | ((try simp only [List.length_take, List.take_length, List.take_take, Nat.min_self, List.length_drop, List.drop_zero, List.length_cons, List.length_nil]); first | done | omega | assumption | grind [getD_set, getD_rep, toNat_succ, cntN_yes, cntN_no])
        refine req_i ?_ ?_
        · -- r63
         first | assumption | exact rep_bd (by omega) (by omega) | exact set_bd (by assumption) (by omega) (by omega) | exact take_bd (by assumption) | ((try simp only [List.length_take, List.take_length, List.take_take, Nat.min_self, List.length_drop, List.drop_zero, List.length_cons, List.length_nil]); first | assumption | exact rep_bd (by omega) (by omega) | exact set_bd (by assumption) (by omega) (by omega) | exact take_bd (by assumption) | grind [getD_set, getD_rep, toNat_succ, cntN_yes, cntN_no])
        refine req_i ?_ ?_
        · -- r64
         first | omega | ((try simp only [List.length_take, List.take_length, List.take_take, Nat.min_self, List.length_drop, List.drop_zero, List.length_cons, List.length_nil]); first | done | omega | assumption | grind [getD_set, getD_rep, toNat_succ, cntN_yes, cntN_no])
        refine req_i ?_ ?_
        · -- r65
         first | assumption | exact rep_bd (by omega) (by omega) | exact set_bd (by assumption) (by omega) (by omega) | exact take_bd (by assumption) | ((try simp only [List.length_take, List.take_length, List.take_take, Nat.min_self, List.length_drop, List.drop_zero, List.length_cons, List.length_nil]); first | assumption | exact rep_bd (by omega) (by omega) | exact set_bd (by assumption) (by omega) (by omega) | exact take_bd (by assumption) | grind [getD_set, getD_rep, toNat_succ, cntN_yes, cntN_no])
        refine req_i ?_ ?_
        · -- r66
         exact ⟨by omega, by omega⟩
        refine all_i fun n20 => ?_
        refine imp_i fun h51 => ?_
        refine imp_i fun h52 => ?_
        refine imp_i fun h53 => ?_
        try simp only [Int.toNat_natCast, List.length_set, List.length_replicate, List.length_take, List.length_drop, List.length_append, List.length_cons, List.length_nil, Nat.min_self, List.take_take, lenCols_i, lenCols_b, List.drop_zero, List.take_length, Nat.add_eq, Nat.mul_eq, Nat.sub_eq, Nat.zero_add, Nat.sub_zero, Nat.mul_one] at h53
        obtain ⟨i1, i2⟩ : 0 ≤ n20 ∧ n20 ≤ (l10.length : Int) := by first | exact h53 | (simp only [List.drop_zero, List.take_length] at h53; exact h53)
        refine bR_dec (fun h54 => ?_) (fun h54 => ?_)
        ·
         obtain ⟨y1, y2⟩ := w3 n20.toNat (by omega)
         obtain ⟨z1, z2⟩ := x3 n20.toNat (by omega)
         rw [Int.toNat_of_nonneg i1] at y1 y2 z1 z2
         rw [← y1, ← y2] at z1 z2
         have z2 : l17.getD n20.toNat 0 = 0 := by rw [z2, Int.mul_comm]; omega
         refine req_i ?_ ?_
         · -- r67
          first | omega | ((try simp only [Int.toNat_natCast, List.length_cons, List.length_nil]); first | done | omega | assumption | grind [getD_set, getD_rep, toNat_succ, cntN_yes, cntN_no])
         refine req_i ?_ ?_
         · -- r68
          first | omega | ((try simp only [Int.toNat_natCast, List.length_cons, List.length_nil, Nat.add_eq, Nat.zero_add]); first | done | omega | assumption | grind [getD_set, getD_rep, toNat_succ, cntN_yes, cntN_no])
         refine req_i ?_ ?_
         · -- r69
          first | omega | ((try simp only [Int.toNat_natCast, List.length_cons, List.length_nil, Nat.add_eq, Nat.zero_add]); first | done | omega | assumption | grind [getD_set, getD_rep, toNat_succ, cntN_yes, cntN_no])
         refine req_i ?_ ?_
         · -- r70
          first | omega | ((try simp only [Int.toNat_natCast, List.length_cons, List.length_nil]); first | done | omega | assumption | grind [getD_set, getD_rep, toNat_succ, cntN_yes, cntN_no])
         refine req_i ?_ ?_
         · -- r71
          first | omega | ((try simp only [Int.toNat_natCast, List.length_cons, List.length_nil, Nat.add_eq, Nat.zero_add]); first | done | omega | assumption | grind [getD_set, getD_rep, toNat_succ, cntN_yes, cntN_no])
         refine req_i ?_ ?_
         · -- r72
          first | omega | ((try simp only [Int.toNat_natCast, List.length_cons, List.length_nil]); first | done | omega | assumption | grind [getD_set, getD_rep, toNat_succ, cntN_yes, cntN_no])
         refine req_i ?_ ?_
         · -- r73
          first | omega | ((try simp only [Int.toNat_natCast, List.length_cons, List.length_nil, Nat.add_eq, Nat.zero_add]); first | done | omega | assumption | grind [getD_set, getD_rep, toNat_succ, cntN_yes, cntN_no])
         refine req_i ?_ ?_
         · -- r74
          first | omega | ((try simp only [Int.toNat_natCast, List.length_cons, List.length_nil]); first | done | omega | assumption | grind [getD_set, getD_rep, toNat_succ, cntN_yes, cntN_no])
         refine req_i ?_ ?_
         · -- r75
          first | omega | ((try simp only [Int.toNat_natCast, List.length_cons, List.length_nil, Nat.add_eq, Nat.zero_add]); first | done | omega | assumption | grind [getD_set, getD_rep, toNat_succ, cntN_yes, cntN_no])
         refine req_i ?_ ?_
         · -- r76
          first | omega | ((try simp only [Int.toNat_natCast, List.length_cons, List.length_nil]); first | done | omega | assumption | grind [getD_set, getD_rep, toNat_succ, cntN_yes, cntN_no])
         refine req_i ?_ ?_
         · -- r77
          first | omega | ((try simp only [Int.toNat_natCast, List.length_cons, List.length_nil, Nat.add_eq, Nat.zero_add]); first | done | omega | assumption | grind [getD_set, getD_rep, toNat_succ, cntN_yes, cntN_no])
         refine bR_i (fun h55 => ?_) (fun h55 => ?_)
         ·
          simp only [bR_iff, bR_iff_f, dec_iff, dec_f, Bool.false_eq_true, Bool.true_eq_false, false_implies, imp_false, and_true, true_and, implies_true, Classical.not_not] at h55
          refine req_i ?_ ?_
          · -- r78
           first | omega | ((try simp only [sigNL, u32, List.cons.injEq, DV.b.injEq, and_true, List.length_cons, List.length_nil]); first | done | omega | assumption | grind [getD_set, getD_rep, toNat_succ, cntN_yes, cntN_no])
          rfl
         ·
          simp only [bR_iff, bR_iff_f, dec_iff, dec_f, Bool.false_eq_true, Bool.true_eq_false, false_implies, imp_false, and_true, true_and, implies_true, Classical.not_not] at h55
          refine req_i ?_ ?_
          · -- r79
           first | omega | ((try simp only [Int.toNat_natCast, List.length_cons, List.length_nil]); first | done | omega | assumption | grind [getD_set, getD_rep, toNat_succ, cntN_yes, cntN_no])
          refine req_i ?_ ?_
          · -- r80
           first | omega | ((try simp only [Int.toNat_natCast, List.length_cons, List.length_nil, Nat.add_eq, Nat.zero_add]); first | done | omega | assumption | grind [getD_set, getD_rep, toNat_succ, cntN_yes, cntN_no])
          refine req_i ?_ ?_
          · -- r81
           first | omega | ((try simp only [Int.toNat_natCast, List.length_cons, List.length_nil, Nat.add_eq, Nat.zero_add]); first | done | omega | assumption | grind [getD_set, getD_rep, toNat_succ, cntN_yes, cntN_no])
          refine req_i ?_ ?_
          · -- r82
           first | omega | assumption | grind
          refine req_i ?_ ?_
          · -- r83
           first | omega | assumption | grind
          refine req_i ?_ ?_
          · -- r84
           first | omega | assumption | grind
          refine req_i ?_ ?_
          · -- r85
           first | omega | assumption | grind
          refine req_i ?_ ?_
          · -- r86
           first | omega | assumption | grind
          refine req_i ?_ ?_
          · -- r87
           first | omega | assumption | grind
          refine req_i ?_ ?_
          · -- r88
           first | trivial | assumption | (simp only [sigPhase, u32, advPost, adv, List.cons.injEq, DV.b.injEq, and_true, List.length_cons, List.length_nil]; done) | ((try simp only [sigPhase, u32, advPost, adv, List.cons.injEq, DV.b.injEq, and_true, List.length_cons, List.length_nil]); first | omega | assumption | grind)
          refine all_i fun n21 => ?_
          refine imp_i fun h56 => ?_
          refine imp_i fun h57 => ?_
          refine imp_i fun h58 => ?_
          try simp only [Int.toNat_natCast, List.length_set, List.length_replicate, List.length_take, List.length_drop, List.length_append, List.length_cons, List.length_nil, Nat.min_self, List.take_take, lenCols_i, lenCols_b, List.drop_zero, List.take_length, Nat.add_eq, Nat.mul_eq, Nat.sub_eq, Nat.zero_add, Nat.sub_zero, Nat.mul_one] at h58
          refine req_i ?_ ?_
          · -- r89
           first | omega | assumption | grind
          refine req_i ?_ ?_
          · -- r90
           first | omega | assumption | grind
          refine req_i ?_ ?_
          · -- r91
           first | trivial | assumption | (simp only [sigCar, u32, carPost, List.cons.injEq, DV.b.injEq, and_true, List.length_cons, List.length_nil]; done) | ((try simp only [sigCar, u32, carPost, List.cons.injEq, DV.b.injEq, and_true, List.length_cons, List.length_nil]); first | omega | assumption | grind)
          refine all_i fun n22 => ?_
          refine imp_i fun h59 => ?_
          refine imp_i fun h60 => ?_
          refine all_i fun n23 => ?_
          refine imp_i fun h61 => ?_
          refine imp_i fun h62 => ?_
          refine imp_i fun h63 => ?_
          try simp only [Int.toNat_natCast, List.length_set, List.length_replicate, List.length_take, List.length_drop, List.length_append, List.length_cons, List.length_nil, Nat.min_self, List.take_take, lenCols_i, lenCols_b, List.drop_zero, List.take_length, Nat.add_eq, Nat.mul_eq, Nat.sub_eq, Nat.zero_add, Nat.sub_zero, Nat.mul_one] at h63
          obtain ⟨u1, u2⟩ : n22 = wC n21 ∧ n23 = wS n21 := h63
          rw [show n21 = adv n0 n1 n20 from h58] at u1 u2
          have y1 := y1.trans u1.symm
          have y2 := y2.trans u2.symm
          refine bR_i (fun h64 => ?_) (fun h64 => ?_)
          ·
           simp only [bR_iff, bR_iff_f, dec_iff, dec_f, Bool.false_eq_true, Bool.true_eq_false, false_implies, imp_false, and_true, true_and, implies_true, Classical.not_not] at h64
           refine req_i ?_ ?_
           · -- r92
            first | omega | ((try simp only [sigNL, u32, List.cons.injEq, DV.b.injEq, and_true, List.length_cons, List.length_nil]); first | done | omega | assumption | grind [getD_set, getD_rep, toNat_succ, cntN_yes, cntN_no])
           rfl
          ·
           simp only [bR_iff, bR_iff_f, dec_iff, dec_f, Bool.false_eq_true, Bool.true_eq_false, false_implies, imp_false, and_true, true_and, implies_true, Classical.not_not] at h64
           refine bR_t ?_ ?_
           · -- g0
            first | rfl | (simp only [bR_iff, bR_iff_f, dec_iff, dec_f, beqB_iff', andB_iff', reduceCtorEq, imp_self, false_implies, and_true, true_and, implies_true, and_self]; done) | (simp [bR_iff, dec_iff, beqB_iff', andB_iff']; done) | (simp [bR_iff, dec_iff, beqB_iff', andB_iff']; omega)
           refine bR_t ?_ ?_
           · -- g1
            first | rfl | (simp only [bR_iff, bR_iff_f, dec_iff, dec_f, beqB_iff', andB_iff', reduceCtorEq, imp_self, false_implies, and_true, true_and, implies_true, and_self]; done) | (simp [bR_iff, dec_iff, beqB_iff', andB_iff']; done) | (simp [bR_iff, dec_iff, beqB_iff', andB_iff']; omega)
           refine req_i ?_ ?_
           · -- r93
            first | omega | assumption | grind
           refine req_i ?_ ?_
           · -- r94
            first | omega | assumption | grind
           refine req_i ?_ ?_
           · -- r95
            (try simp only [List.drop_zero, List.take_length]); exact ⟨by omega, by omega⟩
           refine req_i ?_ ?_
           · -- r96
            (try simp only [List.drop_zero, List.take_length]); show ((l10.length : Int) - (n20 + 1)).toNat < ((l10.length : Int) - n20).toNat; omega
           rfl
        ·
         refine bR_i (fun h65 => ?_) (fun h65 => ?_)
         ·
          refine req_i ?_ ?_
          · -- r97
           first | omega | assumption | grind
          refine req_i ?_ ?_
          · -- r98
           first | omega | assumption | grind
          refine req_i ?_ ?_
          · -- r99
           first | omega | assumption | grind
          refine req_i ?_ ?_
          · -- r100
           first | omega | assumption | grind
          refine req_i ?_ ?_
          · -- r101
           first | omega | assumption | grind
          refine req_i ?_ ?_
          · -- r102
           first | omega | assumption | grind
          refine req_i ?_ ?_
          · -- r103
           first | trivial | assumption | (simp only [sigLater, u32, laterPost, adv, List.cons.injEq, DV.b.injEq, and_true, List.length_cons, List.length_nil]; done) | ((try simp only [sigLater, u32, laterPost, adv, List.cons.injEq, DV.b.injEq, and_true, List.length_cons, List.length_nil]); first | omega | assumption | grind)
          refine all_i fun n24 => ?_
          refine imp_i fun h66 => ?_
          refine imp_i fun h67 => ?_
          refine all_i fun n25 => ?_
          refine imp_i fun h68 => ?_
          refine imp_i fun h69 => ?_
          refine imp_i fun h70 => ?_
          try simp only [Int.toNat_natCast, List.length_set, List.length_replicate, List.length_take, List.length_drop, List.length_append, List.length_cons, List.length_nil, Nat.min_self, List.take_take, lenCols_i, lenCols_b, List.drop_zero, List.take_length, Nat.add_eq, Nat.mul_eq, Nat.sub_eq, Nat.zero_add, Nat.sub_zero, Nat.mul_one] at h70
          refine all_i fun n26 => ?_
          refine imp_i fun h71 => ?_
          simp only [wrap_i64] at h71
          have aw : adv n0 n1 n26 = adv n0 n1 (n6 + n3) := adv_wrap (k := -((n6 + n3 + 9223372036854775808) / 18446744073709551616)) (by omega)
          refine imp_i fun h72 => ?_
          refine imp_i fun h73 => ?_
          refine req_i ?_ ?_
          · -- r104
           first | omega | assumption | grind
          refine req_i ?_ ?_
          · -- r105
           first | omega | assumption | grind
          refine req_i ?_ ?_
          · -- r106
           first | omega | assumption | grind
          refine req_i ?_ ?_
          · -- r107
           first | omega | assumption | grind
          refine req_i ?_ ?_
          · -- r108
           first | omega | assumption | grind
          refine req_i ?_ ?_
          · -- r109
           first | omega | assumption | grind
          refine req_i ?_ ?_
          · -- r110
           first | trivial | assumption | (simp only [sigLater, u32, laterPost, adv, List.cons.injEq, DV.b.injEq, and_true, List.length_cons, List.length_nil]; done) | ((try simp only [sigLater, u32, laterPost, adv, List.cons.injEq, DV.b.injEq, and_true, List.length_cons, List.length_nil]); first | omega | assumption | grind)
          refine all_i fun n27 => ?_
          refine imp_i fun h74 => ?_
          refine imp_i fun h75 => ?_
          refine all_i fun n28 => ?_
          refine imp_i fun h76 => ?_
          refine imp_i fun h77 => ?_
          refine imp_i fun h78 => ?_
          try simp only [Int.toNat_natCast, List.length_set, List.length_replicate, List.length_take, List.length_drop, List.length_append, List.length_cons, List.length_nil, Nat.min_self, List.take_take, lenCols_i, lenCols_b, List.drop_zero, List.take_length, Nat.add_eq, Nat.mul_eq, Nat.sub_eq, Nat.zero_add, Nat.sub_zero, Nat.mul_one] at h78
          obtain ⟨s1, s2⟩ : n27 = adv n0 n1 n26 ∧ n28 = n1 := h78
          obtain ⟨s3, s4⟩ : n24 = adv n8 n9 n3 ∧ n25 = n9 := h70
          rw [aw, ← adv_adv, ← p1] at s1
          rw [p2] at s3 s4
          refine bR_i (fun h79 => ?_) (fun h79 => ?_)
          ·
           simp only [bR_iff, bR_iff_f, dec_iff, dec_f, Bool.false_eq_true, Bool.true_eq_false, false_implies, imp_false, and_true, true_and, implies_true, Classical.not_not] at h79
           refine req_i ?_ ?_
           · -- r111
            first | omega | assumption | grind
           refine req_i ?_ ?_
           · -- r112
            first | omega | assumption | grind
           refine req_i ?_ ?_
           · -- r113
            first | omega | assumption | grind
           refine req_i ?_ ?_
           · -- r114
            first | omega | assumption | grind
           refine req_i ?_ ?_
           · -- r115
            first | omega | assumption | grind
           refine req_i ?_ ?_
           · -- r116
            first | omega | assumption | grind
           refine req_i ?_ ?_
           · -- r117
            first | omega | assumption | grind
           refine req_i ?_ ?_
           · -- r118
            first | omega | assumption | grind
           refine req_i ?_ ?_
           · -- r119
            first | omega | assumption | grind
           refine req_i ?_ ?_
           · -- r120
            first | omega | assumption | grind
           refine req_i ?_ ?_
           · -- r121
            first | trivial | assumption | (simp only [sigApart, u32, i32c, apartPost, del, adv, List.cons.injEq, DV.b.injEq, and_true, List.length_cons, List.length_nil]; done) | ((try simp only [sigApart, u32, i32c, apartPost, del, adv, List.cons.injEq, DV.b.injEq, and_true, List.length_cons, List.length_nil]); first | omega | assumption | grind)
           refine all_i fun n29 => ?_
           refine imp_i fun h80 => ?_
           refine imp_i fun h81 => ?_
           refine imp_i fun h82 => ?_
           try simp only [Int.toNat_natCast, List.length_set, List.length_replicate, List.length_take, List.length_drop, List.length_append, List.length_cons, List.length_nil, Nat.min_self, List.take_take, lenCols_i, lenCols_b, List.drop_zero, List.take_length, Nat.add_eq, Nat.mul_eq, Nat.sub_eq, Nat.zero_add, Nat.sub_zero, Nat.mul_one] at h82
           refine req_i ?_ ?_
           · -- r122
            first | omega | assumption | grind
           refine req_i ?_ ?_
           · -- r123
            first | omega | assumption | grind
           refine req_i ?_ ?_
           · -- r124
            first | omega | assumption | grind
           refine req_i ?_ ?_
           · -- r125
            first | omega | assumption | grind
           refine req_i ?_ ?_
           · -- r126
            first | omega | assumption | grind
           refine req_i ?_ ?_
           · -- r127
            first | omega | assumption | grind
           refine req_i ?_ ?_
           · -- r128
            first | trivial | assumption | (simp only [sigPhase, u32, advPost, adv, List.cons.injEq, DV.b.injEq, and_true, List.length_cons, List.length_nil]; done) | ((try simp only [sigPhase, u32, advPost, adv, List.cons.injEq, DV.b.injEq, and_true, List.length_cons, List.length_nil]); first | omega | assumption | grind)
           refine all_i fun n30 => ?_
           refine imp_i fun h83 => ?_
           refine imp_i fun h84 => ?_
           refine imp_i fun h85 => ?_
           try simp only [Int.toNat_natCast, List.length_set, List.length_replicate, List.length_take, List.length_drop, List.length_append, List.length_cons, List.length_nil, Nat.min_self, List.take_take, lenCols_i, lenCols_b, List.drop_zero, List.take_length, Nat.add_eq, Nat.mul_eq, Nat.sub_eq, Nat.zero_add, Nat.sub_zero, Nat.mul_one] at h85
           refine req_i ?_ ?_
           · -- r129
            first | omega | assumption | grind
           refine req_i ?_ ?_
           · -- r130
            first | omega | assumption | grind
           refine req_i ?_ ?_
           · -- r131
            first | omega | assumption | grind
           refine req_i ?_ ?_
           · -- r132
            first | omega | assumption | grind
           refine req_i ?_ ?_
           · -- r133
            first | trivial | assumption | (simp only [sigApart, u32, i32c, apartPost, del, adv, List.cons.injEq, DV.b.injEq, and_true, List.length_cons, List.length_nil]; done) | ((try simp only [sigApart, u32, i32c, apartPost, del, adv, List.cons.injEq, DV.b.injEq, and_true, List.length_cons, List.length_nil]); first | omega | assumption | grind)
           refine all_i fun n31 => ?_
           refine imp_i fun h86 => ?_
           refine imp_i fun h87 => ?_
           refine imp_i fun h88 => ?_
           try simp only [Int.toNat_natCast, List.length_set, List.length_replicate, List.length_take, List.length_drop, List.length_append, List.length_cons, List.length_nil, Nat.min_self, List.take_take, lenCols_i, lenCols_b, List.drop_zero, List.take_length, Nat.add_eq, Nat.mul_eq, Nat.sub_eq, Nat.zero_add, Nat.sub_zero, Nat.mul_one] at h88
           have t1 : n29 = del (adv n8 n9 n3) (adv n0 n1 n3) := h82
           have t2 : n31 = del (adv n30 0 0) (adv n0 0 0) := h88
           rw [show n30 = adv n0 n1 n6 from h85] at t2
           rw [p1, p2] at t1
           have t3 : n29 = n31 := t1.trans ((del_law (by omega) (by omega)).trans t2.symm)
           refine req_i ?_ ?_
           · -- r134
            simp only [sigNL]; rw [dec_iff.2 t3]
           rfl
          ·
           simp only [bR_iff, bR_iff_f, dec_iff, dec_f, Bool.false_eq_true, Bool.true_eq_false, false_implies, imp_false, and_true, true_and, implies_true, Classical.not_not] at h79
           refine req_i ?_ ?_
           · -- r135
            first | omega | ((try simp only [sigNL, u32, List.cons.injEq, DV.b.injEq, and_true, List.length_cons, List.length_nil]); first | done | omega | assumption | grind [getD_set, getD_rep, toNat_succ, cntN_yes, cntN_no])
           rfl
         ·
          refine req_i ?_ ?_
          · -- r136
           first | omega | ((try simp only [sigNL, u32, List.cons.injEq, DV.b.injEq, and_true, List.length_cons, List.length_nil]); first | done | omega | assumption | grind [getD_set, getD_rep, toNat_succ, cntN_yes, cntN_no])
          rfl
theorem ext_NcoLater : ∀ p ∈ ([(3, Ext.ctr (ctOfG gl11 sigTrue0)), (28, Ext.ctr (ctOfG gl11 sigPick)), (11, Ext.ctr (ctOfG gl11 sigPhase)), (23, Ext.ctr (ctOfG gl11 sigLater)), (12, Ext.ctr (ctOfG gl11 sigApart)), (13, Ext.ctr (ctOfG gl11 sigWave)), (14, Ext.ctr (ctOfG gl11 sigMix)), (15, Ext.ctr (ctOfG gl11 sigSamP)), (29, Ext.ctr (ctOfG gl11 sigCar))] : List (Nat × Ext)), ExtRow Tryd.prog p.1 p.2 := by
  intro p hp
  simp only [List.mem_cons, List.not_mem_nil, or_false] at hp
  rcases hp with rfl | rfl | rfl | rfl | rfl | rfl | rfl | rfl | rfl
  · trivial
  · trivial
  · trivial
  · trivial
  · trivial
  · trivial
  · trivial
  · trivial
  · trivial
theorem cts_NcoLater : CtsOk Tryd.prog [(3, Ext.ctr (ctOfG gl11 sigTrue0)), (28, Ext.ctr (ctOfG gl11 sigPick)), (11, Ext.ctr (ctOfG gl11 sigPhase)), (23, Ext.ctr (ctOfG gl11 sigLater)), (12, Ext.ctr (ctOfG gl11 sigApart)), (13, Ext.ctr (ctOfG gl11 sigWave)), (14, Ext.ctr (ctOfG gl11 sigMix)), (15, Ext.ctr (ctOfG gl11 sigSamP)), (29, Ext.ctr (ctOfG gl11 sigCar))] := ctsOk_ofG (cs := [(3, sigTrue0), (28, sigPick), (11, sigPhase), (23, sigLater), (12, sigApart), (13, sigWave), (14, sigMix), (15, sigSamP), (29, sigCar)])
  (fun p hp => by
    simp only [List.mem_cons, List.not_mem_nil, or_false] at hp
    rcases hp with rfl | rfl | rfl | rfl | rfl | rfl | rfl | rfl | rfl
    · exact fn_known
    · exact fn_pick
    · exact fn_phase
    · exact fn_later
    · exact fn_apart
    · exact fn_wave
    · exact fn_mix
    · exact fn_smps
    · exact fn_carR
)
  (fun f c h => by
    simp only [List.lookup_cons] at h
    repeat' split at h
    all_goals first | (cases h; done) | (rename_i e; have e := beq_iff_eq.1 e; subst e; cases h; refine ⟨_, ?_, rfl⟩; simp))
theorem fn_NcoLater : FnOk Tryd.prog 7 sigNL gl11 := fn_sound (by kernel_rfl) ext_NcoLater cts_NcoLater names vt_NcoLater
end Go.Proofs.YtblcahackjpnjaaDoor

