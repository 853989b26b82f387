import Derived.Test.YtofeleohcpaclaaDoorSpec17e
import Derived.Test.YtofeleohcpaclaaDoorRows
import Derived.Test.YtofeleohcpaclaaDoorEvSS
import Derived.Test.YtofeleohcpaclaaDoorFnames
namespace Go.Proofs.YtofeleohcpaclaaDoor
open Go.Ev Go.Sp
set_option maxRecDepth 100000
theorem vc_known : vcFn Tryd.prog [] noA gl11 5000 3 sigTrue0 = (impB (sigTrue0.pre []) (
reqB (sigTrue0.post [] [DV.b !eqI (2 : Int) (0 : Int)]) (
true))) := by kernel_rfl
set_option maxHeartbeats 8000000 in
theorem vt_known : vcFn Tryd.prog [] noA gl11 5000 3 sigTrue0 = true := by
  rw [vc_known]
  try simp only [bR_same, dec_same, bR_true, bR_false]
  simp only [allB_iff, impB_iff, reqB_iff, bR_iff, bR_iff_f, dec_iff, dec_f, reduceCtorEq, imp_false, Classical.not_not, implies_true, true_and, and_true]
  intro _
  first | rfl | trivial | simp [sigTrue0]
theorem ext_known : ∀ p ∈ ([] : List (Nat × Ext)), ExtRow Tryd.prog p.1 p.2 := by
  intro p hp
  cases hp
theorem cts_known : CtsOk Tryd.prog [] := fun f c h => by cases h
theorem fn_known : FnOk Tryd.prog 3 sigTrue0 gl11 := fn_sound (by kernel_rfl) ext_known cts_known names vt_known
end Go.Proofs.YtofeleohcpaclaaDoor

namespace Go.Proofs.YtofeleohcpaclaaDoor
open Go.Ev Go.Sp
set_option maxRecDepth 100000
theorem vc_pick : vcFn Tryd.prog [] noA gl11 100 28 sigPick = (allB fun n0 : Int => 
impB ((-9223372036854775808 : Int) ≤ n0) (
impB (n0 ≤ (9223372036854775807 : Int)) (
allB fun n1 : Int => 
impB ((1 : Int) ≤ n1) (
impB (n1 ≤ (4503599627370496 : Int)) (
impB (sigPick.pre [DV.n n0, DV.n n1]) (
bR (dec (n0.tmod n1 < (0 : Int))) (
 reqB ((0 : Int) ≤ n0.tmod n1 + n1) (
 reqB (n0.tmod n1 + n1 ≤ (4503599627370496 : Int)) (
 reqB (sigPick.post [DV.n n0, DV.n n1] [DV.n (n0.tmod n1 + n1)]) (
 true)))) (
 reqB ((0 : Int) ≤ n0.tmod n1) (
 reqB (n0.tmod n1 ≤ (4503599627370496 : Int)) (
 reqB (sigPick.post [DV.n n0, DV.n n1] [DV.n (n0.tmod n1)]) (
 true)))))))))) := by kernel_rfl
set_option maxHeartbeats 8000000 in
theorem vt_pick : vcFn Tryd.prog [] noA gl11 100 28 sigPick = true := by
  rw [vc_pick]
  try simp only [Int.toNat_natCast, List.length_set, List.length_replicate, List.length_take, List.length_drop, List.length_append, List.length_cons, List.length_nil, Nat.min_self, List.take_take, lenCols_i, lenCols_b, List.drop_zero, List.take_length, Nat.add_eq, Nat.mul_eq, Nat.sub_eq, Nat.zero_add, Nat.sub_zero, Nat.mul_one]
  refine all_i fun n0 => ?_
  refine imp_i fun h0 => ?_
  refine imp_i fun h1 => ?_
  refine all_i fun n1 => ?_
  refine imp_i fun h2 => ?_
  refine imp_i fun h3 => ?_
  refine imp_i fun h4 => ?_
  try simp only [sigPick, pickPost, List.cons.injEq, DV.b.injEq, and_true, List.length_cons, List.length_nil] at h4
  have t := tmod_of (x := n0) (n := n1) (by omega)
  refine bR_dec (fun h5 => ?_) (fun h5 => ?_)
  ·
   refine req_i ?_ ?_
   · -- r0
    first | omega | assumption | grind
   refine req_i ?_ ?_
   · -- r1
    first | omega | assumption | grind
   refine req_i ?_ ?_
   · -- r2
    first | omega | ((try simp only [sigPick, pickPost, List.cons.injEq, DV.b.injEq, and_true, List.length_cons, List.length_nil]); first | done | omega | assumption | grind [getD_set, getD_rep, toNat_succ, cntN_yes, cntN_no])
   rfl
  ·
   refine req_i ?_ ?_
   · -- r3
    first | omega | assumption | grind
   refine req_i ?_ ?_
   · -- r4
    first | omega | assumption | grind
   refine req_i ?_ ?_
   · -- r5
    first | omega | ((try simp only [sigPick, pickPost, List.cons.injEq, DV.b.injEq, and_true, List.length_cons, List.length_nil]); first | done | omega | assumption | grind [getD_set, getD_rep, toNat_succ, cntN_yes, cntN_no])
   rfl
theorem ext_pick : ∀ p ∈ ([] : List (Nat × Ext)), ExtRow Tryd.prog p.1 p.2 := by
  intro p hp
  cases hp
theorem cts_pick : CtsOk Tryd.prog [] := fun f c h => by cases h
theorem fn_pick : FnOk Tryd.prog 28 sigPick gl11 := fn_sound (by kernel_rfl) ext_pick cts_pick names vt_pick
end Go.Proofs.YtofeleohcpaclaaDoor

namespace Go.Proofs.YtofeleohcpaclaaDoor
open Go.Ev Go.Sp
set_option maxRecDepth 100000
theorem vc_sum : vcFn Tryd.prog [(28, Ext.ctr (ctOfG gl11 sigPick))] noA gl11 100 27 sigSum = (allB fun n0 : Int => 
impB ((-9223372036854775808 : Int) ≤ n0) (
impB (n0 ≤ (9223372036854775807 : Int)) (
impB (sigSum.pre [DV.n n0]) (
reqB ((-9223372036854775808 : Int) ≤ n0) (
reqB (n0 ≤ (9223372036854775807 : Int)) (
reqB (sigPick.pre [DV.n n0, DV.n (1001 : Int)]) (
allB fun n1 : Int => 
impB ((0 : Int) ≤ n1) (
impB (n1 ≤ (4503599627370496 : Int)) (
impB (sigPick.post [DV.n n0, DV.n (1001 : Int)] [DV.n n1]) (
reqB ((-9223372036854775808 : Int) ≤ n0.tdiv (1001 : Int)) (
reqB (n0.tdiv (1001 : Int) ≤ (9223372036854775807 : Int)) (
reqB (sigPick.pre [DV.n (n0.tdiv (1001 : Int)), DV.n (1001 : Int)]) (
allB fun n2 : Int => 
impB ((0 : Int) ≤ n2) (
impB (n2 ≤ (4503599627370496 : Int)) (
impB (sigPick.post [DV.n (n0.tdiv (1001 : Int)), DV.n (1001 : Int)] [DV.n n2]) (
reqB ((-500 : Int) ≤ n1 - (500 : Int)) (
reqB (n1 - (500 : Int) ≤ (500 : Int)) (
reqB ((-500 : Int) ≤ n2 - (500 : Int)) (
reqB (n2 - (500 : Int) ≤ (500 : Int)) (
reqB (sigSum.post [DV.n n0] [DV.n (n1 - (500 : Int)), DV.n (n2 - (500 : Int))]) (
true))))))))))))))))))))) := by kernel_rfl
set_option maxHeartbeats 8000000 in
theorem vt_sum : vcFn Tryd.prog [(28, Ext.ctr (ctOfG gl11 sigPick))] noA gl11 100 27 sigSum = true := by
  rw [vc_sum]
  try simp only [Int.toNat_natCast, List.length_set, List.length_replicate, List.length_take, List.length_drop, List.length_append, List.length_cons, List.length_nil, Nat.min_self, List.take_take, lenCols_i, lenCols_b, List.drop_zero, List.take_length, Nat.add_eq, Nat.mul_eq, Nat.sub_eq, Nat.zero_add, Nat.sub_zero, Nat.mul_one]
  refine all_i fun n0 => ?_
  refine imp_i fun h0 => ?_
  refine imp_i fun h1 => ?_
  refine imp_i fun h2 => ?_
  try simp only [sigSum, sumPost, List.cons.injEq, DV.b.injEq, and_true, List.length_cons, List.length_nil] at h2
  refine req_i ?_ ?_
  · -- r0
   first | omega | assumption | grind
  refine req_i ?_ ?_
  · -- r1
   first | omega | assumption | grind
  refine req_i ?_ ?_
  · -- r2
   first | trivial | assumption | (simp only [sigPick, pickPost, List.cons.injEq, DV.b.injEq, and_true, List.length_cons, List.length_nil]; done) | ((try simp only [sigPick, pickPost, List.cons.injEq, DV.b.injEq, and_true, List.length_cons, List.length_nil]); first | omega | assumption | grind)
  refine all_i fun n1 => ?_
  refine imp_i fun h3 => ?_
  refine imp_i fun h4 => ?_
  refine imp_i fun h5 => ?_
  try simp only [sigPick, pickPost, List.cons.injEq, DV.b.injEq, and_true, List.length_cons, List.length_nil] at h5
  refine req_i ?_ ?_
  · -- r3
   first | omega | assumption | grind
  refine req_i ?_ ?_
  · -- r4
   first | omega | assumption | grind
  refine req_i ?_ ?_
  · -- r5
   first | trivial | assumption | (simp only [sigPick, pickPost, List.cons.injEq, DV.b.injEq, and_true, List.length_cons, List.length_nil]; done) | ((try simp only [sigPick, pickPost, List.cons.injEq, DV.b.injEq, and_true, List.length_cons, List.length_nil]); first | omega | assumption | grind)
  refine all_i fun n2 => ?_
  refine imp_i fun h6 => ?_
  refine imp_i fun h7 => ?_
  refine imp_i fun h8 => ?_
  try simp only [sigPick, pickPost, List.cons.injEq, DV.b.injEq, and_true, List.length_cons, List.length_nil] at h8
  refine req_i ?_ ?_
  · -- r6
   first | omega | assumption | grind
  refine req_i ?_ ?_
  · -- r7
   first | omega | assumption | grind
  refine req_i ?_ ?_
  · -- r8
   first | omega | assumption | grind
  refine req_i ?_ ?_
  · -- r9
   first | omega | assumption | grind
  refine req_i ?_ ?_
  · -- r10
   trivial
  rfl
theorem ext_sum : ∀ p ∈ ([(28, Ext.ctr (ctOfG gl11 sigPick))] : List (Nat × Ext)), ExtRow Tryd.prog p.1 p.2 := by
  intro p hp
  simp only [List.mem_cons, List.not_mem_nil, or_false] at hp
  rcases hp with rfl
  · trivial
theorem cts_sum : CtsOk Tryd.prog [(28, Ext.ctr (ctOfG gl11 sigPick))] := ctsOk_ofG (cs := [(28, sigPick)])
  (fun p hp => by
    simp only [List.mem_cons, List.not_mem_nil, or_false] at hp
    rcases hp with rfl
    · exact fn_pick
)
  (fun f c h => by
    simp only [List.lookup_cons] at h
    repeat' split at h
    all_goals first | (cases h; done) | (rename_i e; have e := beq_iff_eq.1 e; subst e; cases h; refine ⟨_, ?_, rfl⟩; simp))
theorem fn_sum : FnOk Tryd.prog 27 sigSum gl11 := fn_sound (by kernel_rfl) ext_sum cts_sum names vt_sum
end Go.Proofs.YtofeleohcpaclaaDoor

namespace Go.Proofs.YtofeleohcpaclaaDoor
open Go.Ev Go.Sp
set_option maxRecDepth 100000
theorem vc_small : vcFn Tryd.prog [] noA gl11 100 75 sigSmall = (allB fun n0 : Int => 
impB ((-9223372036854775808 : Int) ≤ n0) (
impB (n0 ≤ (9223372036854775807 : Int)) (
allB fun n1 : Int => 
impB ((-9223372036854775808 : Int) ≤ n1) (
impB (n1 ≤ (9223372036854775807 : Int)) (
impB (sigSmall.pre [DV.n n0, DV.n n1]) (
bR (dec (n0 < (-70368744177664 : Int))) (
 reqB (sigSmall.post [DV.n n0, DV.n n1] [DV.n (2 : Int)]) (
 true)) (
 bR (dec ((70368744177664 : Int) < n0)) (
 reqB (sigSmall.post [DV.n n0, DV.n n1] [DV.n (2 : Int)]) (
 true)) (
 bR (dec (n1 < (-70368744177664 : Int))) (
 reqB (sigSmall.post [DV.n n0, DV.n n1] [DV.n (2 : Int)]) (
 true)) (
 bR (dec ((70368744177664 : Int) < n1)) (
 reqB (sigSmall.post [DV.n n0, DV.n n1] [DV.n (2 : Int)]) (
 true)) (
 reqB (sigSmall.post [DV.n n0, DV.n n1] [DV.n (0 : Int)]) (
 true))))))))))) := by kernel_rfl
set_option maxHeartbeats 8000000 in
theorem vt_small : vcFn Tryd.prog [] noA gl11 100 75 sigSmall = true := by
  rw [vc_small]
  try simp only [Int.toNat_natCast, List.length_set, List.length_replicate, List.length_take, List.length_drop, List.length_append, List.length_cons, List.length_nil, Nat.min_self, List.take_take, lenCols_i, lenCols_b, List.drop_zero, List.take_length, Nat.add_eq, Nat.mul_eq, Nat.sub_eq, Nat.zero_add, Nat.sub_zero, Nat.mul_one]
  refine all_i fun n0 => ?_
  refine imp_i fun h0 => ?_
  refine imp_i fun h1 => ?_
  refine all_i fun n1 => ?_
  refine imp_i fun h2 => ?_
  refine imp_i fun h3 => ?_
  refine imp_i fun h4 => ?_
  try simp only [sigSmall, smpV, smallPost, sml, List.cons.injEq, DV.b.injEq, and_true, List.length_cons, List.length_nil] at h4
  refine bR_dec (fun h5 => ?_) (fun h5 => ?_)
  ·
   refine req_i ?_ ?_
   · -- r0
    first | omega | ((try simp only [sigSmall, smpV, smallPost, sml, List.cons.injEq, DV.b.injEq, and_true, List.length_cons, List.length_nil]); first | done | omega | assumption | grind [getD_set, getD_rep, toNat_succ, cntN_yes, cntN_no])
   rfl
  ·
   refine bR_dec (fun h6 => ?_) (fun h6 => ?_)
   ·
    refine req_i ?_ ?_
    · -- r1
     first | omega | ((try simp only [sigSmall, smpV, smallPost, sml, List.cons.injEq, DV.b.injEq, and_true, List.length_cons, List.length_nil]); first | done | omega | assumption | grind [getD_set, getD_rep, toNat_succ, cntN_yes, cntN_no])
    rfl
   ·
    refine bR_dec (fun h7 => ?_) (fun h7 => ?_)
    ·
     refine req_i ?_ ?_
     · -- r2
      first | omega | ((try simp only [sigSmall, smpV, smallPost, sml, List.cons.injEq, DV.b.injEq, and_true, List.length_cons, List.length_nil]); first | done | omega | assumption | grind [getD_set, getD_rep, toNat_succ, cntN_yes, cntN_no])
     rfl
    ·
     refine bR_dec (fun h8 => ?_) (fun h8 => ?_)
     ·
      refine req_i ?_ ?_
      · -- r3
       first | omega | ((try simp only [sigSmall, smpV, smallPost, sml, List.cons.injEq, DV.b.injEq, and_true, List.length_cons, List.length_nil]); first | done | omega | assumption | grind [getD_set, getD_rep, toNat_succ, cntN_yes, cntN_no])
      rfl
     ·
      refine req_i ?_ ?_
      · -- r4
       first | omega | ((try simp only [sigSmall, smpV, smallPost, sml, List.cons.injEq, DV.b.injEq, and_true, List.length_cons, List.length_nil]); first | done | omega | assumption | grind [getD_set, getD_rep, toNat_succ, cntN_yes, cntN_no])
      rfl
theorem ext_small : ∀ p ∈ ([] : List (Nat × Ext)), ExtRow Tryd.prog p.1 p.2 := by
  intro p hp
  cases hp
theorem cts_small : CtsOk Tryd.prog [] := fun f c h => by cases h
theorem fn_small : FnOk Tryd.prog 75 sigSmall gl11 := fn_sound (by kernel_rfl) ext_small cts_small names vt_small
end Go.Proofs.YtofeleohcpaclaaDoor

namespace Go.Proofs.YtofeleohcpaclaaDoor
open Go.Ev Go.Sp
set_option maxRecDepth 100000
theorem vc_entry : vcFn Tryd.prog [] noA gl11 100 88 sigEnt = (allB fun n0 : Int => 
impB ((-2 : Int) ≤ n0) (
impB (n0 ≤ (70 : Int)) (
impB (sigEnt.pre [DV.n n0]) (
reqB ((n0 % Int.ofNat (16 : Nat)).toNat < (17 : Nat)) (
reqB (Nat.add (0 : Nat) (n0 % Int.ofNat (16 : Nat)).toNat <
 [(127 : Int), (126 : Int), (125 : Int), (122 : Int), (117 : Int), (112 : Int), (106 : Int), (98 : Int), (90 : Int),
 (81 : Int), (71 : Int), (60 : Int), (49 : Int), (37 : Int), (25 : Int), (12 : Int), (0 : Int)].length) (
reqB (((16 : Int) - n0 % Int.ofNat (16 : Nat)).toNat < (17 : Nat)) (
reqB (Nat.add (0 : Nat) ((16 : Int) - n0 % Int.ofNat (16 : Nat)).toNat <
 [(127 : Int), (126 : Int), (125 : Int), (122 : Int), (117 : Int), (112 : Int), (106 : Int), (98 : Int), (90 : Int),
 (81 : Int), (71 : Int), (60 : Int), (49 : Int), (37 : Int), (25 : Int), (12 : Int), (0 : Int)].length) (
bR (dec (n0 / Int.ofNat (16 : Nat) % Int.ofNat (4 : Nat) = (1 : Int))) (
 reqB ((-127 : Int) ≤
 (0 : Int) -
 [(127 : Int), (126 : Int), (125 : Int), (122 : Int), (117 : Int), (112 : Int), (106 : Int), (98 : Int), (90 : Int),
 (81 : Int), (71 : Int), (60 : Int), (49 : Int), (37 : Int), (25 : Int), (12 : Int), (0 : Int)].getD
 (Nat.add (0 : Nat) ((16 : Int) - n0 % Int.ofNat (16 : Nat)).toNat) (0 : Int)) (
 reqB ((0 : Int) -
 [(127 : Int), (126 : Int), (125 : Int), (122 : Int), (117 : Int), (112 : Int), (106 : Int), (98 : Int), (90 : Int),
 (81 : Int), (71 : Int), (60 : Int), (49 : Int), (37 : Int), (25 : Int), (12 : Int), (0 : Int)].getD
 (Nat.add (0 : Nat) ((16 : Int) - n0 % Int.ofNat (16 : Nat)).toNat) (0 : Int) ≤
 (127 : Int)) (
 reqB ((-127 : Int) ≤
 [(127 : Int), (126 : Int), (125 : Int), (122 : Int), (117 : Int), (112 : Int), (106 : Int), (98 : Int), (90 : Int),
 (81 : Int), (71 : Int), (60 : Int), (49 : Int), (37 : Int), (25 : Int), (12 : Int), (0 : Int)].getD
 (Nat.add (0 : Nat) (n0 % Int.ofNat (16 : Nat)).toNat) (0 : Int)) (
 reqB ([(127 : Int), (126 : Int), (125 : Int), (122 : Int), (117 : Int), (112 : Int), (106 : Int), (98 : Int), (90 : Int),
 (81 : Int), (71 : Int), (60 : Int), (49 : Int), (37 : Int), (25 : Int), (12 : Int), (0 : Int)].getD
 (Nat.add (0 : Nat) (n0 % Int.ofNat (16 : Nat)).toNat) (0 : Int) ≤
 (127 : Int)) (
 reqB (sigEnt.post [DV.n n0]
 [DV.n
 ((0 : Int) -
 [(127 : Int), (126 : Int), (125 : Int), (122 : Int), (117 : Int), (112 : Int), (106 : Int), (98 : Int),
 (90 : Int), (81 : Int), (71 : Int), (60 : Int), (49 : Int), (37 : Int), (25 : Int), (12 : Int),
 (0 : Int)].getD
 (Nat.add (0 : Nat) ((16 : Int) - n0 % Int.ofNat (16 : Nat)).toNat) (0 : Int)),
 DV.n
 ([(127 : Int), (126 : Int), (125 : Int), (122 : Int), (117 : Int), (112 : Int), (106 : Int), (98 : Int),
 (90 : Int), (81 : Int), (71 : Int), (60 : Int), (49 : Int), (37 : Int), (25 : Int), (12 : Int),
 (0 : Int)].getD
 (Nat.add (0 : Nat) (n0 % Int.ofNat (16 : Nat)).toNat) (0 : Int))]) (
 true)))))) (
 bR (dec (n0 / Int.ofNat (16 : Nat) % Int.ofNat (4 : Nat) = (2 : Int))) (
 reqB ((-127 : Int) ≤
 (0 : Int) -
 [(127 : Int), (126 : Int), (125 : Int), (122 : Int), (117 : Int), (112 : Int), (106 : Int), (98 : Int), (90 : Int),
 (81 : Int), (71 : Int), (60 : Int), (49 : Int), (37 : Int), (25 : Int), (12 : Int), (0 : Int)].getD
 (Nat.add (0 : Nat) (n0 % Int.ofNat (16 : Nat)).toNat) (0 : Int)) (
 reqB ((0 : Int) -
 [(127 : Int), (126 : Int), (125 : Int), (122 : Int), (117 : Int), (112 : Int), (106 : Int), (98 : Int), (90 : Int),
 (81 : Int), (71 : Int), (60 : Int), (49 : Int), (37 : Int), (25 : Int), (12 : Int), (0 : Int)].getD
 (Nat.add (0 : Nat) (n0 % Int.ofNat (16 : Nat)).toNat) (0 : Int) ≤
 (127 : Int)) (
 reqB ((-127 : Int) ≤
 (0 : Int) -
 [(127 : Int), (126 : Int), (125 : Int), (122 : Int), (117 : Int), (112 : Int), (106 : Int), (98 : Int), (90 : Int),
 (81 : Int), (71 : Int), (60 : Int), (49 : Int), (37 : Int), (25 : Int), (12 : Int), (0 : Int)].getD
 (Nat.add (0 : Nat) ((16 : Int) - n0 % Int.ofNat (16 : Nat)).toNat) (0 : Int)) (
 reqB ((0 : Int) -
 [(127 : Int), (126 : Int), (125 : Int), (122 : Int), (117 : Int), (112 : Int), (106 : Int), (98 : Int), (90 : Int),
 (81 : Int), (71 : Int), (60 : Int), (49 : Int), (37 : Int), (25 : Int), (12 : Int), (0 : Int)].getD
 (Nat.add (0 : Nat) ((16 : Int) - n0 % Int.ofNat (16 : Nat)).toNat) (0 : Int) ≤
 (127 : Int)) (
 reqB (sigEnt.post [DV.n n0]
 [DV.n
 ((0 : Int) -
 [(127 : Int), (126 : Int), (125 : Int), (122 : Int), (117 : Int), (112 : Int), (106 : Int), (98 : Int),
 (90 : Int), (81 : Int), (71 : Int), (60 : Int), (49 : Int), (37 : Int), (25 : Int), (12 : Int),
 (0 : Int)].getD
 (Nat.add (0 : Nat) (n0 % Int.ofNat (16 : Nat)).toNat) (0 : Int)),
 DV.n
 ((0 : Int) -
 [(127 : Int), (126 : Int), (125 : Int), (122 : Int), (117 : Int), (112 : Int), (106 : Int), (98 : Int),
 (90 : Int), (81 : Int), (71 : Int), (60 : Int), (49 : Int), (37 : Int), (25 : Int), (12 : Int),
 (0 : Int)].getD
 (Nat.add (0 : Nat) ((16 : Int) - n0 % Int.ofNat (16 : Nat)).toNat) (0 : Int))]) (
 true)))))) (
 bR (dec (n0 / Int.ofNat (16 : Nat) % Int.ofNat (4 : Nat) = (3 : Int))) (
 reqB ((-127 : Int) ≤
 [(127 : Int), (126 : Int), (125 : Int), (122 : Int), (117 : Int), (112 : Int), (106 : Int), (98 : Int), (90 : Int),
 (81 : Int), (71 : Int), (60 : Int), (49 : Int), (37 : Int), (25 : Int), (12 : Int), (0 : Int)].getD
 (Nat.add (0 : Nat) ((16 : Int) - n0 % Int.ofNat (16 : Nat)).toNat) (0 : Int)) (
 reqB ([(127 : Int), (126 : Int), (125 : Int), (122 : Int), (117 : Int), (112 : Int), (106 : Int), (98 : Int), (90 : Int),
 (81 : Int), (71 : Int), (60 : Int), (49 : Int), (37 : Int), (25 : Int), (12 : Int), (0 : Int)].getD
 (Nat.add (0 : Nat) ((16 : Int) - n0 % Int.ofNat (16 : Nat)).toNat) (0 : Int) ≤
 (127 : Int)) (
 reqB ((-127 : Int) ≤
 (0 : Int) -
 [(127 : Int), (126 : Int), (125 : Int), (122 : Int), (117 : Int), (112 : Int), (106 : Int), (98 : Int), (90 : Int),
 (81 : Int), (71 : Int), (60 : Int), (49 : Int), (37 : Int), (25 : Int), (12 : Int), (0 : Int)].getD
 (Nat.add (0 : Nat) (n0 % Int.ofNat (16 : Nat)).toNat) (0 : Int)) (
 reqB ((0 : Int) -
 [(127 : Int), (126 : Int), (125 : Int), (122 : Int), (117 : Int), (112 : Int), (106 : Int), (98 : Int), (90 : Int),
 (81 : Int), (71 : Int), (60 : Int), (49 : Int), (37 : Int), (25 : Int), (12 : Int), (0 : Int)].getD
 (Nat.add (0 : Nat) (n0 % Int.ofNat (16 : Nat)).toNat) (0 : Int) ≤
 (127 : Int)) (
 reqB (sigEnt.post [DV.n n0]
 [DV.n
 ([(127 : Int), (126 : Int), (125 : Int), (122 : Int), (117 : Int), (112 : Int), (106 : Int), (98 : Int),
 (90 : Int), (81 : Int), (71 : Int), (60 : Int), (49 : Int), (37 : Int), (25 : Int), (12 : Int),
 (0 : Int)].getD
 (Nat.add (0 : Nat) ((16 : Int) - n0 % Int.ofNat (16 : Nat)).toNat) (0 : Int)),
 DV.n
 ((0 : Int) -
 [(127 : Int), (126 : Int), (125 : Int), (122 : Int), (117 : Int), (112 : Int), (106 : Int), (98 : Int),
 (90 : Int), (81 : Int), (71 : Int), (60 : Int), (49 : Int), (37 : Int), (25 : Int), (12 : Int),
 (0 : Int)].getD
 (Nat.add (0 : Nat) (n0 % Int.ofNat (16 : Nat)).toNat) (0 : Int))]) (
 true)))))) (
 reqB ((-127 : Int) ≤
 [(127 : Int), (126 : Int), (125 : Int), (122 : Int), (117 : Int), (112 : Int), (106 : Int), (98 : Int), (90 : Int),
 (81 : Int), (71 : Int), (60 : Int), (49 : Int), (37 : Int), (25 : Int), (12 : Int), (0 : Int)].getD
 (Nat.add (0 : Nat) (n0 % Int.ofNat (16 : Nat)).toNat) (0 : Int)) (
 reqB ([(127 : Int), (126 : Int), (125 : Int), (122 : Int), (117 : Int), (112 : Int), (106 : Int), (98 : Int), (90 : Int),
 (81 : Int), (71 : Int), (60 : Int), (49 : Int), (37 : Int), (25 : Int), (12 : Int), (0 : Int)].getD
 (Nat.add (0 : Nat) (n0 % Int.ofNat (16 : Nat)).toNat) (0 : Int) ≤
 (127 : Int)) (
 reqB ((-127 : Int) ≤
 [(127 : Int), (126 : Int), (125 : Int), (122 : Int), (117 : Int), (112 : Int), (106 : Int), (98 : Int), (90 : Int),
 (81 : Int), (71 : Int), (60 : Int), (49 : Int), (37 : Int), (25 : Int), (12 : Int), (0 : Int)].getD
 (Nat.add (0 : Nat) ((16 : Int) - n0 % Int.ofNat (16 : Nat)).toNat) (0 : Int)) (
 reqB ([(127 : Int), (126 : Int), (125 : Int), (122 : Int), (117 : Int), (112 : Int), (106 : Int), (98 : Int), (90 : Int),
 (81 : Int), (71 : Int), (60 : Int), (49 : Int), (37 : Int), (25 : Int), (12 : Int), (0 : Int)].getD
 (Nat.add (0 : Nat) ((16 : Int) - n0 % Int.ofNat (16 : Nat)).toNat) (0 : Int) ≤
 (127 : Int)) (
 reqB (sigEnt.post [DV.n n0]
 [DV.n
 ([(127 : Int), (126 : Int), (125 : Int), (122 : Int), (117 : Int), (112 : Int), (106 : Int), (98 : Int),
 (90 : Int), (81 : Int), (71 : Int), (60 : Int), (49 : Int), (37 : Int), (25 : Int), (12 : Int),
 (0 : Int)].getD
 (Nat.add (0 : Nat) (n0 % Int.ofNat (16 : Nat)).toNat) (0 : Int)),
 DV.n
 ([(127 : Int), (126 : Int), (125 : Int), (122 : Int), (117 : Int), (112 : Int), (106 : Int), (98 : Int),
 (90 : Int), (81 : Int), (71 : Int), (60 : Int), (49 : Int), (37 : Int), (25 : Int), (12 : Int),
 (0 : Int)].getD
 (Nat.add (0 : Nat) ((16 : Int) - n0 % Int.ofNat (16 : Nat)).toNat) (0 : Int))]) (
 true)))))))))))))))) := by kernel_rfl
set_option maxHeartbeats 8000000 in
theorem vt_entry : vcFn Tryd.prog [] noA gl11 100 88 sigEnt = true := by
  rw [vc_entry]
  try simp only [Int.toNat_natCast, List.length_set, List.length_replicate, List.length_take, List.length_drop, List.length_append, List.length_cons, List.length_nil, Nat.min_self, List.take_take, lenCols_i, lenCols_b, List.drop_zero, List.take_length, Nat.add_eq, Nat.mul_eq, Nat.sub_eq, Nat.zero_add, Nat.sub_zero, Nat.mul_one]
  refine all_i fun n0 => ?_
  refine imp_i fun h0 => ?_
  refine imp_i fun h1 => ?_
  refine imp_i fun h2 => ?_
  try simp only [sigEnt, entPost, List.cons.injEq, DV.b.injEq, and_true, List.length_cons, List.length_nil] at h2
  refine req_i ?_ ?_
  · -- r0
   (try revert h3); (try revert h4); (try revert h5); (try revert h6); (try simp only [sigEnt, entPost]); (apply upto _ n0 h0 h1); decide +kernel
  refine req_i ?_ ?_
  · -- r1
   (try revert h3); (try revert h4); (try revert h5); (try revert h6); (try simp only [sigEnt, entPost]); (apply upto _ n0 h0 h1); decide +kernel
  refine req_i ?_ ?_
  · -- r2
   (try revert h3); (try revert h4); (try revert h5); (try revert h6); (try simp only [sigEnt, entPost]); (apply upto _ n0 h0 h1); decide +kernel
  refine req_i ?_ ?_
  · -- r3
   (try revert h3); (try revert h4); (try revert h5); (try revert h6); (try simp only [sigEnt, entPost]); (apply upto _ n0 h0 h1); decide +kernel
  refine bR_dec (fun h3 => ?_) (fun h3 => ?_)
  ·
   refine req_i ?_ ?_
   · -- r4
    (try revert h3); (try revert h4); (try revert h5); (try revert h6); (try simp only [sigEnt, entPost]); (apply upto _ n0 h0 h1); decide +kernel
   refine req_i ?_ ?_
   · -- r5
    (try revert h3); (try revert h4); (try revert h5); (try revert h6); (try simp only [sigEnt, entPost]); (apply upto _ n0 h0 h1); decide +kernel
   refine req_i ?_ ?_
   · -- r6
    (try revert h3); (try revert h4); (try revert h5); (try revert h6); (try simp only [sigEnt, entPost]); (apply upto _ n0 h0 h1); decide +kernel
   refine req_i ?_ ?_
   · -- r7
    (try revert h3); (try revert h4); (try revert h5); (try revert h6); (try simp only [sigEnt, entPost]); (apply upto _ n0 h0 h1); decide +kernel
   refine req_i ?_ ?_
   · -- r8
    (try revert h3); (try revert h4); (try revert h5); (try revert h6); (try simp only [sigEnt, entPost]); (apply upto _ n0 h0 h1); decide +kernel
   rfl
  ·
   refine bR_dec (fun h4 => ?_) (fun h4 => ?_)
   ·
    refine req_i ?_ ?_
    · -- r9
     (try revert h3); (try revert h4); (try revert h5); (try revert h6); (try simp only [sigEnt, entPost]); (apply upto _ n0 h0 h1); decide +kernel
    refine req_i ?_ ?_
    · -- r10
     (try revert h3); (try revert h4); (try revert h5); (try revert h6); (try simp only [sigEnt, entPost]); (apply upto _ n0 h0 h1); decide +kernel
    refine req_i ?_ ?_
    · -- r11
     (try revert h3); (try revert h4); (try revert h5); (try revert h6); (try simp only [sigEnt, entPost]); (apply upto _ n0 h0 h1); decide +kernel
    refine req_i ?_ ?_
    · -- r12
     (try revert h3); (try revert h4); (try revert h5); (try revert h6); (try simp only [sigEnt, entPost]); (apply upto _ n0 h0 h1); decide +kernel
    refine req_i ?_ ?_
    · -- r13
     (try revert h3); (try revert h4); (try revert h5); (try revert h6); (try simp only [sigEnt, entPost]); (apply upto _ n0 h0 h1); decide +kernel
    rfl
   ·
    refine bR_dec (fun h5 => ?_) (fun h5 => ?_)
    ·
     refine req_i ?_ ?_
     · -- r14
      (try revert h3); (try revert h4); (try revert h5); (try revert h6); (try simp only [sigEnt, entPost]); (apply upto _ n0 h0 h1); decide +kernel
     refine req_i ?_ ?_
     · -- r15
      (try revert h3); (try revert h4); (try revert h5); (try revert h6); (try simp only [sigEnt, entPost]); (apply upto _ n0 h0 h1); decide +kernel
     refine req_i ?_ ?_
     · -- r16
      (try revert h3); (try revert h4); (try revert h5); (try revert h6); (try simp only [sigEnt, entPost]); (apply upto _ n0 h0 h1); decide +kernel
     refine req_i ?_ ?_
     · -- r17
      (try revert h3); (try revert h4); (try revert h5); (try revert h6); (try simp only [sigEnt, entPost]); (apply upto _ n0 h0 h1); decide +kernel
     refine req_i ?_ ?_
     · -- r18
      (try revert h3); (try revert h4); (try revert h5); (try revert h6); (try simp only [sigEnt, entPost]); (apply upto _ n0 h0 h1); decide +kernel
     rfl
    ·
     refine req_i ?_ ?_
     · -- r19
      (try revert h3); (try revert h4); (try revert h5); (try revert h6); (try simp only [sigEnt, entPost]); (apply upto _ n0 h0 h1); decide +kernel
     refine req_i ?_ ?_
     · -- r20
      (try revert h3); (try revert h4); (try revert h5); (try revert h6); (try simp only [sigEnt, entPost]); (apply upto _ n0 h0 h1); decide +kernel
     refine req_i ?_ ?_
     · -- r21
      (try revert h3); (try revert h4); (try revert h5); (try revert h6); (try simp only [sigEnt, entPost]); (apply upto _ n0 h0 h1); decide +kernel
     refine req_i ?_ ?_
     · -- r22
      (try revert h3); (try revert h4); (try revert h5); (try revert h6); (try simp only [sigEnt, entPost]); (apply upto _ n0 h0 h1); decide +kernel
     refine req_i ?_ ?_
     · -- r23
      (try revert h3); (try revert h4); (try revert h5); (try revert h6); (try simp only [sigEnt, entPost]); (apply upto _ n0 h0 h1); decide +kernel
     rfl
theorem ext_entry : ∀ p ∈ ([] : List (Nat × Ext)), ExtRow Tryd.prog p.1 p.2 := by
  intro p hp
  cases hp
theorem cts_entry : CtsOk Tryd.prog [] := fun f c h => by cases h
theorem fn_entry : FnOk Tryd.prog 88 sigEnt gl11 := fn_sound (by kernel_rfl) ext_entry cts_entry names vt_entry
end Go.Proofs.YtofeleohcpaclaaDoor

namespace Go.Proofs.YtofeleohcpaclaaDoor
open Go.Ev Go.Sp
set_option maxRecDepth 100000
theorem vc_bnd : vcFn Tryd.prog [(88, Ext.ctr (ctOfG gl11 sigEnt))] noA gl11 100 77 sigBnd = (allB fun n0 : Int => 
impB ((-1 : Int) ≤ n0) (
impB (n0 ≤ (64 : Int)) (
impB (sigBnd.pre [DV.n n0]) (
reqB ((-2 : Int) ≤ n0) (
reqB (n0 ≤ (70 : Int)) (
reqB (sigEnt.pre [DV.n n0]) (
allB fun n1 : Int => 
impB ((-127 : Int) ≤ n1) (
impB (n1 ≤ (127 : Int)) (
allB fun n2 : Int => 
impB ((-127 : Int) ≤ n2) (
impB (n2 ≤ (127 : Int)) (
impB (sigEnt.post [DV.n n0] [DV.n n1, DV.n n2]) (
reqB ((-2 : Int) ≤ n0 + (1 : Int)) (
reqB (n0 + (1 : Int) ≤ (70 : Int)) (
reqB (sigEnt.pre [DV.n (n0 + (1 : Int))]) (
allB fun n3 : Int => 
impB ((-127 : Int) ≤ n3) (
impB (n3 ≤ (127 : Int)) (
allB fun n4 : Int => 
impB ((-127 : Int) ≤ n4) (
impB (n4 ≤ (127 : Int)) (
impB (sigEnt.post [DV.n (n0 + (1 : Int))] [DV.n n3, DV.n n4]) (
reqB ((-254 : Int) ≤ n1 + n3) (
reqB (n1 + n3 ≤ (254 : Int)) (
reqB ((-254 : Int) ≤ n2 + n4) (
reqB (n2 + n4 ≤ (254 : Int)) (
reqB (sigBnd.post [DV.n n0] [DV.n (n1 + n3), DV.n (n2 + n4)]) (
true))))))))))))))))))))))))) := by kernel_rfl
set_option maxHeartbeats 8000000 in
theorem vt_bnd : vcFn Tryd.prog [(88, Ext.ctr (ctOfG gl11 sigEnt))] noA gl11 100 77 sigBnd = true := by
  rw [vc_bnd]
  try simp only [Int.toNat_natCast, List.length_set, List.length_replicate, List.length_take, List.length_drop, List.length_append, List.length_cons, List.length_nil, Nat.min_self, List.take_take, lenCols_i, lenCols_b, List.drop_zero, List.take_length, Nat.add_eq, Nat.mul_eq, Nat.sub_eq, Nat.zero_add, Nat.sub_zero, Nat.mul_one]
  refine all_i fun n0 => ?_
  refine imp_i fun h0 => ?_
  refine imp_i fun h1 => ?_
  refine imp_i fun h2 => ?_
  try simp only [sigBnd, bndPost, List.cons.injEq, DV.b.injEq, and_true, List.length_cons, List.length_nil] at h2
  refine req_i ?_ ?_
  · -- r0
   first | omega | assumption | grind
  refine req_i ?_ ?_
  · -- r1
   first | omega | assumption | grind
  refine req_i ?_ ?_
  · -- r2
   first | trivial | assumption | (simp only [sigEnt, entPost, List.cons.injEq, DV.b.injEq, and_true, List.length_cons, List.length_nil]; done) | ((try simp only [sigEnt, entPost, List.cons.injEq, DV.b.injEq, and_true, List.length_cons, List.length_nil]); first | omega | assumption | grind)
  refine all_i fun n1 => ?_
  refine imp_i fun h3 => ?_
  refine imp_i fun h4 => ?_
  refine all_i fun n2 => ?_
  refine imp_i fun h5 => ?_
  refine imp_i fun h6 => ?_
  refine imp_i fun h7 => ?_
  try simp only [sigEnt, entPost, List.cons.injEq, DV.b.injEq, and_true, List.length_cons, List.length_nil] at h7
  refine req_i ?_ ?_
  · -- r3
   first | omega | assumption | grind
  refine req_i ?_ ?_
  · -- r4
   first | omega | assumption | grind
  refine req_i ?_ ?_
  · -- r5
   first | trivial | assumption | (simp only [sigEnt, entPost, List.cons.injEq, DV.b.injEq, and_true, List.length_cons, List.length_nil]; done) | ((try simp only [sigEnt, entPost, List.cons.injEq, DV.b.injEq, and_true, List.length_cons, List.length_nil]); first | omega | assumption | grind)
  refine all_i fun n3 => ?_
  refine imp_i fun h8 => ?_
  refine imp_i fun h9 => ?_
  refine all_i fun n4 => ?_
  refine imp_i fun h10 => ?_
  refine imp_i fun h11 => ?_
  refine imp_i fun h12 => ?_
  try simp only [sigEnt, entPost, List.cons.injEq, DV.b.injEq, and_true, List.length_cons, List.length_nil] at h12
  refine req_i ?_ ?_
  · -- r6
   first | omega | assumption | grind
  refine req_i ?_ ?_
  · -- r7
   first | omega | assumption | grind
  refine req_i ?_ ?_
  · -- r8
   first | omega | assumption | grind
  refine req_i ?_ ?_
  · -- r9
   first | omega | assumption | grind
  refine req_i ?_ ?_
  · -- r10
   simp only [sigBnd, bndPost, bI, bQ]; omega
  rfl
theorem ext_bnd : ∀ p ∈ ([(88, Ext.ctr (ctOfG gl11 sigEnt))] : List (Nat × Ext)), ExtRow Tryd.prog p.1 p.2 := by
  intro p hp
  simp only [List.mem_cons, List.not_mem_nil, or_false] at hp
  rcases hp with rfl
  · trivial
theorem cts_bnd : CtsOk Tryd.prog [(88, Ext.ctr (ctOfG gl11 sigEnt))] := ctsOk_ofG (cs := [(88, sigEnt)])
  (fun p hp => by
    simp only [List.mem_cons, List.not_mem_nil, or_false] at hp
    rcases hp with rfl
    · exact fn_entry
)
  (fun f c h => by
    simp only [List.lookup_cons] at h
    repeat' split at h
    all_goals first | (cases h; done) | (rename_i e; have e := beq_iff_eq.1 e; subst e; cases h; refine ⟨_, ?_, rfl⟩; simp))
theorem fn_bnd : FnOk Tryd.prog 77 sigBnd gl11 := fn_sound (by kernel_rfl) ext_bnd cts_bnd names vt_bnd
end Go.Proofs.YtofeleohcpaclaaDoor

namespace Go.Proofs.YtofeleohcpaclaaDoor
open Go.Ev Go.Sp
set_option maxRecDepth 100000
theorem vc_sector : vcFn Tryd.prog [(77, Ext.ctr (ctOfG gl11 sigBnd))] (fun f p _ => at2 f p 76 28 secL (none)) gl11 100 76 sigSec = (allB fun n0 : Int => 
impB ((-70368744177664 : Int) ≤ n0) (
impB (n0 ≤ (70368744177664 : Int)) (
allB fun n1 : Int => 
impB ((-70368744177664 : Int) ≤ n1) (
impB (n1 ≤ (70368744177664 : Int)) (
impB (sigSec.pre [DV.n n0, DV.n n1]) (
reqB ((-70368744177664 : Int) ≤ n0) (
reqB (n0 ≤ (70368744177664 : Int)) (
reqB ((-70368744177664 : Int) ≤ n1) (
reqB (n1 ≤ (70368744177664 : Int)) (
reqB (secL.inv [DV.n n0, DV.n n1] [DV.n (0 : Int), DV.n n0, DV.n n1]) (
allB fun n2 : Int => 
impB ((0 : Int) ≤ n2) (
impB (n2 ≤ (3 : Int)) (
allB fun n3 : Int => 
impB ((-70368744177664 : Int) ≤ n3) (
impB (n3 ≤ (70368744177664 : Int)) (
allB fun n4 : Int => 
impB ((-70368744177664 : Int) ≤ n4) (
impB (n4 ≤ (70368744177664 : Int)) (
impB (secL.inv [DV.n n0, DV.n n1] [DV.n n2, DV.n n3, DV.n n4]) (
reqB (sigBnd.pre [DV.n (-1 : Int)]) (
allB fun n5 : Int => 
impB ((-254 : Int) ≤ n5) (
impB (n5 ≤ (254 : Int)) (
allB fun n6 : Int => 
impB ((-254 : Int) ≤ n6) (
impB (n6 ≤ (254 : Int)) (
impB (sigBnd.post [DV.n (-1 : Int)] [DV.n n5, DV.n n6]) (
bR (dec (n5 * n4 - n6 * n3 < (0 : Int))) (
 reqB ((0 : Int) ≤ n2 + (1 : Int)) (
 reqB (n2 + (1 : Int) ≤ (3 : Int)) (
 reqB ((-70368744177664 : Int) ≤ n4) (
 reqB (n4 ≤ (70368744177664 : Int)) (
 reqB ((-70368744177664 : Int) ≤ (0 : Int) - n3) (
 reqB ((0 : Int) - n3 ≤ (70368744177664 : Int)) (
 reqB (secL.inv [DV.n n0, DV.n n1] [DV.n (n2 + (1 : Int)), DV.n n4, DV.n ((0 : Int) - n3)]) (
 reqB (secL.mea [DV.n n0, DV.n n1]
 [DV.n (n2 + (1 : Int)), DV.n n4, DV.n ((0 : Int) - n3)] <
 secL.mea [DV.n n0, DV.n n1] [DV.n n2, DV.n n3, DV.n n4]) (
 true))))))))) (
 reqB (sigBnd.pre [DV.n (15 : Int)]) (
 allB fun n7 : Int => 
 impB ((-254 : Int) ≤ n7) (
 impB (n7 ≤ (254 : Int)) (
 allB fun n8 : Int => 
 impB ((-254 : Int) ≤ n8) (
 impB (n8 ≤ (254 : Int)) (
 impB (sigBnd.post [DV.n (15 : Int)] [DV.n n7, DV.n n8]) (
 bR (dec (n3 * n8 - n4 * n7 ≤ (0 : Int))) (
 reqB ((0 : Int) ≤ n2 + (1 : Int)) (
 reqB (n2 + (1 : Int) ≤ (3 : Int)) (
 reqB ((-70368744177664 : Int) ≤ n4) (
 reqB (n4 ≤ (70368744177664 : Int)) (
 reqB ((-70368744177664 : Int) ≤ (0 : Int) - n3) (
 reqB ((0 : Int) - n3 ≤ (70368744177664 : Int)) (
 reqB (secL.inv [DV.n n0, DV.n n1] [DV.n (n2 + (1 : Int)), DV.n n4, DV.n ((0 : Int) - n3)]) (
 reqB (secL.mea [DV.n n0, DV.n n1]
 [DV.n (n2 + (1 : Int)), DV.n n4, DV.n ((0 : Int) - n3)] <
 secL.mea [DV.n n0, DV.n n1] [DV.n n2, DV.n n3, DV.n n4]) (
 true))))))))) (
 reqB (sigBnd.pre [DV.n (Int.ofNat (8 : Nat))]) (
 allB fun n9 : Int => 
 impB ((-254 : Int) ≤ n9) (
 impB (n9 ≤ (254 : Int)) (
 allB fun n10 : Int => 
 impB ((-254 : Int) ≤ n10) (
 impB (n10 ≤ (254 : Int)) (
 impB (sigBnd.post [DV.n (Int.ofNat (8 : Nat))] [DV.n n9, DV.n n10]) (
 bR (bR (dec ((0 : Int) < n3 * n10 - n4 * n9)) (
 false) (
 true)) (
 reqB (sigBnd.pre [DV.n (Int.ofNat (12 : Nat))]) (
 allB fun n11 : Int => 
 impB ((-254 : Int) ≤ n11) (
 impB (n11 ≤ (254 : Int)) (
 allB fun n12 : Int => 
 impB ((-254 : Int) ≤ n12) (
 impB (n12 ≤ (254 : Int)) (
 impB (sigBnd.post [DV.n (Int.ofNat (12 : Nat))] [DV.n n11, DV.n n12]) (
 bR (bR (dec ((0 : Int) < n3 * n12 - n4 * n11)) (
 false) (
 true)) (
 reqB (sigBnd.pre [DV.n (Int.ofNat (14 : Nat))]) (
 allB fun n13 : Int => 
 impB ((-254 : Int) ≤ n13) (
 impB (n13 ≤ (254 : Int)) (
 allB fun n14 : Int => 
 impB ((-254 : Int) ≤ n14) (
 impB (n14 ≤ (254 : Int)) (
 impB (sigBnd.post [DV.n (Int.ofNat (14 : Nat))] [DV.n n13, DV.n n14]) (
 bR (bR (dec ((0 : Int) < n3 * n14 - n4 * n13)) (
 false) (
 true)) (
 reqB (sigBnd.pre [DV.n (Int.ofNat (15 : Nat))]) (
 allB fun n15 : Int => 
 impB ((-254 : Int) ≤ n15) (
 impB (n15 ≤ (254 : Int)) (
 allB fun n16 : Int => 
 impB ((-254 : Int) ≤ n16) (
 impB (n16 ≤ (254 : Int)) (
 impB (sigBnd.post [DV.n (Int.ofNat (15 : Nat))] [DV.n n15, DV.n n16]) (
 bR (bR (dec ((0 : Int) < n3 * n16 - n4 * n15)) (
 false) (
 true)) (
 reqB ((0 : Int) ≤ (16 : Int) * n2 + Int.ofNat (16 : Nat)) (
 reqB ((16 : Int) * n2 + Int.ofNat (16 : Nat) ≤ (63 : Int)) (
 reqB (sigSec.post [DV.n n0, DV.n n1] [DV.n ((16 : Int) * n2 + Int.ofNat (16 : Nat))]) (
 true)))) (
 reqB ((0 : Int) ≤ (16 : Int) * n2 + Int.ofNat (15 : Nat)) (
 reqB ((16 : Int) * n2 + Int.ofNat (15 : Nat) ≤ (63 : Int)) (
 reqB (sigSec.post [DV.n n0, DV.n n1] [DV.n ((16 : Int) * n2 + Int.ofNat (15 : Nat))]) (
 true))))))))))) (
 reqB (sigBnd.pre [DV.n (Int.ofNat (13 : Nat))]) (
 allB fun n17 : Int => 
 impB ((-254 : Int) ≤ n17) (
 impB (n17 ≤ (254 : Int)) (
 allB fun n18 : Int => 
 impB ((-254 : Int) ≤ n18) (
 impB (n18 ≤ (254 : Int)) (
 impB (sigBnd.post [DV.n (Int.ofNat (13 : Nat))] [DV.n n17, DV.n n18]) (
 bR (bR (dec ((0 : Int) < n3 * n18 - n4 * n17)) (
 false) (
 true)) (
 reqB ((0 : Int) ≤ (16 : Int) * n2 + Int.ofNat (14 : Nat)) (
 reqB ((16 : Int) * n2 + Int.ofNat (14 : Nat) ≤ (63 : Int)) (
 reqB (sigSec.post [DV.n n0, DV.n n1] [DV.n ((16 : Int) * n2 + Int.ofNat (14 : Nat))]) (
 true)))) (
 reqB ((0 : Int) ≤ (16 : Int) * n2 + Int.ofNat (13 : Nat)) (
 reqB ((16 : Int) * n2 + Int.ofNat (13 : Nat) ≤ (63 : Int)) (
 reqB (sigSec.post [DV.n n0, DV.n n1] [DV.n ((16 : Int) * n2 + Int.ofNat (13 : Nat))]) (
 true)))))))))))))))))) (
 reqB (sigBnd.pre [DV.n (Int.ofNat (10 : Nat))]) (
 allB fun n19 : Int => 
 impB ((-254 : Int) ≤ n19) (
 impB (n19 ≤ (254 : Int)) (
 allB fun n20 : Int => 
 impB ((-254 : Int) ≤ n20) (
 impB (n20 ≤ (254 : Int)) (
 impB (sigBnd.post [DV.n (Int.ofNat (10 : Nat))] [DV.n n19, DV.n n20]) (
 bR (bR (dec ((0 : Int) < n3 * n20 - n4 * n19)) (
 false) (
 true)) (
 reqB (sigBnd.pre [DV.n (Int.ofNat (11 : Nat))]) (
 allB fun n21 : Int => 
 impB ((-254 : Int) ≤ n21) (
 impB (n21 ≤ (254 : Int)) (
 allB fun n22 : Int => 
 impB ((-254 : Int) ≤ n22) (
 impB (n22 ≤ (254 : Int)) (
 impB (sigBnd.post [DV.n (Int.ofNat (11 : Nat))] [DV.n n21, DV.n n22]) (
 bR (bR (dec ((0 : Int) < n3 * n22 - n4 * n21)) (
 false) (
 true)) (
 reqB ((0 : Int) ≤ (16 : Int) * n2 + Int.ofNat (12 : Nat)) (
 reqB ((16 : Int) * n2 + Int.ofNat (12 : Nat) ≤ (63 : Int)) (
 reqB (sigSec.post [DV.n n0, DV.n n1] [DV.n ((16 : Int) * n2 + Int.ofNat (12 : Nat))]) (
 true)))) (
 reqB ((0 : Int) ≤ (16 : Int) * n2 + Int.ofNat (11 : Nat)) (
 reqB ((16 : Int) * n2 + Int.ofNat (11 : Nat) ≤ (63 : Int)) (
 reqB (sigSec.post [DV.n n0, DV.n n1] [DV.n ((16 : Int) * n2 + Int.ofNat (11 : Nat))]) (
 true))))))))))) (
 reqB (sigBnd.pre [DV.n (Int.ofNat (9 : Nat))]) (
 allB fun n23 : Int => 
 impB ((-254 : Int) ≤ n23) (
 impB (n23 ≤ (254 : Int)) (
 allB fun n24 : Int => 
 impB ((-254 : Int) ≤ n24) (
 impB (n24 ≤ (254 : Int)) (
 impB (sigBnd.post [DV.n (Int.ofNat (9 : Nat))] [DV.n n23, DV.n n24]) (
 bR (bR (dec ((0 : Int) < n3 * n24 - n4 * n23)) (
 false) (
 true)) (
 reqB ((0 : Int) ≤ (16 : Int) * n2 + Int.ofNat (10 : Nat)) (
 reqB ((16 : Int) * n2 + Int.ofNat (10 : Nat) ≤ (63 : Int)) (
 reqB (sigSec.post [DV.n n0, DV.n n1] [DV.n ((16 : Int) * n2 + Int.ofNat (10 : Nat))]) (
 true)))) (
 reqB ((0 : Int) ≤ (16 : Int) * n2 + Int.ofNat (9 : Nat)) (
 reqB ((16 : Int) * n2 + Int.ofNat (9 : Nat) ≤ (63 : Int)) (
 reqB (sigSec.post [DV.n n0, DV.n n1] [DV.n ((16 : Int) * n2 + Int.ofNat (9 : Nat))]) (
 true))))))))))))))))))))))))) (
 reqB (sigBnd.pre [DV.n (Int.ofNat (4 : Nat))]) (
 allB fun n25 : Int => 
 impB ((-254 : Int) ≤ n25) (
 impB (n25 ≤ (254 : Int)) (
 allB fun n26 : Int => 
 impB ((-254 : Int) ≤ n26) (
 impB (n26 ≤ (254 : Int)) (
 impB (sigBnd.post [DV.n (Int.ofNat (4 : Nat))] [DV.n n25, DV.n n26]) (
 bR (bR (dec ((0 : Int) < n3 * n26 - n4 * n25)) (
 false) (
 true)) (
 reqB (sigBnd.pre [DV.n (Int.ofNat (6 : Nat))]) (
 allB fun n27 : Int => 
 impB ((-254 : Int) ≤ n27) (
 impB (n27 ≤ (254 : Int)) (
 allB fun n28 : Int => 
 impB ((-254 : Int) ≤ n28) (
 impB (n28 ≤ (254 : Int)) (
 impB (sigBnd.post [DV.n (Int.ofNat (6 : Nat))] [DV.n n27, DV.n n28]) (
 bR (bR (dec ((0 : Int) < n3 * n28 - n4 * n27)) (
 false) (
 true)) (
 reqB (sigBnd.pre [DV.n (Int.ofNat (7 : Nat))]) (
 allB fun n29 : Int => 
 impB ((-254 : Int) ≤ n29) (
 impB (n29 ≤ (254 : Int)) (
 allB fun n30 : Int => 
 impB ((-254 : Int) ≤ n30) (
 impB (n30 ≤ (254 : Int)) (
 impB (sigBnd.post [DV.n (Int.ofNat (7 : Nat))] [DV.n n29, DV.n n30]) (
 bR (bR (dec ((0 : Int) < n3 * n30 - n4 * n29)) (
 false) (
 true)) (
 reqB ((0 : Int) ≤ (16 : Int) * n2 + Int.ofNat (8 : Nat)) (
 reqB ((16 : Int) * n2 + Int.ofNat (8 : Nat) ≤ (63 : Int)) (
 reqB (sigSec.post [DV.n n0, DV.n n1] [DV.n ((16 : Int) * n2 + Int.ofNat (8 : Nat))]) (
 true)))) (
 reqB ((0 : Int) ≤ (16 : Int) * n2 + Int.ofNat (7 : Nat)) (
 reqB ((16 : Int) * n2 + Int.ofNat (7 : Nat) ≤ (63 : Int)) (
 reqB (sigSec.post [DV.n n0, DV.n n1] [DV.n ((16 : Int) * n2 + Int.ofNat (7 : Nat))]) (
 true))))))))))) (
 reqB (sigBnd.pre [DV.n (Int.ofNat (5 : Nat))]) (
 allB fun n31 : Int => 
 impB ((-254 : Int) ≤ n31) (
 impB (n31 ≤ (254 : Int)) (
 allB fun n32 : Int => 
 impB ((-254 : Int) ≤ n32) (
 impB (n32 ≤ (254 : Int)) (
 impB (sigBnd.post [DV.n (Int.ofNat (5 : Nat))] [DV.n n31, DV.n n32]) (
 bR (bR (dec ((0 : Int) < n3 * n32 - n4 * n31)) (
 false) (
 true)) (
 reqB ((0 : Int) ≤ (16 : Int) * n2 + Int.ofNat (6 : Nat)) (
 reqB ((16 : Int) * n2 + Int.ofNat (6 : Nat) ≤ (63 : Int)) (
 reqB (sigSec.post [DV.n n0, DV.n n1] [DV.n ((16 : Int) * n2 + Int.ofNat (6 : Nat))]) (
 true)))) (
 reqB ((0 : Int) ≤ (16 : Int) * n2 + Int.ofNat (5 : Nat)) (
 reqB ((16 : Int) * n2 + Int.ofNat (5 : Nat) ≤ (63 : Int)) (
 reqB (sigSec.post [DV.n n0, DV.n n1] [DV.n ((16 : Int) * n2 + Int.ofNat (5 : Nat))]) (
 true)))))))))))))))))) (
 reqB (sigBnd.pre [DV.n (Int.ofNat (2 : Nat))]) (
 allB fun n33 : Int => 
 impB ((-254 : Int) ≤ n33) (
 impB (n33 ≤ (254 : Int)) (
 allB fun n34 : Int => 
 impB ((-254 : Int) ≤ n34) (
 impB (n34 ≤ (254 : Int)) (
 impB (sigBnd.post [DV.n (Int.ofNat (2 : Nat))] [DV.n n33, DV.n n34]) (
 bR (bR (dec ((0 : Int) < n3 * n34 - n4 * n33)) (
 false) (
 true)) (
 reqB (sigBnd.pre [DV.n (Int.ofNat (3 : Nat))]) (
 allB fun n35 : Int => 
 impB ((-254 : Int) ≤ n35) (
 impB (n35 ≤ (254 : Int)) (
 allB fun n36 : Int => 
 impB ((-254 : Int) ≤ n36) (
 impB (n36 ≤ (254 : Int)) (
 impB (sigBnd.post [DV.n (Int.ofNat (3 : Nat))] [DV.n n35, DV.n n36]) (
 bR (bR (dec ((0 : Int) < n3 * n36 - n4 * n35)) (
 false) (
 true)) (
 reqB ((0 : Int) ≤ (16 : Int) * n2 + Int.ofNat (4 : Nat)) (
 reqB ((16 : Int) * n2 + Int.ofNat (4 : Nat) ≤ (63 : Int)) (
 reqB (sigSec.post [DV.n n0, DV.n n1] [DV.n ((16 : Int) * n2 + Int.ofNat (4 : Nat))]) (
 true)))) (
 reqB ((0 : Int) ≤ (16 : Int) * n2 + Int.ofNat (3 : Nat)) (
 reqB ((16 : Int) * n2 + Int.ofNat (3 : Nat) ≤ (63 : Int)) (
 reqB (sigSec.post [DV.n n0, DV.n n1] [DV.n ((16 : Int) * n2 + Int.ofNat (3 : Nat))]) (
 true))))))))))) (
 reqB (sigBnd.pre [DV.n (Int.ofNat (1 : Nat))]) (
 allB fun n37 : Int => 
 impB ((-254 : Int) ≤ n37) (
 impB (n37 ≤ (254 : Int)) (
 allB fun n38 : Int => 
 impB ((-254 : Int) ≤ n38) (
 impB (n38 ≤ (254 : Int)) (
 impB (sigBnd.post [DV.n (Int.ofNat (1 : Nat))] [DV.n n37, DV.n n38]) (
 bR (bR (dec ((0 : Int) < n3 * n38 - n4 * n37)) (
 false) (
 true)) (
 reqB ((0 : Int) ≤ (16 : Int) * n2 + Int.ofNat (2 : Nat)) (
 reqB ((16 : Int) * n2 + Int.ofNat (2 : Nat) ≤ (63 : Int)) (
 reqB (sigSec.post [DV.n n0, DV.n n1] [DV.n ((16 : Int) * n2 + Int.ofNat (2 : Nat))]) (
 true)))) (
 reqB (sigBnd.pre [DV.n (Int.ofNat (0 : Nat))]) (
 allB fun n39 : Int => 
 impB ((-254 : Int) ≤ n39) (
 impB (n39 ≤ (254 : Int)) (
 allB fun n40 : Int => 
 impB ((-254 : Int) ≤ n40) (
 impB (n40 ≤ (254 : Int)) (
 impB (sigBnd.post [DV.n (Int.ofNat (0 : Nat))] [DV.n n39, DV.n n40]) (
 bR (bR (dec ((0 : Int) < n3 * n40 - n4 * n39)) (
 false) (
 true)) (
 reqB ((0 : Int) ≤ (16 : Int) * n2 + Int.ofNat (1 : Nat)) (
 reqB ((16 : Int) * n2 + Int.ofNat (1 : Nat) ≤ (63 : Int)) (
 reqB (sigSec.post [DV.n n0, DV.n n1] [DV.n ((16 : Int) * n2 + Int.ofNat (1 : Nat))]) (
 true)))) (
 reqB ((0 : Int) ≤ (16 : Int) * n2 + (0 : Int)) (
 reqB ((16 : Int) * n2 + (0 : Int) ≤ (63 : Int)) (
 reqB (sigSec.post [DV.n n0, DV.n n1] [DV.n ((16 : Int) * n2 + (0 : Int))]) (
 true)))))))))))))))))))))))))))))))))))))))))))))))))))))))))))))))))))))) := by kernel_rfl
set_option maxHeartbeats 8000000 in
theorem vt_sector : vcFn Tryd.prog [(77, Ext.ctr (ctOfG gl11 sigBnd))] (fun f p _ => at2 f p 76 28 secL (none)) gl11 100 76 sigSec = true := by
  rw [vc_sector]
  try simp only [Int.toNat_natCast, List.length_set, List.length_replicate, List.length_take, List.length_drop, List.length_append, List.length_cons, List.length_nil, Nat.min_self, List.take_take, lenCols_i, lenCols_b, List.drop_zero, List.take_length, Nat.add_eq, Nat.mul_eq, Nat.sub_eq, Nat.zero_add, Nat.sub_zero, Nat.mul_one]
  refine all_i fun n0 => ?_
  refine imp_i fun h0 => ?_
  refine imp_i fun h1 => ?_
  refine all_i fun n1 => ?_
  refine imp_i fun h2 => ?_
  refine imp_i fun h3 => ?_
  refine imp_i fun h4 => ?_
  try simp only [sigSec, smV, secPre, secPost, List.cons.injEq, DV.b.injEq, and_true, List.length_cons, List.length_nil] at h4
  refine req_i ?_ ?_
  · -- r0
   first | omega | assumption | grind
  refine req_i ?_ ?_
  · -- r1
   first | omega | assumption | grind
  refine req_i ?_ ?_
  · -- r2
   first | omega | assumption | grind
  refine req_i ?_ ?_
  · -- r3
   first | omega | assumption | grind
  refine req_i ?_ ?_
  · -- r4
   exact ⟨rfl, rfl, by omega, by omega, h4, fun j a b => by omega⟩
  refine all_i fun n2 => ?_
  refine imp_i fun h5 => ?_
  refine imp_i fun h6 => ?_
  refine all_i fun n3 => ?_
  refine imp_i fun h7 => ?_
  refine imp_i fun h8 => ?_
  refine all_i fun n4 => ?_
  refine imp_i fun h9 => ?_
  refine imp_i fun h10 => ?_
  refine imp_i fun h11 => ?_
  try simp only [secL, secInv, secMea, List.cons.injEq, DV.b.injEq, and_true, List.length_cons, List.length_nil] at h11
  refine req_i ?_ ?_
  · -- r5
   first | trivial | assumption | (simp only [sigBnd, bndPost, List.cons.injEq, DV.b.injEq, and_true, List.length_cons, List.length_nil]; done) | ((try simp only [sigBnd, bndPost, List.cons.injEq, DV.b.injEq, and_true, List.length_cons, List.length_nil]); first | omega | assumption | grind)
  refine all_i fun n5 => ?_
  refine imp_i fun h12 => ?_
  refine imp_i fun h13 => ?_
  refine all_i fun n6 => ?_
  refine imp_i fun h14 => ?_
  refine imp_i fun h15 => ?_
  refine imp_i fun h16 => ?_
  try simp only [sigBnd, bndPost, List.cons.injEq, DV.b.injEq, and_true, List.length_cons, List.length_nil] at h16
  obtain ⟨rfl, rfl⟩ : n5 = 253 ∧ n6 = -12 := ⟨h16.1.trans (by decide +kernel), h16.2.trans (by decide +kernel)⟩
  refine bR_dec (fun h17 => ?_) (fun h17 => ?_)
  ·
   have st := sec_step h11 (.inl (by unfold cr; rw [bI_0, bQ_0]; omega))
   refine req_i ?_ ?_
   · -- r6
    first | omega | assumption | grind
   refine req_i ?_ ?_
   · -- r7
    first | omega | assumption | grind
   refine req_i ?_ ?_
   · -- r8
    first | omega | assumption | grind
   refine req_i ?_ ?_
   · -- r9
    first | omega | assumption | grind
   refine req_i ?_ ?_
   · -- r10
    first | omega | assumption | grind
   refine req_i ?_ ?_
   · -- r11
    first | omega | assumption | grind
   refine req_i ?_ ?_
   · -- r12
    exact st.2
   refine req_i ?_ ?_
   · -- r13
    show (4 - (n2 + 1)).toNat < (4 - n2).toNat; omega
   rfl
  ·
   refine req_i ?_ ?_
   · -- r14
    first | trivial | assumption | (simp only [sigBnd, bndPost, List.cons.injEq, DV.b.injEq, and_true, List.length_cons, List.length_nil]; done) | ((try simp only [sigBnd, bndPost, List.cons.injEq, DV.b.injEq, and_true, List.length_cons, List.length_nil]); first | omega | assumption | grind)
   refine all_i fun n7 => ?_
   refine imp_i fun h18 => ?_
   refine imp_i fun h19 => ?_
   refine all_i fun n8 => ?_
   refine imp_i fun h20 => ?_
   refine imp_i fun h21 => ?_
   refine imp_i fun h22 => ?_
   try simp only [sigBnd, bndPost, List.cons.injEq, DV.b.injEq, and_true, List.length_cons, List.length_nil] at h22
   obtain ⟨rfl, rfl⟩ : n7 = 12 ∧ n8 = 253 := ⟨h22.1.trans (by decide +kernel), h22.2.trans (by decide +kernel)⟩
   refine bR_dec (fun h23 => ?_) (fun h23 => ?_)
   ·
    have st := sec_step h11 (.inr (by unfold cr; rw [bI_16, bQ_16]; omega))
    refine req_i ?_ ?_
    · -- r15
     first | omega | assumption | grind
    refine req_i ?_ ?_
    · -- r16
     first | omega | assumption | grind
    refine req_i ?_ ?_
    · -- r17
     first | omega | assumption | grind
    refine req_i ?_ ?_
    · -- r18
     first | omega | assumption | grind
    refine req_i ?_ ?_
    · -- r19
     first | omega | assumption | grind
    refine req_i ?_ ?_
    · -- r20
     first | omega | assumption | grind
    refine req_i ?_ ?_
    · -- r21
     exact st.2
    refine req_i ?_ ?_
    · -- r22
     show (4 - (n2 + 1)).toNat < (4 - n2).toNat; omega
    rfl
   ·
    refine req_i ?_ ?_
    · -- r23
     first | trivial | assumption | (simp only [sigBnd, bndPost, List.cons.injEq, DV.b.injEq, and_true, List.length_cons, List.length_nil]; done) | ((try simp only [sigBnd, bndPost, List.cons.injEq, DV.b.injEq, and_true, List.length_cons, List.length_nil]); first | omega | assumption | grind)
    refine all_i fun n9 => ?_
    refine imp_i fun h24 => ?_
    refine imp_i fun h25 => ?_
    refine all_i fun n10 => ?_
    refine imp_i fun h26 => ?_
    refine imp_i fun h27 => ?_
    refine imp_i fun h28 => ?_
    try simp only [sigBnd, bndPost, List.cons.injEq, DV.b.injEq, and_true, List.length_cons, List.length_nil] at h28
    obtain ⟨rfl, rfl⟩ : n9 = 171 ∧ n10 = 188 := ⟨h28.1.trans (by decide +kernel), h28.2.trans (by decide +kernel)⟩
    refine bR_i (fun h29 => ?_) (fun h29 => ?_)
    ·
     simp only [bR_iff, bR_iff_f, dec_iff, dec_f, Bool.false_eq_true, Bool.true_eq_false, false_implies, imp_false, and_true, true_and, implies_true, Classical.not_not] at h29
     refine req_i ?_ ?_
     · -- r24
      first | trivial | assumption | (simp only [sigBnd, bndPost, List.cons.injEq, DV.b.injEq, and_true, List.length_cons, List.length_nil]; done) | ((try simp only [sigBnd, bndPost, List.cons.injEq, DV.b.injEq, and_true, List.length_cons, List.length_nil]); first | omega | assumption | grind)
     refine all_i fun n11 => ?_
     refine imp_i fun h30 => ?_
     refine imp_i fun h31 => ?_
     refine all_i fun n12 => ?_
     refine imp_i fun h32 => ?_
     refine imp_i fun h33 => ?_
     refine imp_i fun h34 => ?_
     try simp only [sigBnd, bndPost, List.cons.injEq, DV.b.injEq, and_true, List.length_cons, List.length_nil] at h34
     obtain ⟨rfl, rfl⟩ : n11 = 86 ∧ n12 = 239 := ⟨h34.1.trans (by decide +kernel), h34.2.trans (by decide +kernel)⟩
     refine bR_i (fun h35 => ?_) (fun h35 => ?_)
     ·
      simp only [bR_iff, bR_iff_f, dec_iff, dec_f, Bool.false_eq_true, Bool.true_eq_false, false_implies, imp_false, and_true, true_and, implies_true, Classical.not_not] at h35
      refine req_i ?_ ?_
      · -- r25
       first | trivial | assumption | (simp only [sigBnd, bndPost, List.cons.injEq, DV.b.injEq, and_true, List.length_cons, List.length_nil]; done) | ((try simp only [sigBnd, bndPost, List.cons.injEq, DV.b.injEq, and_true, List.length_cons, List.length_nil]); first | omega | assumption | grind)
      refine all_i fun n13 => ?_
      refine imp_i fun h36 => ?_
      refine imp_i fun h37 => ?_
      refine all_i fun n14 => ?_
      refine imp_i fun h38 => ?_
      refine imp_i fun h39 => ?_
      refine imp_i fun h40 => ?_
      try simp only [sigBnd, bndPost, List.cons.injEq, DV.b.injEq, and_true, List.length_cons, List.length_nil] at h40
      obtain ⟨rfl, rfl⟩ : n13 = 37 ∧ n14 = 251 := ⟨h40.1.trans (by decide +kernel), h40.2.trans (by decide +kernel)⟩
      refine bR_i (fun h41 => ?_) (fun h41 => ?_)
      ·
       simp only [bR_iff, bR_iff_f, dec_iff, dec_f, Bool.false_eq_true, Bool.true_eq_false, false_implies, imp_false, and_true, true_and, implies_true, Classical.not_not] at h41
       refine req_i ?_ ?_
       · -- r26
        first | trivial | assumption | (simp only [sigBnd, bndPost, List.cons.injEq, DV.b.injEq, and_true, List.length_cons, List.length_nil]; done) | ((try simp only [sigBnd, bndPost, List.cons.injEq, DV.b.injEq, and_true, List.length_cons, List.length_nil]); first | omega | assumption | grind)
       refine all_i fun n15 => ?_
       refine imp_i fun h42 => ?_
       refine imp_i fun h43 => ?_
       refine all_i fun n16 => ?_
       refine imp_i fun h44 => ?_
       refine imp_i fun h45 => ?_
       refine imp_i fun h46 => ?_
       try simp only [sigBnd, bndPost, List.cons.injEq, DV.b.injEq, and_true, List.length_cons, List.length_nil] at h46
       obtain ⟨rfl, rfl⟩ : n15 = 12 ∧ n16 = 253 := ⟨h46.1.trans (by decide +kernel), h46.2.trans (by decide +kernel)⟩
       refine bR_i (fun h47 => ?_) (fun h47 => ?_)
       ·
        simp only [bR_iff, bR_iff_f, dec_iff, dec_f, Bool.false_eq_true, Bool.true_eq_false, false_implies, imp_false, and_true, true_and, implies_true, Classical.not_not] at h47
        refine req_i ?_ ?_
        · -- r27
         first | omega | assumption | grind
        refine req_i ?_ ?_
        · -- r28
         first | omega | assumption | grind
        refine req_i ?_ ?_
        · -- r29
         first | omega | ((try simp only [sigSec, smV, secPre, secPost, List.cons.injEq, DV.b.injEq, and_true, List.length_cons, List.length_nil]); first | done | omega | assumption | grind [getD_set, getD_rep, toNat_succ, cntN_yes, cntN_no])
        rfl
       ·
        simp only [bR_iff, bR_iff_f, dec_iff, dec_f, Bool.false_eq_true, Bool.true_eq_false, false_implies, imp_false, and_true, true_and, implies_true, Classical.not_not] at h47
        refine req_i ?_ ?_
        · -- r30
         first | omega | assumption | grind
        refine req_i ?_ ?_
        · -- r31
         first | omega | assumption | grind
        refine req_i ?_ ?_
        · -- r32
         show sect n0 n1 (16 * n2 + 15)
         obtain ⟨i1, i2, i3, i4, i5, i6⟩ := h11
         rcases (show n2 = 0 ∨ n2 = 1 ∨ n2 = 2 ∨ n2 = 3 by omega) with e | e | e | e
         · have u1 : n3 = n0 := by rw [i1, e]; simp [rX]
           have u2 : n4 = n1 := by rw [i2, e]; simp [rY]
           exact sec_ok (k := 15) (k1 := 14) (by omega) (by decide) (by decide) (by decide) bI_15 bQ_15 bI_16 bQ_16 (by omega) (by omega)
         · have u1 : n3 = n1 := by rw [i1, e]; simp [rX]
           have u2 : n4 = -n0 := by rw [i2, e]; simp [rY]
           exact sec_ok (k := 31) (k1 := 30) (by omega) (by decide) (by decide) (by decide) bI_31 bQ_31 bI_32 bQ_32 (by omega) (by omega)
         · have u1 : n3 = -n0 := by rw [i1, e]; simp [rX]
           have u2 : n4 = -n1 := by rw [i2, e]; simp [rY]
           exact sec_ok (k := 47) (k1 := 46) (by omega) (by decide) (by decide) (by decide) bI_47 bQ_47 bI_48 bQ_48 (by omega) (by omega)
         · have u1 : n3 = -n1 := by rw [i1, e]; simp [rX]
           have u2 : n4 = n0 := by rw [i2, e]; simp [rY]
           exact sec_ok (k := 63) (k1 := 62) (by omega) (by decide) (by decide) (by decide) bI_63 bQ_63 bI_64 bQ_64 (by omega) (by omega)
        rfl
      ·
       simp only [bR_iff, bR_iff_f, dec_iff, dec_f, Bool.false_eq_true, Bool.true_eq_false, false_implies, imp_false, and_true, true_and, implies_true, Classical.not_not] at h41
       refine req_i ?_ ?_
       · -- r33
        first | trivial | assumption | (simp only [sigBnd, bndPost, List.cons.injEq, DV.b.injEq, and_true, List.length_cons, List.length_nil]; done) | ((try simp only [sigBnd, bndPost, List.cons.injEq, DV.b.injEq, and_true, List.length_cons, List.length_nil]); first | omega | assumption | grind)
       refine all_i fun n17 => ?_
       refine imp_i fun h48 => ?_
       refine imp_i fun h49 => ?_
       refine all_i fun n18 => ?_
       refine imp_i fun h50 => ?_
       refine imp_i fun h51 => ?_
       refine imp_i fun h52 => ?_
       try simp only [sigBnd, bndPost, List.cons.injEq, DV.b.injEq, and_true, List.length_cons, List.length_nil] at h52
       obtain ⟨rfl, rfl⟩ : n17 = 62 ∧ n18 = 247 := ⟨h52.1.trans (by decide +kernel), h52.2.trans (by decide +kernel)⟩
       refine bR_i (fun h53 => ?_) (fun h53 => ?_)
       ·
        simp only [bR_iff, bR_iff_f, dec_iff, dec_f, Bool.false_eq_true, Bool.true_eq_false, false_implies, imp_false, and_true, true_and, implies_true, Classical.not_not] at h53
        refine req_i ?_ ?_
        · -- r34
         first | omega | assumption | grind
        refine req_i ?_ ?_
        · -- r35
         first | omega | assumption | grind
        refine req_i ?_ ?_
        · -- r36
         show sect n0 n1 (16 * n2 + 14)
         obtain ⟨i1, i2, i3, i4, i5, i6⟩ := h11
         rcases (show n2 = 0 ∨ n2 = 1 ∨ n2 = 2 ∨ n2 = 3 by omega) with e | e | e | e
         · have u1 : n3 = n0 := by rw [i1, e]; simp [rX]
           have u2 : n4 = n1 := by rw [i2, e]; simp [rY]
           exact sec_ok (k := 14) (k1 := 13) (by omega) (by decide) (by decide) (by decide) bI_14 bQ_14 bI_15 bQ_15 (by omega) (by omega)
         · have u1 : n3 = n1 := by rw [i1, e]; simp [rX]
           have u2 : n4 = -n0 := by rw [i2, e]; simp [rY]
           exact sec_ok (k := 30) (k1 := 29) (by omega) (by decide) (by decide) (by decide) bI_30 bQ_30 bI_31 bQ_31 (by omega) (by omega)
         · have u1 : n3 = -n0 := by rw [i1, e]; simp [rX]
           have u2 : n4 = -n1 := by rw [i2, e]; simp [rY]
           exact sec_ok (k := 46) (k1 := 45) (by omega) (by decide) (by decide) (by decide) bI_46 bQ_46 bI_47 bQ_47 (by omega) (by omega)
         · have u1 : n3 = -n1 := by rw [i1, e]; simp [rX]
           have u2 : n4 = n0 := by rw [i2, e]; simp [rY]
           exact sec_ok (k := 62) (k1 := 61) (by omega) (by decide) (by decide) (by decide) bI_62 bQ_62 bI_63 bQ_63 (by omega) (by omega)
        rfl
       ·
        simp only [bR_iff, bR_iff_f, dec_iff, dec_f, Bool.false_eq_true, Bool.true_eq_false, false_implies, imp_false, and_true, true_and, implies_true, Classical.not_not] at h53
        refine req_i ?_ ?_
        · -- r37
         first | omega | assumption | grind
        refine req_i ?_ ?_
        · -- r38
         first | omega | assumption | grind
        refine req_i ?_ ?_
        · -- r39
         show sect n0 n1 (16 * n2 + 13)
         obtain ⟨i1, i2, i3, i4, i5, i6⟩ := h11
         rcases (show n2 = 0 ∨ n2 = 1 ∨ n2 = 2 ∨ n2 = 3 by omega) with e | e | e | e
         · have u1 : n3 = n0 := by rw [i1, e]; simp [rX]
           have u2 : n4 = n1 := by rw [i2, e]; simp [rY]
           exact sec_ok (k := 13) (k1 := 12) (by omega) (by decide) (by decide) (by decide) bI_13 bQ_13 bI_14 bQ_14 (by omega) (by omega)
         · have u1 : n3 = n1 := by rw [i1, e]; simp [rX]
           have u2 : n4 = -n0 := by rw [i2, e]; simp [rY]
           exact sec_ok (k := 29) (k1 := 28) (by omega) (by decide) (by decide) (by decide) bI_29 bQ_29 bI_30 bQ_30 (by omega) (by omega)
         · have u1 : n3 = -n0 := by rw [i1, e]; simp [rX]
           have u2 : n4 = -n1 := by rw [i2, e]; simp [rY]
           exact sec_ok (k := 45) (k1 := 44) (by omega) (by decide) (by decide) (by decide) bI_45 bQ_45 bI_46 bQ_46 (by omega) (by omega)
         · have u1 : n3 = -n1 := by rw [i1, e]; simp [rX]
           have u2 : n4 = n0 := by rw [i2, e]; simp [rY]
           exact sec_ok (k := 61) (k1 := 60) (by omega) (by decide) (by decide) (by decide) bI_61 bQ_61 bI_62 bQ_62 (by omega) (by omega)
        rfl
     ·
      simp only [bR_iff, bR_iff_f, dec_iff, dec_f, Bool.false_eq_true, Bool.true_eq_false, false_implies, imp_false, and_true, true_and, implies_true, Classical.not_not] at h35
      refine req_i ?_ ?_
      · -- r40
       first | trivial | assumption | (simp only [sigBnd, bndPost, List.cons.injEq, DV.b.injEq, and_true, List.length_cons, List.length_nil]; done) | ((try simp only [sigBnd, bndPost, List.cons.injEq, DV.b.injEq, and_true, List.length_cons, List.length_nil]); first | omega | assumption | grind)
      refine all_i fun n19 => ?_
      refine imp_i fun h54 => ?_
      refine imp_i fun h55 => ?_
      refine all_i fun n20 => ?_
      refine imp_i fun h56 => ?_
      refine imp_i fun h57 => ?_
      refine imp_i fun h58 => ?_
      try simp only [sigBnd, bndPost, List.cons.injEq, DV.b.injEq, and_true, List.length_cons, List.length_nil] at h58
      obtain ⟨rfl, rfl⟩ : n19 = 131 ∧ n20 = 218 := ⟨h58.1.trans (by decide +kernel), h58.2.trans (by decide +kernel)⟩
      refine bR_i (fun h59 => ?_) (fun h59 => ?_)
      ·
       simp only [bR_iff, bR_iff_f, dec_iff, dec_f, Bool.false_eq_true, Bool.true_eq_false, false_implies, imp_false, and_true, true_and, implies_true, Classical.not_not] at h59
       refine req_i ?_ ?_
       · -- r41
        first | trivial | assumption | (simp only [sigBnd, bndPost, List.cons.injEq, DV.b.injEq, and_true, List.length_cons, List.length_nil]; done) | ((try simp only [sigBnd, bndPost, List.cons.injEq, DV.b.injEq, and_true, List.length_cons, List.length_nil]); first | omega | assumption | grind)
       refine all_i fun n21 => ?_
       refine imp_i fun h60 => ?_
       refine imp_i fun h61 => ?_
       refine all_i fun n22 => ?_
       refine imp_i fun h62 => ?_
       refine imp_i fun h63 => ?_
       refine imp_i fun h64 => ?_
       try simp only [sigBnd, bndPost, List.cons.injEq, DV.b.injEq, and_true, List.length_cons, List.length_nil] at h64
       obtain ⟨rfl, rfl⟩ : n21 = 109 ∧ n22 = 229 := ⟨h64.1.trans (by decide +kernel), h64.2.trans (by decide +kernel)⟩
       refine bR_i (fun h65 => ?_) (fun h65 => ?_)
       ·
        simp only [bR_iff, bR_iff_f, dec_iff, dec_f, Bool.false_eq_true, Bool.true_eq_false, false_implies, imp_false, and_true, true_and, implies_true, Classical.not_not] at h65
        refine req_i ?_ ?_
        · -- r42
         first | omega | assumption | grind
        refine req_i ?_ ?_
        · -- r43
         first | omega | assumption | grind
        refine req_i ?_ ?_
        · -- r44
         show sect n0 n1 (16 * n2 + 12)
         obtain ⟨i1, i2, i3, i4, i5, i6⟩ := h11
         rcases (show n2 = 0 ∨ n2 = 1 ∨ n2 = 2 ∨ n2 = 3 by omega) with e | e | e | e
         · have u1 : n3 = n0 := by rw [i1, e]; simp [rX]
           have u2 : n4 = n1 := by rw [i2, e]; simp [rY]
           exact sec_ok (k := 12) (k1 := 11) (by omega) (by decide) (by decide) (by decide) bI_12 bQ_12 bI_13 bQ_13 (by omega) (by omega)
         · have u1 : n3 = n1 := by rw [i1, e]; simp [rX]
           have u2 : n4 = -n0 := by rw [i2, e]; simp [rY]
           exact sec_ok (k := 28) (k1 := 27) (by omega) (by decide) (by decide) (by decide) bI_28 bQ_28 bI_29 bQ_29 (by omega) (by omega)
         · have u1 : n3 = -n0 := by rw [i1, e]; simp [rX]
           have u2 : n4 = -n1 := by rw [i2, e]; simp [rY]
           exact sec_ok (k := 44) (k1 := 43) (by omega) (by decide) (by decide) (by decide) bI_44 bQ_44 bI_45 bQ_45 (by omega) (by omega)
         · have u1 : n3 = -n1 := by rw [i1, e]; simp [rX]
           have u2 : n4 = n0 := by rw [i2, e]; simp [rY]
           exact sec_ok (k := 60) (k1 := 59) (by omega) (by decide) (by decide) (by decide) bI_60 bQ_60 bI_61 bQ_61 (by omega) (by omega)
        rfl
       ·
        simp only [bR_iff, bR_iff_f, dec_iff, dec_f, Bool.false_eq_true, Bool.true_eq_false, false_implies, imp_false, and_true, true_and, implies_true, Classical.not_not] at h65
        refine req_i ?_ ?_
        · -- r45
         first | omega | assumption | grind
        refine req_i ?_ ?_
        · -- r46
         first | omega | assumption | grind
        refine req_i ?_ ?_
        · -- r47
         show sect n0 n1 (16 * n2 + 11)
         obtain ⟨i1, i2, i3, i4, i5, i6⟩ := h11
         rcases (show n2 = 0 ∨ n2 = 1 ∨ n2 = 2 ∨ n2 = 3 by omega) with e | e | e | e
         · have u1 : n3 = n0 := by rw [i1, e]; simp [rX]
           have u2 : n4 = n1 := by rw [i2, e]; simp [rY]
           exact sec_ok (k := 11) (k1 := 10) (by omega) (by decide) (by decide) (by decide) bI_11 bQ_11 bI_12 bQ_12 (by omega) (by omega)
         · have u1 : n3 = n1 := by rw [i1, e]; simp [rX]
           have u2 : n4 = -n0 := by rw [i2, e]; simp [rY]
           exact sec_ok (k := 27) (k1 := 26) (by omega) (by decide) (by decide) (by decide) bI_27 bQ_27 bI_28 bQ_28 (by omega) (by omega)
         · have u1 : n3 = -n0 := by rw [i1, e]; simp [rX]
           have u2 : n4 = -n1 := by rw [i2, e]; simp [rY]
           exact sec_ok (k := 43) (k1 := 42) (by omega) (by decide) (by decide) (by decide) bI_43 bQ_43 bI_44 bQ_44 (by omega) (by omega)
         · have u1 : n3 = -n1 := by rw [i1, e]; simp [rX]
           have u2 : n4 = n0 := by rw [i2, e]; simp [rY]
           exact sec_ok (k := 59) (k1 := 58) (by omega) (by decide) (by decide) (by decide) bI_59 bQ_59 bI_60 bQ_60 (by omega) (by omega)
        rfl
      ·
       simp only [bR_iff, bR_iff_f, dec_iff, dec_f, Bool.false_eq_true, Bool.true_eq_false, false_implies, imp_false, and_true, true_and, implies_true, Classical.not_not] at h59
       refine req_i ?_ ?_
       · -- r48
        first | trivial | assumption | (simp only [sigBnd, bndPost, List.cons.injEq, DV.b.injEq, and_true, List.length_cons, List.length_nil]; done) | ((try simp only [sigBnd, bndPost, List.cons.injEq, DV.b.injEq, and_true, List.length_cons, List.length_nil]); first | omega | assumption | grind)
       refine all_i fun n23 => ?_
       refine imp_i fun h66 => ?_
       refine imp_i fun h67 => ?_
       refine all_i fun n24 => ?_
       refine imp_i fun h68 => ?_
       refine imp_i fun h69 => ?_
       refine imp_i fun h70 => ?_
       try simp only [sigBnd, bndPost, List.cons.injEq, DV.b.injEq, and_true, List.length_cons, List.length_nil] at h70
       obtain ⟨rfl, rfl⟩ : n23 = 152 ∧ n24 = 204 := ⟨h70.1.trans (by decide +kernel), h70.2.trans (by decide +kernel)⟩
       refine bR_i (fun h71 => ?_) (fun h71 => ?_)
       ·
        simp only [bR_iff, bR_iff_f, dec_iff, dec_f, Bool.false_eq_true, Bool.true_eq_false, false_implies, imp_false, and_true, true_and, implies_true, Classical.not_not] at h71
        refine req_i ?_ ?_
        · -- r49
         first | omega | assumption | grind
        refine req_i ?_ ?_
        · -- r50
         first | omega | assumption | grind
        refine req_i ?_ ?_
        · -- r51
         show sect n0 n1 (16 * n2 + 10)
         obtain ⟨i1, i2, i3, i4, i5, i6⟩ := h11
         rcases (show n2 = 0 ∨ n2 = 1 ∨ n2 = 2 ∨ n2 = 3 by omega) with e | e | e | e
         · have u1 : n3 = n0 := by rw [i1, e]; simp [rX]
           have u2 : n4 = n1 := by rw [i2, e]; simp [rY]
           exact sec_ok (k := 10) (k1 := 9) (by omega) (by decide) (by decide) (by decide) bI_10 bQ_10 bI_11 bQ_11 (by omega) (by omega)
         · have u1 : n3 = n1 := by rw [i1, e]; simp [rX]
           have u2 : n4 = -n0 := by rw [i2, e]; simp [rY]
           exact sec_ok (k := 26) (k1 := 25) (by omega) (by decide) (by decide) (by decide) bI_26 bQ_26 bI_27 bQ_27 (by omega) (by omega)
         · have u1 : n3 = -n0 := by rw [i1, e]; simp [rX]
           have u2 : n4 = -n1 := by rw [i2, e]; simp [rY]
           exact sec_ok (k := 42) (k1 := 41) (by omega) (by decide) (by decide) (by decide) bI_42 bQ_42 bI_43 bQ_43 (by omega) (by omega)
         · have u1 : n3 = -n1 := by rw [i1, e]; simp [rX]
           have u2 : n4 = n0 := by rw [i2, e]; simp [rY]
           exact sec_ok (k := 58) (k1 := 57) (by omega) (by decide) (by decide) (by decide) bI_58 bQ_58 bI_59 bQ_59 (by omega) (by omega)
        rfl
       ·
        simp only [bR_iff, bR_iff_f, dec_iff, dec_f, Bool.false_eq_true, Bool.true_eq_false, false_implies, imp_false, and_true, true_and, implies_true, Classical.not_not] at h71
        refine req_i ?_ ?_
        · -- r52
         first | omega | assumption | grind
        refine req_i ?_ ?_
        · -- r53
         first | omega | assumption | grind
        refine req_i ?_ ?_
        · -- r54
         show sect n0 n1 (16 * n2 + 9)
         obtain ⟨i1, i2, i3, i4, i5, i6⟩ := h11
         rcases (show n2 = 0 ∨ n2 = 1 ∨ n2 = 2 ∨ n2 = 3 by omega) with e | e | e | e
         · have u1 : n3 = n0 := by rw [i1, e]; simp [rX]
           have u2 : n4 = n1 := by rw [i2, e]; simp [rY]
           exact sec_ok (k := 9) (k1 := 8) (by omega) (by decide) (by decide) (by decide) bI_9 bQ_9 bI_10 bQ_10 (by omega) (by omega)
         · have u1 : n3 = n1 := by rw [i1, e]; simp [rX]
           have u2 : n4 = -n0 := by rw [i2, e]; simp [rY]
           exact sec_ok (k := 25) (k1 := 24) (by omega) (by decide) (by decide) (by decide) bI_25 bQ_25 bI_26 bQ_26 (by omega) (by omega)
         · have u1 : n3 = -n0 := by rw [i1, e]; simp [rX]
           have u2 : n4 = -n1 := by rw [i2, e]; simp [rY]
           exact sec_ok (k := 41) (k1 := 40) (by omega) (by decide) (by decide) (by decide) bI_41 bQ_41 bI_42 bQ_42 (by omega) (by omega)
         · have u1 : n3 = -n1 := by rw [i1, e]; simp [rX]
           have u2 : n4 = n0 := by rw [i2, e]; simp [rY]
           exact sec_ok (k := 57) (k1 := 56) (by omega) (by decide) (by decide) (by decide) bI_57 bQ_57 bI_58 bQ_58 (by omega) (by omega)
        rfl
    ·
     simp only [bR_iff, bR_iff_f, dec_iff, dec_f, Bool.false_eq_true, Bool.true_eq_false, false_implies, imp_false, and_true, true_and, implies_true, Classical.not_not] at h29
     refine req_i ?_ ?_
     · -- r55
      first | trivial | assumption | (simp only [sigBnd, bndPost, List.cons.injEq, DV.b.injEq, and_true, List.length_cons, List.length_nil]; done) | ((try simp only [sigBnd, bndPost, List.cons.injEq, DV.b.injEq, and_true, List.length_cons, List.length_nil]); first | omega | assumption | grind)
     refine all_i fun n25 => ?_
     refine imp_i fun h72 => ?_
     refine imp_i fun h73 => ?_
     refine all_i fun n26 => ?_
     refine imp_i fun h74 => ?_
     refine imp_i fun h75 => ?_
     refine imp_i fun h76 => ?_
     try simp only [sigBnd, bndPost, List.cons.injEq, DV.b.injEq, and_true, List.length_cons, List.length_nil] at h76
     obtain ⟨rfl, rfl⟩ : n25 = 229 ∧ n26 = 109 := ⟨h76.1.trans (by decide +kernel), h76.2.trans (by decide +kernel)⟩
     refine bR_i (fun h77 => ?_) (fun h77 => ?_)
     ·
      simp only [bR_iff, bR_iff_f, dec_iff, dec_f, Bool.false_eq_true, Bool.true_eq_false, false_implies, imp_false, and_true, true_and, implies_true, Classical.not_not] at h77
      refine req_i ?_ ?_
      · -- r56
       first | trivial | assumption | (simp only [sigBnd, bndPost, List.cons.injEq, DV.b.injEq, and_true, List.length_cons, List.length_nil]; done) | ((try simp only [sigBnd, bndPost, List.cons.injEq, DV.b.injEq, and_true, List.length_cons, List.length_nil]); first | omega | assumption | grind)
      refine all_i fun n27 => ?_
      refine imp_i fun h78 => ?_
      refine imp_i fun h79 => ?_
      refine all_i fun n28 => ?_
      refine imp_i fun h80 => ?_
      refine imp_i fun h81 => ?_
      refine imp_i fun h82 => ?_
      try simp only [sigBnd, bndPost, List.cons.injEq, DV.b.injEq, and_true, List.length_cons, List.length_nil] at h82
      obtain ⟨rfl, rfl⟩ : n27 = 204 ∧ n28 = 152 := ⟨h82.1.trans (by decide +kernel), h82.2.trans (by decide +kernel)⟩
      refine bR_i (fun h83 => ?_) (fun h83 => ?_)
      ·
       simp only [bR_iff, bR_iff_f, dec_iff, dec_f, Bool.false_eq_true, Bool.true_eq_false, false_implies, imp_false, and_true, true_and, implies_true, Classical.not_not] at h83
       refine req_i ?_ ?_
       · -- r57
        first | trivial | assumption | (simp only [sigBnd, bndPost, List.cons.injEq, DV.b.injEq, and_true, List.length_cons, List.length_nil]; done) | ((try simp only [sigBnd, bndPost, List.cons.injEq, DV.b.injEq, and_true, List.length_cons, List.length_nil]); first | omega | assumption | grind)
       refine all_i fun n29 => ?_
       refine imp_i fun h84 => ?_
       refine imp_i fun h85 => ?_
       refine all_i fun n30 => ?_
       refine imp_i fun h86 => ?_
       refine imp_i fun h87 => ?_
       refine imp_i fun h88 => ?_
       try simp only [sigBnd, bndPost, List.cons.injEq, DV.b.injEq, and_true, List.length_cons, List.length_nil] at h88
       obtain ⟨rfl, rfl⟩ : n29 = 188 ∧ n30 = 171 := ⟨h88.1.trans (by decide +kernel), h88.2.trans (by decide +kernel)⟩
       refine bR_i (fun h89 => ?_) (fun h89 => ?_)
       ·
        simp only [bR_iff, bR_iff_f, dec_iff, dec_f, Bool.false_eq_true, Bool.true_eq_false, false_implies, imp_false, and_true, true_and, implies_true, Classical.not_not] at h89
        refine req_i ?_ ?_
        · -- r58
         first | omega | assumption | grind
        refine req_i ?_ ?_
        · -- r59
         first | omega | assumption | grind
        refine req_i ?_ ?_
        · -- r60
         show sect n0 n1 (16 * n2 + 8)
         obtain ⟨i1, i2, i3, i4, i5, i6⟩ := h11
         rcases (show n2 = 0 ∨ n2 = 1 ∨ n2 = 2 ∨ n2 = 3 by omega) with e | e | e | e
         · have u1 : n3 = n0 := by rw [i1, e]; simp [rX]
           have u2 : n4 = n1 := by rw [i2, e]; simp [rY]
           exact sec_ok (k := 8) (k1 := 7) (by omega) (by decide) (by decide) (by decide) bI_8 bQ_8 bI_9 bQ_9 (by omega) (by omega)
         · have u1 : n3 = n1 := by rw [i1, e]; simp [rX]
           have u2 : n4 = -n0 := by rw [i2, e]; simp [rY]
           exact sec_ok (k := 24) (k1 := 23) (by omega) (by decide) (by decide) (by decide) bI_24 bQ_24 bI_25 bQ_25 (by omega) (by omega)
         · have u1 : n3 = -n0 := by rw [i1, e]; simp [rX]
           have u2 : n4 = -n1 := by rw [i2, e]; simp [rY]
           exact sec_ok (k := 40) (k1 := 39) (by omega) (by decide) (by decide) (by decide) bI_40 bQ_40 bI_41 bQ_41 (by omega) (by omega)
         · have u1 : n3 = -n1 := by rw [i1, e]; simp [rX]
           have u2 : n4 = n0 := by rw [i2, e]; simp [rY]
           exact sec_ok (k := 56) (k1 := 55) (by omega) (by decide) (by decide) (by decide) bI_56 bQ_56 bI_57 bQ_57 (by omega) (by omega)
        rfl
       ·
        simp only [bR_iff, bR_iff_f, dec_iff, dec_f, Bool.false_eq_true, Bool.true_eq_false, false_implies, imp_false, and_true, true_and, implies_true, Classical.not_not] at h89
        refine req_i ?_ ?_
        · -- r61
         first | omega | assumption | grind
        refine req_i ?_ ?_
        · -- r62
         first | omega | assumption | grind
        refine req_i ?_ ?_
        · -- r63
         show sect n0 n1 (16 * n2 + 7)
         obtain ⟨i1, i2, i3, i4, i5, i6⟩ := h11
         rcases (show n2 = 0 ∨ n2 = 1 ∨ n2 = 2 ∨ n2 = 3 by omega) with e | e | e | e
         · have u1 : n3 = n0 := by rw [i1, e]; simp [rX]
           have u2 : n4 = n1 := by rw [i2, e]; simp [rY]
           exact sec_ok (k := 7) (k1 := 6) (by omega) (by decide) (by decide) (by decide) bI_7 bQ_7 bI_8 bQ_8 (by omega) (by omega)
         · have u1 : n3 = n1 := by rw [i1, e]; simp [rX]
           have u2 : n4 = -n0 := by rw [i2, e]; simp [rY]
           exact sec_ok (k := 23) (k1 := 22) (by omega) (by decide) (by decide) (by decide) bI_23 bQ_23 bI_24 bQ_24 (by omega) (by omega)
         · have u1 : n3 = -n0 := by rw [i1, e]; simp [rX]
           have u2 : n4 = -n1 := by rw [i2, e]; simp [rY]
           exact sec_ok (k := 39) (k1 := 38) (by omega) (by decide) (by decide) (by decide) bI_39 bQ_39 bI_40 bQ_40 (by omega) (by omega)
         · have u1 : n3 = -n1 := by rw [i1, e]; simp [rX]
           have u2 : n4 = n0 := by rw [i2, e]; simp [rY]
           exact sec_ok (k := 55) (k1 := 54) (by omega) (by decide) (by decide) (by decide) bI_55 bQ_55 bI_56 bQ_56 (by omega) (by omega)
        rfl
      ·
       simp only [bR_iff, bR_iff_f, dec_iff, dec_f, Bool.false_eq_true, Bool.true_eq_false, false_implies, imp_false, and_true, true_and, implies_true, Classical.not_not] at h83
       refine req_i ?_ ?_
       · -- r64
        first | trivial | assumption | (simp only [sigBnd, bndPost, List.cons.injEq, DV.b.injEq, and_true, List.length_cons, List.length_nil]; done) | ((try simp only [sigBnd, bndPost, List.cons.injEq, DV.b.injEq, and_true, List.length_cons, List.length_nil]); first | omega | assumption | grind)
       refine all_i fun n31 => ?_
       refine imp_i fun h90 => ?_
       refine imp_i fun h91 => ?_
       refine all_i fun n32 => ?_
       refine imp_i fun h92 => ?_
       refine imp_i fun h93 => ?_
       refine imp_i fun h94 => ?_
       try simp only [sigBnd, bndPost, List.cons.injEq, DV.b.injEq, and_true, List.length_cons, List.length_nil] at h94
       obtain ⟨rfl, rfl⟩ : n31 = 218 ∧ n32 = 131 := ⟨h94.1.trans (by decide +kernel), h94.2.trans (by decide +kernel)⟩
       refine bR_i (fun h95 => ?_) (fun h95 => ?_)
       ·
        simp only [bR_iff, bR_iff_f, dec_iff, dec_f, Bool.false_eq_true, Bool.true_eq_false, false_implies, imp_false, and_true, true_and, implies_true, Classical.not_not] at h95
        refine req_i ?_ ?_
        · -- r65
         first | omega | assumption | grind
        refine req_i ?_ ?_
        · -- r66
         first | omega | assumption | grind
        refine req_i ?_ ?_
        · -- r67
         show sect n0 n1 (16 * n2 + 6)
         obtain ⟨i1, i2, i3, i4, i5, i6⟩ := h11
         rcases (show n2 = 0 ∨ n2 = 1 ∨ n2 = 2 ∨ n2 = 3 by omega) with e | e | e | e
         · have u1 : n3 = n0 := by rw [i1, e]; simp [rX]
           have u2 : n4 = n1 := by rw [i2, e]; simp [rY]
           exact sec_ok (k := 6) (k1 := 5) (by omega) (by decide) (by decide) (by decide) bI_6 bQ_6 bI_7 bQ_7 (by omega) (by omega)
         · have u1 : n3 = n1 := by rw [i1, e]; simp [rX]
           have u2 : n4 = -n0 := by rw [i2, e]; simp [rY]
           exact sec_ok (k := 22) (k1 := 21) (by omega) (by decide) (by decide) (by decide) bI_22 bQ_22 bI_23 bQ_23 (by omega) (by omega)
         · have u1 : n3 = -n0 := by rw [i1, e]; simp [rX]
           have u2 : n4 = -n1 := by rw [i2, e]; simp [rY]
           exact sec_ok (k := 38) (k1 := 37) (by omega) (by decide) (by decide) (by decide) bI_38 bQ_38 bI_39 bQ_39 (by omega) (by omega)
         · have u1 : n3 = -n1 := by rw [i1, e]; simp [rX]
           have u2 : n4 = n0 := by rw [i2, e]; simp [rY]
           exact sec_ok (k := 54) (k1 := 53) (by omega) (by decide) (by decide) (by decide) bI_54 bQ_54 bI_55 bQ_55 (by omega) (by omega)
        rfl
       ·
        simp only [bR_iff, bR_iff_f, dec_iff, dec_f, Bool.false_eq_true, Bool.true_eq_false, false_implies, imp_false, and_true, true_and, implies_true, Classical.not_not] at h95
        refine req_i ?_ ?_
        · -- r68
         first | omega | assumption | grind
        refine req_i ?_ ?_
        · -- r69
         first | omega | assumption | grind
        refine req_i ?_ ?_
        · -- r70
         show sect n0 n1 (16 * n2 + 5)
         obtain ⟨i1, i2, i3, i4, i5, i6⟩ := h11
         rcases (show n2 = 0 ∨ n2 = 1 ∨ n2 = 2 ∨ n2 = 3 by omega) with e | e | e | e
         · have u1 : n3 = n0 := by rw [i1, e]; simp [rX]
           have u2 : n4 = n1 := by rw [i2, e]; simp [rY]
           exact sec_ok (k := 5) (k1 := 4) (by omega) (by decide) (by decide) (by decide) bI_5 bQ_5 bI_6 bQ_6 (by omega) (by omega)
         · have u1 : n3 = n1 := by rw [i1, e]; simp [rX]
           have u2 : n4 = -n0 := by rw [i2, e]; simp [rY]
           exact sec_ok (k := 21) (k1 := 20) (by omega) (by decide) (by decide) (by decide) bI_21 bQ_21 bI_22 bQ_22 (by omega) (by omega)
         · have u1 : n3 = -n0 := by rw [i1, e]; simp [rX]
           have u2 : n4 = -n1 := by rw [i2, e]; simp [rY]
           exact sec_ok (k := 37) (k1 := 36) (by omega) (by decide) (by decide) (by decide) bI_37 bQ_37 bI_38 bQ_38 (by omega) (by omega)
         · have u1 : n3 = -n1 := by rw [i1, e]; simp [rX]
           have u2 : n4 = n0 := by rw [i2, e]; simp [rY]
           exact sec_ok (k := 53) (k1 := 52) (by omega) (by decide) (by decide) (by decide) bI_53 bQ_53 bI_54 bQ_54 (by omega) (by omega)
        rfl
     ·
      simp only [bR_iff, bR_iff_f, dec_iff, dec_f, Bool.false_eq_true, Bool.true_eq_false, false_implies, imp_false, and_true, true_and, implies_true, Classical.not_not] at h77
      refine req_i ?_ ?_
      · -- r71
       first | trivial | assumption | (simp only [sigBnd, bndPost, List.cons.injEq, DV.b.injEq, and_true, List.length_cons, List.length_nil]; done) | ((try simp only [sigBnd, bndPost, List.cons.injEq, DV.b.injEq, and_true, List.length_cons, List.length_nil]); first | omega | assumption | grind)
      refine all_i fun n33 => ?_
      refine imp_i fun h96 => ?_
      refine imp_i fun h97 => ?_
      refine all_i fun n34 => ?_
      refine imp_i fun h98 => ?_
      refine imp_i fun h99 => ?_
      refine imp_i fun h100 => ?_
      try simp only [sigBnd, bndPost, List.cons.injEq, DV.b.injEq, and_true, List.length_cons, List.length_nil] at h100
      obtain ⟨rfl, rfl⟩ : n33 = 247 ∧ n34 = 62 := ⟨h100.1.trans (by decide +kernel), h100.2.trans (by decide +kernel)⟩
      refine bR_i (fun h101 => ?_) (fun h101 => ?_)
      ·
       simp only [bR_iff, bR_iff_f, dec_iff, dec_f, Bool.false_eq_true, Bool.true_eq_false, false_implies, imp_false, and_true, true_and, implies_true, Classical.not_not] at h101
       refine req_i ?_ ?_
       · -- r72
        first | trivial | assumption | (simp only [sigBnd, bndPost, List.cons.injEq, DV.b.injEq, and_true, List.length_cons, List.length_nil]; done) | ((try simp only [sigBnd, bndPost, List.cons.injEq, DV.b.injEq, and_true, List.length_cons, List.length_nil]); first | omega | assumption | grind)
       refine all_i fun n35 => ?_
       refine imp_i fun h102 => ?_
       refine imp_i fun h103 => ?_
       refine all_i fun n36 => ?_
       refine imp_i fun h104 => ?_
       refine imp_i fun h105 => ?_
       refine imp_i fun h106 => ?_
       try simp only [sigBnd, bndPost, List.cons.injEq, DV.b.injEq, and_true, List.length_cons, List.length_nil] at h106
       obtain ⟨rfl, rfl⟩ : n35 = 239 ∧ n36 = 86 := ⟨h106.1.trans (by decide +kernel), h106.2.trans (by decide +kernel)⟩
       refine bR_i (fun h107 => ?_) (fun h107 => ?_)
       ·
        simp only [bR_iff, bR_iff_f, dec_iff, dec_f, Bool.false_eq_true, Bool.true_eq_false, false_implies, imp_false, and_true, true_and, implies_true, Classical.not_not] at h107
        refine req_i ?_ ?_
        · -- r73
         first | omega | assumption | grind
        refine req_i ?_ ?_
        · -- r74
         first | omega | assumption | grind
        refine req_i ?_ ?_
        · -- r75
         show sect n0 n1 (16 * n2 + 4)
         obtain ⟨i1, i2, i3, i4, i5, i6⟩ := h11
         rcases (show n2 = 0 ∨ n2 = 1 ∨ n2 = 2 ∨ n2 = 3 by omega) with e | e | e | e
         · have u1 : n3 = n0 := by rw [i1, e]; simp [rX]
           have u2 : n4 = n1 := by rw [i2, e]; simp [rY]
           exact sec_ok (k := 4) (k1 := 3) (by omega) (by decide) (by decide) (by decide) bI_4 bQ_4 bI_5 bQ_5 (by omega) (by omega)
         · have u1 : n3 = n1 := by rw [i1, e]; simp [rX]
           have u2 : n4 = -n0 := by rw [i2, e]; simp [rY]
           exact sec_ok (k := 20) (k1 := 19) (by omega) (by decide) (by decide) (by decide) bI_20 bQ_20 bI_21 bQ_21 (by omega) (by omega)
         · have u1 : n3 = -n0 := by rw [i1, e]; simp [rX]
           have u2 : n4 = -n1 := by rw [i2, e]; simp [rY]
           exact sec_ok (k := 36) (k1 := 35) (by omega) (by decide) (by decide) (by decide) bI_36 bQ_36 bI_37 bQ_37 (by omega) (by omega)
         · have u1 : n3 = -n1 := by rw [i1, e]; simp [rX]
           have u2 : n4 = n0 := by rw [i2, e]; simp [rY]
           exact sec_ok (k := 52) (k1 := 51) (by omega) (by decide) (by decide) (by decide) bI_52 bQ_52 bI_53 bQ_53 (by omega) (by omega)
        rfl
       ·
        simp only [bR_iff, bR_iff_f, dec_iff, dec_f, Bool.false_eq_true, Bool.true_eq_false, false_implies, imp_false, and_true, true_and, implies_true, Classical.not_not] at h107
        refine req_i ?_ ?_
        · -- r76
         first | omega | assumption | grind
        refine req_i ?_ ?_
        · -- r77
         first | omega | assumption | grind
        refine req_i ?_ ?_
        · -- r78
         show sect n0 n1 (16 * n2 + 3)
         obtain ⟨i1, i2, i3, i4, i5, i6⟩ := h11
         rcases (show n2 = 0 ∨ n2 = 1 ∨ n2 = 2 ∨ n2 = 3 by omega) with e | e | e | e
         · have u1 : n3 = n0 := by rw [i1, e]; simp [rX]
           have u2 : n4 = n1 := by rw [i2, e]; simp [rY]
           exact sec_ok (k := 3) (k1 := 2) (by omega) (by decide) (by decide) (by decide) bI_3 bQ_3 bI_4 bQ_4 (by omega) (by omega)
         · have u1 : n3 = n1 := by rw [i1, e]; simp [rX]
           have u2 : n4 = -n0 := by rw [i2, e]; simp [rY]
           exact sec_ok (k := 19) (k1 := 18) (by omega) (by decide) (by decide) (by decide) bI_19 bQ_19 bI_20 bQ_20 (by omega) (by omega)
         · have u1 : n3 = -n0 := by rw [i1, e]; simp [rX]
           have u2 : n4 = -n1 := by rw [i2, e]; simp [rY]
           exact sec_ok (k := 35) (k1 := 34) (by omega) (by decide) (by decide) (by decide) bI_35 bQ_35 bI_36 bQ_36 (by omega) (by omega)
         · have u1 : n3 = -n1 := by rw [i1, e]; simp [rX]
           have u2 : n4 = n0 := by rw [i2, e]; simp [rY]
           exact sec_ok (k := 51) (k1 := 50) (by omega) (by decide) (by decide) (by decide) bI_51 bQ_51 bI_52 bQ_52 (by omega) (by omega)
        rfl
      ·
       simp only [bR_iff, bR_iff_f, dec_iff, dec_f, Bool.false_eq_true, Bool.true_eq_false, false_implies, imp_false, and_true, true_and, implies_true, Classical.not_not] at h101
       refine req_i ?_ ?_
       · -- r79
        first | trivial | assumption | (simp only [sigBnd, bndPost, List.cons.injEq, DV.b.injEq, and_true, List.length_cons, List.length_nil]; done) | ((try simp only [sigBnd, bndPost, List.cons.injEq, DV.b.injEq, and_true, List.length_cons, List.length_nil]); first | omega | assumption | grind)
       refine all_i fun n37 => ?_
       refine imp_i fun h108 => ?_
       refine imp_i fun h109 => ?_
       refine all_i fun n38 => ?_
       refine imp_i fun h110 => ?_
       refine imp_i fun h111 => ?_
       refine imp_i fun h112 => ?_
       try simp only [sigBnd, bndPost, List.cons.injEq, DV.b.injEq, and_true, List.length_cons, List.length_nil] at h112
       obtain ⟨rfl, rfl⟩ : n37 = 251 ∧ n38 = 37 := ⟨h112.1.trans (by decide +kernel), h112.2.trans (by decide +kernel)⟩
       refine bR_i (fun h113 => ?_) (fun h113 => ?_)
       ·
        simp only [bR_iff, bR_iff_f, dec_iff, dec_f, Bool.false_eq_true, Bool.true_eq_false, false_implies, imp_false, and_true, true_and, implies_true, Classical.not_not] at h113
        refine req_i ?_ ?_
        · -- r80
         first | omega | assumption | grind
        refine req_i ?_ ?_
        · -- r81
         first | omega | assumption | grind
        refine req_i ?_ ?_
        · -- r82
         show sect n0 n1 (16 * n2 + 2)
         obtain ⟨i1, i2, i3, i4, i5, i6⟩ := h11
         rcases (show n2 = 0 ∨ n2 = 1 ∨ n2 = 2 ∨ n2 = 3 by omega) with e | e | e | e
         · have u1 : n3 = n0 := by rw [i1, e]; simp [rX]
           have u2 : n4 = n1 := by rw [i2, e]; simp [rY]
           exact sec_ok (k := 2) (k1 := 1) (by omega) (by decide) (by decide) (by decide) bI_2 bQ_2 bI_3 bQ_3 (by omega) (by omega)
         · have u1 : n3 = n1 := by rw [i1, e]; simp [rX]
           have u2 : n4 = -n0 := by rw [i2, e]; simp [rY]
           exact sec_ok (k := 18) (k1 := 17) (by omega) (by decide) (by decide) (by decide) bI_18 bQ_18 bI_19 bQ_19 (by omega) (by omega)
         · have u1 : n3 = -n0 := by rw [i1, e]; simp [rX]
           have u2 : n4 = -n1 := by rw [i2, e]; simp [rY]
           exact sec_ok (k := 34) (k1 := 33) (by omega) (by decide) (by decide) (by decide) bI_34 bQ_34 bI_35 bQ_35 (by omega) (by omega)
         · have u1 : n3 = -n1 := by rw [i1, e]; simp [rX]
           have u2 : n4 = n0 := by rw [i2, e]; simp [rY]
           exact sec_ok (k := 50) (k1 := 49) (by omega) (by decide) (by decide) (by decide) bI_50 bQ_50 bI_51 bQ_51 (by omega) (by omega)
        rfl
       ·
        simp only [bR_iff, bR_iff_f, dec_iff, dec_f, Bool.false_eq_true, Bool.true_eq_false, false_implies, imp_false, and_true, true_and, implies_true, Classical.not_not] at h113
        refine req_i ?_ ?_
        · -- r83
         first | trivial | assumption | (simp only [sigBnd, bndPost, List.cons.injEq, DV.b.injEq, and_true, List.length_cons, List.length_nil]; done) | ((try simp only [sigBnd, bndPost, List.cons.injEq, DV.b.injEq, and_true, List.length_cons, List.length_nil]); first | omega | assumption | grind)
        refine all_i fun n39 => ?_
        refine imp_i fun h114 => ?_
        refine imp_i fun h115 => ?_
        refine all_i fun n40 => ?_
        refine imp_i fun h116 => ?_
        refine imp_i fun h117 => ?_
        refine imp_i fun h118 => ?_
        try simp only [sigBnd, bndPost, List.cons.injEq, DV.b.injEq, and_true, List.length_cons, List.length_nil] at h118
        obtain ⟨rfl, rfl⟩ : n39 = 253 ∧ n40 = 12 := ⟨h118.1.trans (by decide +kernel), h118.2.trans (by decide +kernel)⟩
        refine bR_i (fun h119 => ?_) (fun h119 => ?_)
        ·
         simp only [bR_iff, bR_iff_f, dec_iff, dec_f, Bool.false_eq_true, Bool.true_eq_false, false_implies, imp_false, and_true, true_and, implies_true, Classical.not_not] at h119
         refine req_i ?_ ?_
         · -- r84
          first | omega | assumption | grind
         refine req_i ?_ ?_
         · -- r85
          first | omega | assumption | grind
         refine req_i ?_ ?_
         · -- r86
          show sect n0 n1 (16 * n2 + 1)
          obtain ⟨i1, i2, i3, i4, i5, i6⟩ := h11
          rcases (show n2 = 0 ∨ n2 = 1 ∨ n2 = 2 ∨ n2 = 3 by omega) with e | e | e | e
          · have u1 : n3 = n0 := by rw [i1, e]; simp [rX]
            have u2 : n4 = n1 := by rw [i2, e]; simp [rY]
            exact sec_ok (k := 1) (k1 := 0) (by omega) (by decide) (by decide) (by decide) bI_1 bQ_1 bI_2 bQ_2 (by omega) (by omega)
          · have u1 : n3 = n1 := by rw [i1, e]; simp [rX]
            have u2 : n4 = -n0 := by rw [i2, e]; simp [rY]
            exact sec_ok (k := 17) (k1 := 16) (by omega) (by decide) (by decide) (by decide) bI_17 bQ_17 bI_18 bQ_18 (by omega) (by omega)
          · have u1 : n3 = -n0 := by rw [i1, e]; simp [rX]
            have u2 : n4 = -n1 := by rw [i2, e]; simp [rY]
            exact sec_ok (k := 33) (k1 := 32) (by omega) (by decide) (by decide) (by decide) bI_33 bQ_33 bI_34 bQ_34 (by omega) (by omega)
          · have u1 : n3 = -n1 := by rw [i1, e]; simp [rX]
            have u2 : n4 = n0 := by rw [i2, e]; simp [rY]
            exact sec_ok (k := 49) (k1 := 48) (by omega) (by decide) (by decide) (by decide) bI_49 bQ_49 bI_50 bQ_50 (by omega) (by omega)
         rfl
        ·
         simp only [bR_iff, bR_iff_f, dec_iff, dec_f, Bool.false_eq_true, Bool.true_eq_false, false_implies, imp_false, and_true, true_and, implies_true, Classical.not_not] at h119
         refine req_i ?_ ?_
         · -- r87
          first | omega | assumption | grind
         refine req_i ?_ ?_
         · -- r88
          first | omega | assumption | grind
         refine req_i ?_ ?_
         · -- r89
          show sect n0 n1 (16 * n2 + 0)
          obtain ⟨i1, i2, i3, i4, i5, i6⟩ := h11
          rcases (show n2 = 0 ∨ n2 = 1 ∨ n2 = 2 ∨ n2 = 3 by omega) with e | e | e | e
          · have u1 : n3 = n0 := by rw [i1, e]; simp [rX]
            have u2 : n4 = n1 := by rw [i2, e]; simp [rY]
            exact sec_ok (k := 0) (k1 := -1) (by omega) (by decide) (by decide) (by decide) bI_0 bQ_0 bI_1 bQ_1 (by omega) (by omega)
          · have u1 : n3 = n1 := by rw [i1, e]; simp [rX]
            have u2 : n4 = -n0 := by rw [i2, e]; simp [rY]
            exact sec_ok (k := 16) (k1 := 15) (by omega) (by decide) (by decide) (by decide) bI_16 bQ_16 bI_17 bQ_17 (by omega) (by omega)
          · have u1 : n3 = -n0 := by rw [i1, e]; simp [rX]
            have u2 : n4 = -n1 := by rw [i2, e]; simp [rY]
            exact sec_ok (k := 32) (k1 := 31) (by omega) (by decide) (by decide) (by decide) bI_32 bQ_32 bI_33 bQ_33 (by omega) (by omega)
          · have u1 : n3 = -n1 := by rw [i1, e]; simp [rX]
            have u2 : n4 = n0 := by rw [i2, e]; simp [rY]
            exact sec_ok (k := 48) (k1 := 47) (by omega) (by decide) (by decide) (by decide) bI_48 bQ_48 bI_49 bQ_49 (by omega) (by omega)
         rfl
theorem ext_sector : ∀ p ∈ ([(77, Ext.ctr (ctOfG gl11 sigBnd))] : List (Nat × Ext)), ExtRow Tryd.prog p.1 p.2 := by
  intro p hp
  simp only [List.mem_cons, List.not_mem_nil, or_false] at hp
  rcases hp with rfl
  · trivial
theorem cts_sector : CtsOk Tryd.prog [(77, Ext.ctr (ctOfG gl11 sigBnd))] := ctsOk_ofG (cs := [(77, sigBnd)])
  (fun p hp => by
    simp only [List.mem_cons, List.not_mem_nil, or_false] at hp
    rcases hp with rfl
    · exact fn_bnd
)
  (fun f c h => by
    simp only [List.lookup_cons] at h
    repeat' split at h
    all_goals first | (cases h; done) | (rename_i e; have e := beq_iff_eq.1 e; subst e; cases h; refine ⟨_, ?_, rfl⟩; simp))
theorem fn_sector : FnOk Tryd.prog 76 sigSec gl11 := fn_sound (by kernel_rfl) ext_sector cts_sector names vt_sector
end Go.Proofs.YtofeleohcpaclaaDoor

namespace Go.Proofs.YtofeleohcpaclaaDoor
open Go.Ev Go.Sp
set_option maxRecDepth 100000
theorem vc_Fine : vcFn Tryd.prog [(75, Ext.ctr (ctOfG gl11 sigSmall)), (76, Ext.ctr (ctOfG gl11 sigSec)), (77, Ext.ctr (ctOfG gl11 sigBnd))] noA gl11 100 62 sigFine = (allB fun n0 : Int => 
impB ((-9223372036854775808 : Int) ≤ n0) (
impB (n0 ≤ (9223372036854775807 : Int)) (
allB fun n1 : Int => 
impB ((-9223372036854775808 : Int) ≤ n1) (
impB (n1 ≤ (9223372036854775807 : Int)) (
impB (sigFine.pre [DV.n n0, DV.n n1]) (
reqB ((-9223372036854775808 : Int) ≤ n0) (
reqB (n0 ≤ (9223372036854775807 : Int)) (
reqB ((-9223372036854775808 : Int) ≤ n1) (
reqB (n1 ≤ (9223372036854775807 : Int)) (
reqB (sigSmall.pre [DV.n n0, DV.n n1]) (
allB fun n2 : Int => 
impB ((0 : Int) ≤ n2) (
impB (n2 ≤ (18 : Int)) (
impB (sigSmall.post [DV.n n0, DV.n n1] [DV.n n2]) (
bR (dec (n2 ≠ (0 : Int))) (
 reqB ((0 : Int) ≤ n2) (
 reqB (n2 ≤ (18 : Int)) (
 reqB (sigFine.post [DV.n n0, DV.n n1] [DV.n (0 : Int), DV.n n2]) (
 true)))) (
 bR (bR (dec (n0 = (0 : Int))) (
 bR (dec (n1 = (0 : Int))) (
 true) (
 false)) (
 false)) (
 reqB ((0 : Int) ≤ n2) (
 reqB (n2 ≤ (18 : Int)) (
 reqB (sigFine.post [DV.n n0, DV.n n1] [DV.n (0 : Int), DV.n n2]) (
 true)))) (
 reqB ((-70368744177664 : Int) ≤ n0) (
 reqB (n0 ≤ (70368744177664 : Int)) (
 reqB ((-70368744177664 : Int) ≤ n1) (
 reqB (n1 ≤ (70368744177664 : Int)) (
 reqB (sigSec.pre [DV.n n0, DV.n n1]) (
 allB fun n3 : Int => 
 impB ((0 : Int) ≤ n3) (
 impB (n3 ≤ (63 : Int)) (
 impB (sigSec.post [DV.n n0, DV.n n1] [DV.n n3]) (
 reqB ((-1 : Int) ≤ n3 - (1 : Int)) (
 reqB (n3 - (1 : Int) ≤ (64 : Int)) (
 reqB (sigBnd.pre [DV.n (n3 - (1 : Int))]) (
 allB fun n4 : Int => 
 impB ((-254 : Int) ≤ n4) (
 impB (n4 ≤ (254 : Int)) (
 allB fun n5 : Int => 
 impB ((-254 : Int) ≤ n5) (
 impB (n5 ≤ (254 : Int)) (
 impB (sigBnd.post [DV.n (n3 - (1 : Int))] [DV.n n4, DV.n n5]) (
 allB fun n6 : Int => 
 impB (n6 = Go.IntKind.i64.wrap (n4 * n1)) (
 impB (Int.negSucc (9223372036854775807 : Nat) ≤ n6) (
 impB (n6 ≤ Int.ofNat (9223372036854775807 : Nat)) (
 allB fun n7 : Int => 
 impB (n7 = Go.IntKind.i64.wrap (n5 * n0)) (
 impB (Int.negSucc (9223372036854775807 : Nat) ≤ n7) (
 impB (n7 ≤ Int.ofNat (9223372036854775807 : Nat)) (
 allB fun n8 : Int => 
 impB (n8 = Go.IntKind.i64.wrap (n6 - n7)) (
 impB (Int.negSucc (9223372036854775807 : Nat) ≤ n8) (
 impB (n8 ≤ Int.ofNat (9223372036854775807 : Nat)) (
 reqB ((-1 : Int) ≤ n3) (
 reqB (n3 ≤ (64 : Int)) (
 reqB (sigBnd.pre [DV.n n3]) (
 allB fun n9 : Int => 
 impB ((-254 : Int) ≤ n9) (
 impB (n9 ≤ (254 : Int)) (
 allB fun n10 : Int => 
 impB ((-254 : Int) ≤ n10) (
 impB (n10 ≤ (254 : Int)) (
 impB (sigBnd.post [DV.n n3] [DV.n n9, DV.n n10]) (
 allB fun n11 : Int => 
 impB (n11 = Go.IntKind.i64.wrap (n0 * n10)) (
 impB (Int.negSucc (9223372036854775807 : Nat) ≤ n11) (
 impB (n11 ≤ Int.ofNat (9223372036854775807 : Nat)) (
 allB fun n12 : Int => 
 impB (n12 = Go.IntKind.i64.wrap (n1 * n9)) (
 impB (Int.negSucc (9223372036854775807 : Nat) ≤ n12) (
 impB (n12 ≤ Int.ofNat (9223372036854775807 : Nat)) (
 allB fun n13 : Int => 
 impB (n13 = Go.IntKind.i64.wrap (n11 - n12)) (
 impB (Int.negSucc (9223372036854775807 : Nat) ≤ n13) (
 impB (n13 ≤ Int.ofNat (9223372036854775807 : Nat)) (
 allB fun n14 : Int => 
 impB (n14 = Go.IntKind.i64.wrap ((64 : Int) * n8)) (
 impB (Int.negSucc (9223372036854775807 : Nat) ≤ n14) (
 impB (n14 ≤ Int.ofNat (9223372036854775807 : Nat)) (
 allB fun n15 : Int => 
 impB (n15 = Go.IntKind.i64.wrap (n8 + n13)) (
 impB (Int.negSucc (9223372036854775807 : Nat) ≤ n15) (
 impB (n15 ≤ Int.ofNat (9223372036854775807 : Nat)) (
 reqB (n15 ≠ (0 : Int)) (
 allB fun n16 : Int => 
 impB (n16 = Go.IntKind.i64.wrap (n14.tdiv n15)) (
 impB (Int.negSucc (9223372036854775807 : Nat) ≤ n16) (
 impB (n16 ≤ Int.ofNat (9223372036854775807 : Nat)) (
 allB fun n17 : Int => 
 impB (n17 = Go.IntKind.i64.wrap ((64 : Int) * n3 - (32 : Int) + n16)) (
 impB (Int.negSucc (9223372036854775807 : Nat) ≤ n17) (
 impB (n17 ≤ Int.ofNat (9223372036854775807 : Nat)) (
 allB fun n18 : Int => 
 impB (n18 = Go.IntKind.i64.wrap (n17 + (4096 : Int))) (
 impB (Int.negSucc (9223372036854775807 : Nat) ≤ n18) (
 impB (n18 ≤ Int.ofNat (9223372036854775807 : Nat)) (
 reqB ((0 : Int) ≤ n18.tmod (4096 : Int)) (
 reqB (n18.tmod (4096 : Int) ≤ (4095 : Int)) (
 reqB (sigFine.post [DV.n n0, DV.n n1] [DV.n (n18.tmod (4096 : Int)), DV.n (0 : Int)]) (
 true))))))))))))))))))))))))))))))))))))))))))))))))))))))))))))))))))))))))))))) := by kernel_rfl
set_option maxHeartbeats 8000000 in
theorem vt_Fine : vcFn Tryd.prog [(75, Ext.ctr (ctOfG gl11 sigSmall)), (76, Ext.ctr (ctOfG gl11 sigSec)), (77, Ext.ctr (ctOfG gl11 sigBnd))] noA gl11 100 62 sigFine = true := by
  rw [vc_Fine]
  try simp only [Int.toNat_natCast, List.length_set, List.length_replicate, List.length_take, List.length_drop, List.length_append, List.length_cons, List.length_nil, Nat.min_self, List.take_take, lenCols_i, lenCols_b, List.drop_zero, List.take_length, Nat.add_eq, Nat.mul_eq, Nat.sub_eq, Nat.zero_add, Nat.sub_zero, Nat.mul_one]
  refine all_i fun n0 => ?_
  refine imp_i fun h0 => ?_
  refine imp_i fun h1 => ?_
  refine all_i fun n1 => ?_
  refine imp_i fun h2 => ?_
  refine imp_i fun h3 => ?_
  refine imp_i fun h4 => ?_
  try simp only [sigFine, smpV, finePost, sml, List.cons.injEq, DV.b.injEq, and_true, List.length_cons, List.length_nil] at h4
  refine req_i ?_ ?_
  · -- r0
   first | omega | assumption | grind
  refine req_i ?_ ?_
  · -- r1
   first | omega | assumption | grind
  refine req_i ?_ ?_
  · -- r2
   first | omega | assumption | grind
  refine req_i ?_ ?_
  · -- r3
   first | omega | assumption | grind
  refine req_i ?_ ?_
  · -- r4
   first | trivial | assumption | (simp only [sigSmall, smpV, smallPost, sml, List.cons.injEq, DV.b.injEq, and_true, List.length_cons, List.length_nil]; done) | ((try simp only [sigSmall, smpV, smallPost, sml, List.cons.injEq, DV.b.injEq, and_true, List.length_cons, List.length_nil]); first | omega | assumption | grind)
  refine all_i fun n2 => ?_
  refine imp_i fun h5 => ?_
  refine imp_i fun h6 => ?_
  refine imp_i fun h7 => ?_
  try simp only [sigSmall, smpV, smallPost, sml, List.cons.injEq, DV.b.injEq, and_true, List.length_cons, List.length_nil] at h7
  refine bR_dec (fun h8 => ?_) (fun h8 => ?_)
  ·
   refine req_i ?_ ?_
   · -- r5
    first | omega | assumption | grind
   refine req_i ?_ ?_
   · -- r6
    first | omega | assumption | grind
   refine req_i ?_ ?_
   · -- r7
    refine .inr ⟨?_, by omega, by omega⟩; unfold sml; omega
   rfl
  ·
   have hsm : sml n0 n1 := by unfold sml; omega
   refine bR_i (fun h9 => ?_) (fun h9 => ?_)
   ·
    simp only [bR_iff, bR_iff_f, dec_iff, dec_f, Bool.false_eq_true, Bool.true_eq_false, false_implies, imp_false, and_true, true_and, implies_true, Classical.not_not] at h9
    refine req_i ?_ ?_
    · -- r8
     first | omega | assumption | grind
    refine req_i ?_ ?_
    · -- r9
     first | omega | assumption | grind
    refine req_i ?_ ?_
    · -- r10
     have z : n0 = 0 ∧ n1 = 0 := by omega
     obtain ⟨rfl, rfl⟩ := z
     exact .inl ⟨by unfold sml; omega, by omega, fineOf_0.symm⟩
    rfl
   ·
    simp only [bR_iff, bR_iff_f, dec_iff, dec_f, Bool.false_eq_true, Bool.true_eq_false, false_implies, imp_false, and_true, true_and, implies_true, Classical.not_not] at h9
    refine req_i ?_ ?_
    · -- r11
     first | omega | assumption | grind
    refine req_i ?_ ?_
    · -- r12
     first | omega | assumption | grind
    refine req_i ?_ ?_
    · -- r13
     first | omega | assumption | grind
    refine req_i ?_ ?_
    · -- r14
     first | omega | assumption | grind
    refine req_i ?_ ?_
    · -- r15
     first | trivial | assumption | (simp only [sigSec, smV, secPre, secPost, List.cons.injEq, DV.b.injEq, and_true, List.length_cons, List.length_nil]; done) | ((try simp only [sigSec, smV, secPre, secPost, List.cons.injEq, DV.b.injEq, and_true, List.length_cons, List.length_nil]); first | omega | assumption | grind)
    refine all_i fun n3 => ?_
    refine imp_i fun h10 => ?_
    refine imp_i fun h11 => ?_
    refine imp_i fun h12 => ?_
    try simp only [sigSec, smV, secPre, secPost, List.cons.injEq, DV.b.injEq, and_true, List.length_cons, List.length_nil] at h12
    refine req_i ?_ ?_
    · -- r16
     first | omega | assumption | grind
    refine req_i ?_ ?_
    · -- r17
     first | omega | assumption | grind
    refine req_i ?_ ?_
    · -- r18
     first | trivial | assumption | (simp only [sigBnd, bndPost, List.cons.injEq, DV.b.injEq, and_true, List.length_cons, List.length_nil]; done) | ((try simp only [sigBnd, bndPost, List.cons.injEq, DV.b.injEq, and_true, List.length_cons, List.length_nil]); first | omega | assumption | grind)
    refine all_i fun n4 => ?_
    refine imp_i fun h13 => ?_
    refine imp_i fun h14 => ?_
    refine all_i fun n5 => ?_
    refine imp_i fun h15 => ?_
    refine imp_i fun h16 => ?_
    refine imp_i fun h17 => ?_
    try simp only [sigBnd, bndPost, List.cons.injEq, DV.b.injEq, and_true, List.length_cons, List.length_nil] at h17
    refine all_i fun n6 => ?_
    refine imp_i fun h18 => ?_
    simp only [wrap_i64] at h18
    have ph18 := mul_abs (a := n4) (b := n1) (A := 254) (B := 70368744177664) (by omega) (by omega) (by omega) (by omega)
    have h18 : n6 = n4 * n1 := by omega
    refine imp_i fun h19 => ?_
    refine imp_i fun h20 => ?_
    refine all_i fun n7 => ?_
    refine imp_i fun h21 => ?_
    simp only [wrap_i64] at h21
    have ph21 := mul_abs (a := n5) (b := n0) (A := 254) (B := 70368744177664) (by omega) (by omega) (by omega) (by omega)
    have h21 : n7 = n5 * n0 := by omega
    refine imp_i fun h22 => ?_
    refine imp_i fun h23 => ?_
    refine all_i fun n8 => ?_
    refine imp_i fun h24 => ?_
    simp only [wrap_i64] at h24
    have c1 : n8 = -cr n0 n1 (n3 - 1) := by
      have cc : cr n0 n1 (n3 - 1) = n0 * n5 - n1 * n4 := by unfold cr; rw [← h17.1, ← h17.2]
      rw [cc, Int.mul_comm n0 n5, Int.mul_comm n1 n4]; omega
    refine imp_i fun h25 => ?_
    refine imp_i fun h26 => ?_
    refine req_i ?_ ?_
    · -- r19
     first | omega | assumption | grind
    refine req_i ?_ ?_
    · -- r20
     first | omega | assumption | grind
    refine req_i ?_ ?_
    · -- r21
     first | trivial | assumption | (simp only [sigBnd, bndPost, List.cons.injEq, DV.b.injEq, and_true, List.length_cons, List.length_nil]; done) | ((try simp only [sigBnd, bndPost, List.cons.injEq, DV.b.injEq, and_true, List.length_cons, List.length_nil]); first | omega | assumption | grind)
    refine all_i fun n9 => ?_
    refine imp_i fun h27 => ?_
    refine imp_i fun h28 => ?_
    refine all_i fun n10 => ?_
    refine imp_i fun h29 => ?_
    refine imp_i fun h30 => ?_
    refine imp_i fun h31 => ?_
    try simp only [sigBnd, bndPost, List.cons.injEq, DV.b.injEq, and_true, List.length_cons, List.length_nil] at h31
    refine all_i fun n11 => ?_
    refine imp_i fun h32 => ?_
    simp only [wrap_i64] at h32
    have ph32 := mul_abs (a := n0) (b := n10) (A := 70368744177664) (B := 254) (by omega) (by omega) (by omega) (by omega)
    have h32 : n11 = n0 * n10 := by omega
    refine imp_i fun h33 => ?_
    refine imp_i fun h34 => ?_
    refine all_i fun n12 => ?_
    refine imp_i fun h35 => ?_
    simp only [wrap_i64] at h35
    have ph35 := mul_abs (a := n1) (b := n9) (A := 70368744177664) (B := 254) (by omega) (by omega) (by omega) (by omega)
    have h35 : n12 = n1 * n9 := by omega
    refine imp_i fun h36 => ?_
    refine imp_i fun h37 => ?_
    refine all_i fun n13 => ?_
    refine imp_i fun h38 => ?_
    simp only [wrap_i64] at h38
    have c2 : n13 = cr n0 n1 n3 := by
      have cc : cr n0 n1 n3 = n0 * n10 - n1 * n9 := by unfold cr; rw [← h31.1, ← h31.2]
      rw [cc]; omega
    obtain ⟨s1, s2, s3, s4⟩ := h12
    have d1 := cr_bd (k := n3 - 1) (M := 70368744177664) (x := n0) (y := n1) (by omega) (by omega) (by omega) (by omega)
    have d2 := cr_bd (k := n3) (M := 70368744177664) (x := n0) (y := n1) (by omega) (by omega) (by omega) (by omega)
    refine imp_i fun h39 => ?_
    refine imp_i fun h40 => ?_
    refine all_i fun n14 => ?_
    refine imp_i fun h41 => ?_
    simp only [wrap_i64] at h41
    have h41 : n14 = 64 * n8 := by omega
    refine imp_i fun h42 => ?_
    refine imp_i fun h43 => ?_
    refine all_i fun n15 => ?_
    refine imp_i fun h44 => ?_
    simp only [wrap_i64] at h44
    have h44 : n15 = n8 + n13 := by omega
    obtain ⟨q1, q2, q3⟩ := fine_q (a := n8) (b := n13) (by omega) (by omega)
    refine imp_i fun h45 => ?_
    refine imp_i fun h46 => ?_
    refine req_i ?_ ?_
    · -- r22
     omega
    refine all_i fun n16 => ?_
    refine imp_i fun h47 => ?_
    simp only [wrap_i64] at h47
    rw [h41, h44, q3] at h47
    have h47 : n16 = 64 * n8 / (n8 + n13) := by omega
    refine imp_i fun h48 => ?_
    refine imp_i fun h49 => ?_
    refine all_i fun n17 => ?_
    refine imp_i fun h50 => ?_
    simp only [wrap_i64] at h50
    have h50 : n17 = 64 * n3 - 32 + n16 := by omega
    refine imp_i fun h51 => ?_
    refine imp_i fun h52 => ?_
    refine all_i fun n18 => ?_
    refine imp_i fun h53 => ?_
    simp only [wrap_i64] at h53
    have h53 : n18 = n17 + 4096 := by omega
    have tm : n18.tmod 4096 = n18 % 4096 := tmod_nn (by omega)
    refine imp_i fun h54 => ?_
    refine imp_i fun h55 => ?_
    refine req_i ?_ ?_
    · -- r23
     first | omega | assumption | grind
    refine req_i ?_ ?_
    · -- r24
     first | omega | assumption | grind
    refine req_i ?_ ?_
    · -- r25
     have fe := fineOf_eq (x := n0) (y := n1) (k := n3) ⟨s1, s2, s3, s4⟩
     rw [← c1, ← c2, show n13 - cr n0 n1 (n3 - 1) = n8 + n13 by omega, ← h47, ← h50] at fe
     refine .inl ⟨hsm, rfl, ?_⟩
     rw [tm, fe]; omega
    rfl
theorem ext_Fine : ∀ p ∈ ([(75, Ext.ctr (ctOfG gl11 sigSmall)), (76, Ext.ctr (ctOfG gl11 sigSec)), (77, Ext.ctr (ctOfG gl11 sigBnd))] : List (Nat × Ext)), ExtRow Tryd.prog p.1 p.2 := by
  intro p hp
  simp only [List.mem_cons, List.not_mem_nil, or_false] at hp
  rcases hp with rfl | rfl | rfl
  · trivial
  · trivial
  · trivial
theorem cts_Fine : CtsOk Tryd.prog [(75, Ext.ctr (ctOfG gl11 sigSmall)), (76, Ext.ctr (ctOfG gl11 sigSec)), (77, Ext.ctr (ctOfG gl11 sigBnd))] := ctsOk_ofG (cs := [(75, sigSmall), (76, sigSec), (77, sigBnd)])
  (fun p hp => by
    simp only [List.mem_cons, List.not_mem_nil, or_false] at hp
    rcases hp with rfl | rfl | rfl
    · exact fn_small
    · exact fn_sector
    · exact fn_bnd
)
  (fun f c h => by
    simp only [List.lookup_cons] at h
    repeat' split at h
    all_goals first | (cases h; done) | (rename_i e; have e := beq_iff_eq.1 e; subst e; cases h; refine ⟨_, ?_, rfl⟩; simp))
theorem fn_Fine : FnOk Tryd.prog 62 sigFine gl11 := fn_sound (by kernel_rfl) ext_Fine cts_Fine names vt_Fine
end Go.Proofs.YtofeleohcpaclaaDoor

namespace Go.Proofs.YtofeleohcpaclaaDoor
open Go.Ev Go.Sp
set_option maxRecDepth 100000
theorem vc_Full : vcFn Tryd.prog [(62, Ext.ctr (ctOfG gl11 sigFine))] noA gl11 100 18 sigFull = (allB fun n0 : Int => 
impB ((-9223372036854775808 : Int) ≤ n0) (
impB (n0 ≤ (9223372036854775807 : Int)) (
allB fun n1 : Int => 
impB ((-9223372036854775808 : Int) ≤ n1) (
impB (n1 ≤ (9223372036854775807 : Int)) (
impB (sigFull.pre [DV.n n0, DV.n n1]) (
bR (dec (Min.min n0 n1 < (-1048576 : Int))) (
 reqB (sigFull.post [DV.n n0, DV.n n1] [DV.n (0 : Int), DV.n (2 : Int)]) (
 true)) (
 bR (dec ((1048576 : Int) < Max.max n0 n1)) (
 reqB (sigFull.post [DV.n n0, DV.n n1] [DV.n (0 : Int), DV.n (2 : Int)]) (
 true)) (
 reqB ((-9223372036854775808 : Int) ≤ n0) (
 reqB (n0 ≤ (9223372036854775807 : Int)) (
 reqB ((-9223372036854775808 : Int) ≤ n1) (
 reqB (n1 ≤ (9223372036854775807 : Int)) (
 reqB (sigFine.pre [DV.n n0, DV.n n1]) (
 allB fun n2 : Int => 
 impB ((0 : Int) ≤ n2) (
 impB (n2 ≤ (4095 : Int)) (
 allB fun n3 : Int => 
 impB ((0 : Int) ≤ n3) (
 impB (n3 ≤ (18 : Int)) (
 impB (sigFine.post [DV.n n0, DV.n n1] [DV.n n2, DV.n n3]) (
 reqB ((-2048 : Int) ≤ (n2 + Int.ofNat (2048 : Nat)).tmod (4096 : Int) - Int.ofNat (2048 : Nat)) (
 reqB ((n2 + Int.ofNat (2048 : Nat)).tmod (4096 : Int) - Int.ofNat (2048 : Nat) ≤ (2047 : Int)) (
 reqB (sigFull.post [DV.n n0, DV.n n1]
 [DV.n ((n2 + Int.ofNat (2048 : Nat)).tmod (4096 : Int) - Int.ofNat (2048 : Nat)), DV.n (0 : Int)]) (
 true))))))))))))))))))))) := by kernel_rfl
set_option maxHeartbeats 8000000 in
theorem vt_Full : vcFn Tryd.prog [(62, Ext.ctr (ctOfG gl11 sigFine))] noA gl11 100 18 sigFull = true := by
  rw [vc_Full]
  try simp only [Int.toNat_natCast, List.length_set, List.length_replicate, List.length_take, List.length_drop, List.length_append, List.length_cons, List.length_nil, Nat.min_self, List.take_take, lenCols_i, lenCols_b, List.drop_zero, List.take_length, Nat.add_eq, Nat.mul_eq, Nat.sub_eq, Nat.zero_add, Nat.sub_zero, Nat.mul_one]
  refine all_i fun n0 => ?_
  refine imp_i fun h0 => ?_
  refine imp_i fun h1 => ?_
  refine all_i fun n1 => ?_
  refine imp_i fun h2 => ?_
  refine imp_i fun h3 => ?_
  refine imp_i fun h4 => ?_
  try simp only [sigFull, smpV, fullPost, insd, cen, List.cons.injEq, DV.b.injEq, and_true, List.length_cons, List.length_nil] at h4
  refine bR_dec (fun h5 => ?_) (fun h5 => ?_)
  ·
   refine req_i ?_ ?_
   · -- r0
    first | omega | ((try simp only [sigFull, smpV, fullPost, insd, cen, List.cons.injEq, DV.b.injEq, and_true, List.length_cons, List.length_nil]); first | done | omega | assumption | grind [getD_set, getD_rep, toNat_succ, cntN_yes, cntN_no])
   rfl
  ·
   refine bR_dec (fun h6 => ?_) (fun h6 => ?_)
   ·
    refine req_i ?_ ?_
    · -- r1
     first | omega | ((try simp only [sigFull, smpV, fullPost, insd, cen, List.cons.injEq, DV.b.injEq, and_true, List.length_cons, List.length_nil]); first | done | omega | assumption | grind [getD_set, getD_rep, toNat_succ, cntN_yes, cntN_no])
    rfl
   ·
    refine req_i ?_ ?_
    · -- r2
     first | omega | assumption | grind
    refine req_i ?_ ?_
    · -- r3
     first | omega | assumption | grind
    refine req_i ?_ ?_
    · -- r4
     first | omega | assumption | grind
    refine req_i ?_ ?_
    · -- r5
     first | omega | assumption | grind
    refine req_i ?_ ?_
    · -- r6
     first | trivial | assumption | (simp only [sigFine, smpV, finePost, sml, List.cons.injEq, DV.b.injEq, and_true, List.length_cons, List.length_nil]; done) | ((try simp only [sigFine, smpV, finePost, sml, List.cons.injEq, DV.b.injEq, and_true, List.length_cons, List.length_nil]); first | omega | assumption | grind)
    refine all_i fun n2 => ?_
    refine imp_i fun h7 => ?_
    refine imp_i fun h8 => ?_
    refine all_i fun n3 => ?_
    refine imp_i fun h9 => ?_
    refine imp_i fun h10 => ?_
    refine imp_i fun h11 => ?_
    try simp only [sigFine, smpV, finePost, sml, List.cons.injEq, DV.b.injEq, and_true, List.length_cons, List.length_nil] at h11
    have f1 : n2 = fineOf n0 n1 := by omega
    have tm := tmod_nn (a := n2 + 2048) (b := 4096) (by omega)
    try simp only [show Int.ofNat 2048 = 2048 from rfl, show Int.ofNat 4096 = 4096 from rfl]
    rw [tm]
    refine req_i ?_ ?_
    · -- r7
     first | omega | assumption | grind
    refine req_i ?_ ?_
    · -- r8
     first | omega | assumption | grind
    refine req_i ?_ ?_
    · -- r9
     first | omega | ((try simp only [sigFull, smpV, fullPost, insd, cen, List.cons.injEq, DV.b.injEq, and_true, List.length_cons, List.length_nil]); first | done | omega | assumption | grind [getD_set, getD_rep, toNat_succ, cntN_yes, cntN_no])
    rfl
theorem ext_Full : ∀ p ∈ ([(62, Ext.ctr (ctOfG gl11 sigFine))] : List (Nat × Ext)), ExtRow Tryd.prog p.1 p.2 := by
  intro p hp
  simp only [List.mem_cons, List.not_mem_nil, or_false] at hp
  rcases hp with rfl
  · trivial
theorem cts_Full : CtsOk Tryd.prog [(62, Ext.ctr (ctOfG gl11 sigFine))] := ctsOk_ofG (cs := [(62, sigFine)])
  (fun p hp => by
    simp only [List.mem_cons, List.not_mem_nil, or_false] at hp
    rcases hp with rfl
    · exact fn_Fine
)
  (fun f c h => by
    simp only [List.lookup_cons] at h
    repeat' split at h
    all_goals first | (cases h; done) | (rename_i e; have e := beq_iff_eq.1 e; subst e; cases h; refine ⟨_, ?_, rfl⟩; simp))
theorem fn_Full : FnOk Tryd.prog 18 sigFull gl11 := fn_sound (by kernel_rfl) ext_Full cts_Full names vt_Full
end Go.Proofs.YtofeleohcpaclaaDoor

namespace Go.Proofs.YtofeleohcpaclaaDoor
open Go.Ev Go.Sp
set_option maxRecDepth 100000
theorem vc_fl : vcFn Tryd.prog [(18, Ext.ctr (ctOfG gl11 sigFull))] noA gl11 100 10 sigFl = (allB fun n0 : Int => 
impB ((-9223372036854775808 : Int) ≤ n0) (
impB (n0 ≤ (9223372036854775807 : Int)) (
allB fun n1 : Int => 
impB ((-9223372036854775808 : Int) ≤ n1) (
impB (n1 ≤ (9223372036854775807 : Int)) (
impB (sigFl.pre [DV.n n0, DV.n n1]) (
reqB ((-9223372036854775808 : Int) ≤ n0) (
reqB (n0 ≤ (9223372036854775807 : Int)) (
reqB ((-9223372036854775808 : Int) ≤ n1) (
reqB (n1 ≤ (9223372036854775807 : Int)) (
reqB (sigFull.pre [DV.n n0, DV.n n1]) (
allB fun n2 : Int => 
impB ((-2048 : Int) ≤ n2) (
impB (n2 ≤ (2047 : Int)) (
allB fun n3 : Int => 
impB ((0 : Int) ≤ n3) (
impB (n3 ≤ (18 : Int)) (
impB (sigFull.post [DV.n n0, DV.n n1] [DV.n n2, DV.n n3]) (
reqB ((-2048 : Int) ≤ n2) (
reqB (n2 ≤ (2047 : Int)) (
reqB (sigFl.post [DV.n n0, DV.n n1] [DV.n n2, DV.b (dec (n3 = (0 : Int)))]) (
true))))))))))))))))))) := by kernel_rfl
set_option maxHeartbeats 8000000 in
theorem vt_fl : vcFn Tryd.prog [(18, Ext.ctr (ctOfG gl11 sigFull))] noA gl11 100 10 sigFl = true := by
  rw [vc_fl]
  try simp only [Int.toNat_natCast, List.length_set, List.length_replicate, List.length_take, List.length_drop, List.length_append, List.length_cons, List.length_nil, Nat.min_self, List.take_take, lenCols_i, lenCols_b, List.drop_zero, List.take_length, Nat.add_eq, Nat.mul_eq, Nat.sub_eq, Nat.zero_add, Nat.sub_zero, Nat.mul_one]
  refine all_i fun n0 => ?_
  refine imp_i fun h0 => ?_
  refine imp_i fun h1 => ?_
  refine all_i fun n1 => ?_
  refine imp_i fun h2 => ?_
  refine imp_i fun h3 => ?_
  refine imp_i fun h4 => ?_
  try simp only [sigFl, okPost, cen, insd, List.cons.injEq, DV.b.injEq, and_true, List.length_cons, List.length_nil] at h4
  refine req_i ?_ ?_
  · -- r0
   first | omega | assumption | grind
  refine req_i ?_ ?_
  · -- r1
   first | omega | assumption | grind
  refine req_i ?_ ?_
  · -- r2
   first | omega | assumption | grind
  refine req_i ?_ ?_
  · -- r3
   first | omega | assumption | grind
  refine req_i ?_ ?_
  · -- r4
   first | trivial | assumption | (simp only [sigFull, smpV, fullPost, insd, cen, List.cons.injEq, DV.b.injEq, and_true, List.length_cons, List.length_nil]; done) | ((try simp only [sigFull, smpV, fullPost, insd, cen, List.cons.injEq, DV.b.injEq, and_true, List.length_cons, List.length_nil]); first | omega | assumption | grind)
  refine all_i fun n2 => ?_
  refine imp_i fun h5 => ?_
  refine imp_i fun h6 => ?_
  refine all_i fun n3 => ?_
  refine imp_i fun h7 => ?_
  refine imp_i fun h8 => ?_
  refine imp_i fun h9 => ?_
  try simp only [Int.toNat_natCast, List.length_set, List.length_replicate, List.length_take, List.length_drop, List.length_append, List.length_cons, List.length_nil, Nat.min_self, List.take_take, lenCols_i, lenCols_b, List.drop_zero, List.take_length, Nat.add_eq, Nat.mul_eq, Nat.sub_eq, Nat.zero_add, Nat.sub_zero, Nat.mul_one] at h9
  refine req_i ?_ ?_
  · -- r5
   first | omega | assumption | grind
  refine req_i ?_ ?_
  · -- r6
   first | omega | assumption | grind
  refine req_i ?_ ?_
  · -- r7
   intro i
   rcases h9 with h | h
   · exact absurd i h.1
   · exact ⟨dec_iff.2 h.2.1, h.2.2⟩
  rfl
theorem ext_fl : ∀ p ∈ ([(18, Ext.ctr (ctOfG gl11 sigFull))] : List (Nat × Ext)), ExtRow Tryd.prog p.1 p.2 := by
  intro p hp
  simp only [List.mem_cons, List.not_mem_nil, or_false] at hp
  rcases hp with rfl
  · trivial
theorem cts_fl : CtsOk Tryd.prog [(18, Ext.ctr (ctOfG gl11 sigFull))] := ctsOk_ofG (cs := [(18, sigFull)])
  (fun p hp => by
    simp only [List.mem_cons, List.not_mem_nil, or_false] at hp
    rcases hp with rfl
    · exact fn_Full
)
  (fun f c h => by
    simp only [List.lookup_cons] at h
    repeat' split at h
    all_goals first | (cases h; done) | (rename_i e; have e := beq_iff_eq.1 e; subst e; cases h; refine ⟨_, ?_, rfl⟩; simp))
theorem fn_fl : FnOk Tryd.prog 10 sigFl gl11 := fn_sound (by kernel_rfl) ext_fl cts_fl names vt_fl
end Go.Proofs.YtofeleohcpaclaaDoor

namespace Go.Proofs.YtofeleohcpaclaaDoor
open Go.Ev Go.Sp
set_option maxRecDepth 100000
theorem vc_Half : vcFn Tryd.prog [(62, Ext.ctr (ctOfG gl11 sigFine))] noA gl11 100 20 sigHalf = (allB fun n0 : Int => 
impB ((-9223372036854775808 : Int) ≤ n0) (
impB (n0 ≤ (9223372036854775807 : Int)) (
allB fun n1 : Int => 
impB ((-9223372036854775808 : Int) ≤ n1) (
impB (n1 ≤ (9223372036854775807 : Int)) (
impB (sigHalf.pre [DV.n n0, DV.n n1]) (
bR (dec (Min.min n0 n1 < (-1048576 : Int))) (
 reqB (sigHalf.post [DV.n n0, DV.n n1] [DV.n (0 : Int), DV.n (2 : Int)]) (
 true)) (
 bR (dec ((1048576 : Int) < Max.max n0 n1)) (
 reqB (sigHalf.post [DV.n n0, DV.n n1] [DV.n (0 : Int), DV.n (2 : Int)]) (
 true)) (
 reqB ((-9223372036854775808 : Int) ≤ n0) (
 reqB (n0 ≤ (9223372036854775807 : Int)) (
 reqB ((-9223372036854775808 : Int) ≤ n1) (
 reqB (n1 ≤ (9223372036854775807 : Int)) (
 reqB (sigFine.pre [DV.n n0, DV.n n1]) (
 allB fun n2 : Int => 
 impB ((0 : Int) ≤ n2) (
 impB (n2 ≤ (4095 : Int)) (
 allB fun n3 : Int => 
 impB ((0 : Int) ≤ n3) (
 impB (n3 ≤ (18 : Int)) (
 impB (sigFine.post [DV.n n0, DV.n n1] [DV.n n2, DV.n n3]) (
 reqB ((-1024 : Int) ≤ (n2 + Int.ofNat (1024 : Nat)).tmod (2048 : Int) - Int.ofNat (1024 : Nat)) (
 reqB ((n2 + Int.ofNat (1024 : Nat)).tmod (2048 : Int) - Int.ofNat (1024 : Nat) ≤ (1023 : Int)) (
 reqB (sigHalf.post [DV.n n0, DV.n n1]
 [DV.n ((n2 + Int.ofNat (1024 : Nat)).tmod (2048 : Int) - Int.ofNat (1024 : Nat)), DV.n (0 : Int)]) (
 true))))))))))))))))))))) := by kernel_rfl
set_option maxHeartbeats 8000000 in
theorem vt_Half : vcFn Tryd.prog [(62, Ext.ctr (ctOfG gl11 sigFine))] noA gl11 100 20 sigHalf = true := by
  rw [vc_Half]
  try simp only [Int.toNat_natCast, List.length_set, List.length_replicate, List.length_take, List.length_drop, List.length_append, List.length_cons, List.length_nil, Nat.min_self, List.take_take, lenCols_i, lenCols_b, List.drop_zero, List.take_length, Nat.add_eq, Nat.mul_eq, Nat.sub_eq, Nat.zero_add, Nat.sub_zero, Nat.mul_one]
  refine all_i fun n0 => ?_
  refine imp_i fun h0 => ?_
  refine imp_i fun h1 => ?_
  refine all_i fun n1 => ?_
  refine imp_i fun h2 => ?_
  refine imp_i fun h3 => ?_
  refine imp_i fun h4 => ?_
  try simp only [sigHalf, smpV, halfPost, insd, cen, List.cons.injEq, DV.b.injEq, and_true, List.length_cons, List.length_nil] at h4
  refine bR_dec (fun h5 => ?_) (fun h5 => ?_)
  ·
   refine req_i ?_ ?_
   · -- r0
    first | omega | ((try simp only [sigHalf, smpV, halfPost, insd, cen, List.cons.injEq, DV.b.injEq, and_true, List.length_cons, List.length_nil]); first | done | omega | assumption | grind [getD_set, getD_rep, toNat_succ, cntN_yes, cntN_no])
   rfl
  ·
   refine bR_dec (fun h6 => ?_) (fun h6 => ?_)
   ·
    refine req_i ?_ ?_
    · -- r1
     first | omega | ((try simp only [sigHalf, smpV, halfPost, insd, cen, List.cons.injEq, DV.b.injEq, and_true, List.length_cons, List.length_nil]); first | done | omega | assumption | grind [getD_set, getD_rep, toNat_succ, cntN_yes, cntN_no])
    rfl
   ·
    refine req_i ?_ ?_
    · -- r2
     first | omega | assumption | grind
    refine req_i ?_ ?_
    · -- r3
     first | omega | assumption | grind
    refine req_i ?_ ?_
    · -- r4
     first | omega | assumption | grind
    refine req_i ?_ ?_
    · -- r5
     first | omega | assumption | grind
    refine req_i ?_ ?_
    · -- r6
     first | trivial | assumption | (simp only [sigFine, smpV, finePost, sml, List.cons.injEq, DV.b.injEq, and_true, List.length_cons, List.length_nil]; done) | ((try simp only [sigFine, smpV, finePost, sml, List.cons.injEq, DV.b.injEq, and_true, List.length_cons, List.length_nil]); first | omega | assumption | grind)
    refine all_i fun n2 => ?_
    refine imp_i fun h7 => ?_
    refine imp_i fun h8 => ?_
    refine all_i fun n3 => ?_
    refine imp_i fun h9 => ?_
    refine imp_i fun h10 => ?_
    refine imp_i fun h11 => ?_
    try simp only [sigFine, smpV, finePost, sml, List.cons.injEq, DV.b.injEq, and_true, List.length_cons, List.length_nil] at h11
    have f1 : n2 = fineOf n0 n1 := by omega
    have tm := tmod_nn (a := n2 + 1024) (b := 2048) (by omega)
    try simp only [show Int.ofNat 1024 = 1024 from rfl, show Int.ofNat 2048 = 2048 from rfl]
    rw [tm]
    refine req_i ?_ ?_
    · -- r7
     first | omega | assumption | grind
    refine req_i ?_ ?_
    · -- r8
     first | omega | assumption | grind
    refine req_i ?_ ?_
    · -- r9
     first | omega | ((try simp only [sigHalf, smpV, halfPost, insd, cen, List.cons.injEq, DV.b.injEq, and_true, List.length_cons, List.length_nil]); first | done | omega | assumption | grind [getD_set, getD_rep, toNat_succ, cntN_yes, cntN_no])
    rfl
theorem ext_Half : ∀ p ∈ ([(62, Ext.ctr (ctOfG gl11 sigFine))] : List (Nat × Ext)), ExtRow Tryd.prog p.1 p.2 := by
  intro p hp
  simp only [List.mem_cons, List.not_mem_nil, or_false] at hp
  rcases hp with rfl
  · trivial
theorem cts_Half : CtsOk Tryd.prog [(62, Ext.ctr (ctOfG gl11 sigFine))] := ctsOk_ofG (cs := [(62, sigFine)])
  (fun p hp => by
    simp only [List.mem_cons, List.not_mem_nil, or_false] at hp
    rcases hp with rfl
    · exact fn_Fine
)
  (fun f c h => by
    simp only [List.lookup_cons] at h
    repeat' split at h
    all_goals first | (cases h; done) | (rename_i e; have e := beq_iff_eq.1 e; subst e; cases h; refine ⟨_, ?_, rfl⟩; simp))
theorem fn_Half : FnOk Tryd.prog 20 sigHalf gl11 := fn_sound (by kernel_rfl) ext_Half cts_Half names vt_Half
end Go.Proofs.YtofeleohcpaclaaDoor

namespace Go.Proofs.YtofeleohcpaclaaDoor
open Go.Ev Go.Sp
set_option maxRecDepth 100000
theorem vc_hl : vcFn Tryd.prog [(20, Ext.ctr (ctOfG gl11 sigHalf))] noA gl11 100 11 sigHl = (allB fun n0 : Int => 
impB ((-9223372036854775808 : Int) ≤ n0) (
impB (n0 ≤ (9223372036854775807 : Int)) (
allB fun n1 : Int => 
impB ((-9223372036854775808 : Int) ≤ n1) (
impB (n1 ≤ (9223372036854775807 : Int)) (
impB (sigHl.pre [DV.n n0, DV.n n1]) (
reqB ((-9223372036854775808 : Int) ≤ n0) (
reqB (n0 ≤ (9223372036854775807 : Int)) (
reqB ((-9223372036854775808 : Int) ≤ n1) (
reqB (n1 ≤ (9223372036854775807 : Int)) (
reqB (sigHalf.pre [DV.n n0, DV.n n1]) (
allB fun n2 : Int => 
impB ((-1024 : Int) ≤ n2) (
impB (n2 ≤ (1023 : Int)) (
allB fun n3 : Int => 
impB ((0 : Int) ≤ n3) (
impB (n3 ≤ (18 : Int)) (
impB (sigHalf.post [DV.n n0, DV.n n1] [DV.n n2, DV.n n3]) (
reqB ((-1024 : Int) ≤ n2) (
reqB (n2 ≤ (1023 : Int)) (
reqB (sigHl.post [DV.n n0, DV.n n1] [DV.n n2, DV.b (dec (n3 = (0 : Int)))]) (
true))))))))))))))))))) := by kernel_rfl
set_option maxHeartbeats 8000000 in
theorem vt_hl : vcFn Tryd.prog [(20, Ext.ctr (ctOfG gl11 sigHalf))] noA gl11 100 11 sigHl = true := by
  rw [vc_hl]
  try simp only [Int.toNat_natCast, List.length_set, List.length_replicate, List.length_take, List.length_drop, List.length_append, List.length_cons, List.length_nil, Nat.min_self, List.take_take, lenCols_i, lenCols_b, List.drop_zero, List.take_length, Nat.add_eq, Nat.mul_eq, Nat.sub_eq, Nat.zero_add, Nat.sub_zero, Nat.mul_one]
  refine all_i fun n0 => ?_
  refine imp_i fun h0 => ?_
  refine imp_i fun h1 => ?_
  refine all_i fun n1 => ?_
  refine imp_i fun h2 => ?_
  refine imp_i fun h3 => ?_
  refine imp_i fun h4 => ?_
  try simp only [sigHl, okPost, cen, insd, List.cons.injEq, DV.b.injEq, and_true, List.length_cons, List.length_nil] at h4
  refine req_i ?_ ?_
  · -- r0
   first | omega | assumption | grind
  refine req_i ?_ ?_
  · -- r1
   first | omega | assumption | grind
  refine req_i ?_ ?_
  · -- r2
   first | omega | assumption | grind
  refine req_i ?_ ?_
  · -- r3
   first | omega | assumption | grind
  refine req_i ?_ ?_
  · -- r4
   first | trivial | assumption | (simp only [sigHalf, smpV, halfPost, insd, cen, List.cons.injEq, DV.b.injEq, and_true, List.length_cons, List.length_nil]; done) | ((try simp only [sigHalf, smpV, halfPost, insd, cen, List.cons.injEq, DV.b.injEq, and_true, List.length_cons, List.length_nil]); first | omega | assumption | grind)
  refine all_i fun n2 => ?_
  refine imp_i fun h5 => ?_
  refine imp_i fun h6 => ?_
  refine all_i fun n3 => ?_
  refine imp_i fun h7 => ?_
  refine imp_i fun h8 => ?_
  refine imp_i fun h9 => ?_
  try simp only [Int.toNat_natCast, List.length_set, List.length_replicate, List.length_take, List.length_drop, List.length_append, List.length_cons, List.length_nil, Nat.min_self, List.take_take, lenCols_i, lenCols_b, List.drop_zero, List.take_length, Nat.add_eq, Nat.mul_eq, Nat.sub_eq, Nat.zero_add, Nat.sub_zero, Nat.mul_one] at h9
  refine req_i ?_ ?_
  · -- r5
   first | omega | assumption | grind
  refine req_i ?_ ?_
  · -- r6
   first | omega | assumption | grind
  refine req_i ?_ ?_
  · -- r7
   intro i
   rcases h9 with h | h
   · exact absurd i h.1
   · exact ⟨dec_iff.2 h.2.1, h.2.2⟩
  rfl
theorem ext_hl : ∀ p ∈ ([(20, Ext.ctr (ctOfG gl11 sigHalf))] : List (Nat × Ext)), ExtRow Tryd.prog p.1 p.2 := by
  intro p hp
  simp only [List.mem_cons, List.not_mem_nil, or_false] at hp
  rcases hp with rfl
  · trivial
theorem cts_hl : CtsOk Tryd.prog [(20, Ext.ctr (ctOfG gl11 sigHalf))] := ctsOk_ofG (cs := [(20, sigHalf)])
  (fun p hp => by
    simp only [List.mem_cons, List.not_mem_nil, or_false] at hp
    rcases hp with rfl
    · exact fn_Half
)
  (fun f c h => by
    simp only [List.lookup_cons] at h
    repeat' split at h
    all_goals first | (cases h; done) | (rename_i e; have e := beq_iff_eq.1 e; subst e; cases h; refine ⟨_, ?_, rfl⟩; simp))
theorem fn_hl : FnOk Tryd.prog 11 sigHl gl11 := fn_sound (by kernel_rfl) ext_hl cts_hl names vt_hl
end Go.Proofs.YtofeleohcpaclaaDoor

namespace Go.Proofs.YtofeleohcpaclaaDoor
open Go.Ev Go.Sp
set_option maxRecDepth 100000
theorem vc_share0 : vcFn Tryd.prog [] noA gl11 100 37 (sigShare 0 4398046511104) = (allB fun n0 : Int => 
impB ((0 : Int) ≤ n0) (
impB (n0 ≤ (4398046511104 : Int)) (
allB fun n1 : Int => 
impB ((0 : Int) ≤ n1) (
impB (n1 ≤ (4398046511104 : Int)) (
impB ((sigShare (0 : Int) (4398046511104 : Int)).pre [DV.n n0, DV.n n1]) (
bR (dec (n1 = (0 : Int))) (
 reqB ((sigShare (0 : Int) (4398046511104 : Int)).post [DV.n n0, DV.n n1] [DV.n (0 : Int)]) (
 true)) (
 reqB ((2 : Int) * n1 ≠ (0 : Int)) (
 allB fun n2 : Int => 
 impB (n2 = Go.IntKind.i64.wrap (((2048 : Int) * n0 + n1).tdiv ((2 : Int) * n1))) (
 impB (Int.negSucc (9223372036854775807 : Nat) ≤ n2) (
 impB (n2 ≤ Int.ofNat (9223372036854775807 : Nat)) (
 reqB ((-1024 : Int) ≤ n2) (
 reqB (n2 ≤ (1024 : Int)) (
 reqB ((sigShare (0 : Int) (4398046511104 : Int)).post [DV.n n0, DV.n n1] [DV.n n2]) (
 true)))))))))))))) := by kernel_rfl
set_option maxHeartbeats 8000000 in
theorem vt_share0 : vcFn Tryd.prog [] noA gl11 100 37 (sigShare 0 4398046511104) = true := by
  rw [vc_share0]
  try simp only [Int.toNat_natCast, List.length_set, List.length_replicate, List.length_take, List.length_drop, List.length_append, List.length_cons, List.length_nil, Nat.min_self, List.take_take, lenCols_i, lenCols_b, List.drop_zero, List.take_length, Nat.add_eq, Nat.mul_eq, Nat.sub_eq, Nat.zero_add, Nat.sub_zero, Nat.mul_one]
  refine all_i fun n0 => ?_
  refine imp_i fun h0 => ?_
  refine imp_i fun h1 => ?_
  refine all_i fun n1 => ?_
  refine imp_i fun h2 => ?_
  refine imp_i fun h3 => ?_
  refine imp_i fun h4 => ?_
  try simp only [sigShare, sharePre, sharePost, List.cons.injEq, DV.b.injEq, and_true, List.length_cons, List.length_nil] at h4
  refine bR_dec (fun h5 => ?_) (fun h5 => ?_)
  ·
   refine req_i ?_ ?_
   · -- r0
    simp only [sigShare, sharePost, shareOf]; rw [if_pos h5]
   rfl
  ·
   refine req_i ?_ ?_
   · -- r1
    first | omega | assumption | grind
   refine all_i fun n2 => ?_
   refine imp_i fun h6 => ?_
   simp only [wrap_i64] at h6
   have sb := shN_bd (a := n0) (b := n1) (by omega) (by omega) (by omega)
   have e1 := tdiv_nn (a := 2048 * n0 + n1) (b := 2 * n1) (by omega)
   rw [e1] at h6
   have h6 : n2 = shN n0 n1 := by unfold shN at *; omega
   refine imp_i fun h7 => ?_
   refine imp_i fun h8 => ?_
   refine req_i ?_ ?_
   · -- r2
    first | omega | assumption | grind
   refine req_i ?_ ?_
   · -- r3
    first | omega | assumption | grind
   refine req_i ?_ ?_
   · -- r4
    simp only [sigShare, sharePost, shareOf]; rw [if_neg h5, if_neg (by omega)]; exact h6
   rfl
theorem ext_share0 : ∀ p ∈ ([] : List (Nat × Ext)), ExtRow Tryd.prog p.1 p.2 := by
  intro p hp
  cases hp
theorem cts_share0 : CtsOk Tryd.prog [] := fun f c h => by cases h
theorem fn_share0 : FnOk Tryd.prog 37 (sigShare 0 4398046511104) gl11 := fn_sound (by kernel_rfl) ext_share0 cts_share0 names vt_share0
end Go.Proofs.YtofeleohcpaclaaDoor

namespace Go.Proofs.YtofeleohcpaclaaDoor
open Go.Ev Go.Sp
set_option maxRecDepth 100000
theorem vc_share1 : vcFn Tryd.prog [] noA gl11 100 37 (sigShare (-4398046511104) (-1)) = (allB fun n0 : Int => 
impB ((-4398046511104 : Int) ≤ n0) (
impB (n0 ≤ (-1 : Int)) (
allB fun n1 : Int => 
impB ((0 : Int) ≤ n1) (
impB (n1 ≤ (4398046511104 : Int)) (
impB ((sigShare (-4398046511104 : Int) (-1 : Int)).pre [DV.n n0, DV.n n1]) (
bR (dec (n1 = (0 : Int))) (
 reqB ((sigShare (-4398046511104 : Int) (-1 : Int)).post [DV.n n0, DV.n n1] [DV.n (0 : Int)]) (
 true)) (
 bR (dec (n1 = (0 : Int))) (
 reqB ((sigShare (-4398046511104 : Int) (-1 : Int)).post [DV.n n0, DV.n n1]
 [DV.n (Int.ofNat (0 : Nat))]) (
 true)) (
 reqB ((2 : Int) * n1 ≠ (0 : Int)) (
 allB fun n2 : Int => 
 impB (n2 = Go.IntKind.i64.wrap (((2048 : Int) * ((0 : Int) - n0) + n1).tdiv ((2 : Int) * n1))) (
 impB (Int.negSucc (9223372036854775807 : Nat) ≤ n2) (
 impB (n2 ≤ Int.ofNat (9223372036854775807 : Nat)) (
 allB fun n3 : Int => 
 impB (n3 = Go.IntKind.i64.wrap ((0 : Int) - n2)) (
 impB (Int.negSucc (9223372036854775807 : Nat) ≤ n3) (
 impB (n3 ≤ Int.ofNat (9223372036854775807 : Nat)) (
 reqB ((-1024 : Int) ≤ n3) (
 reqB (n3 ≤ (1024 : Int)) (
 reqB ((sigShare (-4398046511104 : Int) (-1 : Int)).post [DV.n n0, DV.n n1] [DV.n n3]) (
 true)))))))))))))))))) := by kernel_rfl
set_option maxHeartbeats 8000000 in
theorem vt_share1 : vcFn Tryd.prog [] noA gl11 100 37 (sigShare (-4398046511104) (-1)) = true := by
  rw [vc_share1]
  try simp only [Int.toNat_natCast, List.length_set, List.length_replicate, List.length_take, List.length_drop, List.length_append, List.length_cons, List.length_nil, Nat.min_self, List.take_take, lenCols_i, lenCols_b, List.drop_zero, List.take_length, Nat.add_eq, Nat.mul_eq, Nat.sub_eq, Nat.zero_add, Nat.sub_zero, Nat.mul_one]
  refine all_i fun n0 => ?_
  refine imp_i fun h0 => ?_
  refine imp_i fun h1 => ?_
  refine all_i fun n1 => ?_
  refine imp_i fun h2 => ?_
  refine imp_i fun h3 => ?_
  refine imp_i fun h4 => ?_
  try simp only [sigShare, sharePre, sharePost, List.cons.injEq, DV.b.injEq, and_true, List.length_cons, List.length_nil] at h4
  refine bR_dec (fun h5 => ?_) (fun h5 => ?_)
  ·
   refine req_i ?_ ?_
   · -- r0
    simp only [sigShare, sharePost, shareOf]; rw [if_pos h5]
   rfl
  ·
   refine bR_dec (fun h6 => absurd h6 h5) (fun h6 => ?_)
   refine req_i ?_ ?_
   · -- r1
    first | omega | assumption | grind
   refine all_i fun n2 => ?_
   refine imp_i fun h7 => ?_
   simp only [wrap_i64] at h7
   have sb := shN_bd (a := (0 - n0)) (b := n1) (by omega) (by omega) (by omega)
   have e1 := tdiv_nn (a := 2048 * (0 - n0) + n1) (b := 2 * n1) (by omega)
   rw [e1] at h7
   have h7 : n2 = shN (0 - n0) n1 := by unfold shN at *; omega
   refine imp_i fun h8 => ?_
   refine imp_i fun h9 => ?_
   refine all_i fun n3 => ?_
   refine imp_i fun h10 => ?_
   simp only [wrap_i64] at h10
   have h10 : n3 = 0 - n2 := by omega
   refine imp_i fun h11 => ?_
   refine imp_i fun h12 => ?_
   refine req_i ?_ ?_
   · -- r2
    first | omega | assumption | grind
   refine req_i ?_ ?_
   · -- r3
    first | omega | assumption | grind
   refine req_i ?_ ?_
   · -- r4
    simp only [sigShare, sharePost, shareOf]; rw [if_neg h5, if_pos (by omega), show -n0 = 0 - n0 by omega]; omega
   rfl
theorem ext_share1 : ∀ p ∈ ([] : List (Nat × Ext)), ExtRow Tryd.prog p.1 p.2 := by
  intro p hp
  cases hp
theorem cts_share1 : CtsOk Tryd.prog [] := fun f c h => by cases h
theorem fn_share1 : FnOk Tryd.prog 37 (sigShare (-4398046511104) (-1)) gl11 := fn_sound (by kernel_rfl) ext_share1 cts_share1 names vt_share1
end Go.Proofs.YtofeleohcpaclaaDoor

namespace Go.Proofs.YtofeleohcpaclaaDoor
open Go.Ev Go.Sp
theorem fn_share : FnOk Tryd.prog 37 (sigShare (-4398046511104) 4398046511104) gl11 := by
  exact fn_split1 (m := 0) (m' := -1) (by decide) fn_share0 fn_share1
end Go.Proofs.YtofeleohcpaclaaDoor

namespace Go.Proofs.YtofeleohcpaclaaDoor
open Go.Ev Go.Sp
set_option maxRecDepth 100000
theorem vc_Lock : vcFn Tryd.prog [(37, Ext.ctr (ctOfG gl11 (sigShare (-4398046511104) 4398046511104)))] noA gl11 100 22 sigLock = (allB fun n0 : Int => 
impB ((-9223372036854775808 : Int) ≤ n0) (
impB (n0 ≤ (9223372036854775807 : Int)) (
allB fun n1 : Int => 
impB ((-9223372036854775808 : Int) ≤ n1) (
impB (n1 ≤ (9223372036854775807 : Int)) (
impB (sigLock.pre [DV.n n0, DV.n n1]) (
bR (dec (Min.min n0 n1 < (-1048576 : Int))) (
 reqB (sigLock.post [DV.n n0, DV.n n1] [DV.n (0 : Int), DV.n (2 : Int)]) (
 true)) (
 bR (dec ((1048576 : Int) < Max.max n0 n1)) (
 reqB (sigLock.post [DV.n n0, DV.n n1] [DV.n (0 : Int), DV.n (2 : Int)]) (
 true)) (
 allB fun n2 : Int => 
 impB (n2 = Go.IntKind.i64.wrap (n0 * n0)) (
 impB (Int.negSucc (9223372036854775807 : Nat) ≤ n2) (
 impB (n2 ≤ Int.ofNat (9223372036854775807 : Nat)) (
 allB fun n3 : Int => 
 impB (n3 = Go.IntKind.i64.wrap (n1 * n1)) (
 impB (Int.negSucc (9223372036854775807 : Nat) ≤ n3) (
 impB (n3 ≤ Int.ofNat (9223372036854775807 : Nat)) (
 allB fun n4 : Int => 
 impB (n4 = Go.IntKind.i64.wrap (n2 - n3)) (
 impB (Int.negSucc (9223372036854775807 : Nat) ≤ n4) (
 impB (n4 ≤ Int.ofNat (9223372036854775807 : Nat)) (
 allB fun n5 : Int => 
 impB (n5 = Go.IntKind.i64.wrap (n0 * n0)) (
 impB (Int.negSucc (9223372036854775807 : Nat) ≤ n5) (
 impB (n5 ≤ Int.ofNat (9223372036854775807 : Nat)) (
 allB fun n6 : Int => 
 impB (n6 = Go.IntKind.i64.wrap (n1 * n1)) (
 impB (Int.negSucc (9223372036854775807 : Nat) ≤ n6) (
 impB (n6 ≤ Int.ofNat (9223372036854775807 : Nat)) (
 allB fun n7 : Int => 
 impB (n7 = Go.IntKind.i64.wrap (n5 + n6)) (
 impB (Int.negSucc (9223372036854775807 : Nat) ≤ n7) (
 impB (n7 ≤ Int.ofNat (9223372036854775807 : Nat)) (
 reqB ((-4398046511104 : Int) ≤ n4) (
 reqB (n4 ≤ (4398046511104 : Int)) (
 reqB ((0 : Int) ≤ n7) (
 reqB (n7 ≤ (4398046511104 : Int)) (
 reqB ((sigShare (-4398046511104 : Int) (4398046511104 : Int)).pre [DV.n n4, DV.n n7]) (
 allB fun n8 : Int => 
 impB ((-1024 : Int) ≤ n8) (
 impB (n8 ≤ (1024 : Int)) (
 impB ((sigShare (-4398046511104 : Int) (4398046511104 : Int)).post [DV.n n4, DV.n n7] [DV.n n8]) (
 reqB ((-1024 : Int) ≤ n8) (
 reqB (n8 ≤ (1024 : Int)) (
 reqB (sigLock.post [DV.n n0, DV.n n1] [DV.n n8, DV.n (0 : Int)]) (
 true))))))))))))))))))))))))))))))))))))) := by kernel_rfl
set_option maxHeartbeats 8000000 in
theorem vt_Lock : vcFn Tryd.prog [(37, Ext.ctr (ctOfG gl11 (sigShare (-4398046511104) 4398046511104)))] noA gl11 100 22 sigLock = true := by
  rw [vc_Lock]
  try simp only [Int.toNat_natCast, List.length_set, List.length_replicate, List.length_take, List.length_drop, List.length_append, List.length_cons, List.length_nil, Nat.min_self, List.take_take, lenCols_i, lenCols_b, List.drop_zero, List.take_length, Nat.add_eq, Nat.mul_eq, Nat.sub_eq, Nat.zero_add, Nat.sub_zero, Nat.mul_one]
  refine all_i fun n0 => ?_
  refine imp_i fun h0 => ?_
  refine imp_i fun h1 => ?_
  refine all_i fun n1 => ?_
  refine imp_i fun h2 => ?_
  refine imp_i fun h3 => ?_
  refine imp_i fun h4 => ?_
  try simp only [sigLock, smpV, lockPost, insd, powr, List.cons.injEq, DV.b.injEq, and_true, List.length_cons, List.length_nil] at h4
  refine bR_dec (fun h5 => ?_) (fun h5 => ?_)
  ·
   refine req_i ?_ ?_
   · -- r0
    first | omega | ((try simp only [sigLock, smpV, lockPost, insd, powr, List.cons.injEq, DV.b.injEq, and_true, List.length_cons, List.length_nil]); first | done | omega | assumption | grind [getD_set, getD_rep, toNat_succ, cntN_yes, cntN_no])
   rfl
  ·
   refine bR_dec (fun h6 => ?_) (fun h6 => ?_)
   ·
    refine req_i ?_ ?_
    · -- r1
     first | omega | ((try simp only [sigLock, smpV, lockPost, insd, powr, List.cons.injEq, DV.b.injEq, and_true, List.length_cons, List.length_nil]); first | done | omega | assumption | grind [getD_set, getD_rep, toNat_succ, cntN_yes, cntN_no])
    rfl
   ·
    refine all_i fun n2 => ?_
    refine imp_i fun h7 => ?_
    simp only [wrap_i64] at h7
    have ph7 := sq_abs (a := n0) (A := 1048576) (by omega) (by omega)
    have h7 : n2 = n0 * n0 := by omega
    refine imp_i fun h8 => ?_
    refine imp_i fun h9 => ?_
    refine all_i fun n3 => ?_
    refine imp_i fun h10 => ?_
    simp only [wrap_i64] at h10
    have ph10 := sq_abs (a := n1) (A := 1048576) (by omega) (by omega)
    have h10 : n3 = n1 * n1 := by omega
    refine imp_i fun h11 => ?_
    refine imp_i fun h12 => ?_
    refine all_i fun n4 => ?_
    refine imp_i fun h13 => ?_
    simp only [wrap_i64] at h13
    have h13 : n4 = n2 - n3 := by omega
    refine imp_i fun h14 => ?_
    refine imp_i fun h15 => ?_
    refine all_i fun n5 => ?_
    refine imp_i fun h16 => ?_
    simp only [wrap_i64] at h16
    have ph16 := sq_abs (a := n0) (A := 1048576) (by omega) (by omega)
    have h16 : n5 = n0 * n0 := by omega
    refine imp_i fun h17 => ?_
    refine imp_i fun h18 => ?_
    refine all_i fun n6 => ?_
    refine imp_i fun h19 => ?_
    simp only [wrap_i64] at h19
    have ph19 := sq_abs (a := n1) (A := 1048576) (by omega) (by omega)
    have h19 : n6 = n1 * n1 := by omega
    refine imp_i fun h20 => ?_
    refine imp_i fun h21 => ?_
    refine all_i fun n7 => ?_
    refine imp_i fun h22 => ?_
    simp only [wrap_i64] at h22
    have h22 : n7 = n5 + n6 := by omega
    have t1 : n4 = n0 * n0 - n1 * n1 ∧ n7 = n0 * n0 + n1 * n1 := by omega
    refine imp_i fun h23 => ?_
    refine imp_i fun h24 => ?_
    refine req_i ?_ ?_
    · -- r2
     first | omega | assumption | grind
    refine req_i ?_ ?_
    · -- r3
     first | omega | assumption | grind
    refine req_i ?_ ?_
    · -- r4
     first | omega | assumption | grind
    refine req_i ?_ ?_
    · -- r5
     first | omega | assumption | grind
    refine req_i ?_ ?_
    · -- r6
     first | trivial | assumption | (simp only [sigShare, sharePre, sharePost, List.cons.injEq, DV.b.injEq, and_true, List.length_cons, List.length_nil]; done) | ((try simp only [sigShare, sharePre, sharePost, List.cons.injEq, DV.b.injEq, and_true, List.length_cons, List.length_nil]); first | omega | assumption | grind)
    refine all_i fun n8 => ?_
    refine imp_i fun h25 => ?_
    refine imp_i fun h26 => ?_
    refine imp_i fun h27 => ?_
    try simp only [sigShare, sharePre, sharePost, List.cons.injEq, DV.b.injEq, and_true, List.length_cons, List.length_nil] at h27
    rw [t1.1, t1.2] at h27
    refine req_i ?_ ?_
    · -- r7
     first | omega | assumption | grind
    refine req_i ?_ ?_
    · -- r8
     first | omega | assumption | grind
    refine req_i ?_ ?_
    · -- r9
     first | omega | ((try simp only [sigLock, smpV, lockPost, insd, powr, List.cons.injEq, DV.b.injEq, and_true, List.length_cons, List.length_nil]); first | done | omega | assumption | grind [getD_set, getD_rep, toNat_succ, cntN_yes, cntN_no])
    rfl
theorem ext_Lock : ∀ p ∈ ([(37, Ext.ctr (ctOfG gl11 (sigShare (-4398046511104) 4398046511104)))] : List (Nat × Ext)), ExtRow Tryd.prog p.1 p.2 := by
  intro p hp
  simp only [List.mem_cons, List.not_mem_nil, or_false] at hp
  rcases hp with rfl
  · trivial
theorem cts_Lock : CtsOk Tryd.prog [(37, Ext.ctr (ctOfG gl11 (sigShare (-4398046511104) 4398046511104)))] := ctsOk_ofG (cs := [(37, (sigShare (-4398046511104) 4398046511104))])
  (fun p hp => by
    simp only [List.mem_cons, List.not_mem_nil, or_false] at hp
    rcases hp with rfl
    · exact fn_share
)
  (fun f c h => by
    simp only [List.lookup_cons] at h
    repeat' split at h
    all_goals first | (cases h; done) | (rename_i e; have e := beq_iff_eq.1 e; subst e; cases h; refine ⟨_, ?_, rfl⟩; simp))
theorem fn_Lock : FnOk Tryd.prog 22 sigLock gl11 := fn_sound (by kernel_rfl) ext_Lock cts_Lock names vt_Lock
end Go.Proofs.YtofeleohcpaclaaDoor

namespace Go.Proofs.YtofeleohcpaclaaDoor
open Go.Ev Go.Sp
set_option maxRecDepth 100000
theorem vc_ll : vcFn Tryd.prog [(22, Ext.ctr (ctOfG gl11 sigLock))] noA gl11 100 15 sigLl = (allB fun n0 : Int => 
impB ((-9223372036854775808 : Int) ≤ n0) (
impB (n0 ≤ (9223372036854775807 : Int)) (
allB fun n1 : Int => 
impB ((-9223372036854775808 : Int) ≤ n1) (
impB (n1 ≤ (9223372036854775807 : Int)) (
impB (sigLl.pre [DV.n n0, DV.n n1]) (
reqB ((-9223372036854775808 : Int) ≤ n0) (
reqB (n0 ≤ (9223372036854775807 : Int)) (
reqB ((-9223372036854775808 : Int) ≤ n1) (
reqB (n1 ≤ (9223372036854775807 : Int)) (
reqB (sigLock.pre [DV.n n0, DV.n n1]) (
allB fun n2 : Int => 
impB ((-1024 : Int) ≤ n2) (
impB (n2 ≤ (1024 : Int)) (
allB fun n3 : Int => 
impB ((0 : Int) ≤ n3) (
impB (n3 ≤ (18 : Int)) (
impB (sigLock.post [DV.n n0, DV.n n1] [DV.n n2, DV.n n3]) (
reqB ((-1024 : Int) ≤ n2) (
reqB (n2 ≤ (1024 : Int)) (
reqB (sigLl.post [DV.n n0, DV.n n1] [DV.n n2, DV.b (dec (n3 = (0 : Int)))]) (
true))))))))))))))))))) := by kernel_rfl
set_option maxHeartbeats 8000000 in
theorem vt_ll : vcFn Tryd.prog [(22, Ext.ctr (ctOfG gl11 sigLock))] noA gl11 100 15 sigLl = true := by
  rw [vc_ll]
  try simp only [Int.toNat_natCast, List.length_set, List.length_replicate, List.length_take, List.length_drop, List.length_append, List.length_cons, List.length_nil, Nat.min_self, List.take_take, lenCols_i, lenCols_b, List.drop_zero, List.take_length, Nat.add_eq, Nat.mul_eq, Nat.sub_eq, Nat.zero_add, Nat.sub_zero, Nat.mul_one]
  refine all_i fun n0 => ?_
  refine imp_i fun h0 => ?_
  refine imp_i fun h1 => ?_
  refine all_i fun n1 => ?_
  refine imp_i fun h2 => ?_
  refine imp_i fun h3 => ?_
  refine imp_i fun h4 => ?_
  try simp only [sigLl, okPost, powr, insd, List.cons.injEq, DV.b.injEq, and_true, List.length_cons, List.length_nil] at h4
  refine req_i ?_ ?_
  · -- r0
   first | omega | assumption | grind
  refine req_i ?_ ?_
  · -- r1
   first | omega | assumption | grind
  refine req_i ?_ ?_
  · -- r2
   first | omega | assumption | grind
  refine req_i ?_ ?_
  · -- r3
   first | omega | assumption | grind
  refine req_i ?_ ?_
  · -- r4
   first | trivial | assumption | (simp only [sigLock, smpV, lockPost, insd, powr, List.cons.injEq, DV.b.injEq, and_true, List.length_cons, List.length_nil]; done) | ((try simp only [sigLock, smpV, lockPost, insd, powr, List.cons.injEq, DV.b.injEq, and_true, List.length_cons, List.length_nil]); first | omega | assumption | grind)
  refine all_i fun n2 => ?_
  refine imp_i fun h5 => ?_
  refine imp_i fun h6 => ?_
  refine all_i fun n3 => ?_
  refine imp_i fun h7 => ?_
  refine imp_i fun h8 => ?_
  refine imp_i fun h9 => ?_
  try simp only [Int.toNat_natCast, List.length_set, List.length_replicate, List.length_take, List.length_drop, List.length_append, List.length_cons, List.length_nil, Nat.min_self, List.take_take, lenCols_i, lenCols_b, List.drop_zero, List.take_length, Nat.add_eq, Nat.mul_eq, Nat.sub_eq, Nat.zero_add, Nat.sub_zero, Nat.mul_one] at h9
  refine req_i ?_ ?_
  · -- r5
   first | omega | assumption | grind
  refine req_i ?_ ?_
  · -- r6
   first | omega | assumption | grind
  refine req_i ?_ ?_
  · -- r7
   intro i
   rcases h9 with h | h
   · exact absurd i h.1
   · exact ⟨dec_iff.2 h.2.1, h.2.2⟩
  rfl
theorem ext_ll : ∀ p ∈ ([(22, Ext.ctr (ctOfG gl11 sigLock))] : List (Nat × Ext)), ExtRow Tryd.prog p.1 p.2 := by
  intro p hp
  simp only [List.mem_cons, List.not_mem_nil, or_false] at hp
  rcases hp with rfl
  · trivial
theorem cts_ll : CtsOk Tryd.prog [(22, Ext.ctr (ctOfG gl11 sigLock))] := ctsOk_ofG (cs := [(22, sigLock)])
  (fun p hp => by
    simp only [List.mem_cons, List.not_mem_nil, or_false] at hp
    rcases hp with rfl
    · exact fn_Lock
)
  (fun f c h => by
    simp only [List.lookup_cons] at h
    repeat' split at h
    all_goals first | (cases h; done) | (rename_i e; have e := beq_iff_eq.1 e; subst e; cases h; refine ⟨_, ?_, rfl⟩; simp))
theorem fn_ll : FnOk Tryd.prog 15 sigLl gl11 := fn_sound (by kernel_rfl) ext_ll cts_ll names vt_ll
end Go.Proofs.YtofeleohcpaclaaDoor

namespace Go.Proofs.YtofeleohcpaclaaDoor
open Go.Ev Go.Sp
set_option maxRecDepth 100000
theorem vc_Rate : vcFn Tryd.prog [(62, Ext.ctr (ctOfG gl11 sigFine))] noA gl11 100 13 sigRate = (allB fun n0 : Int => 
impB ((-9223372036854775808 : Int) ≤ n0) (
impB (n0 ≤ (9223372036854775807 : Int)) (
allB fun n1 : Int => 
impB ((-9223372036854775808 : Int) ≤ n1) (
impB (n1 ≤ (9223372036854775807 : Int)) (
allB fun n2 : Int => 
impB ((-9223372036854775808 : Int) ≤ n2) (
impB (n2 ≤ (9223372036854775807 : Int)) (
allB fun n3 : Int => 
impB ((-9223372036854775808 : Int) ≤ n3) (
impB (n3 ≤ (9223372036854775807 : Int)) (
impB (sigRate.pre [DV.n n0, DV.n n1, DV.n n2, DV.n n3]) (
bR (dec (Min.min n0 n1 < (-1048576 : Int))) (
 reqB (sigRate.post [DV.n n0, DV.n n1, DV.n n2, DV.n n3]
 [DV.n (0 : Int), DV.n (2 : Int)]) (
 true)) (
 bR (dec ((1048576 : Int) < Max.max n0 n1)) (
 reqB (sigRate.post [DV.n n0, DV.n n1, DV.n n2, DV.n n3]
 [DV.n (0 : Int), DV.n (2 : Int)]) (
 true)) (
 bR (dec (Min.min n2 n3 < (-1048576 : Int))) (
 reqB (sigRate.post [DV.n n0, DV.n n1, DV.n n2, DV.n n3]
 [DV.n (0 : Int), DV.n (2 : Int)]) (
 true)) (
 bR (dec ((1048576 : Int) < Max.max n2 n3)) (
 reqB (sigRate.post [DV.n n0, DV.n n1, DV.n n2, DV.n n3]
 [DV.n (0 : Int), DV.n (2 : Int)]) (
 true)) (
 bR (bR (bR (false) (
 bR (false) (
 bR (false) (
 bR (false) (
 bR (false) (
 bR (dec (n2 = n2)) (
 bR (dec (n3 = n3)) (
 true) (
 false)) (
 false)) (
 bR (true) (
 bR (dec (n2 = n2)) (
 bR (dec (n3 = n3)) (
 true) (
 false)) (
 false)) (
 bR (bR (dec (n2 = n2)) (
 bR (dec (n3 = n3)) (
 true) (
 false)) (
 false)) (
 bR (dec (n2 = n2)) (
 bR (dec (n3 = n3)) (
 true) (
 false)) (
 false)) (
 false)))) (
 bR (false) (
 bR (false) (
 bR (dec (n2 = n2)) (
 bR (dec (n3 = n3)) (
 true) (
 false)) (
 false)) (
 bR (true) (
 bR (bR (bR (bR (dec (n2 = n2)) (
 bR (dec (n3 = n3)) (
 true) (
 false)) (
 false)) (
 true) (
 false)) (
 true) (
 false)) (
 true) (
 false)) (
 bR (bR (bR (bR (bR (dec (n2 = n2)) (
 bR (dec (n3 = n3)) (
 true) (
 false)) (
 false)) (
 true) (
 false)) (
 true) (
 false)) (
 true) (
 false)) (
 bR (dec (n2 = n2)) (
 bR (dec (n3 = n3)) (
 true) (
 false)) (
 false)) (
 false)))) (
 bR (false) (
 bR (dec (n2 = n2)) (
 bR (dec (n3 = n3)) (
 true) (
 false)) (
 false)) (
 bR (true) (
 bR (bR (bR (bR (bR (dec (n2 = n2)) (
 bR (dec (n3 = n3)) (
 true) (
 false)) (
 false)) (
 true) (
 false)) (
 true) (
 false)) (
 true) (
 false)) (
 bR (dec (n2 = n2)) (
 bR (dec (n3 = n3)) (
 true) (
 false)) (
 false)) (
 false)) (
 bR (bR (bR (bR (bR (bR (dec (n2 = n2)) (
 bR (dec (n3 = n3)) (
 true) (
 false)) (
 false)) (
 true) (
 false)) (
 true) (
 false)) (
 true) (
 false)) (
 bR (dec (n2 = n2)) (
 bR (dec (n3 = n3)) (
 true) (
 false)) (
 false)) (
 false)) (
 bR (dec (n2 = n2)) (
 bR (dec (n3 = n3)) (
 true) (
 false)) (
 false)) (
 false)))))) (
 bR (false) (
 bR (false) (
 bR (dec (n2 = n2)) (
 bR (dec (n3 = n3)) (
 true) (
 false)) (
 false)) (
 bR (true) (
 bR (dec (n2 = n2)) (
 bR (dec (n3 = n3)) (
 true) (
 false)) (
 false)) (
 bR (bR (dec (n2 = n2)) (
 bR (dec (n3 = n3)) (
 true) (
 false)) (
 false)) (
 bR (dec (n2 = n2)) (
 bR (dec (n3 = n3)) (
 true) (
 false)) (
 false)) (
 false)))) (
 bR (false) (
 bR (false) (
 bR (dec (n2 = n2)) (
 bR (dec (n3 = n3)) (
 true) (
 false)) (
 false)) (
 bR (true) (
 bR (bR (bR (dec (n2 = n2)) (
 bR (dec (n3 = n3)) (
 true) (
 false)) (
 false)) (
 true) (
 false)) (
 true) (
 false)) (
 bR (bR (bR (bR (dec (n2 = n2)) (
 bR (dec (n3 = n3)) (
 true) (
 false)) (
 false)) (
 true) (
 false)) (
 true) (
 false)) (
 bR (dec (n2 = n2)) (
 bR (dec (n3 = n3)) (
 true) (
 false)) (
 false)) (
 false)))) (
 bR (false) (
 bR (dec (n2 = n2)) (
 bR (dec (n3 = n3)) (
 true) (
 false)) (
 false)) (
 bR (true) (
 bR (bR (bR (bR (dec (n2 = n2)) (
 bR (dec (n3 = n3)) (
 true) (
 false)) (
 false)) (
 true) (
 false)) (
 true) (
 false)) (
 bR (dec (n2 = n2)) (
 bR (dec (n3 = n3)) (
 true) (
 false)) (
 false)) (
 false)) (
 bR (bR (bR (bR (bR (dec (n2 = n2)) (
 bR (dec (n3 = n3)) (
 true) (
 false)) (
 false)) (
 true) (
 false)) (
 true) (
 false)) (
 bR (dec (n2 = n2)) (
 bR (dec (n3 = n3)) (
 true) (
 false)) (
 false)) (
 false)) (
 bR (dec (n2 = n2)) (
 bR (dec (n3 = n3)) (
 true) (
 false)) (
 false)) (
 false))))))) (
 bR (false) (
 bR (false) (
 bR (false) (
 bR (dec (n2 = n2)) (
 bR (dec (n3 = n3)) (
 true) (
 false)) (
 false)) (
 bR (true) (
 bR (dec (n2 = n2)) (
 bR (dec (n3 = n3)) (
 true) (
 false)) (
 false)) (
 bR (bR (dec (n2 = n2)) (
 bR (dec (n3 = n3)) (
 true) (
 false)) (
 false)) (
 bR (dec (n2 = n2)) (
 bR (dec (n3 = n3)) (
 true) (
 false)) (
 false)) (
 false)))) (
 bR (false) (
 bR (false) (
 bR (dec (n2 = n2)) (
 bR (dec (n3 = n3)) (
 true) (
 false)) (
 false)) (
 bR (true) (
 bR (bR (bR (dec (n2 = n2)) (
 bR (dec (n3 = n3)) (
 true) (
 false)) (
 false)) (
 true) (
 false)) (
 true) (
 false)) (
 bR (bR (bR (bR (dec (n2 = n2)) (
 bR (dec (n3 = n3)) (
 true) (
 false)) (
 false)) (
 true) (
 false)) (
 true) (
 false)) (
 bR (dec (n2 = n2)) (
 bR (dec (n3 = n3)) (
 true) (
 false)) (
 false)) (
 false)))) (
 bR (false) (
 bR (dec (n2 = n2)) (
 bR (dec (n3 = n3)) (
 true) (
 false)) (
 false)) (
 bR (true) (
 bR (bR (bR (bR (dec (n2 = n2)) (
 bR (dec (n3 = n3)) (
 true) (
 false)) (
 false)) (
 true) (
 false)) (
 true) (
 false)) (
 bR (dec (n2 = n2)) (
 bR (dec (n3 = n3)) (
 true) (
 false)) (
 false)) (
 false)) (
 bR (bR (bR (bR (bR (dec (n2 = n2)) (
 bR (dec (n3 = n3)) (
 true) (
 false)) (
 false)) (
 true) (
 false)) (
 true) (
 false)) (
 bR (dec (n2 = n2)) (
 bR (dec (n3 = n3)) (
 true) (
 false)) (
 false)) (
 false)) (
 bR (dec (n2 = n2)) (
 bR (dec (n3 = n3)) (
 true) (
 false)) (
 false)) (
 false)))))) (
 bR (false) (
 bR (false) (
 bR (dec (n2 = n2)) (
 bR (dec (n3 = n3)) (
 true) (
 false)) (
 false)) (
 bR (true) (
 bR (dec (n2 = n2)) (
 bR (dec (n3 = n3)) (
 true) (
 false)) (
 false)) (
 bR (bR (dec (n2 = n2)) (
 bR (dec (n3 = n3)) (
 true) (
 false)) (
 false)) (
 bR (dec (n2 = n2)) (
 bR (dec (n3 = n3)) (
 true) (
 false)) (
 false)) (
 false)))) (
 bR (false) (
 bR (false) (
 bR (dec (n2 = n2)) (
 bR (dec (n3 = n3)) (
 true) (
 false)) (
 false)) (
 bR (true) (
 bR (bR (dec (n2 = n2)) (
 bR (dec (n3 = n3)) (
 true) (
 false)) (
 false)) (
 true) (
 false)) (
 bR (bR (bR (dec (n2 = n2)) (
 bR (dec (n3 = n3)) (
 true) (
 false)) (
 false)) (
 true) (
 false)) (
 bR (dec (n2 = n2)) (
 bR (dec (n3 = n3)) (
 true) (
 false)) (
 false)) (
 false)))) (
 bR (false) (
 bR (dec (n2 = n2)) (
 bR (dec (n3 = n3)) (
 true) (
 false)) (
 false)) (
 bR (true) (
 bR (bR (bR (dec (n2 = n2)) (
 bR (dec (n3 = n3)) (
 true) (
 false)) (
 false)) (
 true) (
 false)) (
 bR (dec (n2 = n2)) (
 bR (dec (n3 = n3)) (
 true) (
 false)) (
 false)) (
 false)) (
 bR (bR (bR (bR (dec (n2 = n2)) (
 bR (dec (n3 = n3)) (
 true) (
 false)) (
 false)) (
 true) (
 false)) (
 bR (dec (n2 = n2)) (
 bR (dec (n3 = n3)) (
 true) (
 false)) (
 false)) (
 false)) (
 bR (dec (n2 = n2)) (
 bR (dec (n3 = n3)) (
 true) (
 false)) (
 false)) (
 false)))))))) (
 bR (false) (
 bR (false) (
 bR (false) (
 bR (false) (
 bR (dec (n2 = n2)) (
 bR (dec (n3 = n3)) (
 true) (
 false)) (
 false)) (
 bR (true) (
 bR (dec (n2 = n2)) (
 bR (dec (n3 = n3)) (
 true) (
 false)) (
 false)) (
 bR (bR (dec (n2 = n2)) (
 bR (dec (n3 = n3)) (
 true) (
 false)) (
 false)) (
 bR (dec (n2 = n2)) (
 bR (dec (n3 = n3)) (
 true) (
 false)) (
 false)) (
 false)))) (
 bR (false) (
 bR (false) (
 bR (dec (n2 = n2)) (
 bR (dec (n3 = n3)) (
 true) (
 false)) (
 false)) (
 bR (true) (
 bR (bR (bR (dec (n2 = n2)) (
 bR (dec (n3 = n3)) (
 true) (
 false)) (
 false)) (
 true) (
 false)) (
 true) (
 false)) (
 bR (bR (bR (bR (dec (n2 = n2)) (
 bR (dec (n3 = n3)) (
 true) (
 false)) (
 false)) (
 true) (
 false)) (
 true) (
 false)) (
 bR (dec (n2 = n2)) (
 bR (dec (n3 = n3)) (
 true) (
 false)) (
 false)) (
 false)))) (
 bR (false) (
 bR (dec (n2 = n2)) (
 bR (dec (n3 = n3)) (
 true) (
 false)) (
 false)) (
 bR (true) (
 bR (bR (bR (bR (dec (n2 = n2)) (
 bR (dec (n3 = n3)) (
 true) (
 false)) (
 false)) (
 true) (
 false)) (
 true) (
 false)) (
 bR (dec (n2 = n2)) (
 bR (dec (n3 = n3)) (
 true) (
 false)) (
 false)) (
 false)) (
 bR (bR (bR (bR (bR (dec (n2 = n2)) (
 bR (dec (n3 = n3)) (
 true) (
 false)) (
 false)) (
 true) (
 false)) (
 true) (
 false)) (
 bR (dec (n2 = n2)) (
 bR (dec (n3 = n3)) (
 true) (
 false)) (
 false)) (
 false)) (
 bR (dec (n2 = n2)) (
 bR (dec (n3 = n3)) (
 true) (
 false)) (
 false)) (
 false)))))) (
 bR (false) (
 bR (false) (
 bR (dec (n2 = n2)) (
 bR (dec (n3 = n3)) (
 true) (
 false)) (
 false)) (
 bR (true) (
 bR (dec (n2 = n2)) (
 bR (dec (n3 = n3)) (
 true) (
 false)) (
 false)) (
 bR (bR (dec (n2 = n2)) (
 bR (dec (n3 = n3)) (
 true) (
 false)) (
 false)) (
 bR (dec (n2 = n2)) (
 bR (dec (n3 = n3)) (
 true) (
 false)) (
 false)) (
 false)))) (
 bR (false) (
 bR (false) (
 bR (dec (n2 = n2)) (
 bR (dec (n3 = n3)) (
 true) (
 false)) (
 false)) (
 bR (true) (
 bR (bR (dec (n2 = n2)) (
 bR (dec (n3 = n3)) (
 true) (
 false)) (
 false)) (
 true) (
 false)) (
 bR (bR (bR (dec (n2 = n2)) (
 bR (dec (n3 = n3)) (
 true) (
 false)) (
 false)) (
 true) (
 false)) (
 bR (dec (n2 = n2)) (
 bR (dec (n3 = n3)) (
 true) (
 false)) (
 false)) (
 false)))) (
 bR (false) (
 bR (dec (n2 = n2)) (
 bR (dec (n3 = n3)) (
 true) (
 false)) (
 false)) (
 bR (true) (
 bR (bR (bR (dec (n2 = n2)) (
 bR (dec (n3 = n3)) (
 true) (
 false)) (
 false)) (
 true) (
 false)) (
 bR (dec (n2 = n2)) (
 bR (dec (n3 = n3)) (
 true) (
 false)) (
 false)) (
 false)) (
 bR (bR (bR (bR (dec (n2 = n2)) (
 bR (dec (n3 = n3)) (
 true) (
 false)) (
 false)) (
 true) (
 false)) (
 bR (dec (n2 = n2)) (
 bR (dec (n3 = n3)) (
 true) (
 false)) (
 false)) (
 false)) (
 bR (dec (n2 = n2)) (
 bR (dec (n3 = n3)) (
 true) (
 false)) (
 false)) (
 false))))))) (
 bR (false) (
 bR (false) (
 bR (false) (
 bR (dec (n2 = n2)) (
 bR (dec (n3 = n3)) (
 true) (
 false)) (
 false)) (
 bR (true) (
 bR (dec (n2 = n2)) (
 bR (dec (n3 = n3)) (
 true) (
 false)) (
 false)) (
 bR (bR (dec (n2 = n2)) (
 bR (dec (n3 = n3)) (
 true) (
 false)) (
 false)) (
 bR (dec (n2 = n2)) (
 bR (dec (n3 = n3)) (
 true) (
 false)) (
 false)) (
 false)))) (
 bR (false) (
 bR (false) (
 bR (dec (n2 = n2)) (
 bR (dec (n3 = n3)) (
 true) (
 false)) (
 false)) (
 bR (true) (
 bR (bR (dec (n2 = n2)) (
 bR (dec (n3 = n3)) (
 true) (
 false)) (
 false)) (
 true) (
 false)) (
 bR (bR (bR (dec (n2 = n2)) (
 bR (dec (n3 = n3)) (
 true) (
 false)) (
 false)) (
 true) (
 false)) (
 bR (dec (n2 = n2)) (
 bR (dec (n3 = n3)) (
 true) (
 false)) (
 false)) (
 false)))) (
 bR (false) (
 bR (dec (n2 = n2)) (
 bR (dec (n3 = n3)) (
 true) (
 false)) (
 false)) (
 bR (true) (
 bR (bR (bR (dec (n2 = n2)) (
 bR (dec (n3 = n3)) (
 true) (
 false)) (
 false)) (
 true) (
 false)) (
 bR (dec (n2 = n2)) (
 bR (dec (n3 = n3)) (
 true) (
 false)) (
 false)) (
 false)) (
 bR (bR (bR (bR (dec (n2 = n2)) (
 bR (dec (n3 = n3)) (
 true) (
 false)) (
 false)) (
 true) (
 false)) (
 bR (dec (n2 = n2)) (
 bR (dec (n3 = n3)) (
 true) (
 false)) (
 false)) (
 false)) (
 bR (dec (n2 = n2)) (
 bR (dec (n3 = n3)) (
 true) (
 false)) (
 false)) (
 false)))))) (
 bR (false) (
 bR (false) (
 bR (dec (n2 = n2)) (
 bR (dec (n3 = n3)) (
 true) (
 false)) (
 false)) (
 bR (true) (
 bR (dec (n2 = n2)) (
 bR (dec (n3 = n3)) (
 true) (
 false)) (
 false)) (
 bR (bR (dec (n2 = n2)) (
 bR (dec (n3 = n3)) (
 true) (
 false)) (
 false)) (
 bR (dec (n2 = n2)) (
 bR (dec (n3 = n3)) (
 true) (
 false)) (
 false)) (
 false)))) (
 bR (false) (
 bR (false) (
 bR (dec (n2 = n2)) (
 bR (dec (n3 = n3)) (
 true) (
 false)) (
 false)) (
 bR (true) (
 bR (dec (n2 = n2)) (
 bR (dec (n3 = n3)) (
 true) (
 false)) (
 false)) (
 bR (bR (dec (n2 = n2)) (
 bR (dec (n3 = n3)) (
 true) (
 false)) (
 false)) (
 bR (dec (n2 = n2)) (
 bR (dec (n3 = n3)) (
 true) (
 false)) (
 false)) (
 false)))) (
 bR (false) (
 bR (dec (n2 = n2)) (
 bR (dec (n3 = n3)) (
 true) (
 false)) (
 false)) (
 bR (true) (
 bR (bR (dec (n2 = n2)) (
 bR (dec (n3 = n3)) (
 true) (
 false)) (
 false)) (
 bR (dec (n2 = n2)) (
 bR (dec (n3 = n3)) (
 true) (
 false)) (
 false)) (
 false)) (
 bR (bR (bR (dec (n2 = n2)) (
 bR (dec (n3 = n3)) (
 true) (
 false)) (
 false)) (
 bR (dec (n2 = n2)) (
 bR (dec (n3 = n3)) (
 true) (
 false)) (
 false)) (
 false)) (
 bR (dec (n2 = n2)) (
 bR (dec (n3 = n3)) (
 true) (
 false)) (
 false)) (
 false))))))))) (
 true) (
 false)) (
 allB fun n4 : Int => 
 impB (n4 = Go.IntKind.i64.wrap (n2 * n0)) (
 impB (Int.negSucc (9223372036854775807 : Nat) ≤ n4) (
 impB (n4 ≤ Int.ofNat (9223372036854775807 : Nat)) (
 allB fun n5 : Int => 
 impB (n5 = Go.IntKind.i64.wrap (n3 * n1)) (
 impB (Int.negSucc (9223372036854775807 : Nat) ≤ n5) (
 impB (n5 ≤ Int.ofNat (9223372036854775807 : Nat)) (
 allB fun n6 : Int => 
 impB (n6 = Go.IntKind.i64.wrap (n4 + n5)) (
 impB (Int.negSucc (9223372036854775807 : Nat) ≤ n6) (
 impB (n6 ≤ Int.ofNat (9223372036854775807 : Nat)) (
 allB fun n7 : Int => 
 impB (n7 = Go.IntKind.i64.wrap (n3 * n0)) (
 impB (Int.negSucc (9223372036854775807 : Nat) ≤ n7) (
 impB (n7 ≤ Int.ofNat (9223372036854775807 : Nat)) (
 allB fun n8 : Int => 
 impB (n8 = Go.IntKind.i64.wrap (n2 * n1)) (
 impB (Int.negSucc (9223372036854775807 : Nat) ≤ n8) (
 impB (n8 ≤ Int.ofNat (9223372036854775807 : Nat)) (
 allB fun n9 : Int => 
 impB (n9 = Go.IntKind.i64.wrap (n7 - n8)) (
 impB (Int.negSucc (9223372036854775807 : Nat) ≤ n9) (
 impB (n9 ≤ Int.ofNat (9223372036854775807 : Nat)) (
 reqB ((-9223372036854775808 : Int) ≤ n6) (
 reqB (n6 ≤ (9223372036854775807 : Int)) (
 reqB ((-9223372036854775808 : Int) ≤ n9) (
 reqB (n9 ≤ (9223372036854775807 : Int)) (
 reqB (sigFine.pre [DV.n n6, DV.n n9]) (
 allB fun n10 : Int => 
 impB ((0 : Int) ≤ n10) (
 impB (n10 ≤ (4095 : Int)) (
 allB fun n11 : Int => 
 impB ((0 : Int) ≤ n11) (
 impB (n11 ≤ (18 : Int)) (
 impB (sigFine.post [DV.n n6, DV.n n9] [DV.n n10, DV.n n11]) (
 reqB ((-2048 : Int) ≤ (n10 + Int.ofNat (2048 : Nat)).tmod (4096 : Int) - Int.ofNat (2048 : Nat)) (
 reqB ((n10 + Int.ofNat (2048 : Nat)).tmod (4096 : Int) - Int.ofNat (2048 : Nat) ≤ (2047 : Int)) (
 reqB (sigRate.post [DV.n n0, DV.n n1, DV.n n2, DV.n n3]
 [DV.n ((n10 + Int.ofNat (2048 : Nat)).tmod (4096 : Int) - Int.ofNat (2048 : Nat)), DV.n (0 : Int)]) (
 true)))))))))))))))))))))))))))))))) (
 false))))))))))))))) := by kernel_rfl
set_option maxHeartbeats 8000000 in
theorem vt_Rate : vcFn Tryd.prog [(62, Ext.ctr (ctOfG gl11 sigFine))] noA gl11 100 13 sigRate = true := by
  rw [vc_Rate]
  try simp only [Int.toNat_natCast, List.length_set, List.length_replicate, List.length_take, List.length_drop, List.length_append, List.length_cons, List.length_nil, Nat.min_self, List.take_take, lenCols_i, lenCols_b, List.drop_zero, List.take_length, Nat.add_eq, Nat.mul_eq, Nat.sub_eq, Nat.zero_add, Nat.sub_zero, Nat.mul_one]
  refine all_i fun n0 => ?_
  refine imp_i fun h0 => ?_
  refine imp_i fun h1 => ?_
  refine all_i fun n1 => ?_
  refine imp_i fun h2 => ?_
  refine imp_i fun h3 => ?_
  refine all_i fun n2 => ?_
  refine imp_i fun h4 => ?_
  refine imp_i fun h5 => ?_
  refine all_i fun n3 => ?_
  refine imp_i fun h6 => ?_
  refine imp_i fun h7 => ?_
  refine imp_i fun h8 => ?_
  try simp only [sigRate, smpV, ratePost, insd, cen, tI, tQ, List.cons.injEq, DV.b.injEq, and_true, List.length_cons, List.length_nil] at h8
  refine bR_dec (fun h9 => ?_) (fun h9 => ?_)
  ·
   refine req_i ?_ ?_
   · -- r0
    first | omega | ((try simp only [sigRate, smpV, ratePost, insd, cen, tI, tQ, List.cons.injEq, DV.b.injEq, and_true, List.length_cons, List.length_nil]); first | done | omega | assumption | grind [getD_set, getD_rep, toNat_succ, cntN_yes, cntN_no])
   rfl
  ·
   refine bR_dec (fun h10 => ?_) (fun h10 => ?_)
   ·
    refine req_i ?_ ?_
    · -- r1
     first | omega | ((try simp only [sigRate, smpV, ratePost, insd, cen, tI, tQ, List.cons.injEq, DV.b.injEq, and_true, List.length_cons, List.length_nil]); first | done | omega | assumption | grind [getD_set, getD_rep, toNat_succ, cntN_yes, cntN_no])
    rfl
   ·
    refine bR_dec (fun h11 => ?_) (fun h11 => ?_)
    ·
     refine req_i ?_ ?_
     · -- r2
      first | omega | ((try simp only [sigRate, smpV, ratePost, insd, cen, tI, tQ, List.cons.injEq, DV.b.injEq, and_true, List.length_cons, List.length_nil]); first | done | omega | assumption | grind [getD_set, getD_rep, toNat_succ, cntN_yes, cntN_no])
     rfl
    ·
     refine bR_dec (fun h12 => ?_) (fun h12 => ?_)
     ·
      refine req_i ?_ ?_
      · -- r3
       first | omega | ((try simp only [sigRate, smpV, ratePost, insd, cen, tI, tQ, List.cons.injEq, DV.b.injEq, and_true, List.length_cons, List.length_nil]); first | done | omega | assumption | grind [getD_set, getD_rep, toNat_succ, cntN_yes, cntN_no])
      rfl
     ·
      have i1 : insd n0 n1 := by unfold insd; omega
      have i2 : insd n2 n3 := by unfold insd; omega
      refine bR_t ?_ ?_
      · -- g0
       first | rfl | (simp only [bR_iff, bR_iff_f, dec_iff, dec_f, beqB_iff', andB_iff', reduceCtorEq, imp_self, false_implies, and_true, true_and, implies_true, and_self]; done) | (simp [bR_iff, dec_iff, beqB_iff', andB_iff']; done) | (simp [bR_iff, dec_iff, beqB_iff', andB_iff']; omega)
      refine all_i fun n4 => ?_
      refine imp_i fun h13 => ?_
      simp only [wrap_i64] at h13
      have ph13 := mul_abs (a := n2) (b := n0) (A := 1048576) (B := 1048576) (by omega) (by omega) (by omega) (by omega)
      have h13 : n4 = n2 * n0 := by omega
      refine imp_i fun h14 => ?_
      refine imp_i fun h15 => ?_
      refine all_i fun n5 => ?_
      refine imp_i fun h16 => ?_
      simp only [wrap_i64] at h16
      have ph16 := mul_abs (a := n3) (b := n1) (A := 1048576) (B := 1048576) (by omega) (by omega) (by omega) (by omega)
      have h16 : n5 = n3 * n1 := by omega
      refine imp_i fun h17 => ?_
      refine imp_i fun h18 => ?_
      refine all_i fun n6 => ?_
      refine imp_i fun h19 => ?_
      simp only [wrap_i64] at h19
      have h19 : n6 = n4 + n5 := by omega
      refine imp_i fun h20 => ?_
      refine imp_i fun h21 => ?_
      refine all_i fun n7 => ?_
      refine imp_i fun h22 => ?_
      simp only [wrap_i64] at h22
      have ph22 := mul_abs (a := n3) (b := n0) (A := 1048576) (B := 1048576) (by omega) (by omega) (by omega) (by omega)
      have h22 : n7 = n3 * n0 := by omega
      refine imp_i fun h23 => ?_
      refine imp_i fun h24 => ?_
      refine all_i fun n8 => ?_
      refine imp_i fun h25 => ?_
      simp only [wrap_i64] at h25
      have ph25 := mul_abs (a := n2) (b := n1) (A := 1048576) (B := 1048576) (by omega) (by omega) (by omega) (by omega)
      have h25 : n8 = n2 * n1 := by omega
      refine imp_i fun h26 => ?_
      refine imp_i fun h27 => ?_
      refine all_i fun n9 => ?_
      refine imp_i fun h28 => ?_
      simp only [wrap_i64] at h28
      have h28 : n9 = n7 - n8 := by omega
      have t1 : n6 = n2 * n0 + n3 * n1 := by omega
      have t2 : n9 = n3 * n0 - n2 * n1 := by omega
      refine imp_i fun h29 => ?_
      refine imp_i fun h30 => ?_
      refine req_i ?_ ?_
      · -- r4
       first | omega | assumption | grind
      refine req_i ?_ ?_
      · -- r5
       first | omega | assumption | grind
      refine req_i ?_ ?_
      · -- r6
       first | omega | assumption | grind
      refine req_i ?_ ?_
      · -- r7
       first | omega | assumption | grind
      refine req_i ?_ ?_
      · -- r8
       first | trivial | assumption | (simp only [sigFine, smpV, finePost, sml, List.cons.injEq, DV.b.injEq, and_true, List.length_cons, List.length_nil]; done) | ((try simp only [sigFine, smpV, finePost, sml, List.cons.injEq, DV.b.injEq, and_true, List.length_cons, List.length_nil]); first | omega | assumption | grind)
      refine all_i fun n10 => ?_
      refine imp_i fun h31 => ?_
      refine imp_i fun h32 => ?_
      refine all_i fun n11 => ?_
      refine imp_i fun h33 => ?_
      refine imp_i fun h34 => ?_
      refine imp_i fun h35 => ?_
      try simp only [sigFine, smpV, finePost, sml, List.cons.injEq, DV.b.injEq, and_true, List.length_cons, List.length_nil] at h35
      rw [t1, t2] at h35
      have tm := tmod_nn (a := n10 + 2048) (b := 4096) (by omega)
      try simp only [show Int.ofNat 2048 = 2048 from rfl, show Int.ofNat 4096 = 4096 from rfl]
      rw [tm]
      have f1 : n10 = fineOf (n2 * n0 + n3 * n1) (n3 * n0 - n2 * n1) := by omega
      refine req_i ?_ ?_
      · -- r9
       first | omega | assumption | grind
      refine req_i ?_ ?_
      · -- r10
       first | omega | assumption | grind
      refine req_i ?_ ?_
      · -- r11
       exact .inr ⟨⟨i1, i2⟩, rfl, by simp only [cen, tI, tQ]; omega⟩
      rfl
theorem ext_Rate : ∀ p ∈ ([(62, Ext.ctr (ctOfG gl11 sigFine))] : List (Nat × Ext)), ExtRow Tryd.prog p.1 p.2 := by
  intro p hp
  simp only [List.mem_cons, List.not_mem_nil, or_false] at hp
  rcases hp with rfl
  · trivial
theorem cts_Rate : CtsOk Tryd.prog [(62, Ext.ctr (ctOfG gl11 sigFine))] := ctsOk_ofG (cs := [(62, sigFine)])
  (fun p hp => by
    simp only [List.mem_cons, List.not_mem_nil, or_false] at hp
    rcases hp with rfl
    · exact fn_Fine
)
  (fun f c h => by
    simp only [List.lookup_cons] at h
    repeat' split at h
    all_goals first | (cases h; done) | (rename_i e; have e := beq_iff_eq.1 e; subst e; cases h; refine ⟨_, ?_, rfl⟩; simp))
theorem fn_Rate : FnOk Tryd.prog 13 sigRate gl11 := fn_sound (by kernel_rfl) ext_Rate cts_Rate names vt_Rate
end Go.Proofs.YtofeleohcpaclaaDoor

namespace Go.Proofs.YtofeleohcpaclaaDoor
open Go.Ev Go.Sp
set_option maxRecDepth 100000
theorem vc_DiscrAngles : vcFn Tryd.prog [(3, Ext.ctr (ctOfG gl11 sigTrue0)), (28, Ext.ctr (ctOfG gl11 sigPick)), (27, Ext.ctr (ctOfG gl11 sigSum)), (10, Ext.ctr (ctOfG gl11 sigFl)), (11, Ext.ctr (ctOfG gl11 sigHl)), (15, Ext.ctr (ctOfG gl11 sigLl)), (13, Ext.ctr (ctOfG gl11 sigRate))] noA gl11 100 7 sigI2 = (allB fun n0 : Int => 
impB ((-9223372036854775808 : Int) ≤ n0) (
impB (n0 ≤ (9223372036854775807 : Int)) (
allB fun n1 : Int => 
impB ((-9223372036854775808 : Int) ≤ n1) (
impB (n1 ≤ (9223372036854775807 : Int)) (
impB (sigI2.pre [DV.n n0, DV.n n1]) (
reqB (sigTrue0.pre []) (
allB fun b2 : Bool => 
impB (sigTrue0.post [] [DV.b b2]) (
reqB ((-9223372036854775808 : Int) ≤ n0) (
reqB (n0 ≤ (9223372036854775807 : Int)) (
reqB (sigSum.pre [DV.n n0]) (
allB fun n3 : Int => 
impB ((-500 : Int) ≤ n3) (
impB (n3 ≤ (500 : Int)) (
allB fun n4 : Int => 
impB ((-500 : Int) ≤ n4) (
impB (n4 ≤ (500 : Int)) (
impB (sigSum.post [DV.n n0] [DV.n n3, DV.n n4]) (
reqB ((-9223372036854775808 : Int) ≤ n1) (
reqB (n1 ≤ (9223372036854775807 : Int)) (
reqB (sigSum.pre [DV.n n1]) (
allB fun n5 : Int => 
impB ((-500 : Int) ≤ n5) (
impB (n5 ≤ (500 : Int)) (
allB fun n6 : Int => 
impB ((-500 : Int) ≤ n6) (
impB (n6 ≤ (500 : Int)) (
impB (sigSum.post [DV.n n1] [DV.n n5, DV.n n6]) (
bR (bR (dec (n3 = (0 : Int))) (
 bR (dec (n4 = (0 : Int))) (
 true) (
 false)) (
 false)) (
 reqB (sigI2.post [DV.n n0, DV.n n1] [DV.b b2]) (
 true)) (
 bR (bR (dec (n5 = (0 : Int))) (
 bR (dec (n6 = (0 : Int))) (
 true) (
 false)) (
 false)) (
 reqB (sigI2.post [DV.n n0, DV.n n1] [DV.b b2]) (
 true)) (
 reqB ((-9223372036854775808 : Int) ≤ n3) (
 reqB (n3 ≤ (9223372036854775807 : Int)) (
 reqB ((-9223372036854775808 : Int) ≤ n4) (
 reqB (n4 ≤ (9223372036854775807 : Int)) (
 reqB (sigFl.pre [DV.n n3, DV.n n4]) (
 allB fun n7 : Int => 
 impB ((-2048 : Int) ≤ n7) (
 impB (n7 ≤ (2047 : Int)) (
 allB fun b8 : Bool => 
 impB (sigFl.post [DV.n n3, DV.n n4] [DV.n n7, DV.b b8]) (
 reqB ((-9223372036854775808 : Int) ≤ (0 : Int) - n4) (
 reqB ((0 : Int) - n4 ≤ (9223372036854775807 : Int)) (
 reqB ((-9223372036854775808 : Int) ≤ n3) (
 reqB (n3 ≤ (9223372036854775807 : Int)) (
 reqB (sigFl.pre [DV.n ((0 : Int) - n4), DV.n n3]) (
 allB fun n9 : Int => 
 impB ((-2048 : Int) ≤ n9) (
 impB (n9 ≤ (2047 : Int)) (
 allB fun b10 : Bool => 
 impB (sigFl.post [DV.n ((0 : Int) - n4), DV.n n3] [DV.n n9, DV.b b10]) (
 reqB ((-9223372036854775808 : Int) ≤ n3) (
 reqB (n3 ≤ (9223372036854775807 : Int)) (
 reqB ((-9223372036854775808 : Int) ≤ n4) (
 reqB (n4 ≤ (9223372036854775807 : Int)) (
 reqB (sigHl.pre [DV.n n3, DV.n n4]) (
 allB fun n11 : Int => 
 impB ((-1024 : Int) ≤ n11) (
 impB (n11 ≤ (1023 : Int)) (
 allB fun b12 : Bool => 
 impB (sigHl.post [DV.n n3, DV.n n4] [DV.n n11, DV.b b12]) (
 reqB ((-9223372036854775808 : Int) ≤ (0 : Int) - n3) (
 reqB ((0 : Int) - n3 ≤ (9223372036854775807 : Int)) (
 reqB ((-9223372036854775808 : Int) ≤ (0 : Int) - n4) (
 reqB ((0 : Int) - n4 ≤ (9223372036854775807 : Int)) (
 reqB (sigHl.pre [DV.n ((0 : Int) - n3), DV.n ((0 : Int) - n4)]) (
 allB fun n13 : Int => 
 impB ((-1024 : Int) ≤ n13) (
 impB (n13 ≤ (1023 : Int)) (
 allB fun b14 : Bool => 
 impB (sigHl.post [DV.n ((0 : Int) - n3), DV.n ((0 : Int) - n4)] [DV.n n13, DV.b b14]) (
 reqB ((-9223372036854775808 : Int) ≤ n3) (
 reqB (n3 ≤ (9223372036854775807 : Int)) (
 reqB ((-9223372036854775808 : Int) ≤ n4) (
 reqB (n4 ≤ (9223372036854775807 : Int)) (
 reqB (sigLl.pre [DV.n n3, DV.n n4]) (
 allB fun n15 : Int => 
 impB ((-1024 : Int) ≤ n15) (
 impB (n15 ≤ (1024 : Int)) (
 allB fun b16 : Bool => 
 impB (sigLl.post [DV.n n3, DV.n n4] [DV.n n15, DV.b b16]) (
 reqB ((-9223372036854775808 : Int) ≤ (0 : Int) - n4) (
 reqB ((0 : Int) - n4 ≤ (9223372036854775807 : Int)) (
 reqB ((-9223372036854775808 : Int) ≤ n3) (
 reqB (n3 ≤ (9223372036854775807 : Int)) (
 reqB (sigLl.pre [DV.n ((0 : Int) - n4), DV.n n3]) (
 allB fun n17 : Int => 
 impB ((-1024 : Int) ≤ n17) (
 impB (n17 ≤ (1024 : Int)) (
 allB fun b18 : Bool => 
 impB (sigLl.post [DV.n ((0 : Int) - n4), DV.n n3] [DV.n n17, DV.b b18]) (
 bR (bR (b8) (
 false) (
 true)) (
 reqB (sigI2.post [DV.n n0, DV.n n1] [DV.b Bool.false]) (
 true)) (
 bR (bR (b10) (
 false) (
 true)) (
 reqB (sigI2.post [DV.n n0, DV.n n1] [DV.b Bool.false]) (
 true)) (
 bR (bR (b12) (
 false) (
 true)) (
 reqB (sigI2.post [DV.n n0, DV.n n1] [DV.b Bool.false]) (
 true)) (
 bR (bR (b14) (
 false) (
 true)) (
 reqB (sigI2.post [DV.n n0, DV.n n1] [DV.b Bool.false]) (
 true)) (
 bR (bR (b16) (
 false) (
 true)) (
 reqB (sigI2.post [DV.n n0, DV.n n1] [DV.b Bool.false]) (
 true)) (
 bR (bR (b18) (
 false) (
 true)) (
 reqB (sigI2.post [DV.n n0, DV.n n1] [DV.b Bool.false]) (
 true)) (
 reqB ((-9223372036854775808 : Int) ≤ n9 - n7 - (1024 : Int)) (
 reqB (n9 - n7 - (1024 : Int) ≤ (9223372036854775807 : Int)) (
 reqB (sigPick.pre [DV.n (n9 - n7 - (1024 : Int)), DV.n (4096 : Int)]) (
 allB fun n19 : Int => 
 impB ((0 : Int) ≤ n19) (
 impB (n19 ≤ (4503599627370496 : Int)) (
 impB (sigPick.post [DV.n (n9 - n7 - (1024 : Int)), DV.n (4096 : Int)] [DV.n n19]) (
 bR (dec (n19 ≠ (0 : Int))) (
 reqB (sigI2.post [DV.n n0, DV.n n1] [DV.b Bool.false]) (
 true)) (
 bR (dec (n11 ≠ n13)) (
 reqB (sigI2.post [DV.n n0, DV.n n1] [DV.b Bool.false]) (
 true)) (
 bR (dec (n15 ≠ (0 : Int) - n17)) (
 reqB (sigI2.post [DV.n n0, DV.n n1] [DV.b Bool.false]) (
 true)) (
 reqB ((-9223372036854775808 : Int) ≤ n7 - n11) (
 reqB (n7 - n11 ≤ (9223372036854775807 : Int)) (
 reqB (sigPick.pre [DV.n (n7 - n11), DV.n (2048 : Int)]) (
 allB fun n20 : Int => 
 impB ((0 : Int) ≤ n20) (
 impB (n20 ≤ (4503599627370496 : Int)) (
 impB (sigPick.post [DV.n (n7 - n11), DV.n (2048 : Int)] [DV.n n20]) (
 bR (dec (n20 ≠ (0 : Int))) (
 reqB (sigI2.post [DV.n n0, DV.n n1] [DV.b Bool.false]) (
 true)) (
 reqB ((-9223372036854775808 : Int) ≤ n3) (
 reqB (n3 ≤ (9223372036854775807 : Int)) (
 reqB ((-9223372036854775808 : Int) ≤ n4) (
 reqB (n4 ≤ (9223372036854775807 : Int)) (
 reqB ((-9223372036854775808 : Int) ≤ n3) (
 reqB (n3 ≤ (9223372036854775807 : Int)) (
 reqB ((-9223372036854775808 : Int) ≤ n4) (
 reqB (n4 ≤ (9223372036854775807 : Int)) (
 reqB (sigRate.pre [DV.n n3, DV.n n4, DV.n n3, DV.n n4]) (
 allB fun n21 : Int => 
 impB ((-2048 : Int) ≤ n21) (
 impB (n21 ≤ (2047 : Int)) (
 allB fun n22 : Int => 
 impB ((0 : Int) ≤ n22) (
 impB (n22 ≤ (18 : Int)) (
 impB (sigRate.post [DV.n n3, DV.n n4, DV.n n3, DV.n n4] [DV.n n21, DV.n n22]) (
 reqB ((-9223372036854775808 : Int) ≤ n3) (
 reqB (n3 ≤ (9223372036854775807 : Int)) (
 reqB ((-9223372036854775808 : Int) ≤ n4) (
 reqB (n4 ≤ (9223372036854775807 : Int)) (
 reqB ((-9223372036854775808 : Int) ≤ (0 : Int) - n4) (
 reqB ((0 : Int) - n4 ≤ (9223372036854775807 : Int)) (
 reqB ((-9223372036854775808 : Int) ≤ n3) (
 reqB (n3 ≤ (9223372036854775807 : Int)) (
 reqB (sigRate.pre [DV.n n3, DV.n n4, DV.n ((0 : Int) - n4), DV.n n3]) (
 allB fun n23 : Int => 
 impB ((-2048 : Int) ≤ n23) (
 impB (n23 ≤ (2047 : Int)) (
 allB fun n24 : Int => 
 impB ((0 : Int) ≤ n24) (
 impB (n24 ≤ (18 : Int)) (
 impB (sigRate.post [DV.n n3, DV.n n4, DV.n ((0 : Int) - n4), DV.n n3]
 [DV.n n23, DV.n n24]) (
 reqB ((-9223372036854775808 : Int) ≤ n3) (
 reqB (n3 ≤ (9223372036854775807 : Int)) (
 reqB ((-9223372036854775808 : Int) ≤ n4) (
 reqB (n4 ≤ (9223372036854775807 : Int)) (
 reqB ((-9223372036854775808 : Int) ≤ n5) (
 reqB (n5 ≤ (9223372036854775807 : Int)) (
 reqB ((-9223372036854775808 : Int) ≤ n6) (
 reqB (n6 ≤ (9223372036854775807 : Int)) (
 reqB (sigRate.pre [DV.n n3, DV.n n4, DV.n n5, DV.n n6]) (
 allB fun n25 : Int => 
 impB ((-2048 : Int) ≤ n25) (
 impB (n25 ≤ (2047 : Int)) (
 allB fun n26 : Int => 
 impB ((0 : Int) ≤ n26) (
 impB (n26 ≤ (18 : Int)) (
 impB (sigRate.post [DV.n n3, DV.n n4, DV.n n5, DV.n n6] [DV.n n25, DV.n n26]) (
 reqB ((-9223372036854775808 : Int) ≤ (0 : Int) - n4) (
 reqB ((0 : Int) - n4 ≤ (9223372036854775807 : Int)) (
 reqB ((-9223372036854775808 : Int) ≤ n3) (
 reqB (n3 ≤ (9223372036854775807 : Int)) (
 reqB ((-9223372036854775808 : Int) ≤ (0 : Int) - n6) (
 reqB ((0 : Int) - n6 ≤ (9223372036854775807 : Int)) (
 reqB ((-9223372036854775808 : Int) ≤ n5) (
 reqB (n5 ≤ (9223372036854775807 : Int)) (
 reqB (sigRate.pre [DV.n ((0 : Int) - n4), DV.n n3, DV.n ((0 : Int) - n6), DV.n n5]) (
 allB fun n27 : Int => 
 impB ((-2048 : Int) ≤ n27) (
 impB (n27 ≤ (2047 : Int)) (
 allB fun n28 : Int => 
 impB ((0 : Int) ≤ n28) (
 impB (n28 ≤ (18 : Int)) (
 impB (sigRate.post [DV.n ((0 : Int) - n4), DV.n n3, DV.n ((0 : Int) - n6), DV.n n5]
 [DV.n n27, DV.n n28]) (
 bR (b2) (
 bR (dec (n22 = (0 : Int))) (
 bR (dec (n24 = (0 : Int))) (
 bR (dec (n26 = (0 : Int))) (
 bR (dec (n28 = (0 : Int))) (
 bR (dec (n21 = (0 : Int))) (
 bR (dec (n23 = (1024 : Int))) (
 reqB (sigI2.post [DV.n n0, DV.n n1] [DV.b (dec (n25 = n27))]) (
 true)) (
 reqB (sigI2.post [DV.n n0, DV.n n1] [DV.b Bool.false]) (
 true))) (
 reqB (sigI2.post [DV.n n0, DV.n n1] [DV.b Bool.false]) (
 true))) (
 reqB (sigI2.post [DV.n n0, DV.n n1] [DV.b Bool.false]) (
 true))) (
 reqB (sigI2.post [DV.n n0, DV.n n1] [DV.b Bool.false]) (
 true))) (
 reqB (sigI2.post [DV.n n0, DV.n n1] [DV.b Bool.false]) (
 true))) (
 reqB (sigI2.post [DV.n n0, DV.n n1] [DV.b Bool.false]) (
 true))) (
 reqB (sigI2.post [DV.n n0, DV.n n1] [DV.b Bool.false]) (
 true)))))))))))))))))))))))))))))))))))))))))))))))))))))))))))))))))))))))))))))))))))))))))))))))))))))))))))))))))))))))))))))))))))))))))))))))))))))))))) := by kernel_rfl
set_option maxHeartbeats 8000000 in
theorem vt_DiscrAngles : vcFn Tryd.prog [(3, Ext.ctr (ctOfG gl11 sigTrue0)), (28, Ext.ctr (ctOfG gl11 sigPick)), (27, Ext.ctr (ctOfG gl11 sigSum)), (10, Ext.ctr (ctOfG gl11 sigFl)), (11, Ext.ctr (ctOfG gl11 sigHl)), (15, Ext.ctr (ctOfG gl11 sigLl)), (13, Ext.ctr (ctOfG gl11 sigRate))] noA gl11 100 7 sigI2 = true := by
  rw [vc_DiscrAngles]
  try simp only [Int.toNat_natCast, List.length_set, List.length_replicate, List.length_take, List.length_drop, List.length_append, List.length_cons, List.length_nil, Nat.min_self, List.take_take, lenCols_i, lenCols_b, List.drop_zero, List.take_length, Nat.add_eq, Nat.mul_eq, Nat.sub_eq, Nat.zero_add, Nat.sub_zero, Nat.mul_one]
  refine all_i fun n0 => ?_
  refine imp_i fun h0 => ?_
  refine imp_i fun h1 => ?_
  refine all_i fun n1 => ?_
  refine imp_i fun h2 => ?_
  refine imp_i fun h3 => ?_
  refine imp_i fun h4 => ?_
  try simp only [sigI2, List.cons.injEq, DV.b.injEq, and_true, List.length_cons, List.length_nil] at h4
  refine req_i ?_ ?_
  · -- r0
   first | omega | assumption | grind
  refine all_i fun b2 => ?_
  refine imp_i fun h5 => ?_
  try simp only [sigTrue0, List.cons.injEq, DV.b.injEq, and_true, List.length_cons, List.length_nil] at h5
  refine req_i ?_ ?_
  · -- r1
   first | omega | assumption | grind
  refine req_i ?_ ?_
  · -- r2
   first | omega | assumption | grind
  refine req_i ?_ ?_
  · -- r3
   first | trivial | assumption | (simp only [sigSum, sumPost, List.cons.injEq, DV.b.injEq, and_true, List.length_cons, List.length_nil]; done) | ((try simp only [sigSum, sumPost, List.cons.injEq, DV.b.injEq, and_true, List.length_cons, List.length_nil]); first | omega | assumption | grind)
  refine all_i fun n3 => ?_
  refine imp_i fun h6 => ?_
  refine imp_i fun h7 => ?_
  refine all_i fun n4 => ?_
  refine imp_i fun h8 => ?_
  refine imp_i fun h9 => ?_
  refine imp_i fun h10 => ?_
  try simp only [sigSum, sumPost, List.cons.injEq, DV.b.injEq, and_true, List.length_cons, List.length_nil] at h10
  refine req_i ?_ ?_
  · -- r4
   first | omega | assumption | grind
  refine req_i ?_ ?_
  · -- r5
   first | omega | assumption | grind
  refine req_i ?_ ?_
  · -- r6
   first | trivial | assumption | (simp only [sigSum, sumPost, List.cons.injEq, DV.b.injEq, and_true, List.length_cons, List.length_nil]; done) | ((try simp only [sigSum, sumPost, List.cons.injEq, DV.b.injEq, and_true, List.length_cons, List.length_nil]); first | omega | assumption | grind)
  refine all_i fun n5 => ?_
  refine imp_i fun h11 => ?_
  refine imp_i fun h12 => ?_
  refine all_i fun n6 => ?_
  refine imp_i fun h13 => ?_
  refine imp_i fun h14 => ?_
  refine imp_i fun h15 => ?_
  try simp only [sigSum, sumPost, List.cons.injEq, DV.b.injEq, and_true, List.length_cons, List.length_nil] at h15
  refine bR_i (fun h16 => ?_) (fun h16 => ?_)
  ·
   simp only [bR_iff, bR_iff_f, dec_iff, dec_f, Bool.false_eq_true, Bool.true_eq_false, false_implies, imp_false, and_true, true_and, implies_true, Classical.not_not] at h16
   refine req_i ?_ ?_
   · -- r7
    first | omega | ((try simp only [sigI2, List.cons.injEq, DV.b.injEq, and_true, List.length_cons, List.length_nil]); first | done | omega | assumption | grind [getD_set, getD_rep, toNat_succ, cntN_yes, cntN_no])
   rfl
  ·
   simp only [bR_iff, bR_iff_f, dec_iff, dec_f, Bool.false_eq_true, Bool.true_eq_false, false_implies, imp_false, and_true, true_and, implies_true, Classical.not_not] at h16
   refine bR_i (fun h17 => ?_) (fun h17 => ?_)
   ·
    simp only [bR_iff, bR_iff_f, dec_iff, dec_f, Bool.false_eq_true, Bool.true_eq_false, false_implies, imp_false, and_true, true_and, implies_true, Classical.not_not] at h17
    refine req_i ?_ ?_
    · -- r8
     first | omega | ((try simp only [sigI2, List.cons.injEq, DV.b.injEq, and_true, List.length_cons, List.length_nil]); first | done | omega | assumption | grind [getD_set, getD_rep, toNat_succ, cntN_yes, cntN_no])
    rfl
   ·
    simp only [bR_iff, bR_iff_f, dec_iff, dec_f, Bool.false_eq_true, Bool.true_eq_false, false_implies, imp_false, and_true, true_and, implies_true, Classical.not_not] at h17
    have nz1 : ¬(n3 = 0 ∧ n4 = 0) := by omega
    have i1 : insd n3 n4 := by unfold insd; omega
    have i2 : insd n5 n6 := by unfold insd; omega
    have i3 : insd (0 - n4) n3 := by unfold insd; omega
    have i4 : insd (0 - n3) (0 - n4) := by unfold insd; omega
    have i5 : insd (0 - n6) n5 := by unfold insd; omega
    refine req_i ?_ ?_
    · -- r9
     first | omega | assumption | grind
    refine req_i ?_ ?_
    · -- r10
     first | omega | assumption | grind
    refine req_i ?_ ?_
    · -- r11
     first | omega | assumption | grind
    refine req_i ?_ ?_
    · -- r12
     first | omega | assumption | grind
    refine req_i ?_ ?_
    · -- r13
     first | trivial | assumption | (simp only [sigFl, okPost, cen, insd, List.cons.injEq, DV.b.injEq, and_true, List.length_cons, List.length_nil]; done) | ((try simp only [sigFl, okPost, cen, insd, List.cons.injEq, DV.b.injEq, and_true, List.length_cons, List.length_nil]); first | omega | assumption | grind)
    refine all_i fun n7 => ?_
    refine imp_i fun h18 => ?_
    refine imp_i fun h19 => ?_
    refine all_i fun b8 => ?_
    refine imp_i fun h20 => ?_
    try simp only [Int.toNat_natCast, List.length_set, List.length_replicate, List.length_take, List.length_drop, List.length_append, List.length_cons, List.length_nil, Nat.min_self, List.take_take, lenCols_i, lenCols_b, List.drop_zero, List.take_length, Nat.add_eq, Nat.mul_eq, Nat.sub_eq, Nat.zero_add, Nat.sub_zero, Nat.mul_one] at h20
    have f1 := fl_val h20 i1
    refine req_i ?_ ?_
    · -- r14
     first | omega | assumption | grind
    refine req_i ?_ ?_
    · -- r15
     first | omega | assumption | grind
    refine req_i ?_ ?_
    · -- r16
     first | omega | assumption | grind
    refine req_i ?_ ?_
    · -- r17
     first | omega | assumption | grind
    refine req_i ?_ ?_
    · -- r18
     first | trivial | assumption | (simp only [sigFl, okPost, cen, insd, List.cons.injEq, DV.b.injEq, and_true, List.length_cons, List.length_nil]; done) | ((try simp only [sigFl, okPost, cen, insd, List.cons.injEq, DV.b.injEq, and_true, List.length_cons, List.length_nil]); first | omega | assumption | grind)
    refine all_i fun n9 => ?_
    refine imp_i fun h21 => ?_
    refine imp_i fun h22 => ?_
    refine all_i fun b10 => ?_
    refine imp_i fun h23 => ?_
    try simp only [Int.toNat_natCast, List.length_set, List.length_replicate, List.length_take, List.length_drop, List.length_append, List.length_cons, List.length_nil, Nat.min_self, List.take_take, lenCols_i, lenCols_b, List.drop_zero, List.take_length, Nat.add_eq, Nat.mul_eq, Nat.sub_eq, Nat.zero_add, Nat.sub_zero, Nat.mul_one] at h23
    have f2 := fl_val h23 i3
    refine req_i ?_ ?_
    · -- r19
     first | omega | assumption | grind
    refine req_i ?_ ?_
    · -- r20
     first | omega | assumption | grind
    refine req_i ?_ ?_
    · -- r21
     first | omega | assumption | grind
    refine req_i ?_ ?_
    · -- r22
     first | omega | assumption | grind
    refine req_i ?_ ?_
    · -- r23
     first | trivial | assumption | (simp only [sigHl, okPost, cen, insd, List.cons.injEq, DV.b.injEq, and_true, List.length_cons, List.length_nil]; done) | ((try simp only [sigHl, okPost, cen, insd, List.cons.injEq, DV.b.injEq, and_true, List.length_cons, List.length_nil]); first | omega | assumption | grind)
    refine all_i fun n11 => ?_
    refine imp_i fun h24 => ?_
    refine imp_i fun h25 => ?_
    refine all_i fun b12 => ?_
    refine imp_i fun h26 => ?_
    try simp only [Int.toNat_natCast, List.length_set, List.length_replicate, List.length_take, List.length_drop, List.length_append, List.length_cons, List.length_nil, Nat.min_self, List.take_take, lenCols_i, lenCols_b, List.drop_zero, List.take_length, Nat.add_eq, Nat.mul_eq, Nat.sub_eq, Nat.zero_add, Nat.sub_zero, Nat.mul_one] at h26
    have f3 := hl_val h26 i1
    refine req_i ?_ ?_
    · -- r24
     first | omega | assumption | grind
    refine req_i ?_ ?_
    · -- r25
     first | omega | assumption | grind
    refine req_i ?_ ?_
    · -- r26
     first | omega | assumption | grind
    refine req_i ?_ ?_
    · -- r27
     first | omega | assumption | grind
    refine req_i ?_ ?_
    · -- r28
     first | trivial | assumption | (simp only [sigHl, okPost, cen, insd, List.cons.injEq, DV.b.injEq, and_true, List.length_cons, List.length_nil]; done) | ((try simp only [sigHl, okPost, cen, insd, List.cons.injEq, DV.b.injEq, and_true, List.length_cons, List.length_nil]); first | omega | assumption | grind)
    refine all_i fun n13 => ?_
    refine imp_i fun h27 => ?_
    refine imp_i fun h28 => ?_
    refine all_i fun b14 => ?_
    refine imp_i fun h29 => ?_
    try simp only [Int.toNat_natCast, List.length_set, List.length_replicate, List.length_take, List.length_drop, List.length_append, List.length_cons, List.length_nil, Nat.min_self, List.take_take, lenCols_i, lenCols_b, List.drop_zero, List.take_length, Nat.add_eq, Nat.mul_eq, Nat.sub_eq, Nat.zero_add, Nat.sub_zero, Nat.mul_one] at h29
    have f4 := hl_val h29 i4
    refine req_i ?_ ?_
    · -- r29
     first | omega | assumption | grind
    refine req_i ?_ ?_
    · -- r30
     first | omega | assumption | grind
    refine req_i ?_ ?_
    · -- r31
     first | omega | assumption | grind
    refine req_i ?_ ?_
    · -- r32
     first | omega | assumption | grind
    refine req_i ?_ ?_
    · -- r33
     first | trivial | assumption | (simp only [sigLl, okPost, powr, insd, List.cons.injEq, DV.b.injEq, and_true, List.length_cons, List.length_nil]; done) | ((try simp only [sigLl, okPost, powr, insd, List.cons.injEq, DV.b.injEq, and_true, List.length_cons, List.length_nil]); first | omega | assumption | grind)
    refine all_i fun n15 => ?_
    refine imp_i fun h30 => ?_
    refine imp_i fun h31 => ?_
    refine all_i fun b16 => ?_
    refine imp_i fun h32 => ?_
    try simp only [Int.toNat_natCast, List.length_set, List.length_replicate, List.length_take, List.length_drop, List.length_append, List.length_cons, List.length_nil, Nat.min_self, List.take_take, lenCols_i, lenCols_b, List.drop_zero, List.take_length, Nat.add_eq, Nat.mul_eq, Nat.sub_eq, Nat.zero_add, Nat.sub_zero, Nat.mul_one] at h32
    have f5 := ll_val h32 i1
    refine req_i ?_ ?_
    · -- r34
     first | omega | assumption | grind
    refine req_i ?_ ?_
    · -- r35
     first | omega | assumption | grind
    refine req_i ?_ ?_
    · -- r36
     first | omega | assumption | grind
    refine req_i ?_ ?_
    · -- r37
     first | omega | assumption | grind
    refine req_i ?_ ?_
    · -- r38
     first | trivial | assumption | (simp only [sigLl, okPost, powr, insd, List.cons.injEq, DV.b.injEq, and_true, List.length_cons, List.length_nil]; done) | ((try simp only [sigLl, okPost, powr, insd, List.cons.injEq, DV.b.injEq, and_true, List.length_cons, List.length_nil]); first | omega | assumption | grind)
    refine all_i fun n17 => ?_
    refine imp_i fun h33 => ?_
    refine imp_i fun h34 => ?_
    refine all_i fun b18 => ?_
    refine imp_i fun h35 => ?_
    try simp only [Int.toNat_natCast, List.length_set, List.length_replicate, List.length_take, List.length_drop, List.length_append, List.length_cons, List.length_nil, Nat.min_self, List.take_take, lenCols_i, lenCols_b, List.drop_zero, List.take_length, Nat.add_eq, Nat.mul_eq, Nat.sub_eq, Nat.zero_add, Nat.sub_zero, Nat.mul_one] at h35
    have f6 := ll_val h35 i3
    have al := fun a b c d e f g h => ang_law (n21 := a) (n23 := b) (n25 := c) (n27 := d) (u := n5) (v := n6) nz1 f1.2 f2.2 f3.2 f4.2 f5.2 f6.2 e f g h
    have al0 := ang_law (u := n5) (v := n6) nz1 f1.2 f2.2 f3.2 f4.2 f5.2 f6.2 rfl rfl rfl rfl
    refine bR_i (fun h36 => ?_) (fun h36 => ?_)
    ·
     simp only [bR_iff, bR_iff_f, dec_iff, dec_f, Bool.false_eq_true, Bool.true_eq_false, false_implies, imp_false, and_true, true_and, implies_true, Classical.not_not] at h36
     refine req_i ?_ ?_
     · -- r39
      first | omega | ((try simp only [sigI2, List.cons.injEq, DV.b.injEq, and_true, List.length_cons, List.length_nil]); first | done | omega | assumption | grind [getD_set, getD_rep, toNat_succ, cntN_yes, cntN_no])
     rfl
    ·
     simp only [bR_iff, bR_iff_f, dec_iff, dec_f, Bool.false_eq_true, Bool.true_eq_false, false_implies, imp_false, and_true, true_and, implies_true, Classical.not_not] at h36
     refine bR_i (fun h37 => ?_) (fun h37 => ?_)
     ·
      simp only [bR_iff, bR_iff_f, dec_iff, dec_f, Bool.false_eq_true, Bool.true_eq_false, false_implies, imp_false, and_true, true_and, implies_true, Classical.not_not] at h37
      refine req_i ?_ ?_
      · -- r40
       first | omega | ((try simp only [sigI2, List.cons.injEq, DV.b.injEq, and_true, List.length_cons, List.length_nil]); first | done | omega | assumption | grind [getD_set, getD_rep, toNat_succ, cntN_yes, cntN_no])
      rfl
     ·
      simp only [bR_iff, bR_iff_f, dec_iff, dec_f, Bool.false_eq_true, Bool.true_eq_false, false_implies, imp_false, and_true, true_and, implies_true, Classical.not_not] at h37
      refine bR_i (fun h38 => ?_) (fun h38 => ?_)
      ·
       simp only [bR_iff, bR_iff_f, dec_iff, dec_f, Bool.false_eq_true, Bool.true_eq_false, false_implies, imp_false, and_true, true_and, implies_true, Classical.not_not] at h38
       refine req_i ?_ ?_
       · -- r41
        first | omega | ((try simp only [sigI2, List.cons.injEq, DV.b.injEq, and_true, List.length_cons, List.length_nil]); first | done | omega | assumption | grind [getD_set, getD_rep, toNat_succ, cntN_yes, cntN_no])
       rfl
      ·
       simp only [bR_iff, bR_iff_f, dec_iff, dec_f, Bool.false_eq_true, Bool.true_eq_false, false_implies, imp_false, and_true, true_and, implies_true, Classical.not_not] at h38
       refine bR_i (fun h39 => ?_) (fun h39 => ?_)
       ·
        simp only [bR_iff, bR_iff_f, dec_iff, dec_f, Bool.false_eq_true, Bool.true_eq_false, false_implies, imp_false, and_true, true_and, implies_true, Classical.not_not] at h39
        refine req_i ?_ ?_
        · -- r42
         first | omega | ((try simp only [sigI2, List.cons.injEq, DV.b.injEq, and_true, List.length_cons, List.length_nil]); first | done | omega | assumption | grind [getD_set, getD_rep, toNat_succ, cntN_yes, cntN_no])
        rfl
       ·
        simp only [bR_iff, bR_iff_f, dec_iff, dec_f, Bool.false_eq_true, Bool.true_eq_false, false_implies, imp_false, and_true, true_and, implies_true, Classical.not_not] at h39
        refine bR_i (fun h40 => ?_) (fun h40 => ?_)
        ·
         simp only [bR_iff, bR_iff_f, dec_iff, dec_f, Bool.false_eq_true, Bool.true_eq_false, false_implies, imp_false, and_true, true_and, implies_true, Classical.not_not] at h40
         refine req_i ?_ ?_
         · -- r43
          first | omega | ((try simp only [sigI2, List.cons.injEq, DV.b.injEq, and_true, List.length_cons, List.length_nil]); first | done | omega | assumption | grind [getD_set, getD_rep, toNat_succ, cntN_yes, cntN_no])
         rfl
        ·
         simp only [bR_iff, bR_iff_f, dec_iff, dec_f, Bool.false_eq_true, Bool.true_eq_false, false_implies, imp_false, and_true, true_and, implies_true, Classical.not_not] at h40
         refine bR_i (fun h41 => ?_) (fun h41 => ?_)
         ·
          simp only [bR_iff, bR_iff_f, dec_iff, dec_f, Bool.false_eq_true, Bool.true_eq_false, false_implies, imp_false, and_true, true_and, implies_true, Classical.not_not] at h41
          refine req_i ?_ ?_
          · -- r44
           first | omega | ((try simp only [sigI2, List.cons.injEq, DV.b.injEq, and_true, List.length_cons, List.length_nil]); first | done | omega | assumption | grind [getD_set, getD_rep, toNat_succ, cntN_yes, cntN_no])
          rfl
         ·
          simp only [bR_iff, bR_iff_f, dec_iff, dec_f, Bool.false_eq_true, Bool.true_eq_false, false_implies, imp_false, and_true, true_and, implies_true, Classical.not_not] at h41
          refine req_i ?_ ?_
          · -- r45
           first | omega | assumption | grind
          refine req_i ?_ ?_
          · -- r46
           first | omega | assumption | grind
          refine req_i ?_ ?_
          · -- r47
           first | trivial | assumption | (simp only [sigPick, pickPost, List.cons.injEq, DV.b.injEq, and_true, List.length_cons, List.length_nil]; done) | ((try simp only [sigPick, pickPost, List.cons.injEq, DV.b.injEq, and_true, List.length_cons, List.length_nil]); first | omega | assumption | grind)
          refine all_i fun n19 => ?_
          refine imp_i fun h42 => ?_
          refine imp_i fun h43 => ?_
          refine imp_i fun h44 => ?_
          try simp only [sigPick, pickPost, List.cons.injEq, DV.b.injEq, and_true, List.length_cons, List.length_nil] at h44
          refine bR_dec (fun h45 => ?_) (fun h45 => ?_)
          ·
           refine req_i ?_ ?_
           · -- r48
            first | omega | ((try simp only [sigI2, List.cons.injEq, DV.b.injEq, and_true, List.length_cons, List.length_nil]); first | done | omega | assumption | grind [getD_set, getD_rep, toNat_succ, cntN_yes, cntN_no])
           rfl
          ·
           refine bR_dec (fun h46 => ?_) (fun h46 => ?_)
           ·
            refine req_i ?_ ?_
            · -- r49
             first | omega | ((try simp only [sigI2, List.cons.injEq, DV.b.injEq, and_true, List.length_cons, List.length_nil]); first | done | omega | assumption | grind [getD_set, getD_rep, toNat_succ, cntN_yes, cntN_no])
            rfl
           ·
            refine bR_dec (fun h47 => ?_) (fun h47 => ?_)
            ·
             refine req_i ?_ ?_
             · -- r50
              first | omega | ((try simp only [sigI2, List.cons.injEq, DV.b.injEq, and_true, List.length_cons, List.length_nil]); first | done | omega | assumption | grind [getD_set, getD_rep, toNat_succ, cntN_yes, cntN_no])
             rfl
            ·
             refine req_i ?_ ?_
             · -- r51
              first | omega | assumption | grind
             refine req_i ?_ ?_
             · -- r52
              first | omega | assumption | grind
             refine req_i ?_ ?_
             · -- r53
              first | trivial | assumption | (simp only [sigPick, pickPost, List.cons.injEq, DV.b.injEq, and_true, List.length_cons, List.length_nil]; done) | ((try simp only [sigPick, pickPost, List.cons.injEq, DV.b.injEq, and_true, List.length_cons, List.length_nil]); first | omega | assumption | grind)
             refine all_i fun n20 => ?_
             refine imp_i fun h48 => ?_
             refine imp_i fun h49 => ?_
             refine imp_i fun h50 => ?_
             try simp only [sigPick, pickPost, List.cons.injEq, DV.b.injEq, and_true, List.length_cons, List.length_nil] at h50
             refine bR_dec (fun h51 => ?_) (fun h51 => ?_)
             ·
              refine req_i ?_ ?_
              · -- r54
               first | omega | ((try simp only [sigI2, List.cons.injEq, DV.b.injEq, and_true, List.length_cons, List.length_nil]); first | done | omega | assumption | grind [getD_set, getD_rep, toNat_succ, cntN_yes, cntN_no])
              rfl
             ·
              refine req_i ?_ ?_
              · -- r55
               first | omega | assumption | grind
              refine req_i ?_ ?_
              · -- r56
               first | omega | assumption | grind
              refine req_i ?_ ?_
              · -- r57
               first | omega | assumption | grind
              refine req_i ?_ ?_
              · -- r58
               first | omega | assumption | grind
              refine req_i ?_ ?_
              · -- r59
               first | omega | assumption | grind
              refine req_i ?_ ?_
              · -- r60
               first | omega | assumption | grind
              refine req_i ?_ ?_
              · -- r61
               first | omega | assumption | grind
              refine req_i ?_ ?_
              · -- r62
               first | omega | assumption | grind
              refine req_i ?_ ?_
              · -- r63
               first | trivial | assumption | (simp only [sigRate, smpV, ratePost, insd, cen, tI, tQ, List.cons.injEq, DV.b.injEq, and_true, List.length_cons, List.length_nil]; done) | ((try simp only [sigRate, smpV, ratePost, insd, cen, tI, tQ, List.cons.injEq, DV.b.injEq, and_true, List.length_cons, List.length_nil]); first | omega | assumption | grind)
              refine all_i fun n21 => ?_
              refine imp_i fun h52 => ?_
              refine imp_i fun h53 => ?_
              refine all_i fun n22 => ?_
              refine imp_i fun h54 => ?_
              refine imp_i fun h55 => ?_
              refine imp_i fun h56 => ?_
              try simp only [Int.toNat_natCast, List.length_set, List.length_replicate, List.length_take, List.length_drop, List.length_append, List.length_cons, List.length_nil, Nat.min_self, List.take_take, lenCols_i, lenCols_b, List.drop_zero, List.take_length, Nat.add_eq, Nat.mul_eq, Nat.sub_eq, Nat.zero_add, Nat.sub_zero, Nat.mul_one] at h56
              have g1 := rate_val h56 i1 i1
              refine req_i ?_ ?_
              · -- r64
               first | omega | assumption | grind
              refine req_i ?_ ?_
              · -- r65
               first | omega | assumption | grind
              refine req_i ?_ ?_
              · -- r66
               first | omega | assumption | grind
              refine req_i ?_ ?_
              · -- r67
               first | omega | assumption | grind
              refine req_i ?_ ?_
              · -- r68
               first | omega | assumption | grind
              refine req_i ?_ ?_
              · -- r69
               first | omega | assumption | grind
              refine req_i ?_ ?_
              · -- r70
               first | omega | assumption | grind
              refine req_i ?_ ?_
              · -- r71
               first | omega | assumption | grind
              refine req_i ?_ ?_
              · -- r72
               first | trivial | assumption | (simp only [sigRate, smpV, ratePost, insd, cen, tI, tQ, List.cons.injEq, DV.b.injEq, and_true, List.length_cons, List.length_nil]; done) | ((try simp only [sigRate, smpV, ratePost, insd, cen, tI, tQ, List.cons.injEq, DV.b.injEq, and_true, List.length_cons, List.length_nil]); first | omega | assumption | grind)
              refine all_i fun n23 => ?_
              refine imp_i fun h57 => ?_
              refine imp_i fun h58 => ?_
              refine all_i fun n24 => ?_
              refine imp_i fun h59 => ?_
              refine imp_i fun h60 => ?_
              refine imp_i fun h61 => ?_
              try simp only [Int.toNat_natCast, List.length_set, List.length_replicate, List.length_take, List.length_drop, List.length_append, List.length_cons, List.length_nil, Nat.min_self, List.take_take, lenCols_i, lenCols_b, List.drop_zero, List.take_length, Nat.add_eq, Nat.mul_eq, Nat.sub_eq, Nat.zero_add, Nat.sub_zero, Nat.mul_one] at h61
              have g2 := rate_val h61 i1 i3
              refine req_i ?_ ?_
              · -- r73
               first | omega | assumption | grind
              refine req_i ?_ ?_
              · -- r74
               first | omega | assumption | grind
              refine req_i ?_ ?_
              · -- r75
               first | omega | assumption | grind
              refine req_i ?_ ?_
              · -- r76
               first | omega | assumption | grind
              refine req_i ?_ ?_
              · -- r77
               first | omega | assumption | grind
              refine req_i ?_ ?_
              · -- r78
               first | omega | assumption | grind
              refine req_i ?_ ?_
              · -- r79
               first | omega | assumption | grind
              refine req_i ?_ ?_
              · -- r80
               first | omega | assumption | grind
              refine req_i ?_ ?_
              · -- r81
               first | trivial | assumption | (simp only [sigRate, smpV, ratePost, insd, cen, tI, tQ, List.cons.injEq, DV.b.injEq, and_true, List.length_cons, List.length_nil]; done) | ((try simp only [sigRate, smpV, ratePost, insd, cen, tI, tQ, List.cons.injEq, DV.b.injEq, and_true, List.length_cons, List.length_nil]); first | omega | assumption | grind)
              refine all_i fun n25 => ?_
              refine imp_i fun h62 => ?_
              refine imp_i fun h63 => ?_
              refine all_i fun n26 => ?_
              refine imp_i fun h64 => ?_
              refine imp_i fun h65 => ?_
              refine imp_i fun h66 => ?_
              try simp only [Int.toNat_natCast, List.length_set, List.length_replicate, List.length_take, List.length_drop, List.length_append, List.length_cons, List.length_nil, Nat.min_self, List.take_take, lenCols_i, lenCols_b, List.drop_zero, List.take_length, Nat.add_eq, Nat.mul_eq, Nat.sub_eq, Nat.zero_add, Nat.sub_zero, Nat.mul_one] at h66
              have g3 := rate_val h66 i1 i2
              refine req_i ?_ ?_
              · -- r82
               first | omega | assumption | grind
              refine req_i ?_ ?_
              · -- r83
               first | omega | assumption | grind
              refine req_i ?_ ?_
              · -- r84
               first | omega | assumption | grind
              refine req_i ?_ ?_
              · -- r85
               first | omega | assumption | grind
              refine req_i ?_ ?_
              · -- r86
               first | omega | assumption | grind
              refine req_i ?_ ?_
              · -- r87
               first | omega | assumption | grind
              refine req_i ?_ ?_
              · -- r88
               first | omega | assumption | grind
              refine req_i ?_ ?_
              · -- r89
               first | omega | assumption | grind
              refine req_i ?_ ?_
              · -- r90
               first | trivial | assumption | (simp only [sigRate, smpV, ratePost, insd, cen, tI, tQ, List.cons.injEq, DV.b.injEq, and_true, List.length_cons, List.length_nil]; done) | ((try simp only [sigRate, smpV, ratePost, insd, cen, tI, tQ, List.cons.injEq, DV.b.injEq, and_true, List.length_cons, List.length_nil]); first | omega | assumption | grind)
              refine all_i fun n27 => ?_
              refine imp_i fun h67 => ?_
              refine imp_i fun h68 => ?_
              refine all_i fun n28 => ?_
              refine imp_i fun h69 => ?_
              refine imp_i fun h70 => ?_
              refine imp_i fun h71 => ?_
              try simp only [Int.toNat_natCast, List.length_set, List.length_replicate, List.length_take, List.length_drop, List.length_append, List.length_cons, List.length_nil, Nat.min_self, List.take_take, lenCols_i, lenCols_b, List.drop_zero, List.take_length, Nat.add_eq, Nat.mul_eq, Nat.sub_eq, Nat.zero_add, Nat.sub_zero, Nat.mul_one] at h71
              have g4 := rate_val h71 i3 i5
              have a1 := al _ _ _ _ g1.2 g2.2 g3.2 g4.2
              refine bR_i (fun h72 => ?_) (fun h72 => ?_)
              ·
               refine bR_dec (fun h73 => ?_) (fun h73 => ?_)
               ·
                refine bR_dec (fun h74 => ?_) (fun h74 => ?_)
                ·
                 refine bR_dec (fun h75 => ?_) (fun h75 => ?_)
                 ·
                  refine bR_dec (fun h76 => ?_) (fun h76 => ?_)
                  ·
                   refine bR_dec (fun h77 => ?_) (fun h77 => ?_)
                   ·
                    refine bR_dec (fun h78 => ?_) (fun h78 => ?_)
                    ·
                     refine req_i ?_ ?_
                     · -- r91
                      have g5 : n25 = n27 := by omega
                      simp only [sigI2]; rw [dec_iff.2 g5]
                     rfl
                    ·
                     refine req_i ?_ ?_
                     · -- r92
                      first | omega | ((try simp only [sigI2, List.cons.injEq, DV.b.injEq, and_true, List.length_cons, List.length_nil]); first | done | omega | assumption | grind [getD_set, getD_rep, toNat_succ, cntN_yes, cntN_no])
                     rfl
                   ·
                    refine req_i ?_ ?_
                    · -- r93
                     first | omega | ((try simp only [sigI2, List.cons.injEq, DV.b.injEq, and_true, List.length_cons, List.length_nil]); first | done | omega | assumption | grind [getD_set, getD_rep, toNat_succ, cntN_yes, cntN_no])
                    rfl
                  ·
                   refine req_i ?_ ?_
                   · -- r94
                    first | omega | ((try simp only [sigI2, List.cons.injEq, DV.b.injEq, and_true, List.length_cons, List.length_nil]); first | done | omega | assumption | grind [getD_set, getD_rep, toNat_succ, cntN_yes, cntN_no])
                   rfl
                 ·
                  refine req_i ?_ ?_
                  · -- r95
                   first | omega | ((try simp only [sigI2, List.cons.injEq, DV.b.injEq, and_true, List.length_cons, List.length_nil]); first | done | omega | assumption | grind [getD_set, getD_rep, toNat_succ, cntN_yes, cntN_no])
                  rfl
                ·
                 refine req_i ?_ ?_
                 · -- r96
                  first | omega | ((try simp only [sigI2, List.cons.injEq, DV.b.injEq, and_true, List.length_cons, List.length_nil]); first | done | omega | assumption | grind [getD_set, getD_rep, toNat_succ, cntN_yes, cntN_no])
                 rfl
               ·
                refine req_i ?_ ?_
                · -- r97
                 first | omega | ((try simp only [sigI2, List.cons.injEq, DV.b.injEq, and_true, List.length_cons, List.length_nil]); first | done | omega | assumption | grind [getD_set, getD_rep, toNat_succ, cntN_yes, cntN_no])
                rfl
              ·
               refine req_i ?_ ?_
               · -- r98
                first | omega | ((try simp only [sigI2, List.cons.injEq, DV.b.injEq, and_true, List.length_cons, List.length_nil]); first | done | omega | assumption | grind [getD_set, getD_rep, toNat_succ, cntN_yes, cntN_no])
               rfl
theorem ext_DiscrAngles : ∀ p ∈ ([(3, Ext.ctr (ctOfG gl11 sigTrue0)), (28, Ext.ctr (ctOfG gl11 sigPick)), (27, Ext.ctr (ctOfG gl11 sigSum)), (10, Ext.ctr (ctOfG gl11 sigFl)), (11, Ext.ctr (ctOfG gl11 sigHl)), (15, Ext.ctr (ctOfG gl11 sigLl)), (13, Ext.ctr (ctOfG gl11 sigRate))] : List (Nat × Ext)), ExtRow Tryd.prog p.1 p.2 := by
  intro p hp
  simp only [List.mem_cons, List.not_mem_nil, or_false] at hp
  rcases hp with rfl | rfl | rfl | rfl | rfl | rfl | rfl
  · trivial
  · trivial
  · trivial
  · trivial
  · trivial
  · trivial
  · trivial
theorem cts_DiscrAngles : CtsOk Tryd.prog [(3, Ext.ctr (ctOfG gl11 sigTrue0)), (28, Ext.ctr (ctOfG gl11 sigPick)), (27, Ext.ctr (ctOfG gl11 sigSum)), (10, Ext.ctr (ctOfG gl11 sigFl)), (11, Ext.ctr (ctOfG gl11 sigHl)), (15, Ext.ctr (ctOfG gl11 sigLl)), (13, Ext.ctr (ctOfG gl11 sigRate))] := ctsOk_ofG (cs := [(3, sigTrue0), (28, sigPick), (27, sigSum), (10, sigFl), (11, sigHl), (15, sigLl), (13, sigRate)])
  (fun p hp => by
    simp only [List.mem_cons, List.not_mem_nil, or_false] at hp
    rcases hp with rfl | rfl | rfl | rfl | rfl | rfl | rfl
    · exact fn_known
    · exact fn_pick
    · exact fn_sum
    · exact fn_fl
    · exact fn_hl
    · exact fn_ll
    · exact fn_Rate
)
  (fun f c h => by
    simp only [List.lookup_cons] at h
    repeat' split at h
    all_goals first | (cases h; done) | (rename_i e; have e := beq_iff_eq.1 e; subst e; cases h; refine ⟨_, ?_, rfl⟩; simp))
theorem fn_DiscrAngles : FnOk Tryd.prog 7 sigI2 gl11 := fn_sound (by kernel_rfl) ext_DiscrAngles cts_DiscrAngles names vt_DiscrAngles
end Go.Proofs.YtofeleohcpaclaaDoor

