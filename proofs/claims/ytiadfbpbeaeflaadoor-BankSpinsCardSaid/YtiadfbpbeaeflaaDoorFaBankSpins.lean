import Derived.Test.YtiadfbpbeaeflaaDoorSpec14e
import Derived.Test.YtiadfbpbeaeflaaDoorRows
import Derived.Test.YtiadfbpbeaeflaaDoorFnames
namespace Go.Proofs.YtiadfbpbeaeflaaDoor
open Go.Ev Go.Sp
set_option maxRecDepth 100000
theorem vc_cp : vcFn Tryd.prog [] (fun f p _ => at2 f p 88 26 cpL (none)) gl11 100 44 sigCp = (allB fun l0 : List Int => 
impB (l0.length ≤ (30 : Nat)) (
impB (∀ (y : Int), y ∈ l0 → (-9223372036854775808 : Int) ≤ y ∧ y ≤ (9223372036854775807 : Int)) (
allB fun l1 : List Int => 
impB (l1.length = l0.length) (
impB (∀ (y : Int), y ∈ l1 → (-9223372036854775808 : Int) ≤ y ∧ y ≤ (9223372036854775807 : Int)) (
impB (sigCp.pre [DV.l l0, DV.l l1, DV.n (1048576 : Int)]) (
reqB (((0 : Nat) + l0.length) * (2 : Nat) ≤ l0.length.mul (2 : Nat)) (
reqB (l0.length ≤ (30 : Nat)) (
reqB ((List.take l0.length (List.drop (0 : Nat) l0)).length = l0.length) (
reqB (∀ (y : Int),
 y ∈ List.take l0.length (List.drop (0 : Nat) l0) → (-9223372036854775808 : Int) ≤ y ∧ y ≤ (9223372036854775807 : Int)) (
reqB ((List.take l0.length (List.drop (0 : Nat) l1)).length = l0.length) (
reqB (∀ (y : Int),
 y ∈ List.take l0.length (List.drop (0 : Nat) l1) → (-9223372036854775808 : Int) ≤ y ∧ y ≤ (9223372036854775807 : Int)) (
reqB (cpL.inv
 [DV.l (List.take l0.length (List.drop (0 : Nat) l0)), DV.l (List.take l0.length (List.drop (0 : Nat) l1))]
 [DV.n (0 : Int)]) (
allB fun n2 : Int => 
impB ((0 : Int) ≤ n2) (
impB (n2 ≤ (30 : Int)) (
impB (cpL.inv
 [DV.l (List.take l0.length (List.drop (0 : Nat) l0)), DV.l (List.take l0.length (List.drop (0 : Nat) l1))]
 [DV.n n2]) (
bR (dec (n2 < (↑l0.length : Int))) (
 reqB (n2.toNat < l0.length) (
 reqB (Nat.add (0 : Nat) n2.toNat < l0.length) (
 reqB (Nat.add (0 : Nat) n2.toNat < l1.length) (
 bR (dec (Min.min (l0.getD (Nat.add (0 : Nat) n2.toNat) (0 : Int)) (l1.getD (Nat.add (0 : Nat) n2.toNat) (0 : Int)) <
 Int.negSucc (1048575 : Nat))) (
 reqB (sigCp.post [DV.l l0, DV.l l1, DV.n (1048576 : Int)] [DV.n (2 : Int)]) (
 true)) (
 bR (dec ((1048576 : Int) <
 Max.max (l0.getD (Nat.add (0 : Nat) n2.toNat) (0 : Int)) (l1.getD (Nat.add (0 : Nat) n2.toNat) (0 : Int)))) (
 reqB (sigCp.post [DV.l l0, DV.l l1, DV.n (1048576 : Int)] [DV.n (2 : Int)]) (
 true)) (
 bR (bR (bR (dec ((0 : Nat) = (0 : Nat))) (
 dec (l0.length = l0.length)) (
 false)) (
 bR (bR (dec ((0 : Nat) = (0 : Nat))) (
 dec (l0.length = l0.length)) (
 false)) (
 bR (dec ((↑l0.length : Int) = (↑l0.length : Int))) (
 true) (
 false)) (
 false)) (
 false)) (
 reqB ((0 : Int) ≤ n2 + (1 : Int)) (
 reqB (n2 + (1 : Int) ≤ (30 : Int)) (
 reqB (cpL.inv
 [DV.l (List.take l0.length (List.drop (0 : Nat) l0)), DV.l (List.take l0.length (List.drop (0 : Nat) l1))]
 [DV.n (n2 + (1 : Int))]) (
 reqB (cpL.mea
 [DV.l (List.take l0.length (List.drop (0 : Nat) l0)),
 DV.l (List.take l0.length (List.drop (0 : Nat) l1))]
 [DV.n (n2 + (1 : Int))] <
 cpL.mea
 [DV.l (List.take l0.length (List.drop (0 : Nat) l0)),
 DV.l (List.take l0.length (List.drop (0 : Nat) l1))]
 [DV.n n2]) (
 true))))) (
 false))))))) (
 reqB (sigCp.post [DV.l l0, DV.l l1, DV.n (1048576 : Int)] [DV.n (0 : Int)]) (
 true)))))))))))))))))) := by kernel_rfl
set_option maxHeartbeats 8000000 in
theorem vt_cp : vcFn Tryd.prog [] (fun f p _ => at2 f p 88 26 cpL (none)) gl11 100 44 sigCp = true := by
  rw [vc_cp]
  try simp only [Int.toNat_natCast, List.length_set, List.length_replicate, List.length_take, List.length_drop, List.length_append, List.length_cons, List.length_nil, Nat.min_self, List.take_take, lenCols_i, lenCols_b, List.drop_zero, List.take_length, List.take_nil, List.drop_nil, List.take_zero, List.nil_append, Nat.add_eq, Nat.mul_eq, Nat.sub_eq, Nat.zero_add, Nat.add_zero, Nat.sub_zero, Nat.mul_one]
  refine all_i fun l0 => ?_
  refine imp_i fun h0 => ?_
  refine imp_i fun h1 => ?_
  refine all_i fun l1 => ?_
  refine imp_i fun h2 => ?_
  have tkl1 := take_eq h2
  try simp only [tkl1]
  refine imp_i fun h3 => ?_
  refine imp_i fun h4 => ?_
  try simp only [sigCp, smpS, cpPost, List.cons.injEq, DV.b.injEq, and_true, List.length_cons, List.length_nil] at h4
  refine req_i ?_ ?_
  · -- r0
   first | omega | ((try simp only [Nat.mul_eq]); first | done | omega | assumption | grind [getD_set, getD_rep, toNat_succ, cntN_yes, cntN_no])
  refine req_i ?_ ?_
  · -- r1
   first | omega | ((try simp only [Nat.zero_add]); first | done | omega | assumption | grind [getD_set, getD_rep, toNat_succ, cntN_yes, cntN_no])
  refine req_i ?_ ?_
  · -- r2
   first | omega | ((try simp only [List.take_nil, List.take_zero, List.length_take, List.take_length, List.take_take, Nat.min_self, List.drop_nil, List.length_drop, List.drop_zero, List.length_cons, List.length_nil]); first | done | omega | assumption | grind [getD_set, getD_rep, toNat_succ, cntN_yes, cntN_no])
  refine req_i ?_ ?_
  · -- r3
   first | assumption | exact rep_bd (by omega) (by omega) | exact set_bd (by assumption) (by omega) (by omega) | exact take_bd (by assumption) | ((try simp only [List.take_nil, List.take_zero, List.length_take, List.take_length, List.take_take, Nat.min_self, List.drop_nil, List.length_drop, List.drop_zero, List.length_cons, List.length_nil]); first | assumption | exact rep_bd (by omega) (by omega) | exact set_bd (by assumption) (by omega) (by omega) | exact take_bd (by assumption) | grind [getD_set, getD_rep, toNat_succ, cntN_yes, cntN_no])
  refine req_i ?_ ?_
  · -- r4
   first | omega | ((try simp only [List.take_nil, List.take_zero, List.length_take, List.take_length, List.take_take, Nat.min_self, List.drop_nil, List.length_drop, List.drop_zero, List.length_cons, List.length_nil]); first | done | omega | assumption | grind [getD_set, getD_rep, toNat_succ, cntN_yes, cntN_no])
  refine req_i ?_ ?_
  · -- r5
   first | assumption | exact rep_bd (by omega) (by omega) | exact set_bd (by assumption) (by omega) (by omega) | exact take_bd (by assumption) | ((try simp only [List.take_nil, List.take_zero, List.length_take, List.take_length, List.take_take, Nat.min_self, List.drop_nil, List.length_drop, List.drop_zero, List.length_cons, List.length_nil]); first | assumption | exact rep_bd (by omega) (by omega) | exact set_bd (by assumption) (by omega) (by omega) | exact take_bd (by assumption) | grind [getD_set, getD_rep, toNat_succ, cntN_yes, cntN_no])
  refine req_i ?_ ?_
  · -- r6
   first | omega | ((try simp only [cpL, cpInv, mea14, inS, List.cons.injEq, DV.b.injEq, and_true, List.take_nil, List.take_zero, List.length_take, List.take_length, List.take_take, Nat.min_self, List.drop_nil, List.length_drop, List.drop_zero, List.length_cons, List.length_nil]); first | done | omega | assumption | grind [getD_set, getD_rep, toNat_succ, cntN_yes, cntN_no])
  refine all_i fun n2 => ?_
  refine imp_i fun h5 => ?_
  refine imp_i fun h6 => ?_
  refine imp_i fun h7 => ?_
  try simp only [cpL, cpInv, mea14, inS, List.cons.injEq, DV.b.injEq, and_true, List.take_nil, List.take_zero, List.length_take, List.take_length, List.take_take, Nat.min_self, List.drop_nil, List.length_drop, List.drop_zero, List.length_cons, List.length_nil] at h7
  refine bR_dec (fun h8 => ?_) (fun h8 => ?_)
  ·
   refine req_i ?_ ?_
   · -- r7
    first | omega | ((try simp only [Int.toNat_natCast, List.length_cons, List.length_nil]); first | done | omega | assumption | grind [getD_set, getD_rep, toNat_succ, cntN_yes, cntN_no])
   refine req_i ?_ ?_
   · -- r8
    first | omega | ((try simp only [Int.toNat_natCast, List.length_cons, List.length_nil, Nat.add_eq, Nat.zero_add, Nat.add_zero]); first | done | omega | assumption | grind [getD_set, getD_rep, toNat_succ, cntN_yes, cntN_no])
   refine req_i ?_ ?_
   · -- r9
    first | omega | ((try simp only [Int.toNat_natCast, List.length_cons, List.length_nil, Nat.add_eq, Nat.zero_add, Nat.add_zero]); first | done | omega | assumption | grind [getD_set, getD_rep, toNat_succ, cntN_yes, cntN_no])
   refine bR_dec (fun h9 => ?_) (fun h9 => ?_)
   ·
    refine req_i ?_ ?_
    · -- r10
     exact .inr ⟨fun g => by have := g n2.toNat (by omega); unfold inS at this; omega, rfl⟩
    rfl
   ·
    refine bR_dec (fun h10 => ?_) (fun h10 => ?_)
    ·
     refine req_i ?_ ?_
     · -- r11
      exact .inr ⟨fun g => by have := g n2.toNat (by omega); unfold inS at this; omega, rfl⟩
     rfl
    ·
     refine bR_t ?_ ?_
     · -- g0
      first | rfl | (simp only [bR_iff, bR_iff_f, dec_iff, dec_f, beqB_iff', andB_iff', reduceCtorEq, imp_self, false_implies, and_true, true_and, implies_true, and_self]; done) | (simp [bR_iff, dec_iff, beqB_iff', andB_iff']; done) | (simp [bR_iff, dec_iff, beqB_iff', andB_iff']; omega)
     refine req_i ?_ ?_
     · -- r12
      first | omega | assumption | grind
     refine req_i ?_ ?_
     · -- r13
      first | omega | assumption | grind
     refine req_i ?_ ?_
     · -- r14
      first | omega | ((try simp only [cpL, cpInv, mea14, inS, List.cons.injEq, DV.b.injEq, and_true, List.take_nil, List.take_zero, List.length_take, List.take_length, List.take_take, Nat.min_self, List.drop_nil, List.length_drop, List.drop_zero, List.length_cons, List.length_nil]); first | done | omega | assumption | grind [getD_set, getD_rep, toNat_succ, cntN_yes, cntN_no])
     refine req_i ?_ ?_
     · -- r15
      first | omega | ((try simp only [cpL, cpInv, mea14, inS, List.cons.injEq, DV.b.injEq, and_true, List.take_nil, List.take_zero, List.length_take, List.take_length, List.take_take, Nat.min_self, List.drop_nil, List.length_drop, List.drop_zero, List.length_cons, List.length_nil]); first | done | omega | assumption | grind [getD_set, getD_rep, toNat_succ, cntN_yes, cntN_no])
     rfl
  ·
   refine req_i ?_ ?_
   · -- r16
    exact .inl ⟨fun j hj => h7.2.2.2 j (by omega), rfl⟩
   rfl
theorem ext_cp : ∀ p ∈ ([] : List (Nat × Ext)), ExtRow Tryd.prog p.1 p.2 := by
  intro p hp
  cases hp
theorem cts_cp : CtsOk Tryd.prog [] := fun f c h => by cases h
theorem fn_cp : FnOk Tryd.prog 44 sigCp gl11 := fn_sound (by kernel_rfl) ext_cp cts_cp names vt_cp
end Go.Proofs.YtiadfbpbeaeflaaDoor

namespace Go.Proofs.YtiadfbpbeaeflaaDoor
open Go.Ev Go.Sp
set_option maxRecDepth 100000
theorem vc_cs : vcFn Tryd.prog [(44, Ext.ctr (ctOfG gl11 sigCp))] noA gl11 100 40 sigCs = (allB fun l0 : List Int => 
impB (l0.length ≤ (30 : Nat)) (
impB (∀ (y : Int), y ∈ l0 → (-9223372036854775808 : Int) ≤ y ∧ y ≤ (9223372036854775807 : Int)) (
allB fun l1 : List Int => 
impB (l1.length = l0.length) (
impB (∀ (y : Int), y ∈ l1 → (-9223372036854775808 : Int) ≤ y ∧ y ≤ (9223372036854775807 : Int)) (
impB (sigCs.pre [DV.l l0, DV.l l1]) (
bR (dec ((16 : Int) < (↑l0.length : Int))) (
 reqB (sigCs.post [DV.l l0, DV.l l1] [DV.n (4 : Int)]) (
 true)) (
 reqB (((0 : Nat) + l0.length) * (2 : Nat) ≤ l0.length.mul (2 : Nat)) (
 reqB (l0.length ≤ (30 : Nat)) (
 reqB ((List.take l0.length (List.drop (0 : Nat) l0)).length = l0.length) (
 reqB (∀ (y : Int),
 y ∈ List.take l0.length (List.drop (0 : Nat) l0) → (-9223372036854775808 : Int) ≤ y ∧ y ≤ (9223372036854775807 : Int)) (
 reqB ((List.take l0.length (List.drop (0 : Nat) l1)).length = l0.length) (
 reqB (∀ (y : Int),
 y ∈ List.take l0.length (List.drop (0 : Nat) l1) → (-9223372036854775808 : Int) ≤ y ∧ y ≤ (9223372036854775807 : Int)) (
 reqB (sigCp.pre
 [DV.l (List.take l0.length (List.drop (0 : Nat) l0)), DV.l (List.take l0.length (List.drop (0 : Nat) l1)),
 DV.n (1048576 : Int)]) (
 allB fun n2 : Int => 
 impB ((0 : Int) ≤ n2) (
 impB (n2 ≤ (18 : Int)) (
 impB (sigCp.post
 [DV.l (List.take l0.length (List.drop (0 : Nat) l0)), DV.l (List.take l0.length (List.drop (0 : Nat) l1)),
 DV.n (1048576 : Int)]
 [DV.n n2]) (
 reqB ((0 : Int) ≤ n2) (
 reqB (n2 ≤ (18 : Int)) (
 reqB (sigCs.post [DV.l l0, DV.l l1] [DV.n n2]) (
 true)))))))))))))))))))) := by kernel_rfl
set_option maxHeartbeats 8000000 in
theorem vt_cs : vcFn Tryd.prog [(44, Ext.ctr (ctOfG gl11 sigCp))] noA gl11 100 40 sigCs = true := by
  rw [vc_cs]
  try simp only [Int.toNat_natCast, List.length_set, List.length_replicate, List.length_take, List.length_drop, List.length_append, List.length_cons, List.length_nil, Nat.min_self, List.take_take, lenCols_i, lenCols_b, List.drop_zero, List.take_length, List.take_nil, List.drop_nil, List.take_zero, List.nil_append, Nat.add_eq, Nat.mul_eq, Nat.sub_eq, Nat.zero_add, Nat.add_zero, Nat.sub_zero, Nat.mul_one]
  refine all_i fun l0 => ?_
  refine imp_i fun h0 => ?_
  refine imp_i fun h1 => ?_
  refine all_i fun l1 => ?_
  refine imp_i fun h2 => ?_
  have tkl1 := take_eq h2
  try simp only [tkl1]
  refine imp_i fun h3 => ?_
  refine imp_i fun h4 => ?_
  try simp only [sigCs, smpS, csPost, List.cons.injEq, DV.b.injEq, and_true, List.length_cons, List.length_nil] at h4
  refine bR_dec (fun h5 => ?_) (fun h5 => ?_)
  ·
   refine req_i ?_ ?_
   · -- r0
    first | omega | ((try simp only [sigCs, smpS, csPost, List.cons.injEq, DV.b.injEq, and_true, List.length_cons, List.length_nil]); first | done | omega | assumption | grind [getD_set, getD_rep, toNat_succ, cntN_yes, cntN_no])
   rfl
  ·
   refine req_i ?_ ?_
   · -- r1
    first | omega | ((try simp only [Nat.mul_eq]); first | done | omega | assumption | grind [getD_set, getD_rep, toNat_succ, cntN_yes, cntN_no])
   refine req_i ?_ ?_
   · -- r2
    first | omega | ((try simp only [Nat.zero_add]); first | done | omega | assumption | grind [getD_set, getD_rep, toNat_succ, cntN_yes, cntN_no])
   refine req_i ?_ ?_
   · -- r3
    first | omega | ((try simp only [List.take_nil, List.take_zero, List.length_take, List.take_length, List.take_take, Nat.min_self, List.drop_nil, List.length_drop, List.drop_zero, List.length_cons, List.length_nil]); first | done | omega | assumption | grind [getD_set, getD_rep, toNat_succ, cntN_yes, cntN_no])
   refine req_i ?_ ?_
   · -- r4
    first | assumption | exact rep_bd (by omega) (by omega) | exact set_bd (by assumption) (by omega) (by omega) | exact take_bd (by assumption) | ((try simp only [List.take_nil, List.take_zero, List.length_take, List.take_length, List.take_take, Nat.min_self, List.drop_nil, List.length_drop, List.drop_zero, List.length_cons, List.length_nil]); first | assumption | exact rep_bd (by omega) (by omega) | exact set_bd (by assumption) (by omega) (by omega) | exact take_bd (by assumption) | grind [getD_set, getD_rep, toNat_succ, cntN_yes, cntN_no])
   refine req_i ?_ ?_
   · -- r5
    first | omega | ((try simp only [List.take_nil, List.take_zero, List.length_take, List.take_length, List.take_take, Nat.min_self, List.drop_nil, List.length_drop, List.drop_zero, List.length_cons, List.length_nil]); first | done | omega | assumption | grind [getD_set, getD_rep, toNat_succ, cntN_yes, cntN_no])
   refine req_i ?_ ?_
   · -- r6
    first | assumption | exact rep_bd (by omega) (by omega) | exact set_bd (by assumption) (by omega) (by omega) | exact take_bd (by assumption) | ((try simp only [List.take_nil, List.take_zero, List.length_take, List.take_length, List.take_take, Nat.min_self, List.drop_nil, List.length_drop, List.drop_zero, List.length_cons, List.length_nil]); first | assumption | exact rep_bd (by omega) (by omega) | exact set_bd (by assumption) (by omega) (by omega) | exact take_bd (by assumption) | grind [getD_set, getD_rep, toNat_succ, cntN_yes, cntN_no])
   refine req_i ?_ ?_
   · -- r7
    first | omega | ((try simp only [sigCp, smpS, cpPost, List.cons.injEq, DV.b.injEq, and_true, List.take_nil, List.take_zero, List.length_take, List.take_length, List.take_take, Nat.min_self, List.drop_nil, List.length_drop, List.drop_zero, List.length_cons, List.length_nil]); first | done | omega | assumption | grind [getD_set, getD_rep, toNat_succ, cntN_yes, cntN_no])
   refine all_i fun n2 => ?_
   refine imp_i fun h6 => ?_
   refine imp_i fun h7 => ?_
   refine imp_i fun h8 => ?_
   try simp only [Int.toNat_natCast, List.length_set, List.length_replicate, List.length_take, List.length_drop, List.length_append, List.length_cons, List.length_nil, Nat.min_self, List.take_take, lenCols_i, lenCols_b, List.drop_zero, List.take_length, List.take_nil, List.drop_nil, List.take_zero, List.nil_append, Nat.add_eq, Nat.mul_eq, Nat.sub_eq, Nat.zero_add, Nat.add_zero, Nat.sub_zero, Nat.mul_one] at h8
   refine req_i ?_ ?_
   · -- r8
    first | omega | assumption | grind
   refine req_i ?_ ?_
   · -- r9
    first | omega | assumption | grind
   refine req_i ?_ ?_
   · -- r10
    rcases h8 with ⟨a, b⟩ | ⟨a, b⟩
    · exact .inr (.inl ⟨by omega, a, b⟩)
    · exact .inr (.inr ⟨by omega, a, b⟩)
   rfl
theorem ext_cs : ∀ p ∈ ([(44, Ext.ctr (ctOfG gl11 sigCp))] : List (Nat × Ext)), ExtRow Tryd.prog p.1 p.2 := by
  intro p hp
  simp only [List.mem_cons, List.not_mem_nil, or_false] at hp
  rcases hp with rfl
  · trivial
theorem cts_cs : CtsOk Tryd.prog [(44, Ext.ctr (ctOfG gl11 sigCp))] := ctsOk_ofG (cs := [(44, sigCp)])
  (fun p hp => by
    simp only [List.mem_cons, List.not_mem_nil, or_false] at hp
    rcases hp with rfl
    · exact fn_cp
)
  (fun f c h => by
    simp only [List.lookup_cons] at h
    repeat' split at h
    all_goals first | (cases h; done) | (rename_i e; have e := beq_iff_eq.1 e; subst e; cases h; refine ⟨_, ?_, rfl⟩; simp))
theorem fn_cs : FnOk Tryd.prog 40 sigCs gl11 := fn_sound (by kernel_rfl) ext_cs cts_cs names vt_cs
end Go.Proofs.YtiadfbpbeaeflaaDoor

namespace Go.Proofs.YtiadfbpbeaeflaaDoor
open Go.Ev Go.Sp
set_option maxRecDepth 100000
theorem vc_adv : vcFn Tryd.prog [] noA gl11 100 69 sigAdv = (allB fun n0 : Int => 
impB ((0 : Int) ≤ n0) (
impB (n0 ≤ (4294967295 : Int)) (
allB fun n1 : Int => 
impB ((0 : Int) ≤ n1) (
impB (n1 ≤ (4294967295 : Int)) (
allB fun n2 : Int => 
impB ((-9223372036854775808 : Int) ≤ n2) (
impB (n2 ≤ (9223372036854775807 : Int)) (
impB (sigAdv.pre [DV.n n0, DV.n n1, DV.n n2]) (
allB fun n3 : Int => 
impB (n3 = Go.IntKind.u32.wrap n2) (
impB (Int.ofNat (0 : Nat) ≤ n3) (
impB (n3 ≤ Int.ofNat (4294967295 : Nat)) (
allB fun n4 : Int => 
impB (n4 = Go.IntKind.u32.wrap (n1 * n3)) (
impB (Int.ofNat (0 : Nat) ≤ n4) (
impB (n4 ≤ Int.ofNat (4294967295 : Nat)) (
allB fun n5 : Int => 
impB (n5 = Go.IntKind.u32.wrap (n0 + n4)) (
impB (Int.ofNat (0 : Nat) ≤ n5) (
impB (n5 ≤ Int.ofNat (4294967295 : Nat)) (
reqB ((0 : Int) ≤ n5) (
reqB (n5 ≤ (4294967295 : Int)) (
reqB (sigAdv.post [DV.n n0, DV.n n1, DV.n n2] [DV.n n5]) (
true)))))))))))))))))))) := by kernel_rfl
set_option maxHeartbeats 8000000 in
theorem vt_adv : vcFn Tryd.prog [] noA gl11 100 69 sigAdv = true := by
  rw [vc_adv]
  try simp only [Int.toNat_natCast, List.length_set, List.length_replicate, List.length_take, List.length_drop, List.length_append, List.length_cons, List.length_nil, Nat.min_self, List.take_take, lenCols_i, lenCols_b, List.drop_zero, List.take_length, List.take_nil, List.drop_nil, List.take_zero, List.nil_append, Nat.add_eq, Nat.mul_eq, Nat.sub_eq, Nat.zero_add, Nat.add_zero, Nat.sub_zero, Nat.mul_one]
  refine all_i fun n0 => ?_
  refine imp_i fun h0 => ?_
  refine imp_i fun h1 => ?_
  refine all_i fun n1 => ?_
  refine imp_i fun h2 => ?_
  refine imp_i fun h3 => ?_
  refine all_i fun n2 => ?_
  refine imp_i fun h4 => ?_
  refine imp_i fun h5 => ?_
  refine imp_i fun h6 => ?_
  try simp only [sigAdv, u32, advPost, adv, List.cons.injEq, DV.b.injEq, and_true, List.length_cons, List.length_nil] at h6
  refine all_i fun n3 => ?_
  refine imp_i fun h7 => ?_
  simp only [wrap_u32] at h7
  refine imp_i fun h8 => ?_
  refine imp_i fun h9 => ?_
  refine all_i fun n4 => ?_
  refine imp_i fun h10 => ?_
  simp only [wrap_u32] at h10
  refine imp_i fun h11 => ?_
  refine imp_i fun h12 => ?_
  refine all_i fun n5 => ?_
  refine imp_i fun h13 => ?_
  simp only [wrap_u32] at h13
  refine imp_i fun h14 => ?_
  refine imp_i fun h15 => ?_
  refine req_i ?_ ?_
  · -- r0
   first | omega | assumption | grind
  refine req_i ?_ ?_
  · -- r1
   first | omega | assumption | grind
  refine req_i ?_ ?_
  · -- r2
   show n5 = adv n0 n1 n2; rw [h13, h10, h7, adv_calc]
  rfl
theorem ext_adv : ∀ p ∈ ([] : List (Nat × Ext)), ExtRow Tryd.prog p.1 p.2 := by
  intro p hp
  cases hp
theorem cts_adv : CtsOk Tryd.prog [] := fun f c h => by cases h
theorem fn_adv : FnOk Tryd.prog 69 sigAdv gl11 := fn_sound (by kernel_rfl) ext_adv cts_adv names vt_adv
end Go.Proofs.YtiadfbpbeaeflaaDoor

namespace Go.Proofs.YtiadfbpbeaeflaaDoor
open Go.Ev Go.Sp
set_option maxRecDepth 100000
theorem vc_small : vcFn Tryd.prog [] noA gl11 100 86 sigSmall = (allB fun n0 : Int => 
impB ((-9223372036854775808 : Int) ≤ n0) (
impB (n0 ≤ (9223372036854775807 : Int)) (
allB fun n1 : Int => 
impB ((-9223372036854775808 : Int) ≤ n1) (
impB (n1 ≤ (9223372036854775807 : Int)) (
impB (sigSmall.pre [DV.n n0, DV.n n1]) (
bR (dec (n0 < (-70368744177664 : Int))) (
 reqB (sigSmall.post [DV.n n0, DV.n n1] [DV.n (2 : Int)]) (
 true)) (
 bR (dec ((70368744177664 : Int) < n0)) (
 reqB (sigSmall.post [DV.n n0, DV.n n1] [DV.n (2 : Int)]) (
 true)) (
 bR (dec (n1 < (-70368744177664 : Int))) (
 reqB (sigSmall.post [DV.n n0, DV.n n1] [DV.n (2 : Int)]) (
 true)) (
 bR (dec ((70368744177664 : Int) < n1)) (
 reqB (sigSmall.post [DV.n n0, DV.n n1] [DV.n (2 : Int)]) (
 true)) (
 reqB (sigSmall.post [DV.n n0, DV.n n1] [DV.n (0 : Int)]) (
 true))))))))))) := by kernel_rfl
set_option maxHeartbeats 8000000 in
theorem vt_small : vcFn Tryd.prog [] noA gl11 100 86 sigSmall = true := by
  rw [vc_small]
  try simp only [Int.toNat_natCast, List.length_set, List.length_replicate, List.length_take, List.length_drop, List.length_append, List.length_cons, List.length_nil, Nat.min_self, List.take_take, lenCols_i, lenCols_b, List.drop_zero, List.take_length, List.take_nil, List.drop_nil, List.take_zero, List.nil_append, Nat.add_eq, Nat.mul_eq, Nat.sub_eq, Nat.zero_add, Nat.add_zero, Nat.sub_zero, Nat.mul_one]
  refine all_i fun n0 => ?_
  refine imp_i fun h0 => ?_
  refine imp_i fun h1 => ?_
  refine all_i fun n1 => ?_
  refine imp_i fun h2 => ?_
  refine imp_i fun h3 => ?_
  refine imp_i fun h4 => ?_
  try simp only [sigSmall, smpV, smallPost, sml, List.cons.injEq, DV.b.injEq, and_true, List.length_cons, List.length_nil] at h4
  refine bR_dec (fun h5 => ?_) (fun h5 => ?_)
  ·
   refine req_i ?_ ?_
   · -- r0
    first | omega | ((try simp only [sigSmall, smpV, smallPost, sml, List.cons.injEq, DV.b.injEq, and_true, List.length_cons, List.length_nil]); first | done | omega | assumption | grind [getD_set, getD_rep, toNat_succ, cntN_yes, cntN_no])
   rfl
  ·
   refine bR_dec (fun h6 => ?_) (fun h6 => ?_)
   ·
    refine req_i ?_ ?_
    · -- r1
     first | omega | ((try simp only [sigSmall, smpV, smallPost, sml, List.cons.injEq, DV.b.injEq, and_true, List.length_cons, List.length_nil]); first | done | omega | assumption | grind [getD_set, getD_rep, toNat_succ, cntN_yes, cntN_no])
    rfl
   ·
    refine bR_dec (fun h7 => ?_) (fun h7 => ?_)
    ·
     refine req_i ?_ ?_
     · -- r2
      first | omega | ((try simp only [sigSmall, smpV, smallPost, sml, List.cons.injEq, DV.b.injEq, and_true, List.length_cons, List.length_nil]); first | done | omega | assumption | grind [getD_set, getD_rep, toNat_succ, cntN_yes, cntN_no])
     rfl
    ·
     refine bR_dec (fun h8 => ?_) (fun h8 => ?_)
     ·
      refine req_i ?_ ?_
      · -- r3
       first | omega | ((try simp only [sigSmall, smpV, smallPost, sml, List.cons.injEq, DV.b.injEq, and_true, List.length_cons, List.length_nil]); first | done | omega | assumption | grind [getD_set, getD_rep, toNat_succ, cntN_yes, cntN_no])
      rfl
     ·
      refine req_i ?_ ?_
      · -- r4
       first | omega | ((try simp only [sigSmall, smpV, smallPost, sml, List.cons.injEq, DV.b.injEq, and_true, List.length_cons, List.length_nil]); first | done | omega | assumption | grind [getD_set, getD_rep, toNat_succ, cntN_yes, cntN_no])
      rfl
theorem ext_small : ∀ p ∈ ([] : List (Nat × Ext)), ExtRow Tryd.prog p.1 p.2 := by
  intro p hp
  cases hp
theorem cts_small : CtsOk Tryd.prog [] := fun f c h => by cases h
theorem fn_small : FnOk Tryd.prog 86 sigSmall gl11 := fn_sound (by kernel_rfl) ext_small cts_small names vt_small
end Go.Proofs.YtiadfbpbeaeflaaDoor

namespace Go.Proofs.YtiadfbpbeaeflaaDoor
open Go.Ev Go.Sp
set_option maxRecDepth 100000
theorem vc_entry : vcFn Tryd.prog [] noA gl11 100 100 sigEnt = (allB fun n0 : Int => 
impB ((-2 : Int) ≤ n0) (
impB (n0 ≤ (70 : Int)) (
impB (sigEnt.pre [DV.n n0]) (
reqB ((n0 % Int.ofNat (16 : Nat)).toNat < (17 : Nat)) (
reqB (Nat.add (0 : Nat) (n0 % Int.ofNat (16 : Nat)).toNat <
 [(127 : Int), (126 : Int), (125 : Int), (122 : Int), (117 : Int), (112 : Int), (106 : Int), (98 : Int), (90 : Int),
 (81 : Int), (71 : Int), (60 : Int), (49 : Int), (37 : Int), (25 : Int), (12 : Int), (0 : Int)].length) (
reqB (((16 : Int) - n0 % Int.ofNat (16 : Nat)).toNat < (17 : Nat)) (
reqB (Nat.add (0 : Nat) ((16 : Int) - n0 % Int.ofNat (16 : Nat)).toNat <
 [(127 : Int), (126 : Int), (125 : Int), (122 : Int), (117 : Int), (112 : Int), (106 : Int), (98 : Int), (90 : Int),
 (81 : Int), (71 : Int), (60 : Int), (49 : Int), (37 : Int), (25 : Int), (12 : Int), (0 : Int)].length) (
bR (dec (n0 / Int.ofNat (16 : Nat) % Int.ofNat (4 : Nat) = (1 : Int))) (
 reqB ((-127 : Int) ≤
 (0 : Int) -
 [(127 : Int), (126 : Int), (125 : Int), (122 : Int), (117 : Int), (112 : Int), (106 : Int), (98 : Int), (90 : Int),
 (81 : Int), (71 : Int), (60 : Int), (49 : Int), (37 : Int), (25 : Int), (12 : Int), (0 : Int)].getD
 (Nat.add (0 : Nat) ((16 : Int) - n0 % Int.ofNat (16 : Nat)).toNat) (0 : Int)) (
 reqB ((0 : Int) -
 [(127 : Int), (126 : Int), (125 : Int), (122 : Int), (117 : Int), (112 : Int), (106 : Int), (98 : Int), (90 : Int),
 (81 : Int), (71 : Int), (60 : Int), (49 : Int), (37 : Int), (25 : Int), (12 : Int), (0 : Int)].getD
 (Nat.add (0 : Nat) ((16 : Int) - n0 % Int.ofNat (16 : Nat)).toNat) (0 : Int) ≤
 (127 : Int)) (
 reqB ((-127 : Int) ≤
 [(127 : Int), (126 : Int), (125 : Int), (122 : Int), (117 : Int), (112 : Int), (106 : Int), (98 : Int), (90 : Int),
 (81 : Int), (71 : Int), (60 : Int), (49 : Int), (37 : Int), (25 : Int), (12 : Int), (0 : Int)].getD
 (Nat.add (0 : Nat) (n0 % Int.ofNat (16 : Nat)).toNat) (0 : Int)) (
 reqB ([(127 : Int), (126 : Int), (125 : Int), (122 : Int), (117 : Int), (112 : Int), (106 : Int), (98 : Int), (90 : Int),
 (81 : Int), (71 : Int), (60 : Int), (49 : Int), (37 : Int), (25 : Int), (12 : Int), (0 : Int)].getD
 (Nat.add (0 : Nat) (n0 % Int.ofNat (16 : Nat)).toNat) (0 : Int) ≤
 (127 : Int)) (
 reqB (sigEnt.post [DV.n n0]
 [DV.n
 ((0 : Int) -
 [(127 : Int), (126 : Int), (125 : Int), (122 : Int), (117 : Int), (112 : Int), (106 : Int), (98 : Int),
 (90 : Int), (81 : Int), (71 : Int), (60 : Int), (49 : Int), (37 : Int), (25 : Int), (12 : Int),
 (0 : Int)].getD
 (Nat.add (0 : Nat) ((16 : Int) - n0 % Int.ofNat (16 : Nat)).toNat) (0 : Int)),
 DV.n
 ([(127 : Int), (126 : Int), (125 : Int), (122 : Int), (117 : Int), (112 : Int), (106 : Int), (98 : Int),
 (90 : Int), (81 : Int), (71 : Int), (60 : Int), (49 : Int), (37 : Int), (25 : Int), (12 : Int),
 (0 : Int)].getD
 (Nat.add (0 : Nat) (n0 % Int.ofNat (16 : Nat)).toNat) (0 : Int))]) (
 true)))))) (
 bR (dec (n0 / Int.ofNat (16 : Nat) % Int.ofNat (4 : Nat) = (2 : Int))) (
 reqB ((-127 : Int) ≤
 (0 : Int) -
 [(127 : Int), (126 : Int), (125 : Int), (122 : Int), (117 : Int), (112 : Int), (106 : Int), (98 : Int), (90 : Int),
 (81 : Int), (71 : Int), (60 : Int), (49 : Int), (37 : Int), (25 : Int), (12 : Int), (0 : Int)].getD
 (Nat.add (0 : Nat) (n0 % Int.ofNat (16 : Nat)).toNat) (0 : Int)) (
 reqB ((0 : Int) -
 [(127 : Int), (126 : Int), (125 : Int), (122 : Int), (117 : Int), (112 : Int), (106 : Int), (98 : Int), (90 : Int),
 (81 : Int), (71 : Int), (60 : Int), (49 : Int), (37 : Int), (25 : Int), (12 : Int), (0 : Int)].getD
 (Nat.add (0 : Nat) (n0 % Int.ofNat (16 : Nat)).toNat) (0 : Int) ≤
 (127 : Int)) (
 reqB ((-127 : Int) ≤
 (0 : Int) -
 [(127 : Int), (126 : Int), (125 : Int), (122 : Int), (117 : Int), (112 : Int), (106 : Int), (98 : Int), (90 : Int),
 (81 : Int), (71 : Int), (60 : Int), (49 : Int), (37 : Int), (25 : Int), (12 : Int), (0 : Int)].getD
 (Nat.add (0 : Nat) ((16 : Int) - n0 % Int.ofNat (16 : Nat)).toNat) (0 : Int)) (
 reqB ((0 : Int) -
 [(127 : Int), (126 : Int), (125 : Int), (122 : Int), (117 : Int), (112 : Int), (106 : Int), (98 : Int), (90 : Int),
 (81 : Int), (71 : Int), (60 : Int), (49 : Int), (37 : Int), (25 : Int), (12 : Int), (0 : Int)].getD
 (Nat.add (0 : Nat) ((16 : Int) - n0 % Int.ofNat (16 : Nat)).toNat) (0 : Int) ≤
 (127 : Int)) (
 reqB (sigEnt.post [DV.n n0]
 [DV.n
 ((0 : Int) -
 [(127 : Int), (126 : Int), (125 : Int), (122 : Int), (117 : Int), (112 : Int), (106 : Int), (98 : Int),
 (90 : Int), (81 : Int), (71 : Int), (60 : Int), (49 : Int), (37 : Int), (25 : Int), (12 : Int),
 (0 : Int)].getD
 (Nat.add (0 : Nat) (n0 % Int.ofNat (16 : Nat)).toNat) (0 : Int)),
 DV.n
 ((0 : Int) -
 [(127 : Int), (126 : Int), (125 : Int), (122 : Int), (117 : Int), (112 : Int), (106 : Int), (98 : Int),
 (90 : Int), (81 : Int), (71 : Int), (60 : Int), (49 : Int), (37 : Int), (25 : Int), (12 : Int),
 (0 : Int)].getD
 (Nat.add (0 : Nat) ((16 : Int) - n0 % Int.ofNat (16 : Nat)).toNat) (0 : Int))]) (
 true)))))) (
 bR (dec (n0 / Int.ofNat (16 : Nat) % Int.ofNat (4 : Nat) = (3 : Int))) (
 reqB ((-127 : Int) ≤
 [(127 : Int), (126 : Int), (125 : Int), (122 : Int), (117 : Int), (112 : Int), (106 : Int), (98 : Int), (90 : Int),
 (81 : Int), (71 : Int), (60 : Int), (49 : Int), (37 : Int), (25 : Int), (12 : Int), (0 : Int)].getD
 (Nat.add (0 : Nat) ((16 : Int) - n0 % Int.ofNat (16 : Nat)).toNat) (0 : Int)) (
 reqB ([(127 : Int), (126 : Int), (125 : Int), (122 : Int), (117 : Int), (112 : Int), (106 : Int), (98 : Int), (90 : Int),
 (81 : Int), (71 : Int), (60 : Int), (49 : Int), (37 : Int), (25 : Int), (12 : Int), (0 : Int)].getD
 (Nat.add (0 : Nat) ((16 : Int) - n0 % Int.ofNat (16 : Nat)).toNat) (0 : Int) ≤
 (127 : Int)) (
 reqB ((-127 : Int) ≤
 (0 : Int) -
 [(127 : Int), (126 : Int), (125 : Int), (122 : Int), (117 : Int), (112 : Int), (106 : Int), (98 : Int), (90 : Int),
 (81 : Int), (71 : Int), (60 : Int), (49 : Int), (37 : Int), (25 : Int), (12 : Int), (0 : Int)].getD
 (Nat.add (0 : Nat) (n0 % Int.ofNat (16 : Nat)).toNat) (0 : Int)) (
 reqB ((0 : Int) -
 [(127 : Int), (126 : Int), (125 : Int), (122 : Int), (117 : Int), (112 : Int), (106 : Int), (98 : Int), (90 : Int),
 (81 : Int), (71 : Int), (60 : Int), (49 : Int), (37 : Int), (25 : Int), (12 : Int), (0 : Int)].getD
 (Nat.add (0 : Nat) (n0 % Int.ofNat (16 : Nat)).toNat) (0 : Int) ≤
 (127 : Int)) (
 reqB (sigEnt.post [DV.n n0]
 [DV.n
 ([(127 : Int), (126 : Int), (125 : Int), (122 : Int), (117 : Int), (112 : Int), (106 : Int), (98 : Int),
 (90 : Int), (81 : Int), (71 : Int), (60 : Int), (49 : Int), (37 : Int), (25 : Int), (12 : Int),
 (0 : Int)].getD
 (Nat.add (0 : Nat) ((16 : Int) - n0 % Int.ofNat (16 : Nat)).toNat) (0 : Int)),
 DV.n
 ((0 : Int) -
 [(127 : Int), (126 : Int), (125 : Int), (122 : Int), (117 : Int), (112 : Int), (106 : Int), (98 : Int),
 (90 : Int), (81 : Int), (71 : Int), (60 : Int), (49 : Int), (37 : Int), (25 : Int), (12 : Int),
 (0 : Int)].getD
 (Nat.add (0 : Nat) (n0 % Int.ofNat (16 : Nat)).toNat) (0 : Int))]) (
 true)))))) (
 reqB ((-127 : Int) ≤
 [(127 : Int), (126 : Int), (125 : Int), (122 : Int), (117 : Int), (112 : Int), (106 : Int), (98 : Int), (90 : Int),
 (81 : Int), (71 : Int), (60 : Int), (49 : Int), (37 : Int), (25 : Int), (12 : Int), (0 : Int)].getD
 (Nat.add (0 : Nat) (n0 % Int.ofNat (16 : Nat)).toNat) (0 : Int)) (
 reqB ([(127 : Int), (126 : Int), (125 : Int), (122 : Int), (117 : Int), (112 : Int), (106 : Int), (98 : Int), (90 : Int),
 (81 : Int), (71 : Int), (60 : Int), (49 : Int), (37 : Int), (25 : Int), (12 : Int), (0 : Int)].getD
 (Nat.add (0 : Nat) (n0 % Int.ofNat (16 : Nat)).toNat) (0 : Int) ≤
 (127 : Int)) (
 reqB ((-127 : Int) ≤
 [(127 : Int), (126 : Int), (125 : Int), (122 : Int), (117 : Int), (112 : Int), (106 : Int), (98 : Int), (90 : Int),
 (81 : Int), (71 : Int), (60 : Int), (49 : Int), (37 : Int), (25 : Int), (12 : Int), (0 : Int)].getD
 (Nat.add (0 : Nat) ((16 : Int) - n0 % Int.ofNat (16 : Nat)).toNat) (0 : Int)) (
 reqB ([(127 : Int), (126 : Int), (125 : Int), (122 : Int), (117 : Int), (112 : Int), (106 : Int), (98 : Int), (90 : Int),
 (81 : Int), (71 : Int), (60 : Int), (49 : Int), (37 : Int), (25 : Int), (12 : Int), (0 : Int)].getD
 (Nat.add (0 : Nat) ((16 : Int) - n0 % Int.ofNat (16 : Nat)).toNat) (0 : Int) ≤
 (127 : Int)) (
 reqB (sigEnt.post [DV.n n0]
 [DV.n
 ([(127 : Int), (126 : Int), (125 : Int), (122 : Int), (117 : Int), (112 : Int), (106 : Int), (98 : Int),
 (90 : Int), (81 : Int), (71 : Int), (60 : Int), (49 : Int), (37 : Int), (25 : Int), (12 : Int),
 (0 : Int)].getD
 (Nat.add (0 : Nat) (n0 % Int.ofNat (16 : Nat)).toNat) (0 : Int)),
 DV.n
 ([(127 : Int), (126 : Int), (125 : Int), (122 : Int), (117 : Int), (112 : Int), (106 : Int), (98 : Int),
 (90 : Int), (81 : Int), (71 : Int), (60 : Int), (49 : Int), (37 : Int), (25 : Int), (12 : Int),
 (0 : Int)].getD
 (Nat.add (0 : Nat) ((16 : Int) - n0 % Int.ofNat (16 : Nat)).toNat) (0 : Int))]) (
 true)))))))))))))))) := by kernel_rfl
set_option maxHeartbeats 8000000 in
theorem vt_entry : vcFn Tryd.prog [] noA gl11 100 100 sigEnt = true := by
  rw [vc_entry]
  try simp only [Int.toNat_natCast, List.length_set, List.length_replicate, List.length_take, List.length_drop, List.length_append, List.length_cons, List.length_nil, Nat.min_self, List.take_take, lenCols_i, lenCols_b, List.drop_zero, List.take_length, List.take_nil, List.drop_nil, List.take_zero, List.nil_append, Nat.add_eq, Nat.mul_eq, Nat.sub_eq, Nat.zero_add, Nat.add_zero, Nat.sub_zero, Nat.mul_one]
  refine all_i fun n0 => ?_
  refine imp_i fun h0 => ?_
  refine imp_i fun h1 => ?_
  refine imp_i fun h2 => ?_
  try simp only [sigEnt, entPost, List.cons.injEq, DV.b.injEq, and_true, List.length_cons, List.length_nil] at h2
  refine req_i ?_ ?_
  · -- r0
   (try revert h3); (try revert h4); (try revert h5); (try revert h6); (try simp only [sigEnt, entPost]); (apply upto _ n0 h0 h1); decide +kernel
  refine req_i ?_ ?_
  · -- r1
   (try revert h3); (try revert h4); (try revert h5); (try revert h6); (try simp only [sigEnt, entPost]); (apply upto _ n0 h0 h1); decide +kernel
  refine req_i ?_ ?_
  · -- r2
   (try revert h3); (try revert h4); (try revert h5); (try revert h6); (try simp only [sigEnt, entPost]); (apply upto _ n0 h0 h1); decide +kernel
  refine req_i ?_ ?_
  · -- r3
   (try revert h3); (try revert h4); (try revert h5); (try revert h6); (try simp only [sigEnt, entPost]); (apply upto _ n0 h0 h1); decide +kernel
  refine bR_dec (fun h3 => ?_) (fun h3 => ?_)
  ·
   refine req_i ?_ ?_
   · -- r4
    (try revert h3); (try revert h4); (try revert h5); (try revert h6); (try simp only [sigEnt, entPost]); (apply upto _ n0 h0 h1); decide +kernel
   refine req_i ?_ ?_
   · -- r5
    (try revert h3); (try revert h4); (try revert h5); (try revert h6); (try simp only [sigEnt, entPost]); (apply upto _ n0 h0 h1); decide +kernel
   refine req_i ?_ ?_
   · -- r6
    (try revert h3); (try revert h4); (try revert h5); (try revert h6); (try simp only [sigEnt, entPost]); (apply upto _ n0 h0 h1); decide +kernel
   refine req_i ?_ ?_
   · -- r7
    (try revert h3); (try revert h4); (try revert h5); (try revert h6); (try simp only [sigEnt, entPost]); (apply upto _ n0 h0 h1); decide +kernel
   refine req_i ?_ ?_
   · -- r8
    (try revert h3); (try revert h4); (try revert h5); (try revert h6); (try simp only [sigEnt, entPost]); (apply upto _ n0 h0 h1); decide +kernel
   rfl
  ·
   refine bR_dec (fun h4 => ?_) (fun h4 => ?_)
   ·
    refine req_i ?_ ?_
    · -- r9
     (try revert h3); (try revert h4); (try revert h5); (try revert h6); (try simp only [sigEnt, entPost]); (apply upto _ n0 h0 h1); decide +kernel
    refine req_i ?_ ?_
    · -- r10
     (try revert h3); (try revert h4); (try revert h5); (try revert h6); (try simp only [sigEnt, entPost]); (apply upto _ n0 h0 h1); decide +kernel
    refine req_i ?_ ?_
    · -- r11
     (try revert h3); (try revert h4); (try revert h5); (try revert h6); (try simp only [sigEnt, entPost]); (apply upto _ n0 h0 h1); decide +kernel
    refine req_i ?_ ?_
    · -- r12
     (try revert h3); (try revert h4); (try revert h5); (try revert h6); (try simp only [sigEnt, entPost]); (apply upto _ n0 h0 h1); decide +kernel
    refine req_i ?_ ?_
    · -- r13
     (try revert h3); (try revert h4); (try revert h5); (try revert h6); (try simp only [sigEnt, entPost]); (apply upto _ n0 h0 h1); decide +kernel
    rfl
   ·
    refine bR_dec (fun h5 => ?_) (fun h5 => ?_)
    ·
     refine req_i ?_ ?_
     · -- r14
      (try revert h3); (try revert h4); (try revert h5); (try revert h6); (try simp only [sigEnt, entPost]); (apply upto _ n0 h0 h1); decide +kernel
     refine req_i ?_ ?_
     · -- r15
      (try revert h3); (try revert h4); (try revert h5); (try revert h6); (try simp only [sigEnt, entPost]); (apply upto _ n0 h0 h1); decide +kernel
     refine req_i ?_ ?_
     · -- r16
      (try revert h3); (try revert h4); (try revert h5); (try revert h6); (try simp only [sigEnt, entPost]); (apply upto _ n0 h0 h1); decide +kernel
     refine req_i ?_ ?_
     · -- r17
      (try revert h3); (try revert h4); (try revert h5); (try revert h6); (try simp only [sigEnt, entPost]); (apply upto _ n0 h0 h1); decide +kernel
     refine req_i ?_ ?_
     · -- r18
      (try revert h3); (try revert h4); (try revert h5); (try revert h6); (try simp only [sigEnt, entPost]); (apply upto _ n0 h0 h1); decide +kernel
     rfl
    ·
     refine req_i ?_ ?_
     · -- r19
      (try revert h3); (try revert h4); (try revert h5); (try revert h6); (try simp only [sigEnt, entPost]); (apply upto _ n0 h0 h1); decide +kernel
     refine req_i ?_ ?_
     · -- r20
      (try revert h3); (try revert h4); (try revert h5); (try revert h6); (try simp only [sigEnt, entPost]); (apply upto _ n0 h0 h1); decide +kernel
     refine req_i ?_ ?_
     · -- r21
      (try revert h3); (try revert h4); (try revert h5); (try revert h6); (try simp only [sigEnt, entPost]); (apply upto _ n0 h0 h1); decide +kernel
     refine req_i ?_ ?_
     · -- r22
      (try revert h3); (try revert h4); (try revert h5); (try revert h6); (try simp only [sigEnt, entPost]); (apply upto _ n0 h0 h1); decide +kernel
     refine req_i ?_ ?_
     · -- r23
      (try revert h3); (try revert h4); (try revert h5); (try revert h6); (try simp only [sigEnt, entPost]); (apply upto _ n0 h0 h1); decide +kernel
     rfl
theorem ext_entry : ∀ p ∈ ([] : List (Nat × Ext)), ExtRow Tryd.prog p.1 p.2 := by
  intro p hp
  cases hp
theorem cts_entry : CtsOk Tryd.prog [] := fun f c h => by cases h
theorem fn_entry : FnOk Tryd.prog 100 sigEnt gl11 := fn_sound (by kernel_rfl) ext_entry cts_entry names vt_entry
end Go.Proofs.YtiadfbpbeaeflaaDoor

namespace Go.Proofs.YtiadfbpbeaeflaaDoor
open Go.Ev Go.Sp
set_option maxRecDepth 100000
theorem vc_car : vcFn Tryd.prog [(100, Ext.ctr (ctOfG gl11 sigEnt))] noA gl11 100 87 sigCar = (allB fun n0 : Int => 
impB ((0 : Int) ≤ n0) (
impB (n0 ≤ (4294967295 : Int)) (
impB (sigCar.pre [DV.n n0]) (
reqB ((-2 : Int) ≤ n0 / Int.ofNat (67108864 : Nat)) (
reqB (n0 / Int.ofNat (67108864 : Nat) ≤ (70 : Int)) (
reqB (sigEnt.pre [DV.n (n0 / Int.ofNat (67108864 : Nat))]) (
allB fun n1 : Int => 
impB ((-127 : Int) ≤ n1) (
impB (n1 ≤ (127 : Int)) (
allB fun n2 : Int => 
impB ((-127 : Int) ≤ n2) (
impB (n2 ≤ (127 : Int)) (
impB (sigEnt.post [DV.n (n0 / Int.ofNat (67108864 : Nat))] [DV.n n1, DV.n n2]) (
reqB ((-127 : Int) ≤ n1) (
reqB (n1 ≤ (127 : Int)) (
reqB ((-127 : Int) ≤ n2) (
reqB (n2 ≤ (127 : Int)) (
reqB (sigCar.post [DV.n n0] [DV.n n1, DV.n n2]) (
true))))))))))))))))) := by kernel_rfl
set_option maxHeartbeats 8000000 in
theorem vt_car : vcFn Tryd.prog [(100, Ext.ctr (ctOfG gl11 sigEnt))] noA gl11 100 87 sigCar = true := by
  rw [vc_car]
  try simp only [Int.toNat_natCast, List.length_set, List.length_replicate, List.length_take, List.length_drop, List.length_append, List.length_cons, List.length_nil, Nat.min_self, List.take_take, lenCols_i, lenCols_b, List.drop_zero, List.take_length, List.take_nil, List.drop_nil, List.take_zero, List.nil_append, Nat.add_eq, Nat.mul_eq, Nat.sub_eq, Nat.zero_add, Nat.add_zero, Nat.sub_zero, Nat.mul_one]
  refine all_i fun n0 => ?_
  refine imp_i fun h0 => ?_
  refine imp_i fun h1 => ?_
  refine imp_i fun h2 => ?_
  try simp only [sigCar, u32, carPost, List.cons.injEq, DV.b.injEq, and_true, List.length_cons, List.length_nil] at h2
  refine req_i ?_ ?_
  · -- r0
   first | omega | assumption | grind
  refine req_i ?_ ?_
  · -- r1
   first | omega | assumption | grind
  refine req_i ?_ ?_
  · -- r2
   first | trivial | assumption | (simp only [sigEnt, entPost, List.cons.injEq, DV.b.injEq, and_true, List.length_cons, List.length_nil]; done) | ((try simp only [sigEnt, entPost, List.cons.injEq, DV.b.injEq, and_true, List.length_cons, List.length_nil]); first | omega | assumption | grind)
  refine all_i fun n1 => ?_
  refine imp_i fun h3 => ?_
  refine imp_i fun h4 => ?_
  refine all_i fun n2 => ?_
  refine imp_i fun h5 => ?_
  refine imp_i fun h6 => ?_
  refine imp_i fun h7 => ?_
  try simp only [sigEnt, entPost, List.cons.injEq, DV.b.injEq, and_true, List.length_cons, List.length_nil] at h7
  refine req_i ?_ ?_
  · -- r3
   first | omega | assumption | grind
  refine req_i ?_ ?_
  · -- r4
   first | omega | assumption | grind
  refine req_i ?_ ?_
  · -- r5
   first | omega | assumption | grind
  refine req_i ?_ ?_
  · -- r6
   first | omega | assumption | grind
  refine req_i ?_ ?_
  · -- r7
   first | omega | ((try simp only [sigCar, u32, carPost, List.cons.injEq, DV.b.injEq, and_true, List.length_cons, List.length_nil]); first | done | omega | assumption | grind [getD_set, getD_rep, toNat_succ, cntN_yes, cntN_no])
  rfl
theorem ext_car : ∀ p ∈ ([(100, Ext.ctr (ctOfG gl11 sigEnt))] : List (Nat × Ext)), ExtRow Tryd.prog p.1 p.2 := by
  intro p hp
  simp only [List.mem_cons, List.not_mem_nil, or_false] at hp
  rcases hp with rfl
  · trivial
theorem cts_car : CtsOk Tryd.prog [(100, Ext.ctr (ctOfG gl11 sigEnt))] := ctsOk_ofG (cs := [(100, sigEnt)])
  (fun p hp => by
    simp only [List.mem_cons, List.not_mem_nil, or_false] at hp
    rcases hp with rfl
    · exact fn_entry
)
  (fun f c h => by
    simp only [List.lookup_cons] at h
    repeat' split at h
    all_goals first | (cases h; done) | (rename_i e; have e := beq_iff_eq.1 e; subst e; cases h; refine ⟨_, ?_, rfl⟩; simp))
theorem fn_car : FnOk Tryd.prog 87 sigCar gl11 := fn_sound (by kernel_rfl) ext_car cts_car names vt_car
end Go.Proofs.YtiadfbpbeaeflaaDoor

namespace Go.Proofs.YtiadfbpbeaeflaaDoor
open Go.Ev Go.Sp
set_option maxRecDepth 100000
theorem vc_wipe : vcFn Tryd.prog [(86, Ext.ctr (ctOfG gl11 sigSmall)), (87, Ext.ctr (ctOfG gl11 sigCar))] noA gl11 100 68 sigWipe = (allB fun n0 : Int => 
impB ((-9223372036854775808 : Int) ≤ n0) (
impB (n0 ≤ (9223372036854775807 : Int)) (
allB fun n1 : Int => 
impB ((-9223372036854775808 : Int) ≤ n1) (
impB (n1 ≤ (9223372036854775807 : Int)) (
allB fun n2 : Int => 
impB ((0 : Int) ≤ n2) (
impB (n2 ≤ (4294967295 : Int)) (
impB (sigWipe.pre [DV.n n0, DV.n n1, DV.n n2]) (
reqB ((-9223372036854775808 : Int) ≤ n0) (
reqB (n0 ≤ (9223372036854775807 : Int)) (
reqB ((-9223372036854775808 : Int) ≤ n1) (
reqB (n1 ≤ (9223372036854775807 : Int)) (
reqB (sigSmall.pre [DV.n n0, DV.n n1]) (
allB fun n3 : Int => 
impB ((0 : Int) ≤ n3) (
impB (n3 ≤ (18 : Int)) (
impB (sigSmall.post [DV.n n0, DV.n n1] [DV.n n3]) (
bR (dec (n3 ≠ (0 : Int))) (
 reqB ((0 : Int) ≤ n3) (
 reqB (n3 ≤ (18 : Int)) (
 reqB (sigWipe.post [DV.n n0, DV.n n1, DV.n n2]
 [DV.n (0 : Int), DV.n (0 : Int), DV.n n3]) (
 true)))) (
 reqB ((0 : Int) ≤ n2) (
 reqB (n2 ≤ (4294967295 : Int)) (
 reqB (sigCar.pre [DV.n n2]) (
 allB fun n4 : Int => 
 impB ((-127 : Int) ≤ n4) (
 impB (n4 ≤ (127 : Int)) (
 allB fun n5 : Int => 
 impB ((-127 : Int) ≤ n5) (
 impB (n5 ≤ (127 : Int)) (
 impB (sigCar.post [DV.n n2] [DV.n n4, DV.n n5]) (
 allB fun n6 : Int => 
 impB (n6 = Go.IntKind.i64.wrap (n0 * n4)) (
 impB (Int.negSucc (9223372036854775807 : Nat) ≤ n6) (
 impB (n6 ≤ Int.ofNat (9223372036854775807 : Nat)) (
 allB fun n7 : Int => 
 impB (n7 = Go.IntKind.i64.wrap (n1 * n5)) (
 impB (Int.negSucc (9223372036854775807 : Nat) ≤ n7) (
 impB (n7 ≤ Int.ofNat (9223372036854775807 : Nat)) (
 allB fun n8 : Int => 
 impB (n8 = Go.IntKind.i64.wrap (n6 + n7)) (
 impB (Int.negSucc (9223372036854775807 : Nat) ≤ n8) (
 impB (n8 ≤ Int.ofNat (9223372036854775807 : Nat)) (
 allB fun n9 : Int => 
 impB (n9 = Go.IntKind.i64.wrap (n1 * n4)) (
 impB (Int.negSucc (9223372036854775807 : Nat) ≤ n9) (
 impB (n9 ≤ Int.ofNat (9223372036854775807 : Nat)) (
 allB fun n10 : Int => 
 impB (n10 = Go.IntKind.i64.wrap (n0 * n5)) (
 impB (Int.negSucc (9223372036854775807 : Nat) ≤ n10) (
 impB (n10 ≤ Int.ofNat (9223372036854775807 : Nat)) (
 allB fun n11 : Int => 
 impB (n11 = Go.IntKind.i64.wrap (n9 - n10)) (
 impB (Int.negSucc (9223372036854775807 : Nat) ≤ n11) (
 impB (n11 ≤ Int.ofNat (9223372036854775807 : Nat)) (
 reqB ((-17873661021126656 : Int) ≤ n8) (
 reqB (n8 ≤ (17873661021126656 : Int)) (
 reqB ((-17873661021126656 : Int) ≤ n11) (
 reqB (n11 ≤ (17873661021126656 : Int)) (
 reqB (sigWipe.post [DV.n n0, DV.n n1, DV.n n2] [DV.n n8, DV.n n11, DV.n (0 : Int)]) (
 true)))))))))))))))))))))))))))))))))))))))))))))))) := by kernel_rfl
set_option maxHeartbeats 8000000 in
theorem vt_wipe : vcFn Tryd.prog [(86, Ext.ctr (ctOfG gl11 sigSmall)), (87, Ext.ctr (ctOfG gl11 sigCar))] noA gl11 100 68 sigWipe = true := by
  rw [vc_wipe]
  try simp only [Int.toNat_natCast, List.length_set, List.length_replicate, List.length_take, List.length_drop, List.length_append, List.length_cons, List.length_nil, Nat.min_self, List.take_take, lenCols_i, lenCols_b, List.drop_zero, List.take_length, List.take_nil, List.drop_nil, List.take_zero, List.nil_append, Nat.add_eq, Nat.mul_eq, Nat.sub_eq, Nat.zero_add, Nat.add_zero, Nat.sub_zero, Nat.mul_one]
  refine all_i fun n0 => ?_
  refine imp_i fun h0 => ?_
  refine imp_i fun h1 => ?_
  refine all_i fun n1 => ?_
  refine imp_i fun h2 => ?_
  refine imp_i fun h3 => ?_
  refine all_i fun n2 => ?_
  refine imp_i fun h4 => ?_
  refine imp_i fun h5 => ?_
  refine imp_i fun h6 => ?_
  try simp only [sigWipe, smpV, u32, mxW, wipPost, sml, wC, wS, List.cons.injEq, DV.b.injEq, and_true, List.length_cons, List.length_nil] at h6
  refine req_i ?_ ?_
  · -- r0
   first | omega | assumption | grind
  refine req_i ?_ ?_
  · -- r1
   first | omega | assumption | grind
  refine req_i ?_ ?_
  · -- r2
   first | omega | assumption | grind
  refine req_i ?_ ?_
  · -- r3
   first | omega | assumption | grind
  refine req_i ?_ ?_
  · -- r4
   first | trivial | assumption | (simp only [sigSmall, smpV, smallPost, sml, List.cons.injEq, DV.b.injEq, and_true, List.length_cons, List.length_nil]; done) | ((try simp only [sigSmall, smpV, smallPost, sml, List.cons.injEq, DV.b.injEq, and_true, List.length_cons, List.length_nil]); first | omega | assumption | grind)
  refine all_i fun n3 => ?_
  refine imp_i fun h7 => ?_
  refine imp_i fun h8 => ?_
  refine imp_i fun h9 => ?_
  try simp only [sigSmall, smpV, smallPost, sml, List.cons.injEq, DV.b.injEq, and_true, List.length_cons, List.length_nil] at h9
  refine bR_dec (fun h10 => ?_) (fun h10 => ?_)
  ·
   refine req_i ?_ ?_
   · -- r5
    first | omega | assumption | grind
   refine req_i ?_ ?_
   · -- r6
    first | omega | assumption | grind
   refine req_i ?_ ?_
   · -- r7
    first | omega | ((try simp only [sigWipe, smpV, u32, mxW, wipPost, sml, wC, wS, List.cons.injEq, DV.b.injEq, and_true, List.length_cons, List.length_nil]); first | done | omega | assumption | grind [getD_set, getD_rep, toNat_succ, cntN_yes, cntN_no])
   rfl
  ·
   refine req_i ?_ ?_
   · -- r8
    first | omega | assumption | grind
   refine req_i ?_ ?_
   · -- r9
    first | omega | assumption | grind
   refine req_i ?_ ?_
   · -- r10
    first | trivial | assumption | (simp only [sigCar, u32, carPost, List.cons.injEq, DV.b.injEq, and_true, List.length_cons, List.length_nil]; done) | ((try simp only [sigCar, u32, carPost, List.cons.injEq, DV.b.injEq, and_true, List.length_cons, List.length_nil]); first | omega | assumption | grind)
   refine all_i fun n4 => ?_
   refine imp_i fun h11 => ?_
   refine imp_i fun h12 => ?_
   refine all_i fun n5 => ?_
   refine imp_i fun h13 => ?_
   refine imp_i fun h14 => ?_
   refine imp_i fun h15 => ?_
   try simp only [sigCar, u32, carPost, List.cons.injEq, DV.b.injEq, and_true, List.length_cons, List.length_nil] at h15
   refine all_i fun n6 => ?_
   refine imp_i fun h16 => ?_
   simp only [wrap_i64] at h16
   have ph16 := mul_abs (a := n0) (b := n4) (A := 70368744177664) (B := 127) (by omega) (by omega) (by omega) (by omega)
   have h16 : n6 = n0 * n4 := by omega
   refine imp_i fun h17 => ?_
   refine imp_i fun h18 => ?_
   refine all_i fun n7 => ?_
   refine imp_i fun h19 => ?_
   simp only [wrap_i64] at h19
   have ph19 := mul_abs (a := n1) (b := n5) (A := 70368744177664) (B := 127) (by omega) (by omega) (by omega) (by omega)
   have h19 : n7 = n1 * n5 := by omega
   refine imp_i fun h20 => ?_
   refine imp_i fun h21 => ?_
   refine all_i fun n8 => ?_
   refine imp_i fun h22 => ?_
   simp only [wrap_i64] at h22
   have h22 : n8 = n6 + n7 := by omega
   refine imp_i fun h23 => ?_
   refine imp_i fun h24 => ?_
   refine all_i fun n9 => ?_
   refine imp_i fun h25 => ?_
   simp only [wrap_i64] at h25
   have ph25 := mul_abs (a := n1) (b := n4) (A := 70368744177664) (B := 127) (by omega) (by omega) (by omega) (by omega)
   have h25 : n9 = n1 * n4 := by omega
   refine imp_i fun h26 => ?_
   refine imp_i fun h27 => ?_
   refine all_i fun n10 => ?_
   refine imp_i fun h28 => ?_
   simp only [wrap_i64] at h28
   have ph28 := mul_abs (a := n0) (b := n5) (A := 70368744177664) (B := 127) (by omega) (by omega) (by omega) (by omega)
   have h28 : n10 = n0 * n5 := by omega
   refine imp_i fun h29 => ?_
   refine imp_i fun h30 => ?_
   refine all_i fun n11 => ?_
   refine imp_i fun h31 => ?_
   simp only [wrap_i64] at h31
   have h31 : n11 = n9 - n10 := by omega
   refine imp_i fun h32 => ?_
   refine imp_i fun h33 => ?_
   refine req_i ?_ ?_
   · -- r11
    first | omega | assumption | grind
   refine req_i ?_ ?_
   · -- r12
    first | omega | assumption | grind
   refine req_i ?_ ?_
   · -- r13
    first | omega | assumption | grind
   refine req_i ?_ ?_
   · -- r14
    first | omega | assumption | grind
   refine req_i ?_ ?_
   · -- r15
    first | omega | ((try simp only [sigWipe, smpV, u32, mxW, wipPost, sml, wC, wS, List.cons.injEq, DV.b.injEq, and_true, List.length_cons, List.length_nil]); first | done | omega | assumption | grind [getD_set, getD_rep, toNat_succ, cntN_yes, cntN_no])
   rfl
theorem ext_wipe : ∀ p ∈ ([(86, Ext.ctr (ctOfG gl11 sigSmall)), (87, Ext.ctr (ctOfG gl11 sigCar))] : List (Nat × Ext)), ExtRow Tryd.prog p.1 p.2 := by
  intro p hp
  simp only [List.mem_cons, List.not_mem_nil, or_false] at hp
  rcases hp with rfl | rfl
  · trivial
  · trivial
theorem cts_wipe : CtsOk Tryd.prog [(86, Ext.ctr (ctOfG gl11 sigSmall)), (87, Ext.ctr (ctOfG gl11 sigCar))] := ctsOk_ofG (cs := [(86, sigSmall), (87, sigCar)])
  (fun p hp => by
    simp only [List.mem_cons, List.not_mem_nil, or_false] at hp
    rcases hp with rfl | rfl
    · exact fn_small
    · exact fn_car
)
  (fun f c h => by
    simp only [List.lookup_cons] at h
    repeat' split at h
    all_goals first | (cases h; done) | (rename_i e; have e := beq_iff_eq.1 e; subst e; cases h; refine ⟨_, ?_, rfl⟩; simp))
theorem fn_wipe : FnOk Tryd.prog 68 sigWipe gl11 := fn_sound (by kernel_rfl) ext_wipe cts_wipe names vt_wipe
end Go.Proofs.YtiadfbpbeaeflaaDoor

namespace Go.Proofs.YtiadfbpbeaeflaaDoor
open Go.Ev Go.Sp
set_option maxRecDepth 100000
theorem vc_spun : vcFn Tryd.prog [(69, Ext.ctr (ctOfG gl11 sigAdv)), (68, Ext.ctr (ctOfG gl11 sigWipe))] (fun f p _ => at2 f p 41 58 spL (none)) gl11 100 41 sigSp = (allB fun l0 : List Int => 
impB (l0.length ≤ (30 : Nat)) (
impB (∀ (y : Int), y ∈ l0 → (-9223372036854775808 : Int) ≤ y ∧ y ≤ (9223372036854775807 : Int)) (
allB fun l1 : List Int => 
impB (l1.length = l0.length) (
impB (∀ (y : Int), y ∈ l1 → (-9223372036854775808 : Int) ≤ y ∧ y ≤ (9223372036854775807 : Int)) (
allB fun n2 : Int => 
impB ((0 : Int) ≤ n2) (
impB (n2 ≤ (4294967295 : Int)) (
impB (sigSp.pre [DV.l l0, DV.l l1, DV.n n2]) (
reqB (((0 : Nat) + l0.length) * (2 : Nat) ≤ l0.length.mul (2 : Nat)) (
reqB (l0.length ≤ (30 : Nat)) (
reqB ((List.take l0.length (List.drop (0 : Nat) l0)).length = l0.length) (
reqB (∀ (y : Int),
 y ∈ List.take l0.length (List.drop (0 : Nat) l0) → (-9223372036854775808 : Int) ≤ y ∧ y ≤ (9223372036854775807 : Int)) (
reqB ((List.take l0.length (List.drop (0 : Nat) l1)).length = l0.length) (
reqB (∀ (y : Int),
 y ∈ List.take l0.length (List.drop (0 : Nat) l1) → (-9223372036854775808 : Int) ≤ y ∧ y ≤ (9223372036854775807 : Int)) (
reqB ((0 : Int) ≤ n2) (
reqB (n2 ≤ (4294967295 : Int)) (
reqB (spL.inv
 [DV.l (List.take l0.length (List.drop (0 : Nat) l0)), DV.l (List.take l0.length (List.drop (0 : Nat) l1)),
 DV.n n2]
 [DV.n (0 : Int), DV.n (0 : Int), DV.n (0 : Int)]) (
allB fun n3 : Int => 
impB ((0 : Int) ≤ n3) (
impB (n3 ≤ (30 : Int)) (
allB fun n4 : Int => 
impB ((-4261412864 : Int) ≤ n4) (
impB (n4 ≤ (4261412864 : Int)) (
allB fun n5 : Int => 
impB ((-4261412864 : Int) ≤ n5) (
impB (n5 ≤ (4261412864 : Int)) (
impB (spL.inv
 [DV.l (List.take l0.length (List.drop (0 : Nat) l0)), DV.l (List.take l0.length (List.drop (0 : Nat) l1)),
 DV.n n2]
 [DV.n n3, DV.n n4, DV.n n5]) (
bR (dec (n3 < (↑l0.length : Int))) (
 reqB (n3.toNat < l0.length) (
 reqB (Nat.add (0 : Nat) n3.toNat < l0.length) (
 reqB (Nat.add (0 : Nat) n3.toNat < l1.length) (
 reqB ((0 : Int) ≤ n2) (
 reqB (n2 ≤ (4294967295 : Int)) (
 reqB ((-9223372036854775808 : Int) ≤ n3) (
 reqB (n3 ≤ (9223372036854775807 : Int)) (
 reqB (sigAdv.pre [DV.n (0 : Int), DV.n n2, DV.n n3]) (
 allB fun n6 : Int => 
 impB ((0 : Int) ≤ n6) (
 impB (n6 ≤ (4294967295 : Int)) (
 impB (sigAdv.post [DV.n (0 : Int), DV.n n2, DV.n n3] [DV.n n6]) (
 reqB ((-9223372036854775808 : Int) ≤ l0.getD (Nat.add (0 : Nat) n3.toNat) (0 : Int)) (
 reqB (l0.getD (Nat.add (0 : Nat) n3.toNat) (0 : Int) ≤ (9223372036854775807 : Int)) (
 reqB ((-9223372036854775808 : Int) ≤ l1.getD (Nat.add (0 : Nat) n3.toNat) (0 : Int)) (
 reqB (l1.getD (Nat.add (0 : Nat) n3.toNat) (0 : Int) ≤ (9223372036854775807 : Int)) (
 reqB ((0 : Int) ≤ n6) (
 reqB (n6 ≤ (4294967295 : Int)) (
 reqB (sigWipe.pre
 [DV.n (l0.getD (Nat.add (0 : Nat) n3.toNat) (0 : Int)),
 DV.n (l1.getD (Nat.add (0 : Nat) n3.toNat) (0 : Int)), DV.n n6]) (
 allB fun n7 : Int => 
 impB ((-17873661021126656 : Int) ≤ n7) (
 impB (n7 ≤ (17873661021126656 : Int)) (
 allB fun n8 : Int => 
 impB ((-17873661021126656 : Int) ≤ n8) (
 impB (n8 ≤ (17873661021126656 : Int)) (
 allB fun n9 : Int => 
 impB ((0 : Int) ≤ n9) (
 impB (n9 ≤ (18 : Int)) (
 impB (sigWipe.post
 [DV.n (l0.getD (Nat.add (0 : Nat) n3.toNat) (0 : Int)),
 DV.n (l1.getD (Nat.add (0 : Nat) n3.toNat) (0 : Int)), DV.n n6]
 [DV.n n7, DV.n n8, DV.n n9]) (
 bR (bR (bR (dec ((0 : Nat) = (0 : Nat))) (
 dec (l0.length = l0.length)) (
 false)) (
 bR (dec (n2 = n2)) (
 bR (bR (dec ((0 : Nat) = (0 : Nat))) (
 dec (l0.length = l0.length)) (
 false)) (
 bR (dec ((↑l0.length : Int) = (↑l0.length : Int))) (
 true) (
 false)) (
 false)) (
 false)) (
 false)) (
 reqB ((0 : Int) ≤ n3 + (1 : Int)) (
 reqB (n3 + (1 : Int) ≤ (30 : Int)) (
 reqB ((-4261412864 : Int) ≤ n4 + n7) (
 reqB (n4 + n7 ≤ (4261412864 : Int)) (
 reqB ((-4261412864 : Int) ≤ n5 + n8) (
 reqB (n5 + n8 ≤ (4261412864 : Int)) (
 reqB (spL.inv
 [DV.l (List.take l0.length (List.drop (0 : Nat) l0)), DV.l (List.take l0.length (List.drop (0 : Nat) l1)),
 DV.n n2]
 [DV.n (n3 + (1 : Int)), DV.n (n4 + n7), DV.n (n5 + n8)]) (
 reqB (spL.mea
 [DV.l (List.take l0.length (List.drop (0 : Nat) l0)),
 DV.l (List.take l0.length (List.drop (0 : Nat) l1)), DV.n n2]
 [DV.n (n3 + (1 : Int)), DV.n (n4 + n7), DV.n (n5 + n8)] <
 spL.mea
 [DV.l (List.take l0.length (List.drop (0 : Nat) l0)),
 DV.l (List.take l0.length (List.drop (0 : Nat) l1)), DV.n n2]
 [DV.n n3, DV.n n4, DV.n n5]) (
 true))))))))) (
 false))))))))))))))))))))))))))) (
 reqB ((-4261412864 : Int) ≤ n4) (
 reqB (n4 ≤ (4261412864 : Int)) (
 reqB ((-4261412864 : Int) ≤ n5) (
 reqB (n5 ≤ (4261412864 : Int)) (
 reqB (sigSp.post [DV.l l0, DV.l l1, DV.n n2] [DV.n n4, DV.n n5]) (
 true)))))))))))))))))))))))))))))) := by kernel_rfl
set_option maxHeartbeats 8000000 in
theorem vt_spun : vcFn Tryd.prog [(69, Ext.ctr (ctOfG gl11 sigAdv)), (68, Ext.ctr (ctOfG gl11 sigWipe))] (fun f p _ => at2 f p 41 58 spL (none)) gl11 100 41 sigSp = true := by
  rw [vc_spun]
  try simp only [Int.toNat_natCast, List.length_set, List.length_replicate, List.length_take, List.length_drop, List.length_append, List.length_cons, List.length_nil, Nat.min_self, List.take_take, lenCols_i, lenCols_b, List.drop_zero, List.take_length, List.take_nil, List.drop_nil, List.take_zero, List.nil_append, Nat.add_eq, Nat.mul_eq, Nat.sub_eq, Nat.zero_add, Nat.add_zero, Nat.sub_zero, Nat.mul_one]
  refine all_i fun l0 => ?_
  refine imp_i fun h0 => ?_
  refine imp_i fun h1 => ?_
  refine all_i fun l1 => ?_
  refine imp_i fun h2 => ?_
  have tkl1 := take_eq h2
  try simp only [tkl1]
  refine imp_i fun h3 => ?_
  refine all_i fun n2 => ?_
  refine imp_i fun h4 => ?_
  refine imp_i fun h5 => ?_
  refine imp_i fun h6 => ?_
  try simp only [sigSp, smpS, u32, bSp, spPre, spPost, List.cons.injEq, DV.b.injEq, and_true, List.length_cons, List.length_nil] at h6
  refine req_i ?_ ?_
  · -- r0
   first | omega | ((try simp only [Nat.mul_eq]); first | done | omega | assumption | grind [getD_set, getD_rep, toNat_succ, cntN_yes, cntN_no])
  refine req_i ?_ ?_
  · -- r1
   first | omega | ((try simp only [Nat.zero_add]); first | done | omega | assumption | grind [getD_set, getD_rep, toNat_succ, cntN_yes, cntN_no])
  refine req_i ?_ ?_
  · -- r2
   first | omega | ((try simp only [List.take_nil, List.take_zero, List.length_take, List.take_length, List.take_take, Nat.min_self, List.drop_nil, List.length_drop, List.drop_zero, List.length_cons, List.length_nil]); first | done | omega | assumption | grind [getD_set, getD_rep, toNat_succ, cntN_yes, cntN_no])
  refine req_i ?_ ?_
  · -- r3
   first | assumption | exact rep_bd (by omega) (by omega) | exact set_bd (by assumption) (by omega) (by omega) | exact take_bd (by assumption) | ((try simp only [List.take_nil, List.take_zero, List.length_take, List.take_length, List.take_take, Nat.min_self, List.drop_nil, List.length_drop, List.drop_zero, List.length_cons, List.length_nil]); first | assumption | exact rep_bd (by omega) (by omega) | exact set_bd (by assumption) (by omega) (by omega) | exact take_bd (by assumption) | grind [getD_set, getD_rep, toNat_succ, cntN_yes, cntN_no])
  refine req_i ?_ ?_
  · -- r4
   first | omega | ((try simp only [List.take_nil, List.take_zero, List.length_take, List.take_length, List.take_take, Nat.min_self, List.drop_nil, List.length_drop, List.drop_zero, List.length_cons, List.length_nil]); first | done | omega | assumption | grind [getD_set, getD_rep, toNat_succ, cntN_yes, cntN_no])
  refine req_i ?_ ?_
  · -- r5
   first | assumption | exact rep_bd (by omega) (by omega) | exact set_bd (by assumption) (by omega) (by omega) | exact take_bd (by assumption) | ((try simp only [List.take_nil, List.take_zero, List.length_take, List.take_length, List.take_take, Nat.min_self, List.drop_nil, List.length_drop, List.drop_zero, List.length_cons, List.length_nil]); first | assumption | exact rep_bd (by omega) (by omega) | exact set_bd (by assumption) (by omega) (by omega) | exact take_bd (by assumption) | grind [getD_set, getD_rep, toNat_succ, cntN_yes, cntN_no])
  refine req_i ?_ ?_
  · -- r6
   first | omega | assumption | grind
  refine req_i ?_ ?_
  · -- r7
   first | omega | assumption | grind
  refine req_i ?_ ?_
  · -- r8
   (try simp only [spL, spRL, spInv, List.drop_zero, List.take_length, tkl1, Nat.add_eq, Nat.zero_add]); exact ⟨by omega, by omega, by omega, h6.1, h6.2, rfl, rfl⟩
  refine all_i fun n3 => ?_
  refine imp_i fun h7 => ?_
  refine imp_i fun h8 => ?_
  refine all_i fun n4 => ?_
  refine imp_i fun h9 => ?_
  refine imp_i fun h10 => ?_
  refine all_i fun n5 => ?_
  refine imp_i fun h11 => ?_
  refine imp_i fun h12 => ?_
  refine imp_i fun h13 => ?_
  try simp only [spL, bSp, u32, spInv, mea14, List.cons.injEq, DV.b.injEq, and_true, List.take_nil, List.take_zero, List.length_take, List.take_length, List.take_take, Nat.min_self, List.drop_nil, List.length_drop, List.drop_zero, List.length_cons, List.length_nil] at h13
  refine bR_dec (fun h14 => ?_) (fun h14 => ?_)
  ·
   have ok := h6.2
   have is := ok n3.toNat (by omega)
   unfold inS at is
   have sb := sp_bd (st := n2) ok n3.toNat (by omega)
   have sb2 := sp_bd (st := n2) ok (n3 + 1).toNat (by omega)
   have nI := spI_next (x := l0) (y := l1) (st := n2) (i := n3) (by omega)
   have nQ := spQ_next (x := l0) (y := l1) (st := n2) (i := n3) (by omega)
   refine req_i ?_ ?_
   · -- r9
    first | omega | ((try simp only [Int.toNat_natCast, List.length_cons, List.length_nil]); first | done | omega | assumption | grind [getD_set, getD_rep, toNat_succ, cntN_yes, cntN_no])
   refine req_i ?_ ?_
   · -- r10
    first | omega | ((try simp only [Int.toNat_natCast, List.length_cons, List.length_nil, Nat.add_eq, Nat.zero_add, Nat.add_zero]); first | done | omega | assumption | grind [getD_set, getD_rep, toNat_succ, cntN_yes, cntN_no])
   refine req_i ?_ ?_
   · -- r11
    first | omega | ((try simp only [Int.toNat_natCast, List.length_cons, List.length_nil, Nat.add_eq, Nat.zero_add, Nat.add_zero]); first | done | omega | assumption | grind [getD_set, getD_rep, toNat_succ, cntN_yes, cntN_no])
   refine req_i ?_ ?_
   · -- r12
    first | omega | assumption | grind
   refine req_i ?_ ?_
   · -- r13
    first | omega | assumption | grind
   refine req_i ?_ ?_
   · -- r14
    first | omega | assumption | grind
   refine req_i ?_ ?_
   · -- r15
    first | omega | assumption | grind
   refine req_i ?_ ?_
   · -- r16
    first | trivial | assumption | (simp only [sigAdv, u32, advPost, adv, List.cons.injEq, DV.b.injEq, and_true, List.length_cons, List.length_nil]; done) | ((try simp only [sigAdv, u32, advPost, adv, List.cons.injEq, DV.b.injEq, and_true, List.length_cons, List.length_nil]); first | omega | assumption | grind)
   refine all_i fun n6 => ?_
   refine imp_i fun h15 => ?_
   refine imp_i fun h16 => ?_
   refine imp_i fun h17 => ?_
   try simp only [sigAdv, u32, advPost, adv, List.cons.injEq, DV.b.injEq, and_true, List.length_cons, List.length_nil] at h17
   refine req_i ?_ ?_
   · -- r17
    first | omega | assumption | grind
   refine req_i ?_ ?_
   · -- r18
    first | omega | assumption | grind
   refine req_i ?_ ?_
   · -- r19
    first | omega | assumption | grind
   refine req_i ?_ ?_
   · -- r20
    first | omega | assumption | grind
   refine req_i ?_ ?_
   · -- r21
    first | omega | assumption | grind
   refine req_i ?_ ?_
   · -- r22
    first | omega | assumption | grind
   refine req_i ?_ ?_
   · -- r23
    first | omega | ((try simp only [sigWipe, smpV, u32, mxW, wipPost, sml, wC, wS, List.cons.injEq, DV.b.injEq, and_true, Int.toNat_natCast, List.length_cons, List.length_nil, Nat.add_eq, Nat.zero_add, Nat.add_zero]); first | done | omega | assumption | grind [getD_set, getD_rep, toNat_succ, cntN_yes, cntN_no])
   refine all_i fun n7 => ?_
   refine imp_i fun h18 => ?_
   refine imp_i fun h19 => ?_
   refine all_i fun n8 => ?_
   refine imp_i fun h20 => ?_
   refine imp_i fun h21 => ?_
   refine all_i fun n9 => ?_
   refine imp_i fun h22 => ?_
   refine imp_i fun h23 => ?_
   refine imp_i fun h24 => ?_
   try simp only [Int.toNat_natCast, List.length_set, List.length_replicate, List.length_take, List.length_drop, List.length_append, List.length_cons, List.length_nil, Nat.min_self, List.take_take, lenCols_i, lenCols_b, List.drop_zero, List.take_length, List.take_nil, List.drop_nil, List.take_zero, List.nil_append, Nat.add_eq, Nat.mul_eq, Nat.sub_eq, Nat.zero_add, Nat.add_zero, Nat.sub_zero, Nat.mul_one] at h24
   (try simp only [Nat.add_eq, Nat.zero_add] at h24)
   have w := wip_sml h24 (by unfold sml; omega)
   rw [show n6 = adv 0 n2 n3 from h17] at w
   have w1 := w.1
   have w2 := w.2
   have f1 : n4 + n7 = spI l0 l1 n2 (n3 + 1).toNat := by omega
   have f2 : n5 + n8 = spQ l0 l1 n2 (n3 + 1).toNat := by omega
   refine bR_t ?_ ?_
   · -- g0
    first | rfl | (simp only [bR_iff, bR_iff_f, dec_iff, dec_f, beqB_iff', andB_iff', reduceCtorEq, imp_self, false_implies, and_true, true_and, implies_true, and_self]; done) | (simp [bR_iff, dec_iff, beqB_iff', andB_iff']; done) | (simp [bR_iff, dec_iff, beqB_iff', andB_iff']; omega)
   refine req_i ?_ ?_
   · -- r24
    first | omega | assumption | grind
   refine req_i ?_ ?_
   · -- r25
    first | omega | assumption | grind
   refine req_i ?_ ?_
   · -- r26
    first | omega | assumption | grind
   refine req_i ?_ ?_
   · -- r27
    first | omega | assumption | grind
   refine req_i ?_ ?_
   · -- r28
    first | omega | assumption | grind
   refine req_i ?_ ?_
   · -- r29
    first | omega | assumption | grind
   refine req_i ?_ ?_
   · -- r30
    (try simp only [spL, spRL, spInv, List.drop_zero, List.take_length, tkl1, Nat.add_eq, Nat.zero_add]); exact ⟨by omega, by omega, by omega, h6.1, ok, f1, f2⟩
   refine req_i ?_ ?_
   · -- r31
    first | omega | ((try simp only [spL, bSp, u32, spInv, mea14, List.cons.injEq, DV.b.injEq, and_true, List.take_nil, List.take_zero, List.length_take, List.take_length, List.take_take, Nat.min_self, List.drop_nil, List.length_drop, List.drop_zero, List.length_cons, List.length_nil]); first | done | omega | assumption | grind [getD_set, getD_rep, toNat_succ, cntN_yes, cntN_no])
   rfl
  ·
   refine req_i ?_ ?_
   · -- r32
    first | omega | assumption | grind
   refine req_i ?_ ?_
   · -- r33
    first | omega | assumption | grind
   refine req_i ?_ ?_
   · -- r34
    first | omega | assumption | grind
   refine req_i ?_ ?_
   · -- r35
    first | omega | assumption | grind
   refine req_i ?_ ?_
   · -- r36
    have e : n3.toNat = l0.length := by omega
    exact ⟨by rw [h13.2.2.2.2.2.1, e], by rw [h13.2.2.2.2.2.2, e]⟩
   rfl
theorem ext_spun : ∀ p ∈ ([(69, Ext.ctr (ctOfG gl11 sigAdv)), (68, Ext.ctr (ctOfG gl11 sigWipe))] : List (Nat × Ext)), ExtRow Tryd.prog p.1 p.2 := by
  intro p hp
  simp only [List.mem_cons, List.not_mem_nil, or_false] at hp
  rcases hp with rfl | rfl
  · trivial
  · trivial
theorem cts_spun : CtsOk Tryd.prog [(69, Ext.ctr (ctOfG gl11 sigAdv)), (68, Ext.ctr (ctOfG gl11 sigWipe))] := ctsOk_ofG (cs := [(69, sigAdv), (68, sigWipe)])
  (fun p hp => by
    simp only [List.mem_cons, List.not_mem_nil, or_false] at hp
    rcases hp with rfl | rfl
    · exact fn_adv
    · exact fn_wipe
)
  (fun f c h => by
    simp only [List.lookup_cons] at h
    repeat' split at h
    all_goals first | (cases h; done) | (rename_i e; have e := beq_iff_eq.1 e; subst e; cases h; refine ⟨_, ?_, rfl⟩; simp))
theorem fn_spun : FnOk Tryd.prog 41 sigSp gl11 := fn_sound (by kernel_rfl) ext_spun cts_spun names vt_spun
end Go.Proofs.YtiadfbpbeaeflaaDoor

namespace Go.Proofs.YtiadfbpbeaeflaaDoor
open Go.Ev Go.Sp
set_option maxRecDepth 100000
theorem vc_Spin : vcFn Tryd.prog [(40, Ext.ctr (ctOfG gl11 sigCs)), (41, Ext.ctr (ctOfG gl11 sigSp))] noA gl11 100 14 sigSpn = (allB fun l0 : List Int => 
impB (l0.length ≤ (30 : Nat)) (
impB (∀ (y : Int), y ∈ l0 → (-9223372036854775808 : Int) ≤ y ∧ y ≤ (9223372036854775807 : Int)) (
allB fun l1 : List Int => 
impB (l1.length = l0.length) (
impB (∀ (y : Int), y ∈ l1 → (-9223372036854775808 : Int) ≤ y ∧ y ≤ (9223372036854775807 : Int)) (
allB fun n2 : Int => 
impB ((0 : Int) ≤ n2) (
impB (n2 ≤ (4294967295 : Int)) (
impB (sigSpn.pre [DV.l l0, DV.l l1, DV.n n2]) (
reqB (((0 : Nat) + l0.length) * (2 : Nat) ≤ l0.length.mul (2 : Nat)) (
reqB (l0.length ≤ (30 : Nat)) (
reqB ((List.take l0.length (List.drop (0 : Nat) l0)).length = l0.length) (
reqB (∀ (y : Int),
 y ∈ List.take l0.length (List.drop (0 : Nat) l0) → (-9223372036854775808 : Int) ≤ y ∧ y ≤ (9223372036854775807 : Int)) (
reqB ((List.take l0.length (List.drop (0 : Nat) l1)).length = l0.length) (
reqB (∀ (y : Int),
 y ∈ List.take l0.length (List.drop (0 : Nat) l1) → (-9223372036854775808 : Int) ≤ y ∧ y ≤ (9223372036854775807 : Int)) (
reqB (sigCs.pre
 [DV.l (List.take l0.length (List.drop (0 : Nat) l0)), DV.l (List.take l0.length (List.drop (0 : Nat) l1))]) (
allB fun n3 : Int => 
impB ((0 : Int) ≤ n3) (
impB (n3 ≤ (18 : Int)) (
impB (sigCs.post
 [DV.l (List.take l0.length (List.drop (0 : Nat) l0)), DV.l (List.take l0.length (List.drop (0 : Nat) l1))]
 [DV.n n3]) (
bR (dec (n3 ≠ (0 : Int))) (
 reqB ((0 : Int) ≤ n3) (
 reqB (n3 ≤ (18 : Int)) (
 reqB (sigSpn.post [DV.l l0, DV.l l1, DV.n n2]
 [DV.n (0 : Int), DV.n (0 : Int), DV.n n3]) (
 true)))) (
 reqB (((0 : Nat) + l0.length) * (2 : Nat) ≤ l0.length.mul (2 : Nat)) (
 reqB (l0.length ≤ (30 : Nat)) (
 reqB ((List.take l0.length (List.drop (0 : Nat) l0)).length = l0.length) (
 reqB (∀ (y : Int),
 y ∈ List.take l0.length (List.drop (0 : Nat) l0) → (-9223372036854775808 : Int) ≤ y ∧ y ≤ (9223372036854775807 : Int)) (
 reqB ((List.take l0.length (List.drop (0 : Nat) l1)).length = l0.length) (
 reqB (∀ (y : Int),
 y ∈ List.take l0.length (List.drop (0 : Nat) l1) → (-9223372036854775808 : Int) ≤ y ∧ y ≤ (9223372036854775807 : Int)) (
 reqB ((0 : Int) ≤ n2) (
 reqB (n2 ≤ (4294967295 : Int)) (
 reqB (sigSp.pre
 [DV.l (List.take l0.length (List.drop (0 : Nat) l0)), DV.l (List.take l0.length (List.drop (0 : Nat) l1)),
 DV.n n2]) (
 allB fun n4 : Int => 
 impB ((-4261412864 : Int) ≤ n4) (
 impB (n4 ≤ (4261412864 : Int)) (
 allB fun n5 : Int => 
 impB ((-4261412864 : Int) ≤ n5) (
 impB (n5 ≤ (4261412864 : Int)) (
 impB (sigSp.post
 [DV.l (List.take l0.length (List.drop (0 : Nat) l0)), DV.l (List.take l0.length (List.drop (0 : Nat) l1)),
 DV.n n2]
 [DV.n n4, DV.n n5]) (
 reqB ((-4261412864 : Int) ≤ n4) (
 reqB (n4 ≤ (4261412864 : Int)) (
 reqB ((-4261412864 : Int) ≤ n5) (
 reqB (n5 ≤ (4261412864 : Int)) (
 reqB (sigSpn.post [DV.l l0, DV.l l1, DV.n n2] [DV.n n4, DV.n n5, DV.n (0 : Int)]) (
 true)))))))))))))))))))))))))))))))))))))) := by kernel_rfl
set_option maxHeartbeats 8000000 in
theorem vt_Spin : vcFn Tryd.prog [(40, Ext.ctr (ctOfG gl11 sigCs)), (41, Ext.ctr (ctOfG gl11 sigSp))] noA gl11 100 14 sigSpn = true := by
  rw [vc_Spin]
  try simp only [Int.toNat_natCast, List.length_set, List.length_replicate, List.length_take, List.length_drop, List.length_append, List.length_cons, List.length_nil, Nat.min_self, List.take_take, lenCols_i, lenCols_b, List.drop_zero, List.take_length, List.take_nil, List.drop_nil, List.take_zero, List.nil_append, Nat.add_eq, Nat.mul_eq, Nat.sub_eq, Nat.zero_add, Nat.add_zero, Nat.sub_zero, Nat.mul_one]
  refine all_i fun l0 => ?_
  refine imp_i fun h0 => ?_
  refine imp_i fun h1 => ?_
  refine all_i fun l1 => ?_
  refine imp_i fun h2 => ?_
  have tkl1 := take_eq h2
  try simp only [tkl1]
  refine imp_i fun h3 => ?_
  refine all_i fun n2 => ?_
  refine imp_i fun h4 => ?_
  refine imp_i fun h5 => ?_
  refine imp_i fun h6 => ?_
  try simp only [sigSpn, smpS, u32, bSp, spnPost, List.cons.injEq, DV.b.injEq, and_true, List.length_cons, List.length_nil] at h6
  refine req_i ?_ ?_
  · -- r0
   first | omega | ((try simp only [Nat.mul_eq]); first | done | omega | assumption | grind [getD_set, getD_rep, toNat_succ, cntN_yes, cntN_no])
  refine req_i ?_ ?_
  · -- r1
   first | omega | ((try simp only [Nat.zero_add]); first | done | omega | assumption | grind [getD_set, getD_rep, toNat_succ, cntN_yes, cntN_no])
  refine req_i ?_ ?_
  · -- r2
   first | omega | ((try simp only [List.take_nil, List.take_zero, List.length_take, List.take_length, List.take_take, Nat.min_self, List.drop_nil, List.length_drop, List.drop_zero, List.length_cons, List.length_nil]); first | done | omega | assumption | grind [getD_set, getD_rep, toNat_succ, cntN_yes, cntN_no])
  refine req_i ?_ ?_
  · -- r3
   first | assumption | exact rep_bd (by omega) (by omega) | exact set_bd (by assumption) (by omega) (by omega) | exact take_bd (by assumption) | ((try simp only [List.take_nil, List.take_zero, List.length_take, List.take_length, List.take_take, Nat.min_self, List.drop_nil, List.length_drop, List.drop_zero, List.length_cons, List.length_nil]); first | assumption | exact rep_bd (by omega) (by omega) | exact set_bd (by assumption) (by omega) (by omega) | exact take_bd (by assumption) | grind [getD_set, getD_rep, toNat_succ, cntN_yes, cntN_no])
  refine req_i ?_ ?_
  · -- r4
   first | omega | ((try simp only [List.take_nil, List.take_zero, List.length_take, List.take_length, List.take_take, Nat.min_self, List.drop_nil, List.length_drop, List.drop_zero, List.length_cons, List.length_nil]); first | done | omega | assumption | grind [getD_set, getD_rep, toNat_succ, cntN_yes, cntN_no])
  refine req_i ?_ ?_
  · -- r5
   first | assumption | exact rep_bd (by omega) (by omega) | exact set_bd (by assumption) (by omega) (by omega) | exact take_bd (by assumption) | ((try simp only [List.take_nil, List.take_zero, List.length_take, List.take_length, List.take_take, Nat.min_self, List.drop_nil, List.length_drop, List.drop_zero, List.length_cons, List.length_nil]); first | assumption | exact rep_bd (by omega) (by omega) | exact set_bd (by assumption) (by omega) (by omega) | exact take_bd (by assumption) | grind [getD_set, getD_rep, toNat_succ, cntN_yes, cntN_no])
  refine req_i ?_ ?_
  · -- r6
   first | omega | ((try simp only [sigCs, smpS, csPost, List.cons.injEq, DV.b.injEq, and_true, List.take_nil, List.take_zero, List.length_take, List.take_length, List.take_take, Nat.min_self, List.drop_nil, List.length_drop, List.drop_zero, List.length_cons, List.length_nil]); first | done | omega | assumption | grind [getD_set, getD_rep, toNat_succ, cntN_yes, cntN_no])
  refine all_i fun n3 => ?_
  refine imp_i fun h7 => ?_
  refine imp_i fun h8 => ?_
  refine imp_i fun h9 => ?_
  try simp only [Int.toNat_natCast, List.length_set, List.length_replicate, List.length_take, List.length_drop, List.length_append, List.length_cons, List.length_nil, Nat.min_self, List.take_take, lenCols_i, lenCols_b, List.drop_zero, List.take_length, List.take_nil, List.drop_nil, List.take_zero, List.nil_append, Nat.add_eq, Nat.mul_eq, Nat.sub_eq, Nat.zero_add, Nat.add_zero, Nat.sub_zero, Nat.mul_one] at h9
  refine bR_dec (fun h10 => ?_) (fun h10 => ?_)
  ·
   refine req_i ?_ ?_
   · -- r7
    first | omega | assumption | grind
   refine req_i ?_ ?_
   · -- r8
    first | omega | assumption | grind
   refine req_i ?_ ?_
   · -- r9
    rcases h9 with ⟨a, b⟩ | ⟨a, b, c⟩ | ⟨a, b, c⟩
    · exact .inl ⟨a, rfl, rfl, b⟩
    · omega
    · exact .inr (.inr ⟨a, b, rfl, rfl, c⟩)
   rfl
  ·
   obtain ⟨q1, q2⟩ : (l0.length : Int) ≤ 16 ∧ okS l0 l1 := by
     rcases h9 with ⟨a, b⟩ | ⟨a, b, c⟩ | ⟨a, b, c⟩
     · omega
     · exact ⟨a, b⟩
     · omega
   refine req_i ?_ ?_
   · -- r10
    first | omega | ((try simp only [Nat.mul_eq]); first | done | omega | assumption | grind [getD_set, getD_rep, toNat_succ, cntN_yes, cntN_no])
   refine req_i ?_ ?_
   · -- r11
    first | omega | ((try simp only [Nat.zero_add]); first | done | omega | assumption | grind [getD_set, getD_rep, toNat_succ, cntN_yes, cntN_no])
   refine req_i ?_ ?_
   · -- r12
    first | omega | ((try simp only [List.take_nil, List.take_zero, List.length_take, List.take_length, List.take_take, Nat.min_self, List.drop_nil, List.length_drop, List.drop_zero, List.length_cons, List.length_nil]); first | done | omega | assumption | grind [getD_set, getD_rep, toNat_succ, cntN_yes, cntN_no])
   refine req_i ?_ ?_
   · -- r13
    first | assumption | exact rep_bd (by omega) (by omega) | exact set_bd (by assumption) (by omega) (by omega) | exact take_bd (by assumption) | ((try simp only [List.take_nil, List.take_zero, List.length_take, List.take_length, List.take_take, Nat.min_self, List.drop_nil, List.length_drop, List.drop_zero, List.length_cons, List.length_nil]); first | assumption | exact rep_bd (by omega) (by omega) | exact set_bd (by assumption) (by omega) (by omega) | exact take_bd (by assumption) | grind [getD_set, getD_rep, toNat_succ, cntN_yes, cntN_no])
   refine req_i ?_ ?_
   · -- r14
    first | omega | ((try simp only [List.take_nil, List.take_zero, List.length_take, List.take_length, List.take_take, Nat.min_self, List.drop_nil, List.length_drop, List.drop_zero, List.length_cons, List.length_nil]); first | done | omega | assumption | grind [getD_set, getD_rep, toNat_succ, cntN_yes, cntN_no])
   refine req_i ?_ ?_
   · -- r15
    first | assumption | exact rep_bd (by omega) (by omega) | exact set_bd (by assumption) (by omega) (by omega) | exact take_bd (by assumption) | ((try simp only [List.take_nil, List.take_zero, List.length_take, List.take_length, List.take_take, Nat.min_self, List.drop_nil, List.length_drop, List.drop_zero, List.length_cons, List.length_nil]); first | assumption | exact rep_bd (by omega) (by omega) | exact set_bd (by assumption) (by omega) (by omega) | exact take_bd (by assumption) | grind [getD_set, getD_rep, toNat_succ, cntN_yes, cntN_no])
   refine req_i ?_ ?_
   · -- r16
    first | omega | assumption | grind
   refine req_i ?_ ?_
   · -- r17
    first | omega | assumption | grind
   refine req_i ?_ ?_
   · -- r18
    (try simp only [List.drop_zero, List.take_length, tkl1]); exact ⟨q1, q2⟩
   refine all_i fun n4 => ?_
   refine imp_i fun h11 => ?_
   refine imp_i fun h12 => ?_
   refine all_i fun n5 => ?_
   refine imp_i fun h13 => ?_
   refine imp_i fun h14 => ?_
   refine imp_i fun h15 => ?_
   try simp only [Int.toNat_natCast, List.length_set, List.length_replicate, List.length_take, List.length_drop, List.length_append, List.length_cons, List.length_nil, Nat.min_self, List.take_take, lenCols_i, lenCols_b, List.drop_zero, List.take_length, List.take_nil, List.drop_nil, List.take_zero, List.nil_append, Nat.add_eq, Nat.mul_eq, Nat.sub_eq, Nat.zero_add, Nat.add_zero, Nat.sub_zero, Nat.mul_one] at h15
   refine req_i ?_ ?_
   · -- r19
    first | omega | assumption | grind
   refine req_i ?_ ?_
   · -- r20
    first | omega | assumption | grind
   refine req_i ?_ ?_
   · -- r21
    first | omega | assumption | grind
   refine req_i ?_ ?_
   · -- r22
    first | omega | assumption | grind
   refine req_i ?_ ?_
   · -- r23
    exact .inr (.inl ⟨q1, q2, h15.1, h15.2, rfl⟩)
   rfl
theorem ext_Spin : ∀ p ∈ ([(40, Ext.ctr (ctOfG gl11 sigCs)), (41, Ext.ctr (ctOfG gl11 sigSp))] : List (Nat × Ext)), ExtRow Tryd.prog p.1 p.2 := by
  intro p hp
  simp only [List.mem_cons, List.not_mem_nil, or_false] at hp
  rcases hp with rfl | rfl
  · trivial
  · trivial
theorem cts_Spin : CtsOk Tryd.prog [(40, Ext.ctr (ctOfG gl11 sigCs)), (41, Ext.ctr (ctOfG gl11 sigSp))] := ctsOk_ofG (cs := [(40, sigCs), (41, sigSp)])
  (fun p hp => by
    simp only [List.mem_cons, List.not_mem_nil, or_false] at hp
    rcases hp with rfl | rfl
    · exact fn_cs
    · exact fn_spun
)
  (fun f c h => by
    simp only [List.lookup_cons] at h
    repeat' split at h
    all_goals first | (cases h; done) | (rename_i e; have e := beq_iff_eq.1 e; subst e; cases h; refine ⟨_, ?_, rfl⟩; simp))
theorem fn_Spin : FnOk Tryd.prog 14 sigSpn gl11 := fn_sound (by kernel_rfl) ext_Spin cts_Spin names vt_Spin
end Go.Proofs.YtiadfbpbeaeflaaDoor

namespace Go.Proofs.YtiadfbpbeaeflaaDoor
open Go.Ev Go.Sp
set_option maxRecDepth 100000
theorem vc_sm : vcFn Tryd.prog [] (fun f p _ => at2 f p 48 58 smL (none)) gl11 100 48 sigSm = (allB fun l0 : List Int => 
impB (l0.length ≤ (30 : Nat)) (
impB (∀ (y : Int), y ∈ l0 → (-9223372036854775808 : Int) ≤ y ∧ y ≤ (9223372036854775807 : Int)) (
allB fun l1 : List Int => 
impB (l1.length = l0.length) (
impB (∀ (y : Int), y ∈ l1 → (-9223372036854775808 : Int) ≤ y ∧ y ≤ (9223372036854775807 : Int)) (
allB fun n2 : Int => 
impB ((0 : Int) ≤ n2) (
impB (n2 ≤ (100000 : Int)) (
impB (sigSm.pre [DV.l l0, DV.l l1, DV.n n2]) (
bR (dec (n2 < (↑l0.length : Int))) (
 reqB (sigSm.post [DV.l l0, DV.l l1, DV.n n2] [DV.n (4 : Int)]) (
 true)) (
 reqB (((0 : Nat) + l0.length) * (2 : Nat) ≤ l0.length.mul (2 : Nat)) (
 reqB (l0.length ≤ (30 : Nat)) (
 reqB ((List.take l0.length (List.drop (0 : Nat) l0)).length = l0.length) (
 reqB (∀ (y : Int),
 y ∈ List.take l0.length (List.drop (0 : Nat) l0) → (-9223372036854775808 : Int) ≤ y ∧ y ≤ (9223372036854775807 : Int)) (
 reqB ((List.take l0.length (List.drop (0 : Nat) l1)).length = l0.length) (
 reqB (∀ (y : Int),
 y ∈ List.take l0.length (List.drop (0 : Nat) l1) → (-9223372036854775808 : Int) ≤ y ∧ y ≤ (9223372036854775807 : Int)) (
 reqB (smL.inv
 [DV.l (List.take l0.length (List.drop (0 : Nat) l0)), DV.l (List.take l0.length (List.drop (0 : Nat) l1))]
 [DV.n (0 : Int)]) (
 allB fun n3 : Int => 
 impB ((0 : Int) ≤ n3) (
 impB (n3 ≤ (30 : Int)) (
 impB (smL.inv
 [DV.l (List.take l0.length (List.drop (0 : Nat) l0)), DV.l (List.take l0.length (List.drop (0 : Nat) l1))]
 [DV.n n3]) (
 bR (dec (n3 < (↑l0.length : Int))) (
 reqB (n3.toNat < l0.length) (
 reqB (Nat.add (0 : Nat) n3.toNat < l0.length) (
 reqB (Nat.add (0 : Nat) n3.toNat < l1.length) (
 bR (dec (Int.negSucc (1048575 : Nat) ≤ l0.getD (Nat.add (0 : Nat) n3.toNat) (0 : Int))) (
 bR (dec (l0.getD (Nat.add (0 : Nat) n3.toNat) (0 : Int) ≤ (1048576 : Int))) (
 bR (dec (Int.negSucc (1048575 : Nat) ≤ l1.getD (Nat.add (0 : Nat) n3.toNat) (0 : Int))) (
 bR (bR (dec (l1.getD (Nat.add (0 : Nat) n3.toNat) (0 : Int) ≤ (1048576 : Int))) (
 false) (
 true)) (
 reqB (sigSm.post [DV.l l0, DV.l l1, DV.n n2] [DV.n (2 : Int)]) (
 true)) (
 bR (bR (bR (dec ((0 : Nat) = (0 : Nat))) (
 dec (l0.length = l0.length)) (
 false)) (
 bR (dec (n2 = n2)) (
 true) (
 false)) (
 false)) (
 reqB ((0 : Int) ≤ n3 + (1 : Int)) (
 reqB (n3 + (1 : Int) ≤ (30 : Int)) (
 reqB (smL.inv
 [DV.l (List.take l0.length (List.drop (0 : Nat) l0)), DV.l (List.take l0.length (List.drop (0 : Nat) l1))]
 [DV.n (n3 + (1 : Int))]) (
 reqB (smL.mea
 [DV.l (List.take l0.length (List.drop (0 : Nat) l0)),
 DV.l (List.take l0.length (List.drop (0 : Nat) l1))]
 [DV.n (n3 + (1 : Int))] <
 smL.mea
 [DV.l (List.take l0.length (List.drop (0 : Nat) l0)),
 DV.l (List.take l0.length (List.drop (0 : Nat) l1))]
 [DV.n n3]) (
 true))))) (
 false))) (
 reqB (sigSm.post [DV.l l0, DV.l l1, DV.n n2] [DV.n (2 : Int)]) (
 true))) (
 reqB (sigSm.post [DV.l l0, DV.l l1, DV.n n2] [DV.n (2 : Int)]) (
 true))) (
 reqB (sigSm.post [DV.l l0, DV.l l1, DV.n n2] [DV.n (2 : Int)]) (
 true)))))) (
 reqB (sigSm.post [DV.l l0, DV.l l1, DV.n n2] [DV.n (0 : Int)]) (
 true))))))))))))))))))))) := by kernel_rfl
set_option maxHeartbeats 8000000 in
theorem vt_sm : vcFn Tryd.prog [] (fun f p _ => at2 f p 48 58 smL (none)) gl11 100 48 sigSm = true := by
  rw [vc_sm]
  try simp only [Int.toNat_natCast, List.length_set, List.length_replicate, List.length_take, List.length_drop, List.length_append, List.length_cons, List.length_nil, Nat.min_self, List.take_take, lenCols_i, lenCols_b, List.drop_zero, List.take_length, List.take_nil, List.drop_nil, List.take_zero, List.nil_append, Nat.add_eq, Nat.mul_eq, Nat.sub_eq, Nat.zero_add, Nat.add_zero, Nat.sub_zero, Nat.mul_one]
  try simp only [show (Int.negSucc 1048575 : Int) = -1048576 from rfl]
  refine all_i fun l0 => ?_
  refine imp_i fun h0 => ?_
  refine imp_i fun h1 => ?_
  refine all_i fun l1 => ?_
  refine imp_i fun h2 => ?_
  have tkl1 := take_eq h2
  try simp only [tkl1]
  refine imp_i fun h3 => ?_
  refine all_i fun n2 => ?_
  refine imp_i fun h4 => ?_
  refine imp_i fun h5 => ?_
  refine imp_i fun h6 => ?_
  try simp only [sigSm, smpS, smPost, List.cons.injEq, DV.b.injEq, and_true, List.length_cons, List.length_nil] at h6
  refine bR_dec (fun h7 => ?_) (fun h7 => ?_)
  ·
   refine req_i ?_ ?_
   · -- r0
    first | omega | ((try simp only [sigSm, smpS, smPost, List.cons.injEq, DV.b.injEq, and_true, List.length_cons, List.length_nil]); first | done | omega | assumption | grind [getD_set, getD_rep, toNat_succ, cntN_yes, cntN_no])
   rfl
  ·
   refine req_i ?_ ?_
   · -- r1
    first | omega | ((try simp only [Nat.mul_eq]); first | done | omega | assumption | grind [getD_set, getD_rep, toNat_succ, cntN_yes, cntN_no])
   refine req_i ?_ ?_
   · -- r2
    first | omega | ((try simp only [Nat.zero_add]); first | done | omega | assumption | grind [getD_set, getD_rep, toNat_succ, cntN_yes, cntN_no])
   refine req_i ?_ ?_
   · -- r3
    first | omega | ((try simp only [List.take_nil, List.take_zero, List.length_take, List.take_length, List.take_take, Nat.min_self, List.drop_nil, List.length_drop, List.drop_zero, List.length_cons, List.length_nil]); first | done | omega | assumption | grind [getD_set, getD_rep, toNat_succ, cntN_yes, cntN_no])
   refine req_i ?_ ?_
   · -- r4
    first | assumption | exact rep_bd (by omega) (by omega) | exact set_bd (by assumption) (by omega) (by omega) | exact take_bd (by assumption) | ((try simp only [List.take_nil, List.take_zero, List.length_take, List.take_length, List.take_take, Nat.min_self, List.drop_nil, List.length_drop, List.drop_zero, List.length_cons, List.length_nil]); first | assumption | exact rep_bd (by omega) (by omega) | exact set_bd (by assumption) (by omega) (by omega) | exact take_bd (by assumption) | grind [getD_set, getD_rep, toNat_succ, cntN_yes, cntN_no])
   refine req_i ?_ ?_
   · -- r5
    first | omega | ((try simp only [List.take_nil, List.take_zero, List.length_take, List.take_length, List.take_take, Nat.min_self, List.drop_nil, List.length_drop, List.drop_zero, List.length_cons, List.length_nil]); first | done | omega | assumption | grind [getD_set, getD_rep, toNat_succ, cntN_yes, cntN_no])
   refine req_i ?_ ?_
   · -- r6
    first | assumption | exact rep_bd (by omega) (by omega) | exact set_bd (by assumption) (by omega) (by omega) | exact take_bd (by assumption) | ((try simp only [List.take_nil, List.take_zero, List.length_take, List.take_length, List.take_take, Nat.min_self, List.drop_nil, List.length_drop, List.drop_zero, List.length_cons, List.length_nil]); first | assumption | exact rep_bd (by omega) (by omega) | exact set_bd (by assumption) (by omega) (by omega) | exact take_bd (by assumption) | grind [getD_set, getD_rep, toNat_succ, cntN_yes, cntN_no])
   refine req_i ?_ ?_
   · -- r7
    first | omega | ((try simp only [smL, cpInv, mea14, inS, List.cons.injEq, DV.b.injEq, and_true, List.take_nil, List.take_zero, List.length_take, List.take_length, List.take_take, Nat.min_self, List.drop_nil, List.length_drop, List.drop_zero, List.length_cons, List.length_nil]); first | done | omega | assumption | grind [getD_set, getD_rep, toNat_succ, cntN_yes, cntN_no])
   refine all_i fun n3 => ?_
   refine imp_i fun h8 => ?_
   refine imp_i fun h9 => ?_
   refine imp_i fun h10 => ?_
   try simp only [smL, cpInv, mea14, inS, List.cons.injEq, DV.b.injEq, and_true, List.take_nil, List.take_zero, List.length_take, List.take_length, List.take_take, Nat.min_self, List.drop_nil, List.length_drop, List.drop_zero, List.length_cons, List.length_nil] at h10
   refine bR_dec (fun h11 => ?_) (fun h11 => ?_)
   ·
    refine req_i ?_ ?_
    · -- r8
     first | omega | ((try simp only [Int.toNat_natCast, List.length_cons, List.length_nil]); first | done | omega | assumption | grind [getD_set, getD_rep, toNat_succ, cntN_yes, cntN_no])
    refine req_i ?_ ?_
    · -- r9
     first | omega | ((try simp only [Int.toNat_natCast, List.length_cons, List.length_nil, Nat.add_eq, Nat.zero_add, Nat.add_zero]); first | done | omega | assumption | grind [getD_set, getD_rep, toNat_succ, cntN_yes, cntN_no])
    refine req_i ?_ ?_
    · -- r10
     first | omega | ((try simp only [Int.toNat_natCast, List.length_cons, List.length_nil, Nat.add_eq, Nat.zero_add, Nat.add_zero]); first | done | omega | assumption | grind [getD_set, getD_rep, toNat_succ, cntN_yes, cntN_no])
    refine bR_dec (fun h12 => ?_) (fun h12 => ?_)
    ·
     refine bR_dec (fun h13 => ?_) (fun h13 => ?_)
     ·
      refine bR_dec (fun h14 => ?_) (fun h14 => ?_)
      ·
       refine bR_i (fun h15 => ?_) (fun h15 => ?_)
       ·
        simp only [bR_iff, bR_iff_f, dec_iff, dec_f, Bool.false_eq_true, Bool.true_eq_false, false_implies, imp_false, and_true, true_and, implies_true, Classical.not_not] at h15
        refine req_i ?_ ?_
        · -- r11
         exact .inr (.inr ⟨by omega, fun g => by
           have g2 := g n3.toNat (by omega); unfold inS at g2; exact h15 g2.2.2.2, rfl⟩)
        rfl
       ·
        simp only [bR_iff, bR_iff_f, dec_iff, dec_f, Bool.false_eq_true, Bool.true_eq_false, false_implies, imp_false, and_true, true_and, implies_true, Classical.not_not] at h15
        refine bR_t ?_ ?_
        · -- g0
         first | rfl | (simp only [bR_iff, bR_iff_f, dec_iff, dec_f, beqB_iff', andB_iff', reduceCtorEq, imp_self, false_implies, and_true, true_and, implies_true, and_self]; done) | (simp [bR_iff, dec_iff, beqB_iff', andB_iff']; done) | (simp [bR_iff, dec_iff, beqB_iff', andB_iff']; omega)
        refine req_i ?_ ?_
        · -- r12
         first | omega | assumption | grind
        refine req_i ?_ ?_
        · -- r13
         first | omega | assumption | grind
        refine req_i ?_ ?_
        · -- r14
         first | omega | ((try simp only [smL, cpInv, mea14, inS, List.cons.injEq, DV.b.injEq, and_true, List.take_nil, List.take_zero, List.length_take, List.take_length, List.take_take, Nat.min_self, List.drop_nil, List.length_drop, List.drop_zero, List.length_cons, List.length_nil]); first | done | omega | assumption | grind [getD_set, getD_rep, toNat_succ, cntN_yes, cntN_no])
        refine req_i ?_ ?_
        · -- r15
         first | omega | ((try simp only [smL, cpInv, mea14, inS, List.cons.injEq, DV.b.injEq, and_true, List.take_nil, List.take_zero, List.length_take, List.take_length, List.take_take, Nat.min_self, List.drop_nil, List.length_drop, List.drop_zero, List.length_cons, List.length_nil]); first | done | omega | assumption | grind [getD_set, getD_rep, toNat_succ, cntN_yes, cntN_no])
        rfl
      ·
       refine req_i ?_ ?_
       · -- r16
        exact .inr (.inr ⟨by omega, fun g => by have := g n3.toNat (by omega); unfold inS at this; (try simp [bR, dec] at h15); omega, rfl⟩)
       rfl
     ·
      refine req_i ?_ ?_
      · -- r17
       exact .inr (.inr ⟨by omega, fun g => by have := g n3.toNat (by omega); unfold inS at this; (try simp [bR, dec] at h15); omega, rfl⟩)
      rfl
    ·
     refine req_i ?_ ?_
     · -- r18
      exact .inr (.inr ⟨by omega, fun g => by have := g n3.toNat (by omega); unfold inS at this; (try simp [bR, dec] at h15); omega, rfl⟩)
     rfl
   ·
    refine req_i ?_ ?_
    · -- r19
     exact .inr (.inl ⟨by omega, fun j hj => h10.2.2.2 j (by omega), rfl⟩)
    rfl
theorem ext_sm : ∀ p ∈ ([] : List (Nat × Ext)), ExtRow Tryd.prog p.1 p.2 := by
  intro p hp
  cases hp
theorem cts_sm : CtsOk Tryd.prog [] := fun f c h => by cases h
theorem fn_sm : FnOk Tryd.prog 48 sigSm gl11 := fn_sound (by kernel_rfl) ext_sm cts_sm names vt_sm
end Go.Proofs.YtiadfbpbeaeflaaDoor

namespace Go.Proofs.YtiadfbpbeaeflaaDoor
open Go.Ev Go.Sp
set_option maxRecDepth 100000
theorem vc_advR : vcFn Tryd.prog [] noA gl11 100 32 sigAdv = (allB fun n0 : Int => 
impB ((0 : Int) ≤ n0) (
impB (n0 ≤ (4294967295 : Int)) (
allB fun n1 : Int => 
impB ((0 : Int) ≤ n1) (
impB (n1 ≤ (4294967295 : Int)) (
allB fun n2 : Int => 
impB ((-9223372036854775808 : Int) ≤ n2) (
impB (n2 ≤ (9223372036854775807 : Int)) (
impB (sigAdv.pre [DV.n n0, DV.n n1, DV.n n2]) (
allB fun n3 : Int => 
impB (n3 = Go.IntKind.u32.wrap n2) (
impB (Int.ofNat (0 : Nat) ≤ n3) (
impB (n3 ≤ Int.ofNat (4294967295 : Nat)) (
allB fun n4 : Int => 
impB (n4 = Go.IntKind.u32.wrap (n3 * n1)) (
impB (Int.ofNat (0 : Nat) ≤ n4) (
impB (n4 ≤ Int.ofNat (4294967295 : Nat)) (
allB fun n5 : Int => 
impB (n5 = Go.IntKind.u32.wrap (n0 + n4)) (
impB (Int.ofNat (0 : Nat) ≤ n5) (
impB (n5 ≤ Int.ofNat (4294967295 : Nat)) (
reqB ((0 : Int) ≤ n5) (
reqB (n5 ≤ (4294967295 : Int)) (
reqB (sigAdv.post [DV.n n0, DV.n n1, DV.n n2] [DV.n n5]) (
true)))))))))))))))))))) := by kernel_rfl
set_option maxHeartbeats 8000000 in
theorem vt_advR : vcFn Tryd.prog [] noA gl11 100 32 sigAdv = true := by
  rw [vc_advR]
  try simp only [Int.toNat_natCast, List.length_set, List.length_replicate, List.length_take, List.length_drop, List.length_append, List.length_cons, List.length_nil, Nat.min_self, List.take_take, lenCols_i, lenCols_b, List.drop_zero, List.take_length, List.take_nil, List.drop_nil, List.take_zero, List.nil_append, Nat.add_eq, Nat.mul_eq, Nat.sub_eq, Nat.zero_add, Nat.add_zero, Nat.sub_zero, Nat.mul_one]
  refine all_i fun n0 => ?_
  refine imp_i fun h0 => ?_
  refine imp_i fun h1 => ?_
  refine all_i fun n1 => ?_
  refine imp_i fun h2 => ?_
  refine imp_i fun h3 => ?_
  refine all_i fun n2 => ?_
  refine imp_i fun h4 => ?_
  refine imp_i fun h5 => ?_
  refine imp_i fun h6 => ?_
  try simp only [sigAdv, u32, advPost, adv, List.cons.injEq, DV.b.injEq, and_true, List.length_cons, List.length_nil] at h6
  refine all_i fun n3 => ?_
  refine imp_i fun h7 => ?_
  simp only [wrap_u32] at h7
  refine imp_i fun h8 => ?_
  refine imp_i fun h9 => ?_
  refine all_i fun n4 => ?_
  refine imp_i fun h10 => ?_
  simp only [wrap_u32] at h10
  refine imp_i fun h11 => ?_
  refine imp_i fun h12 => ?_
  refine all_i fun n5 => ?_
  refine imp_i fun h13 => ?_
  simp only [wrap_u32] at h13
  refine imp_i fun h14 => ?_
  refine imp_i fun h15 => ?_
  refine req_i ?_ ?_
  · -- r0
   first | omega | assumption | grind
  refine req_i ?_ ?_
  · -- r1
   first | omega | assumption | grind
  refine req_i ?_ ?_
  · -- r2
   show n5 = adv n0 n1 n2; rw [h13, h10, h7, adv_calcR]
  rfl
theorem ext_advR : ∀ p ∈ ([] : List (Nat × Ext)), ExtRow Tryd.prog p.1 p.2 := by
  intro p hp
  cases hp
theorem cts_advR : CtsOk Tryd.prog [] := fun f c h => by cases h
theorem fn_advR : FnOk Tryd.prog 32 sigAdv gl11 := fn_sound (by kernel_rfl) ext_advR cts_advR names vt_advR
end Go.Proofs.YtiadfbpbeaeflaaDoor

namespace Go.Proofs.YtiadfbpbeaeflaaDoor
open Go.Ev Go.Sp
set_option maxRecDepth 100000
theorem vc_entryR : vcFn Tryd.prog [] noA gl11 100 57 sigEnt = (allB fun n0 : Int => 
impB ((-2 : Int) ≤ n0) (
impB (n0 ≤ (70 : Int)) (
impB (sigEnt.pre [DV.n n0]) (
reqB (((n0 % Int.ofNat (64 : Nat)).tmod (16 : Int)).toNat < (17 : Nat)) (
reqB (Nat.add (0 : Nat) ((n0 % Int.ofNat (64 : Nat)).tmod (16 : Int)).toNat <
 [(127 : Int), (126 : Int), (125 : Int), (122 : Int), (117 : Int), (112 : Int), (106 : Int), (98 : Int), (90 : Int),
 (81 : Int), (71 : Int), (60 : Int), (49 : Int), (37 : Int), (25 : Int), (12 : Int), (0 : Int)].length) (
reqB (((16 : Int) - (n0 % Int.ofNat (64 : Nat)).tmod (16 : Int)).toNat < (17 : Nat)) (
reqB (Nat.add (0 : Nat) ((16 : Int) - (n0 % Int.ofNat (64 : Nat)).tmod (16 : Int)).toNat <
 [(127 : Int), (126 : Int), (125 : Int), (122 : Int), (117 : Int), (112 : Int), (106 : Int), (98 : Int), (90 : Int),
 (81 : Int), (71 : Int), (60 : Int), (49 : Int), (37 : Int), (25 : Int), (12 : Int), (0 : Int)].length) (
bR (dec ((16 : Int) ≤ n0 % Int.ofNat (64 : Nat))) (
 bR (dec ((16 : Int) ≤ n0 % Int.ofNat (64 : Nat) - (16 : Int))) (
 bR (dec ((16 : Int) ≤ n0 % Int.ofNat (64 : Nat) - (16 : Int) - (16 : Int))) (
 reqB ((-127 : Int) ≤
 (0 : Int) -
 ((0 : Int) -
 [(127 : Int), (126 : Int), (125 : Int), (122 : Int), (117 : Int), (112 : Int), (106 : Int), (98 : Int),
 (90 : Int), (81 : Int), (71 : Int), (60 : Int), (49 : Int), (37 : Int), (25 : Int), (12 : Int),
 (0 : Int)].getD
 (Nat.add (0 : Nat) ((16 : Int) - (n0 % Int.ofNat (64 : Nat)).tmod (16 : Int)).toNat) (0 : Int))) (
 reqB ((0 : Int) -
 ((0 : Int) -
 [(127 : Int), (126 : Int), (125 : Int), (122 : Int), (117 : Int), (112 : Int), (106 : Int), (98 : Int),
 (90 : Int), (81 : Int), (71 : Int), (60 : Int), (49 : Int), (37 : Int), (25 : Int), (12 : Int),
 (0 : Int)].getD
 (Nat.add (0 : Nat) ((16 : Int) - (n0 % Int.ofNat (64 : Nat)).tmod (16 : Int)).toNat) (0 : Int)) ≤
 (127 : Int)) (
 reqB ((-127 : Int) ≤
 (0 : Int) -
 [(127 : Int), (126 : Int), (125 : Int), (122 : Int), (117 : Int), (112 : Int), (106 : Int), (98 : Int), (90 : Int),
 (81 : Int), (71 : Int), (60 : Int), (49 : Int), (37 : Int), (25 : Int), (12 : Int), (0 : Int)].getD
 (Nat.add (0 : Nat) ((n0 % Int.ofNat (64 : Nat)).tmod (16 : Int)).toNat) (0 : Int)) (
 reqB ((0 : Int) -
 [(127 : Int), (126 : Int), (125 : Int), (122 : Int), (117 : Int), (112 : Int), (106 : Int), (98 : Int), (90 : Int),
 (81 : Int), (71 : Int), (60 : Int), (49 : Int), (37 : Int), (25 : Int), (12 : Int), (0 : Int)].getD
 (Nat.add (0 : Nat) ((n0 % Int.ofNat (64 : Nat)).tmod (16 : Int)).toNat) (0 : Int) ≤
 (127 : Int)) (
 reqB (sigEnt.post [DV.n n0]
 [DV.n
 ((0 : Int) -
 ((0 : Int) -
 [(127 : Int), (126 : Int), (125 : Int), (122 : Int), (117 : Int), (112 : Int), (106 : Int), (98 : Int),
 (90 : Int), (81 : Int), (71 : Int), (60 : Int), (49 : Int), (37 : Int), (25 : Int), (12 : Int),
 (0 : Int)].getD
 (Nat.add (0 : Nat) ((16 : Int) - (n0 % Int.ofNat (64 : Nat)).tmod (16 : Int)).toNat) (0 : Int))),
 DV.n
 ((0 : Int) -
 [(127 : Int), (126 : Int), (125 : Int), (122 : Int), (117 : Int), (112 : Int), (106 : Int), (98 : Int),
 (90 : Int), (81 : Int), (71 : Int), (60 : Int), (49 : Int), (37 : Int), (25 : Int), (12 : Int),
 (0 : Int)].getD
 (Nat.add (0 : Nat) ((n0 % Int.ofNat (64 : Nat)).tmod (16 : Int)).toNat) (0 : Int))]) (
 true)))))) (
 reqB ((-127 : Int) ≤
 (0 : Int) -
 [(127 : Int), (126 : Int), (125 : Int), (122 : Int), (117 : Int), (112 : Int), (106 : Int), (98 : Int), (90 : Int),
 (81 : Int), (71 : Int), (60 : Int), (49 : Int), (37 : Int), (25 : Int), (12 : Int), (0 : Int)].getD
 (Nat.add (0 : Nat) ((n0 % Int.ofNat (64 : Nat)).tmod (16 : Int)).toNat) (0 : Int)) (
 reqB ((0 : Int) -
 [(127 : Int), (126 : Int), (125 : Int), (122 : Int), (117 : Int), (112 : Int), (106 : Int), (98 : Int), (90 : Int),
 (81 : Int), (71 : Int), (60 : Int), (49 : Int), (37 : Int), (25 : Int), (12 : Int), (0 : Int)].getD
 (Nat.add (0 : Nat) ((n0 % Int.ofNat (64 : Nat)).tmod (16 : Int)).toNat) (0 : Int) ≤
 (127 : Int)) (
 reqB ((-127 : Int) ≤
 (0 : Int) -
 [(127 : Int), (126 : Int), (125 : Int), (122 : Int), (117 : Int), (112 : Int), (106 : Int), (98 : Int), (90 : Int),
 (81 : Int), (71 : Int), (60 : Int), (49 : Int), (37 : Int), (25 : Int), (12 : Int), (0 : Int)].getD
 (Nat.add (0 : Nat) ((16 : Int) - (n0 % Int.ofNat (64 : Nat)).tmod (16 : Int)).toNat) (0 : Int)) (
 reqB ((0 : Int) -
 [(127 : Int), (126 : Int), (125 : Int), (122 : Int), (117 : Int), (112 : Int), (106 : Int), (98 : Int), (90 : Int),
 (81 : Int), (71 : Int), (60 : Int), (49 : Int), (37 : Int), (25 : Int), (12 : Int), (0 : Int)].getD
 (Nat.add (0 : Nat) ((16 : Int) - (n0 % Int.ofNat (64 : Nat)).tmod (16 : Int)).toNat) (0 : Int) ≤
 (127 : Int)) (
 reqB (sigEnt.post [DV.n n0]
 [DV.n
 ((0 : Int) -
 [(127 : Int), (126 : Int), (125 : Int), (122 : Int), (117 : Int), (112 : Int), (106 : Int), (98 : Int),
 (90 : Int), (81 : Int), (71 : Int), (60 : Int), (49 : Int), (37 : Int), (25 : Int), (12 : Int),
 (0 : Int)].getD
 (Nat.add (0 : Nat) ((n0 % Int.ofNat (64 : Nat)).tmod (16 : Int)).toNat) (0 : Int)),
 DV.n
 ((0 : Int) -
 [(127 : Int), (126 : Int), (125 : Int), (122 : Int), (117 : Int), (112 : Int), (106 : Int), (98 : Int),
 (90 : Int), (81 : Int), (71 : Int), (60 : Int), (49 : Int), (37 : Int), (25 : Int), (12 : Int),
 (0 : Int)].getD
 (Nat.add (0 : Nat) ((16 : Int) - (n0 % Int.ofNat (64 : Nat)).tmod (16 : Int)).toNat) (0 : Int))]) (
 true))))))) (
 reqB ((-127 : Int) ≤
 (0 : Int) -
 [(127 : Int), (126 : Int), (125 : Int), (122 : Int), (117 : Int), (112 : Int), (106 : Int), (98 : Int), (90 : Int),
 (81 : Int), (71 : Int), (60 : Int), (49 : Int), (37 : Int), (25 : Int), (12 : Int), (0 : Int)].getD
 (Nat.add (0 : Nat) ((16 : Int) - (n0 % Int.ofNat (64 : Nat)).tmod (16 : Int)).toNat) (0 : Int)) (
 reqB ((0 : Int) -
 [(127 : Int), (126 : Int), (125 : Int), (122 : Int), (117 : Int), (112 : Int), (106 : Int), (98 : Int), (90 : Int),
 (81 : Int), (71 : Int), (60 : Int), (49 : Int), (37 : Int), (25 : Int), (12 : Int), (0 : Int)].getD
 (Nat.add (0 : Nat) ((16 : Int) - (n0 % Int.ofNat (64 : Nat)).tmod (16 : Int)).toNat) (0 : Int) ≤
 (127 : Int)) (
 reqB ((-127 : Int) ≤
 [(127 : Int), (126 : Int), (125 : Int), (122 : Int), (117 : Int), (112 : Int), (106 : Int), (98 : Int), (90 : Int),
 (81 : Int), (71 : Int), (60 : Int), (49 : Int), (37 : Int), (25 : Int), (12 : Int), (0 : Int)].getD
 (Nat.add (0 : Nat) ((n0 % Int.ofNat (64 : Nat)).tmod (16 : Int)).toNat) (0 : Int)) (
 reqB ([(127 : Int), (126 : Int), (125 : Int), (122 : Int), (117 : Int), (112 : Int), (106 : Int), (98 : Int), (90 : Int),
 (81 : Int), (71 : Int), (60 : Int), (49 : Int), (37 : Int), (25 : Int), (12 : Int), (0 : Int)].getD
 (Nat.add (0 : Nat) ((n0 % Int.ofNat (64 : Nat)).tmod (16 : Int)).toNat) (0 : Int) ≤
 (127 : Int)) (
 reqB (sigEnt.post [DV.n n0]
 [DV.n
 ((0 : Int) -
 [(127 : Int), (126 : Int), (125 : Int), (122 : Int), (117 : Int), (112 : Int), (106 : Int), (98 : Int),
 (90 : Int), (81 : Int), (71 : Int), (60 : Int), (49 : Int), (37 : Int), (25 : Int), (12 : Int),
 (0 : Int)].getD
 (Nat.add (0 : Nat) ((16 : Int) - (n0 % Int.ofNat (64 : Nat)).tmod (16 : Int)).toNat) (0 : Int)),
 DV.n
 ([(127 : Int), (126 : Int), (125 : Int), (122 : Int), (117 : Int), (112 : Int), (106 : Int), (98 : Int),
 (90 : Int), (81 : Int), (71 : Int), (60 : Int), (49 : Int), (37 : Int), (25 : Int), (12 : Int),
 (0 : Int)].getD
 (Nat.add (0 : Nat) ((n0 % Int.ofNat (64 : Nat)).tmod (16 : Int)).toNat) (0 : Int))]) (
 true))))))) (
 reqB ((-127 : Int) ≤
 [(127 : Int), (126 : Int), (125 : Int), (122 : Int), (117 : Int), (112 : Int), (106 : Int), (98 : Int), (90 : Int),
 (81 : Int), (71 : Int), (60 : Int), (49 : Int), (37 : Int), (25 : Int), (12 : Int), (0 : Int)].getD
 (Nat.add (0 : Nat) ((n0 % Int.ofNat (64 : Nat)).tmod (16 : Int)).toNat) (0 : Int)) (
 reqB ([(127 : Int), (126 : Int), (125 : Int), (122 : Int), (117 : Int), (112 : Int), (106 : Int), (98 : Int), (90 : Int),
 (81 : Int), (71 : Int), (60 : Int), (49 : Int), (37 : Int), (25 : Int), (12 : Int), (0 : Int)].getD
 (Nat.add (0 : Nat) ((n0 % Int.ofNat (64 : Nat)).tmod (16 : Int)).toNat) (0 : Int) ≤
 (127 : Int)) (
 reqB ((-127 : Int) ≤
 [(127 : Int), (126 : Int), (125 : Int), (122 : Int), (117 : Int), (112 : Int), (106 : Int), (98 : Int), (90 : Int),
 (81 : Int), (71 : Int), (60 : Int), (49 : Int), (37 : Int), (25 : Int), (12 : Int), (0 : Int)].getD
 (Nat.add (0 : Nat) ((16 : Int) - (n0 % Int.ofNat (64 : Nat)).tmod (16 : Int)).toNat) (0 : Int)) (
 reqB ([(127 : Int), (126 : Int), (125 : Int), (122 : Int), (117 : Int), (112 : Int), (106 : Int), (98 : Int), (90 : Int),
 (81 : Int), (71 : Int), (60 : Int), (49 : Int), (37 : Int), (25 : Int), (12 : Int), (0 : Int)].getD
 (Nat.add (0 : Nat) ((16 : Int) - (n0 % Int.ofNat (64 : Nat)).tmod (16 : Int)).toNat) (0 : Int) ≤
 (127 : Int)) (
 reqB (sigEnt.post [DV.n n0]
 [DV.n
 ([(127 : Int), (126 : Int), (125 : Int), (122 : Int), (117 : Int), (112 : Int), (106 : Int), (98 : Int),
 (90 : Int), (81 : Int), (71 : Int), (60 : Int), (49 : Int), (37 : Int), (25 : Int), (12 : Int),
 (0 : Int)].getD
 (Nat.add (0 : Nat) ((n0 % Int.ofNat (64 : Nat)).tmod (16 : Int)).toNat) (0 : Int)),
 DV.n
 ([(127 : Int), (126 : Int), (125 : Int), (122 : Int), (117 : Int), (112 : Int), (106 : Int), (98 : Int),
 (90 : Int), (81 : Int), (71 : Int), (60 : Int), (49 : Int), (37 : Int), (25 : Int), (12 : Int),
 (0 : Int)].getD
 (Nat.add (0 : Nat) ((16 : Int) - (n0 % Int.ofNat (64 : Nat)).tmod (16 : Int)).toNat) (0 : Int))]) (
 true)))))))))))))) := by kernel_rfl
set_option maxHeartbeats 8000000 in
theorem vt_entryR : vcFn Tryd.prog [] noA gl11 100 57 sigEnt = true := by
  rw [vc_entryR]
  try simp only [Int.toNat_natCast, List.length_set, List.length_replicate, List.length_take, List.length_drop, List.length_append, List.length_cons, List.length_nil, Nat.min_self, List.take_take, lenCols_i, lenCols_b, List.drop_zero, List.take_length, List.take_nil, List.drop_nil, List.take_zero, List.nil_append, Nat.add_eq, Nat.mul_eq, Nat.sub_eq, Nat.zero_add, Nat.add_zero, Nat.sub_zero, Nat.mul_one]
  refine all_i fun n0 => ?_
  refine imp_i fun h0 => ?_
  refine imp_i fun h1 => ?_
  refine imp_i fun h2 => ?_
  try simp only [sigEnt, entPost, List.cons.injEq, DV.b.injEq, and_true, List.length_cons, List.length_nil] at h2
  refine req_i ?_ ?_
  · -- r0
   (try revert h3); (try revert h4); (try revert h5); (try revert h6); (try simp only [sigEnt, entPost]); (apply upto _ n0 h0 h1); decide +kernel
  refine req_i ?_ ?_
  · -- r1
   (try revert h3); (try revert h4); (try revert h5); (try revert h6); (try simp only [sigEnt, entPost]); (apply upto _ n0 h0 h1); decide +kernel
  refine req_i ?_ ?_
  · -- r2
   (try revert h3); (try revert h4); (try revert h5); (try revert h6); (try simp only [sigEnt, entPost]); (apply upto _ n0 h0 h1); decide +kernel
  refine req_i ?_ ?_
  · -- r3
   (try revert h3); (try revert h4); (try revert h5); (try revert h6); (try simp only [sigEnt, entPost]); (apply upto _ n0 h0 h1); decide +kernel
  refine bR_dec (fun h3 => ?_) (fun h3 => ?_)
  ·
   refine bR_dec (fun h4 => ?_) (fun h4 => ?_)
   ·
    refine bR_dec (fun h5 => ?_) (fun h5 => ?_)
    ·
     refine req_i ?_ ?_
     · -- r4
      (try revert h3); (try revert h4); (try revert h5); (try revert h6); (try simp only [sigEnt, entPost]); (apply upto _ n0 h0 h1); decide +kernel
     refine req_i ?_ ?_
     · -- r5
      (try revert h3); (try revert h4); (try revert h5); (try revert h6); (try simp only [sigEnt, entPost]); (apply upto _ n0 h0 h1); decide +kernel
     refine req_i ?_ ?_
     · -- r6
      (try revert h3); (try revert h4); (try revert h5); (try revert h6); (try simp only [sigEnt, entPost]); (apply upto _ n0 h0 h1); decide +kernel
     refine req_i ?_ ?_
     · -- r7
      (try revert h3); (try revert h4); (try revert h5); (try revert h6); (try simp only [sigEnt, entPost]); (apply upto _ n0 h0 h1); decide +kernel
     refine req_i ?_ ?_
     · -- r8
      (try revert h3); (try revert h4); (try revert h5); (try revert h6); (try simp only [sigEnt, entPost]); (apply upto _ n0 h0 h1); decide +kernel
     rfl
    ·
     refine req_i ?_ ?_
     · -- r9
      (try revert h3); (try revert h4); (try revert h5); (try revert h6); (try simp only [sigEnt, entPost]); (apply upto _ n0 h0 h1); decide +kernel
     refine req_i ?_ ?_
     · -- r10
      (try revert h3); (try revert h4); (try revert h5); (try revert h6); (try simp only [sigEnt, entPost]); (apply upto _ n0 h0 h1); decide +kernel
     refine req_i ?_ ?_
     · -- r11
      (try revert h3); (try revert h4); (try revert h5); (try revert h6); (try simp only [sigEnt, entPost]); (apply upto _ n0 h0 h1); decide +kernel
     refine req_i ?_ ?_
     · -- r12
      (try revert h3); (try revert h4); (try revert h5); (try revert h6); (try simp only [sigEnt, entPost]); (apply upto _ n0 h0 h1); decide +kernel
     refine req_i ?_ ?_
     · -- r13
      (try revert h3); (try revert h4); (try revert h5); (try revert h6); (try simp only [sigEnt, entPost]); (apply upto _ n0 h0 h1); decide +kernel
     rfl
   ·
    refine req_i ?_ ?_
    · -- r14
     (try revert h3); (try revert h4); (try revert h5); (try revert h6); (try simp only [sigEnt, entPost]); (apply upto _ n0 h0 h1); decide +kernel
    refine req_i ?_ ?_
    · -- r15
     (try revert h3); (try revert h4); (try revert h5); (try revert h6); (try simp only [sigEnt, entPost]); (apply upto _ n0 h0 h1); decide +kernel
    refine req_i ?_ ?_
    · -- r16
     (try revert h3); (try revert h4); (try revert h5); (try revert h6); (try simp only [sigEnt, entPost]); (apply upto _ n0 h0 h1); decide +kernel
    refine req_i ?_ ?_
    · -- r17
     (try revert h3); (try revert h4); (try revert h5); (try revert h6); (try simp only [sigEnt, entPost]); (apply upto _ n0 h0 h1); decide +kernel
    refine req_i ?_ ?_
    · -- r18
     (try revert h3); (try revert h4); (try revert h5); (try revert h6); (try simp only [sigEnt, entPost]); (apply upto _ n0 h0 h1); decide +kernel
    rfl
  ·
   refine req_i ?_ ?_
   · -- r19
    (try revert h3); (try revert h4); (try revert h5); (try revert h6); (try simp only [sigEnt, entPost]); (apply upto _ n0 h0 h1); decide +kernel
   refine req_i ?_ ?_
   · -- r20
    (try revert h3); (try revert h4); (try revert h5); (try revert h6); (try simp only [sigEnt, entPost]); (apply upto _ n0 h0 h1); decide +kernel
   refine req_i ?_ ?_
   · -- r21
    (try revert h3); (try revert h4); (try revert h5); (try revert h6); (try simp only [sigEnt, entPost]); (apply upto _ n0 h0 h1); decide +kernel
   refine req_i ?_ ?_
   · -- r22
    (try revert h3); (try revert h4); (try revert h5); (try revert h6); (try simp only [sigEnt, entPost]); (apply upto _ n0 h0 h1); decide +kernel
   refine req_i ?_ ?_
   · -- r23
    (try revert h3); (try revert h4); (try revert h5); (try revert h6); (try simp only [sigEnt, entPost]); (apply upto _ n0 h0 h1); decide +kernel
   rfl
theorem ext_entryR : ∀ p ∈ ([] : List (Nat × Ext)), ExtRow Tryd.prog p.1 p.2 := by
  intro p hp
  cases hp
theorem cts_entryR : CtsOk Tryd.prog [] := fun f c h => by cases h
theorem fn_entryR : FnOk Tryd.prog 57 sigEnt gl11 := fn_sound (by kernel_rfl) ext_entryR cts_entryR names vt_entryR
end Go.Proofs.YtiadfbpbeaeflaaDoor

namespace Go.Proofs.YtiadfbpbeaeflaaDoor
open Go.Ev Go.Sp
set_option maxRecDepth 100000
theorem vc_carR : vcFn Tryd.prog [(57, Ext.ctr (ctOfG gl11 sigEnt))] noA gl11 100 31 sigCar = (allB fun n0 : Int => 
impB ((0 : Int) ≤ n0) (
impB (n0 ≤ (4294967295 : Int)) (
impB (sigCar.pre [DV.n n0]) (
reqB ((-2 : Int) ≤ n0 / Int.ofNat (67108864 : Nat)) (
reqB (n0 / Int.ofNat (67108864 : Nat) ≤ (70 : Int)) (
reqB (sigEnt.pre [DV.n (n0 / Int.ofNat (67108864 : Nat))]) (
allB fun n1 : Int => 
impB ((-127 : Int) ≤ n1) (
impB (n1 ≤ (127 : Int)) (
allB fun n2 : Int => 
impB ((-127 : Int) ≤ n2) (
impB (n2 ≤ (127 : Int)) (
impB (sigEnt.post [DV.n (n0 / Int.ofNat (67108864 : Nat))] [DV.n n1, DV.n n2]) (
reqB ((-127 : Int) ≤ n1) (
reqB (n1 ≤ (127 : Int)) (
reqB ((-127 : Int) ≤ n2) (
reqB (n2 ≤ (127 : Int)) (
reqB (sigCar.post [DV.n n0] [DV.n n1, DV.n n2]) (
true))))))))))))))))) := by kernel_rfl
set_option maxHeartbeats 8000000 in
theorem vt_carR : vcFn Tryd.prog [(57, Ext.ctr (ctOfG gl11 sigEnt))] noA gl11 100 31 sigCar = true := by
  rw [vc_carR]
  try simp only [Int.toNat_natCast, List.length_set, List.length_replicate, List.length_take, List.length_drop, List.length_append, List.length_cons, List.length_nil, Nat.min_self, List.take_take, lenCols_i, lenCols_b, List.drop_zero, List.take_length, List.take_nil, List.drop_nil, List.take_zero, List.nil_append, Nat.add_eq, Nat.mul_eq, Nat.sub_eq, Nat.zero_add, Nat.add_zero, Nat.sub_zero, Nat.mul_one]
  refine all_i fun n0 => ?_
  refine imp_i fun h0 => ?_
  refine imp_i fun h1 => ?_
  refine imp_i fun h2 => ?_
  try simp only [sigCar, u32, carPost, List.cons.injEq, DV.b.injEq, and_true, List.length_cons, List.length_nil] at h2
  refine req_i ?_ ?_
  · -- r0
   first | omega | assumption | grind
  refine req_i ?_ ?_
  · -- r1
   first | omega | assumption | grind
  refine req_i ?_ ?_
  · -- r2
   first | trivial | assumption | (simp only [sigEnt, entPost, List.cons.injEq, DV.b.injEq, and_true, List.length_cons, List.length_nil]; done) | ((try simp only [sigEnt, entPost, List.cons.injEq, DV.b.injEq, and_true, List.length_cons, List.length_nil]); first | omega | assumption | grind)
  refine all_i fun n1 => ?_
  refine imp_i fun h3 => ?_
  refine imp_i fun h4 => ?_
  refine all_i fun n2 => ?_
  refine imp_i fun h5 => ?_
  refine imp_i fun h6 => ?_
  refine imp_i fun h7 => ?_
  try simp only [sigEnt, entPost, List.cons.injEq, DV.b.injEq, and_true, List.length_cons, List.length_nil] at h7
  refine req_i ?_ ?_
  · -- r3
   first | omega | assumption | grind
  refine req_i ?_ ?_
  · -- r4
   first | omega | assumption | grind
  refine req_i ?_ ?_
  · -- r5
   first | omega | assumption | grind
  refine req_i ?_ ?_
  · -- r6
   first | omega | assumption | grind
  refine req_i ?_ ?_
  · -- r7
   first | omega | ((try simp only [sigCar, u32, carPost, List.cons.injEq, DV.b.injEq, and_true, List.length_cons, List.length_nil]); first | done | omega | assumption | grind [getD_set, getD_rep, toNat_succ, cntN_yes, cntN_no])
  rfl
theorem ext_carR : ∀ p ∈ ([(57, Ext.ctr (ctOfG gl11 sigEnt))] : List (Nat × Ext)), ExtRow Tryd.prog p.1 p.2 := by
  intro p hp
  simp only [List.mem_cons, List.not_mem_nil, or_false] at hp
  rcases hp with rfl
  · trivial
theorem cts_carR : CtsOk Tryd.prog [(57, Ext.ctr (ctOfG gl11 sigEnt))] := ctsOk_ofG (cs := [(57, sigEnt)])
  (fun p hp => by
    simp only [List.mem_cons, List.not_mem_nil, or_false] at hp
    rcases hp with rfl
    · exact fn_entryR
)
  (fun f c h => by
    simp only [List.lookup_cons] at h
    repeat' split at h
    all_goals first | (cases h; done) | (rename_i e; have e := beq_iff_eq.1 e; subst e; cases h; refine ⟨_, ?_, rfl⟩; simp))
theorem fn_carR : FnOk Tryd.prog 31 sigCar gl11 := fn_sound (by kernel_rfl) ext_carR cts_carR names vt_carR
end Go.Proofs.YtiadfbpbeaeflaaDoor

namespace Go.Proofs.YtiadfbpbeaeflaaDoor
open Go.Ev Go.Sp
set_option maxRecDepth 100000
theorem vc_spin : vcFn Tryd.prog [(32, Ext.ctr (ctOfG gl11 sigAdv)), (31, Ext.ctr (ctOfG gl11 sigCar))] (fun f p _ => at2 f p 49 58 spRL (none)) gl11 100 49 sigSp = (allB fun l0 : List Int => 
impB (l0.length ≤ (30 : Nat)) (
impB (∀ (y : Int), y ∈ l0 → (-9223372036854775808 : Int) ≤ y ∧ y ≤ (9223372036854775807 : Int)) (
allB fun l1 : List Int => 
impB (l1.length = l0.length) (
impB (∀ (y : Int), y ∈ l1 → (-9223372036854775808 : Int) ≤ y ∧ y ≤ (9223372036854775807 : Int)) (
allB fun n2 : Int => 
impB ((0 : Int) ≤ n2) (
impB (n2 ≤ (4294967295 : Int)) (
impB (sigSp.pre [DV.l l0, DV.l l1, DV.n n2]) (
reqB (((0 : Nat) + l0.length) * (2 : Nat) ≤ l0.length.mul (2 : Nat)) (
reqB (l0.length ≤ (30 : Nat)) (
reqB ((List.take l0.length (List.drop (0 : Nat) l0)).length = l0.length) (
reqB (∀ (y : Int),
 y ∈ List.take l0.length (List.drop (0 : Nat) l0) → (-9223372036854775808 : Int) ≤ y ∧ y ≤ (9223372036854775807 : Int)) (
reqB ((List.take l0.length (List.drop (0 : Nat) l1)).length = l0.length) (
reqB (∀ (y : Int),
 y ∈ List.take l0.length (List.drop (0 : Nat) l1) → (-9223372036854775808 : Int) ≤ y ∧ y ≤ (9223372036854775807 : Int)) (
reqB ((0 : Int) ≤ n2) (
reqB (n2 ≤ (4294967295 : Int)) (
reqB (spRL.inv
 [DV.l (List.take l0.length (List.drop (0 : Nat) l0)), DV.l (List.take l0.length (List.drop (0 : Nat) l1)),
 DV.n n2]
 [DV.n (0 : Int), DV.n (0 : Int), DV.n (0 : Int)]) (
allB fun n3 : Int => 
impB ((0 : Int) ≤ n3) (
impB (n3 ≤ (30 : Int)) (
allB fun n4 : Int => 
impB ((-4261412864 : Int) ≤ n4) (
impB (n4 ≤ (4261412864 : Int)) (
allB fun n5 : Int => 
impB ((-4261412864 : Int) ≤ n5) (
impB (n5 ≤ (4261412864 : Int)) (
impB (spRL.inv
 [DV.l (List.take l0.length (List.drop (0 : Nat) l0)), DV.l (List.take l0.length (List.drop (0 : Nat) l1)),
 DV.n n2]
 [DV.n n3, DV.n n4, DV.n n5]) (
bR (dec (n3 < (↑l0.length : Int))) (
 reqB ((0 : Int) ≤ n2) (
 reqB (n2 ≤ (4294967295 : Int)) (
 reqB ((-9223372036854775808 : Int) ≤ n3) (
 reqB (n3 ≤ (9223372036854775807 : Int)) (
 reqB (sigAdv.pre [DV.n (0 : Int), DV.n n2, DV.n n3]) (
 allB fun n6 : Int => 
 impB ((0 : Int) ≤ n6) (
 impB (n6 ≤ (4294967295 : Int)) (
 impB (sigAdv.post [DV.n (0 : Int), DV.n n2, DV.n n3] [DV.n n6]) (
 reqB ((0 : Int) ≤ n6) (
 reqB (n6 ≤ (4294967295 : Int)) (
 reqB (sigCar.pre [DV.n n6]) (
 allB fun n7 : Int => 
 impB ((-127 : Int) ≤ n7) (
 impB (n7 ≤ (127 : Int)) (
 allB fun n8 : Int => 
 impB ((-127 : Int) ≤ n8) (
 impB (n8 ≤ (127 : Int)) (
 impB (sigCar.post [DV.n n6] [DV.n n7, DV.n n8]) (
 reqB (n3.toNat < l0.length) (
 reqB (Nat.add (0 : Nat) n3.toNat < l0.length) (
 allB fun n9 : Int => 
 impB (n9 = Go.IntKind.i64.wrap (l0.getD (Nat.add (0 : Nat) n3.toNat) (0 : Int) * n7)) (
 impB (Int.negSucc (9223372036854775807 : Nat) ≤ n9) (
 impB (n9 ≤ Int.ofNat (9223372036854775807 : Nat)) (
 allB fun n10 : Int => 
 impB (n10 = Go.IntKind.i64.wrap (n4 + n9)) (
 impB (Int.negSucc (9223372036854775807 : Nat) ≤ n10) (
 impB (n10 ≤ Int.ofNat (9223372036854775807 : Nat)) (
 reqB (n3.toNat < l0.length) (
 reqB (Nat.add (0 : Nat) n3.toNat < l1.length) (
 allB fun n11 : Int => 
 impB (n11 = Go.IntKind.i64.wrap (l1.getD (Nat.add (0 : Nat) n3.toNat) (0 : Int) * n8)) (
 impB (Int.negSucc (9223372036854775807 : Nat) ≤ n11) (
 impB (n11 ≤ Int.ofNat (9223372036854775807 : Nat)) (
 allB fun n12 : Int => 
 impB (n12 = Go.IntKind.i64.wrap (n10 + n11)) (
 impB (Int.negSucc (9223372036854775807 : Nat) ≤ n12) (
 impB (n12 ≤ Int.ofNat (9223372036854775807 : Nat)) (
 reqB (n3.toNat < l0.length) (
 reqB (Nat.add (0 : Nat) n3.toNat < l1.length) (
 allB fun n13 : Int => 
 impB (n13 = Go.IntKind.i64.wrap (l1.getD (Nat.add (0 : Nat) n3.toNat) (0 : Int) * n7)) (
 impB (Int.negSucc (9223372036854775807 : Nat) ≤ n13) (
 impB (n13 ≤ Int.ofNat (9223372036854775807 : Nat)) (
 allB fun n14 : Int => 
 impB (n14 = Go.IntKind.i64.wrap (n5 + n13)) (
 impB (Int.negSucc (9223372036854775807 : Nat) ≤ n14) (
 impB (n14 ≤ Int.ofNat (9223372036854775807 : Nat)) (
 reqB (n3.toNat < l0.length) (
 reqB (Nat.add (0 : Nat) n3.toNat < l0.length) (
 allB fun n15 : Int => 
 impB (n15 = Go.IntKind.i64.wrap (l0.getD (Nat.add (0 : Nat) n3.toNat) (0 : Int) * n8)) (
 impB (Int.negSucc (9223372036854775807 : Nat) ≤ n15) (
 impB (n15 ≤ Int.ofNat (9223372036854775807 : Nat)) (
 allB fun n16 : Int => 
 impB (n16 = Go.IntKind.i64.wrap (n14 - n15)) (
 impB (Int.negSucc (9223372036854775807 : Nat) ≤ n16) (
 impB (n16 ≤ Int.ofNat (9223372036854775807 : Nat)) (
 bR (bR (bR (dec ((0 : Nat) = (0 : Nat))) (
 dec (l0.length = l0.length)) (
 false)) (
 bR (dec (n2 = n2)) (
 true) (
 false)) (
 false)) (
 reqB ((0 : Int) ≤ n3 + (1 : Int)) (
 reqB (n3 + (1 : Int) ≤ (30 : Int)) (
 reqB ((-4261412864 : Int) ≤ n12) (
 reqB (n12 ≤ (4261412864 : Int)) (
 reqB ((-4261412864 : Int) ≤ n16) (
 reqB (n16 ≤ (4261412864 : Int)) (
 reqB (spRL.inv
 [DV.l (List.take l0.length (List.drop (0 : Nat) l0)), DV.l (List.take l0.length (List.drop (0 : Nat) l1)),
 DV.n n2]
 [DV.n (n3 + (1 : Int)), DV.n n12, DV.n n16]) (
 reqB (spRL.mea
 [DV.l (List.take l0.length (List.drop (0 : Nat) l0)),
 DV.l (List.take l0.length (List.drop (0 : Nat) l1)), DV.n n2]
 [DV.n (n3 + (1 : Int)), DV.n n12, DV.n n16] <
 spRL.mea
 [DV.l (List.take l0.length (List.drop (0 : Nat) l0)),
 DV.l (List.take l0.length (List.drop (0 : Nat) l1)), DV.n n2]
 [DV.n n3, DV.n n4, DV.n n5]) (
 true))))))))) (
 false)))))))))))))))))))))))))))))))))))))))))))))))))) (
 reqB ((-4261412864 : Int) ≤ n4) (
 reqB (n4 ≤ (4261412864 : Int)) (
 reqB ((-4261412864 : Int) ≤ n5) (
 reqB (n5 ≤ (4261412864 : Int)) (
 reqB (sigSp.post [DV.l l0, DV.l l1, DV.n n2] [DV.n n4, DV.n n5]) (
 true)))))))))))))))))))))))))))))) := by kernel_rfl
set_option maxHeartbeats 8000000 in
theorem vt_spin : vcFn Tryd.prog [(32, Ext.ctr (ctOfG gl11 sigAdv)), (31, Ext.ctr (ctOfG gl11 sigCar))] (fun f p _ => at2 f p 49 58 spRL (none)) gl11 100 49 sigSp = true := by
  rw [vc_spin]
  try simp only [Int.toNat_natCast, List.length_set, List.length_replicate, List.length_take, List.length_drop, List.length_append, List.length_cons, List.length_nil, Nat.min_self, List.take_take, lenCols_i, lenCols_b, List.drop_zero, List.take_length, List.take_nil, List.drop_nil, List.take_zero, List.nil_append, Nat.add_eq, Nat.mul_eq, Nat.sub_eq, Nat.zero_add, Nat.add_zero, Nat.sub_zero, Nat.mul_one]
  refine all_i fun l0 => ?_
  refine imp_i fun h0 => ?_
  refine imp_i fun h1 => ?_
  refine all_i fun l1 => ?_
  refine imp_i fun h2 => ?_
  have tkl1 := take_eq h2
  try simp only [tkl1]
  refine imp_i fun h3 => ?_
  refine all_i fun n2 => ?_
  refine imp_i fun h4 => ?_
  refine imp_i fun h5 => ?_
  refine imp_i fun h6 => ?_
  try simp only [sigSp, smpS, u32, bSp, spPre, spPost, List.cons.injEq, DV.b.injEq, and_true, List.length_cons, List.length_nil] at h6
  refine req_i ?_ ?_
  · -- r0
   first | omega | ((try simp only [Nat.mul_eq]); first | done | omega | assumption | grind [getD_set, getD_rep, toNat_succ, cntN_yes, cntN_no])
  refine req_i ?_ ?_
  · -- r1
   first | omega | ((try simp only [Nat.zero_add]); first | done | omega | assumption | grind [getD_set, getD_rep, toNat_succ, cntN_yes, cntN_no])
  refine req_i ?_ ?_
  · -- r2
   first | omega | ((try simp only [List.take_nil, List.take_zero, List.length_take, List.take_length, List.take_take, Nat.min_self, List.drop_nil, List.length_drop, List.drop_zero, List.length_cons, List.length_nil]); first | done | omega | assumption | grind [getD_set, getD_rep, toNat_succ, cntN_yes, cntN_no])
  refine req_i ?_ ?_
  · -- r3
   first | assumption | exact rep_bd (by omega) (by omega) | exact set_bd (by assumption) (by omega) (by omega) | exact take_bd (by assumption) | ((try simp only [List.take_nil, List.take_zero, List.length_take, List.take_length, List.take_take, Nat.min_self, List.drop_nil, List.length_drop, List.drop_zero, List.length_cons, List.length_nil]); first | assumption | exact rep_bd (by omega) (by omega) | exact set_bd (by assumption) (by omega) (by omega) | exact take_bd (by assumption) | grind [getD_set, getD_rep, toNat_succ, cntN_yes, cntN_no])
  refine req_i ?_ ?_
  · -- r4
   first | omega | ((try simp only [List.take_nil, List.take_zero, List.length_take, List.take_length, List.take_take, Nat.min_self, List.drop_nil, List.length_drop, List.drop_zero, List.length_cons, List.length_nil]); first | done | omega | assumption | grind [getD_set, getD_rep, toNat_succ, cntN_yes, cntN_no])
  refine req_i ?_ ?_
  · -- r5
   first | assumption | exact rep_bd (by omega) (by omega) | exact set_bd (by assumption) (by omega) (by omega) | exact take_bd (by assumption) | ((try simp only [List.take_nil, List.take_zero, List.length_take, List.take_length, List.take_take, Nat.min_self, List.drop_nil, List.length_drop, List.drop_zero, List.length_cons, List.length_nil]); first | assumption | exact rep_bd (by omega) (by omega) | exact set_bd (by assumption) (by omega) (by omega) | exact take_bd (by assumption) | grind [getD_set, getD_rep, toNat_succ, cntN_yes, cntN_no])
  refine req_i ?_ ?_
  · -- r6
   first | omega | assumption | grind
  refine req_i ?_ ?_
  · -- r7
   first | omega | assumption | grind
  refine req_i ?_ ?_
  · -- r8
   (try simp only [spL, spRL, spInv, List.drop_zero, List.take_length, tkl1, Nat.add_eq, Nat.zero_add]); exact ⟨by omega, by omega, by omega, h6.1, h6.2, rfl, rfl⟩
  refine all_i fun n3 => ?_
  refine imp_i fun h7 => ?_
  refine imp_i fun h8 => ?_
  refine all_i fun n4 => ?_
  refine imp_i fun h9 => ?_
  refine imp_i fun h10 => ?_
  refine all_i fun n5 => ?_
  refine imp_i fun h11 => ?_
  refine imp_i fun h12 => ?_
  refine imp_i fun h13 => ?_
  try simp only [spRL, bSp, u32, spInv, mea14, List.cons.injEq, DV.b.injEq, and_true, List.take_nil, List.take_zero, List.length_take, List.take_length, List.take_take, Nat.min_self, List.drop_nil, List.length_drop, List.drop_zero, List.length_cons, List.length_nil] at h13
  refine bR_dec (fun h14 => ?_) (fun h14 => ?_)
  ·
   have ok := h6.2
   have is := ok n3.toNat (by omega)
   unfold inS at is
   have sb := sp_bd (st := n2) ok n3.toNat (by omega)
   have sb2 := sp_bd (st := n2) ok (n3 + 1).toNat (by omega)
   have nI := spI_next (x := l0) (y := l1) (st := n2) (i := n3) (by omega)
   have nQ := spQ_next (x := l0) (y := l1) (st := n2) (i := n3) (by omega)
   refine req_i ?_ ?_
   · -- r9
    first | omega | assumption | grind
   refine req_i ?_ ?_
   · -- r10
    first | omega | assumption | grind
   refine req_i ?_ ?_
   · -- r11
    first | omega | assumption | grind
   refine req_i ?_ ?_
   · -- r12
    first | omega | assumption | grind
   refine req_i ?_ ?_
   · -- r13
    first | trivial | assumption | (simp only [sigAdv, u32, advPost, adv, List.cons.injEq, DV.b.injEq, and_true, List.length_cons, List.length_nil]; done) | ((try simp only [sigAdv, u32, advPost, adv, List.cons.injEq, DV.b.injEq, and_true, List.length_cons, List.length_nil]); first | omega | assumption | grind)
   refine all_i fun n6 => ?_
   refine imp_i fun h15 => ?_
   refine imp_i fun h16 => ?_
   refine imp_i fun h17 => ?_
   try simp only [sigAdv, u32, advPost, adv, List.cons.injEq, DV.b.injEq, and_true, List.length_cons, List.length_nil] at h17
   refine req_i ?_ ?_
   · -- r14
    first | omega | assumption | grind
   refine req_i ?_ ?_
   · -- r15
    first | omega | assumption | grind
   refine req_i ?_ ?_
   · -- r16
    first | trivial | assumption | (simp only [sigCar, u32, carPost, List.cons.injEq, DV.b.injEq, and_true, List.length_cons, List.length_nil]; done) | ((try simp only [sigCar, u32, carPost, List.cons.injEq, DV.b.injEq, and_true, List.length_cons, List.length_nil]); first | omega | assumption | grind)
   refine all_i fun n7 => ?_
   refine imp_i fun h18 => ?_
   refine imp_i fun h19 => ?_
   refine all_i fun n8 => ?_
   refine imp_i fun h20 => ?_
   refine imp_i fun h21 => ?_
   refine imp_i fun h22 => ?_
   try simp only [Int.toNat_natCast, List.length_set, List.length_replicate, List.length_take, List.length_drop, List.length_append, List.length_cons, List.length_nil, Nat.min_self, List.take_take, lenCols_i, lenCols_b, List.drop_zero, List.take_length, List.take_nil, List.drop_nil, List.take_zero, List.nil_append, Nat.add_eq, Nat.mul_eq, Nat.sub_eq, Nat.zero_add, Nat.add_zero, Nat.sub_zero, Nat.mul_one] at h22
   have c1 : n7 = wC (adv 0 n2 n3) ∧ n8 = wS (adv 0 n2 n3) := by rw [← show n6 = adv 0 n2 n3 from h17]; exact h22
   refine req_i ?_ ?_
   · -- r17
    first | omega | ((try simp only [Int.toNat_natCast, List.length_cons, List.length_nil]); first | done | omega | assumption | grind [getD_set, getD_rep, toNat_succ, cntN_yes, cntN_no])
   refine req_i ?_ ?_
   · -- r18
    first | omega | ((try simp only [Int.toNat_natCast, List.length_cons, List.length_nil, Nat.add_eq, Nat.zero_add, Nat.add_zero]); first | done | omega | assumption | grind [getD_set, getD_rep, toNat_succ, cntN_yes, cntN_no])
   refine all_i fun n9 => ?_
   refine imp_i fun h23 => ?_
   simp only [wrap_i64] at h23
   have ph23 := mul_abs (a := l0.getD n3.toNat 0) (b := n7) (A := 1048576) (B := 127) (by omega) (by omega) (by omega) (by omega)
   replace h23 : n9 = l0.getD n3.toNat 0 * n7 := by (try simp only [wrap_i64, Nat.add_eq, Nat.zero_add] at h23); omega
   refine imp_i fun h24 => ?_
   refine imp_i fun h25 => ?_
   refine all_i fun n10 => ?_
   refine imp_i fun h26 => ?_
   simp only [wrap_i64] at h26
   replace h26 : n10 = n4 + n9 := by (try simp only [wrap_i64] at h26); omega
   refine imp_i fun h27 => ?_
   refine imp_i fun h28 => ?_
   refine req_i ?_ ?_
   · -- r19
    first | omega | ((try simp only [Int.toNat_natCast, List.length_cons, List.length_nil]); first | done | omega | assumption | grind [getD_set, getD_rep, toNat_succ, cntN_yes, cntN_no])
   refine req_i ?_ ?_
   · -- r20
    first | omega | ((try simp only [Int.toNat_natCast, List.length_cons, List.length_nil, Nat.add_eq, Nat.zero_add, Nat.add_zero]); first | done | omega | assumption | grind [getD_set, getD_rep, toNat_succ, cntN_yes, cntN_no])
   refine all_i fun n11 => ?_
   refine imp_i fun h29 => ?_
   simp only [wrap_i64] at h29
   have ph29 := mul_abs (a := l1.getD n3.toNat 0) (b := n8) (A := 1048576) (B := 127) (by omega) (by omega) (by omega) (by omega)
   replace h29 : n11 = l1.getD n3.toNat 0 * n8 := by (try simp only [wrap_i64, Nat.add_eq, Nat.zero_add] at h29); omega
   refine imp_i fun h30 => ?_
   refine imp_i fun h31 => ?_
   refine all_i fun n12 => ?_
   refine imp_i fun h32 => ?_
   simp only [wrap_i64] at h32
   replace h32 : n12 = n10 + n11 := by (try simp only [wrap_i64] at h32); omega
   refine imp_i fun h33 => ?_
   refine imp_i fun h34 => ?_
   refine req_i ?_ ?_
   · -- r21
    first | omega | ((try simp only [Int.toNat_natCast, List.length_cons, List.length_nil]); first | done | omega | assumption | grind [getD_set, getD_rep, toNat_succ, cntN_yes, cntN_no])
   refine req_i ?_ ?_
   · -- r22
    first | omega | ((try simp only [Int.toNat_natCast, List.length_cons, List.length_nil, Nat.add_eq, Nat.zero_add, Nat.add_zero]); first | done | omega | assumption | grind [getD_set, getD_rep, toNat_succ, cntN_yes, cntN_no])
   refine all_i fun n13 => ?_
   refine imp_i fun h35 => ?_
   simp only [wrap_i64] at h35
   have ph35 := mul_abs (a := l1.getD n3.toNat 0) (b := n7) (A := 1048576) (B := 127) (by omega) (by omega) (by omega) (by omega)
   replace h35 : n13 = l1.getD n3.toNat 0 * n7 := by (try simp only [wrap_i64, Nat.add_eq, Nat.zero_add] at h35); omega
   refine imp_i fun h36 => ?_
   refine imp_i fun h37 => ?_
   refine all_i fun n14 => ?_
   refine imp_i fun h38 => ?_
   simp only [wrap_i64] at h38
   replace h38 : n14 = n5 + n13 := by (try simp only [wrap_i64] at h38); omega
   refine imp_i fun h39 => ?_
   refine imp_i fun h40 => ?_
   refine req_i ?_ ?_
   · -- r23
    first | omega | ((try simp only [Int.toNat_natCast, List.length_cons, List.length_nil]); first | done | omega | assumption | grind [getD_set, getD_rep, toNat_succ, cntN_yes, cntN_no])
   refine req_i ?_ ?_
   · -- r24
    first | omega | ((try simp only [Int.toNat_natCast, List.length_cons, List.length_nil, Nat.add_eq, Nat.zero_add, Nat.add_zero]); first | done | omega | assumption | grind [getD_set, getD_rep, toNat_succ, cntN_yes, cntN_no])
   refine all_i fun n15 => ?_
   refine imp_i fun h41 => ?_
   simp only [wrap_i64] at h41
   have ph41 := mul_abs (a := l0.getD n3.toNat 0) (b := n8) (A := 1048576) (B := 127) (by omega) (by omega) (by omega) (by omega)
   replace h41 : n15 = l0.getD n3.toNat 0 * n8 := by (try simp only [wrap_i64, Nat.add_eq, Nat.zero_add] at h41); omega
   refine imp_i fun h42 => ?_
   refine imp_i fun h43 => ?_
   refine all_i fun n16 => ?_
   refine imp_i fun h44 => ?_
   simp only [wrap_i64] at h44
   replace h44 : n16 = n14 - n15 := by (try simp only [wrap_i64] at h44); omega
   rw [c1.1] at h23 h35
   rw [c1.2] at h29 h41
   have f1 : n12 = spI l0 l1 n2 (n3 + 1).toNat := by omega
   have f2 : n16 = spQ l0 l1 n2 (n3 + 1).toNat := by omega
   refine imp_i fun h45 => ?_
   refine imp_i fun h46 => ?_
   refine bR_t ?_ ?_
   · -- g0
    first | rfl | (simp only [bR_iff, bR_iff_f, dec_iff, dec_f, beqB_iff', andB_iff', reduceCtorEq, imp_self, false_implies, and_true, true_and, implies_true, and_self]; done) | (simp [bR_iff, dec_iff, beqB_iff', andB_iff']; done) | (simp [bR_iff, dec_iff, beqB_iff', andB_iff']; omega)
   refine req_i ?_ ?_
   · -- r25
    first | omega | assumption | grind
   refine req_i ?_ ?_
   · -- r26
    first | omega | assumption | grind
   refine req_i ?_ ?_
   · -- r27
    first | omega | assumption | grind
   refine req_i ?_ ?_
   · -- r28
    first | omega | assumption | grind
   refine req_i ?_ ?_
   · -- r29
    first | omega | assumption | grind
   refine req_i ?_ ?_
   · -- r30
    first | omega | assumption | grind
   refine req_i ?_ ?_
   · -- r31
    (try simp only [spL, spRL, spInv, List.drop_zero, List.take_length, tkl1, Nat.add_eq, Nat.zero_add]); exact ⟨by omega, by omega, by omega, h6.1, ok, f1, f2⟩
   refine req_i ?_ ?_
   · -- r32
    first | omega | ((try simp only [spRL, bSp, u32, spInv, mea14, List.cons.injEq, DV.b.injEq, and_true, List.take_nil, List.take_zero, List.length_take, List.take_length, List.take_take, Nat.min_self, List.drop_nil, List.length_drop, List.drop_zero, List.length_cons, List.length_nil]); first | done | omega | assumption | grind [getD_set, getD_rep, toNat_succ, cntN_yes, cntN_no])
   rfl
  ·
   refine req_i ?_ ?_
   · -- r33
    first | omega | assumption | grind
   refine req_i ?_ ?_
   · -- r34
    first | omega | assumption | grind
   refine req_i ?_ ?_
   · -- r35
    first | omega | assumption | grind
   refine req_i ?_ ?_
   · -- r36
    first | omega | assumption | grind
   refine req_i ?_ ?_
   · -- r37
    have e : n3.toNat = l0.length := by omega
    exact ⟨by rw [h13.2.2.2.2.2.1, e], by rw [h13.2.2.2.2.2.2, e]⟩
   rfl
theorem ext_spin : ∀ p ∈ ([(32, Ext.ctr (ctOfG gl11 sigAdv)), (31, Ext.ctr (ctOfG gl11 sigCar))] : List (Nat × Ext)), ExtRow Tryd.prog p.1 p.2 := by
  intro p hp
  simp only [List.mem_cons, List.not_mem_nil, or_false] at hp
  rcases hp with rfl | rfl
  · trivial
  · trivial
theorem cts_spin : CtsOk Tryd.prog [(32, Ext.ctr (ctOfG gl11 sigAdv)), (31, Ext.ctr (ctOfG gl11 sigCar))] := ctsOk_ofG (cs := [(32, sigAdv), (31, sigCar)])
  (fun p hp => by
    simp only [List.mem_cons, List.not_mem_nil, or_false] at hp
    rcases hp with rfl | rfl
    · exact fn_advR
    · exact fn_carR
)
  (fun f c h => by
    simp only [List.lookup_cons] at h
    repeat' split at h
    all_goals first | (cases h; done) | (rename_i e; have e := beq_iff_eq.1 e; subst e; cases h; refine ⟨_, ?_, rfl⟩; simp))
theorem fn_spin : FnOk Tryd.prog 49 sigSp gl11 := fn_sound (by kernel_rfl) ext_spin cts_spin names vt_spin
end Go.Proofs.YtiadfbpbeaeflaaDoor

namespace Go.Proofs.YtiadfbpbeaeflaaDoor
open Go.Ev Go.Sp
set_option maxRecDepth 100000
theorem vc_SpinR : vcFn Tryd.prog [(48, Ext.ctr (ctOfG gl11 sigSm)), (49, Ext.ctr (ctOfG gl11 sigSp))] noA gl11 100 24 sigSpn = (allB fun l0 : List Int => 
impB (l0.length ≤ (30 : Nat)) (
impB (∀ (y : Int), y ∈ l0 → (-9223372036854775808 : Int) ≤ y ∧ y ≤ (9223372036854775807 : Int)) (
allB fun l1 : List Int => 
impB (l1.length = l0.length) (
impB (∀ (y : Int), y ∈ l1 → (-9223372036854775808 : Int) ≤ y ∧ y ≤ (9223372036854775807 : Int)) (
allB fun n2 : Int => 
impB ((0 : Int) ≤ n2) (
impB (n2 ≤ (4294967295 : Int)) (
impB (sigSpn.pre [DV.l l0, DV.l l1, DV.n n2]) (
reqB (((0 : Nat) + l0.length) * (2 : Nat) ≤ l0.length.mul (2 : Nat)) (
reqB (l0.length ≤ (30 : Nat)) (
reqB ((List.take l0.length (List.drop (0 : Nat) l0)).length = l0.length) (
reqB (∀ (y : Int),
 y ∈ List.take l0.length (List.drop (0 : Nat) l0) → (-9223372036854775808 : Int) ≤ y ∧ y ≤ (9223372036854775807 : Int)) (
reqB ((List.take l0.length (List.drop (0 : Nat) l1)).length = l0.length) (
reqB (∀ (y : Int),
 y ∈ List.take l0.length (List.drop (0 : Nat) l1) → (-9223372036854775808 : Int) ≤ y ∧ y ≤ (9223372036854775807 : Int)) (
reqB (sigSm.pre
 [DV.l (List.take l0.length (List.drop (0 : Nat) l0)), DV.l (List.take l0.length (List.drop (0 : Nat) l1)),
 DV.n (16 : Int)]) (
allB fun n3 : Int => 
impB ((0 : Int) ≤ n3) (
impB (n3 ≤ (18 : Int)) (
impB (sigSm.post
 [DV.l (List.take l0.length (List.drop (0 : Nat) l0)), DV.l (List.take l0.length (List.drop (0 : Nat) l1)),
 DV.n (16 : Int)]
 [DV.n n3]) (
bR (dec (n3 ≠ (0 : Int))) (
 reqB ((0 : Int) ≤ n3) (
 reqB (n3 ≤ (18 : Int)) (
 reqB (sigSpn.post [DV.l l0, DV.l l1, DV.n n2]
 [DV.n (0 : Int), DV.n (0 : Int), DV.n n3]) (
 true)))) (
 reqB (((0 : Nat) + l0.length) * (2 : Nat) ≤ l0.length.mul (2 : Nat)) (
 reqB (l0.length ≤ (30 : Nat)) (
 reqB ((List.take l0.length (List.drop (0 : Nat) l0)).length = l0.length) (
 reqB (∀ (y : Int),
 y ∈ List.take l0.length (List.drop (0 : Nat) l0) → (-9223372036854775808 : Int) ≤ y ∧ y ≤ (9223372036854775807 : Int)) (
 reqB ((List.take l0.length (List.drop (0 : Nat) l1)).length = l0.length) (
 reqB (∀ (y : Int),
 y ∈ List.take l0.length (List.drop (0 : Nat) l1) → (-9223372036854775808 : Int) ≤ y ∧ y ≤ (9223372036854775807 : Int)) (
 reqB ((0 : Int) ≤ n2) (
 reqB (n2 ≤ (4294967295 : Int)) (
 reqB (sigSp.pre
 [DV.l (List.take l0.length (List.drop (0 : Nat) l0)), DV.l (List.take l0.length (List.drop (0 : Nat) l1)),
 DV.n n2]) (
 allB fun n4 : Int => 
 impB ((-4261412864 : Int) ≤ n4) (
 impB (n4 ≤ (4261412864 : Int)) (
 allB fun n5 : Int => 
 impB ((-4261412864 : Int) ≤ n5) (
 impB (n5 ≤ (4261412864 : Int)) (
 impB (sigSp.post
 [DV.l (List.take l0.length (List.drop (0 : Nat) l0)), DV.l (List.take l0.length (List.drop (0 : Nat) l1)),
 DV.n n2]
 [DV.n n4, DV.n n5]) (
 reqB ((-4261412864 : Int) ≤ n4) (
 reqB (n4 ≤ (4261412864 : Int)) (
 reqB ((-4261412864 : Int) ≤ n5) (
 reqB (n5 ≤ (4261412864 : Int)) (
 reqB (sigSpn.post [DV.l l0, DV.l l1, DV.n n2] [DV.n n4, DV.n n5, DV.n (0 : Int)]) (
 true)))))))))))))))))))))))))))))))))))))) := by kernel_rfl
set_option maxHeartbeats 8000000 in
theorem vt_SpinR : vcFn Tryd.prog [(48, Ext.ctr (ctOfG gl11 sigSm)), (49, Ext.ctr (ctOfG gl11 sigSp))] noA gl11 100 24 sigSpn = true := by
  rw [vc_SpinR]
  try simp only [Int.toNat_natCast, List.length_set, List.length_replicate, List.length_take, List.length_drop, List.length_append, List.length_cons, List.length_nil, Nat.min_self, List.take_take, lenCols_i, lenCols_b, List.drop_zero, List.take_length, List.take_nil, List.drop_nil, List.take_zero, List.nil_append, Nat.add_eq, Nat.mul_eq, Nat.sub_eq, Nat.zero_add, Nat.add_zero, Nat.sub_zero, Nat.mul_one]
  refine all_i fun l0 => ?_
  refine imp_i fun h0 => ?_
  refine imp_i fun h1 => ?_
  refine all_i fun l1 => ?_
  refine imp_i fun h2 => ?_
  have tkl1 := take_eq h2
  try simp only [tkl1]
  refine imp_i fun h3 => ?_
  refine all_i fun n2 => ?_
  refine imp_i fun h4 => ?_
  refine imp_i fun h5 => ?_
  refine imp_i fun h6 => ?_
  try simp only [sigSpn, smpS, u32, bSp, spnPost, List.cons.injEq, DV.b.injEq, and_true, List.length_cons, List.length_nil] at h6
  refine req_i ?_ ?_
  · -- r0
   first | omega | ((try simp only [Nat.mul_eq]); first | done | omega | assumption | grind [getD_set, getD_rep, toNat_succ, cntN_yes, cntN_no])
  refine req_i ?_ ?_
  · -- r1
   first | omega | ((try simp only [Nat.zero_add]); first | done | omega | assumption | grind [getD_set, getD_rep, toNat_succ, cntN_yes, cntN_no])
  refine req_i ?_ ?_
  · -- r2
   first | omega | ((try simp only [List.take_nil, List.take_zero, List.length_take, List.take_length, List.take_take, Nat.min_self, List.drop_nil, List.length_drop, List.drop_zero, List.length_cons, List.length_nil]); first | done | omega | assumption | grind [getD_set, getD_rep, toNat_succ, cntN_yes, cntN_no])
  refine req_i ?_ ?_
  · -- r3
   first | assumption | exact rep_bd (by omega) (by omega) | exact set_bd (by assumption) (by omega) (by omega) | exact take_bd (by assumption) | ((try simp only [List.take_nil, List.take_zero, List.length_take, List.take_length, List.take_take, Nat.min_self, List.drop_nil, List.length_drop, List.drop_zero, List.length_cons, List.length_nil]); first | assumption | exact rep_bd (by omega) (by omega) | exact set_bd (by assumption) (by omega) (by omega) | exact take_bd (by assumption) | grind [getD_set, getD_rep, toNat_succ, cntN_yes, cntN_no])
  refine req_i ?_ ?_
  · -- r4
   first | omega | ((try simp only [List.take_nil, List.take_zero, List.length_take, List.take_length, List.take_take, Nat.min_self, List.drop_nil, List.length_drop, List.drop_zero, List.length_cons, List.length_nil]); first | done | omega | assumption | grind [getD_set, getD_rep, toNat_succ, cntN_yes, cntN_no])
  refine req_i ?_ ?_
  · -- r5
   first | assumption | exact rep_bd (by omega) (by omega) | exact set_bd (by assumption) (by omega) (by omega) | exact take_bd (by assumption) | ((try simp only [List.take_nil, List.take_zero, List.length_take, List.take_length, List.take_take, Nat.min_self, List.drop_nil, List.length_drop, List.drop_zero, List.length_cons, List.length_nil]); first | assumption | exact rep_bd (by omega) (by omega) | exact set_bd (by assumption) (by omega) (by omega) | exact take_bd (by assumption) | grind [getD_set, getD_rep, toNat_succ, cntN_yes, cntN_no])
  refine req_i ?_ ?_
  · -- r6
   first | omega | ((try simp only [sigSm, smpS, smPost, List.cons.injEq, DV.b.injEq, and_true, List.take_nil, List.take_zero, List.length_take, List.take_length, List.take_take, Nat.min_self, List.drop_nil, List.length_drop, List.drop_zero, List.length_cons, List.length_nil]); first | done | omega | assumption | grind [getD_set, getD_rep, toNat_succ, cntN_yes, cntN_no])
  refine all_i fun n3 => ?_
  refine imp_i fun h7 => ?_
  refine imp_i fun h8 => ?_
  refine imp_i fun h9 => ?_
  try simp only [Int.toNat_natCast, List.length_set, List.length_replicate, List.length_take, List.length_drop, List.length_append, List.length_cons, List.length_nil, Nat.min_self, List.take_take, lenCols_i, lenCols_b, List.drop_zero, List.take_length, List.take_nil, List.drop_nil, List.take_zero, List.nil_append, Nat.add_eq, Nat.mul_eq, Nat.sub_eq, Nat.zero_add, Nat.add_zero, Nat.sub_zero, Nat.mul_one] at h9
  refine bR_dec (fun h10 => ?_) (fun h10 => ?_)
  ·
   refine req_i ?_ ?_
   · -- r7
    first | omega | assumption | grind
   refine req_i ?_ ?_
   · -- r8
    first | omega | assumption | grind
   refine req_i ?_ ?_
   · -- r9
    rcases h9 with ⟨a, b⟩ | ⟨a, b, c⟩ | ⟨a, b, c⟩
    · exact .inl ⟨a, rfl, rfl, b⟩
    · omega
    · exact .inr (.inr ⟨a, b, rfl, rfl, c⟩)
   rfl
  ·
   obtain ⟨q1, q2⟩ : (l0.length : Int) ≤ 16 ∧ okS l0 l1 := by
     rcases h9 with ⟨a, b⟩ | ⟨a, b, c⟩ | ⟨a, b, c⟩
     · omega
     · exact ⟨a, b⟩
     · omega
   refine req_i ?_ ?_
   · -- r10
    first | omega | ((try simp only [Nat.mul_eq]); first | done | omega | assumption | grind [getD_set, getD_rep, toNat_succ, cntN_yes, cntN_no])
   refine req_i ?_ ?_
   · -- r11
    first | omega | ((try simp only [Nat.zero_add]); first | done | omega | assumption | grind [getD_set, getD_rep, toNat_succ, cntN_yes, cntN_no])
   refine req_i ?_ ?_
   · -- r12
    first | omega | ((try simp only [List.take_nil, List.take_zero, List.length_take, List.take_length, List.take_take, Nat.min_self, List.drop_nil, List.length_drop, List.drop_zero, List.length_cons, List.length_nil]); first | done | omega | assumption | grind [getD_set, getD_rep, toNat_succ, cntN_yes, cntN_no])
   refine req_i ?_ ?_
   · -- r13
    first | assumption | exact rep_bd (by omega) (by omega) | exact set_bd (by assumption) (by omega) (by omega) | exact take_bd (by assumption) | ((try simp only [List.take_nil, List.take_zero, List.length_take, List.take_length, List.take_take, Nat.min_self, List.drop_nil, List.length_drop, List.drop_zero, List.length_cons, List.length_nil]); first | assumption | exact rep_bd (by omega) (by omega) | exact set_bd (by assumption) (by omega) (by omega) | exact take_bd (by assumption) | grind [getD_set, getD_rep, toNat_succ, cntN_yes, cntN_no])
   refine req_i ?_ ?_
   · -- r14
    first | omega | ((try simp only [List.take_nil, List.take_zero, List.length_take, List.take_length, List.take_take, Nat.min_self, List.drop_nil, List.length_drop, List.drop_zero, List.length_cons, List.length_nil]); first | done | omega | assumption | grind [getD_set, getD_rep, toNat_succ, cntN_yes, cntN_no])
   refine req_i ?_ ?_
   · -- r15
    first | assumption | exact rep_bd (by omega) (by omega) | exact set_bd (by assumption) (by omega) (by omega) | exact take_bd (by assumption) | ((try simp only [List.take_nil, List.take_zero, List.length_take, List.take_length, List.take_take, Nat.min_self, List.drop_nil, List.length_drop, List.drop_zero, List.length_cons, List.length_nil]); first | assumption | exact rep_bd (by omega) (by omega) | exact set_bd (by assumption) (by omega) (by omega) | exact take_bd (by assumption) | grind [getD_set, getD_rep, toNat_succ, cntN_yes, cntN_no])
   refine req_i ?_ ?_
   · -- r16
    first | omega | assumption | grind
   refine req_i ?_ ?_
   · -- r17
    first | omega | assumption | grind
   refine req_i ?_ ?_
   · -- r18
    (try simp only [List.drop_zero, List.take_length, tkl1]); exact ⟨q1, q2⟩
   refine all_i fun n4 => ?_
   refine imp_i fun h11 => ?_
   refine imp_i fun h12 => ?_
   refine all_i fun n5 => ?_
   refine imp_i fun h13 => ?_
   refine imp_i fun h14 => ?_
   refine imp_i fun h15 => ?_
   try simp only [Int.toNat_natCast, List.length_set, List.length_replicate, List.length_take, List.length_drop, List.length_append, List.length_cons, List.length_nil, Nat.min_self, List.take_take, lenCols_i, lenCols_b, List.drop_zero, List.take_length, List.take_nil, List.drop_nil, List.take_zero, List.nil_append, Nat.add_eq, Nat.mul_eq, Nat.sub_eq, Nat.zero_add, Nat.add_zero, Nat.sub_zero, Nat.mul_one] at h15
   refine req_i ?_ ?_
   · -- r19
    first | omega | assumption | grind
   refine req_i ?_ ?_
   · -- r20
    first | omega | assumption | grind
   refine req_i ?_ ?_
   · -- r21
    first | omega | assumption | grind
   refine req_i ?_ ?_
   · -- r22
    first | omega | assumption | grind
   refine req_i ?_ ?_
   · -- r23
    exact .inr (.inl ⟨q1, q2, h15.1, h15.2, rfl⟩)
   rfl
theorem ext_SpinR : ∀ p ∈ ([(48, Ext.ctr (ctOfG gl11 sigSm)), (49, Ext.ctr (ctOfG gl11 sigSp))] : List (Nat × Ext)), ExtRow Tryd.prog p.1 p.2 := by
  intro p hp
  simp only [List.mem_cons, List.not_mem_nil, or_false] at hp
  rcases hp with rfl | rfl
  · trivial
  · trivial
theorem cts_SpinR : CtsOk Tryd.prog [(48, Ext.ctr (ctOfG gl11 sigSm)), (49, Ext.ctr (ctOfG gl11 sigSp))] := ctsOk_ofG (cs := [(48, sigSm), (49, sigSp)])
  (fun p hp => by
    simp only [List.mem_cons, List.not_mem_nil, or_false] at hp
    rcases hp with rfl | rfl
    · exact fn_sm
    · exact fn_spin
)
  (fun f c h => by
    simp only [List.lookup_cons] at h
    repeat' split at h
    all_goals first | (cases h; done) | (rename_i e; have e := beq_iff_eq.1 e; subst e; cases h; refine ⟨_, ?_, rfl⟩; simp))
theorem fn_SpinR : FnOk Tryd.prog 24 sigSpn gl11 := fn_sound (by kernel_rfl) ext_SpinR cts_SpinR names vt_SpinR
end Go.Proofs.YtiadfbpbeaeflaaDoor

namespace Go.Proofs.YtiadfbpbeaeflaaDoor
open Go.Ev Go.Sp
set_option maxRecDepth 100000
theorem vc_ones : vcFn Tryd.prog [] noA gl11 100 42 sigOnes = (allB fun n0 : Int => 
impB ((1 : Int) ≤ n0) (
impB (n0 ≤ (64 : Int)) (
impB (sigOnes.pre [DV.n n0]) (
reqB ((0 : Int) ≤
 opI (SO.and Go.IntKind.u64)
 ((opI (SO.and Go.IntKind.u64)
 ((opI (SO.and Go.IntKind.u64) (n0 / Int.ofNat (2 : Nat)) (6148914691236517205 : Int) +
 opI (SO.and Go.IntKind.u64) n0 (6148914691236517205 : Int)) /
 Int.ofNat (4 : Nat))
 (3689348814741910323 : Int) +
 opI (SO.and Go.IntKind.u64)
 (opI (SO.and Go.IntKind.u64) (n0 / Int.ofNat (2 : Nat)) (6148914691236517205 : Int) +
 opI (SO.and Go.IntKind.u64) n0 (6148914691236517205 : Int))
 (3689348814741910323 : Int)) /
 Int.ofNat (16 : Nat) +
 (opI (SO.and Go.IntKind.u64)
 ((opI (SO.and Go.IntKind.u64) (n0 / Int.ofNat (2 : Nat)) (6148914691236517205 : Int) +
 opI (SO.and Go.IntKind.u64) n0 (6148914691236517205 : Int)) /
 Int.ofNat (4 : Nat))
 (3689348814741910323 : Int) +
 opI (SO.and Go.IntKind.u64)
 (opI (SO.and Go.IntKind.u64) (n0 / Int.ofNat (2 : Nat)) (6148914691236517205 : Int) +
 opI (SO.and Go.IntKind.u64) n0 (6148914691236517205 : Int))
 (3689348814741910323 : Int)))
 (1085102592571150095 : Int) +
 Int.ofNat (0 : Nat) +
 Int.ofNat (0 : Nat) +
 Int.ofNat (0 : Nat)) (
reqB (opI (SO.and Go.IntKind.u64)
 ((opI (SO.and Go.IntKind.u64)
 ((opI (SO.and Go.IntKind.u64) (n0 / Int.ofNat (2 : Nat)) (6148914691236517205 : Int) +
 opI (SO.and Go.IntKind.u64) n0 (6148914691236517205 : Int)) /
 Int.ofNat (4 : Nat))
 (3689348814741910323 : Int) +
 opI (SO.and Go.IntKind.u64)
 (opI (SO.and Go.IntKind.u64) (n0 / Int.ofNat (2 : Nat)) (6148914691236517205 : Int) +
 opI (SO.and Go.IntKind.u64) n0 (6148914691236517205 : Int))
 (3689348814741910323 : Int)) /
 Int.ofNat (16 : Nat) +
 (opI (SO.and Go.IntKind.u64)
 ((opI (SO.and Go.IntKind.u64) (n0 / Int.ofNat (2 : Nat)) (6148914691236517205 : Int) +
 opI (SO.and Go.IntKind.u64) n0 (6148914691236517205 : Int)) /
 Int.ofNat (4 : Nat))
 (3689348814741910323 : Int) +
 opI (SO.and Go.IntKind.u64)
 (opI (SO.and Go.IntKind.u64) (n0 / Int.ofNat (2 : Nat)) (6148914691236517205 : Int) +
 opI (SO.and Go.IntKind.u64) n0 (6148914691236517205 : Int))
 (3689348814741910323 : Int)))
 (1085102592571150095 : Int) +
 Int.ofNat (0 : Nat) +
 Int.ofNat (0 : Nat) +
 Int.ofNat (0 : Nat) ≤
 (64 : Int)) (
reqB (sigOnes.post [DV.n n0]
 [DV.n
 (opI (SO.and Go.IntKind.u64)
 ((opI (SO.and Go.IntKind.u64)
 ((opI (SO.and Go.IntKind.u64) (n0 / Int.ofNat (2 : Nat)) (6148914691236517205 : Int) +
 opI (SO.and Go.IntKind.u64) n0 (6148914691236517205 : Int)) /
 Int.ofNat (4 : Nat))
 (3689348814741910323 : Int) +
 opI (SO.and Go.IntKind.u64)
 (opI (SO.and Go.IntKind.u64) (n0 / Int.ofNat (2 : Nat)) (6148914691236517205 : Int) +
 opI (SO.and Go.IntKind.u64) n0 (6148914691236517205 : Int))
 (3689348814741910323 : Int)) /
 Int.ofNat (16 : Nat) +
 (opI (SO.and Go.IntKind.u64)
 ((opI (SO.and Go.IntKind.u64) (n0 / Int.ofNat (2 : Nat)) (6148914691236517205 : Int) +
 opI (SO.and Go.IntKind.u64) n0 (6148914691236517205 : Int)) /
 Int.ofNat (4 : Nat))
 (3689348814741910323 : Int) +
 opI (SO.and Go.IntKind.u64)
 (opI (SO.and Go.IntKind.u64) (n0 / Int.ofNat (2 : Nat)) (6148914691236517205 : Int) +
 opI (SO.and Go.IntKind.u64) n0 (6148914691236517205 : Int))
 (3689348814741910323 : Int)))
 (1085102592571150095 : Int) +
 Int.ofNat (0 : Nat) +
 Int.ofNat (0 : Nat) +
 Int.ofNat (0 : Nat))]) (
true))))))) := by kernel_rfl
set_option maxHeartbeats 8000000 in
theorem vt_ones : vcFn Tryd.prog [] noA gl11 100 42 sigOnes = true := by
  rw [vc_ones]
  try simp only [Int.toNat_natCast, List.length_set, List.length_replicate, List.length_take, List.length_drop, List.length_append, List.length_cons, List.length_nil, Nat.min_self, List.take_take, lenCols_i, lenCols_b, List.drop_zero, List.take_length, List.take_nil, List.drop_nil, List.take_zero, List.nil_append, Nat.add_eq, Nat.mul_eq, Nat.sub_eq, Nat.zero_add, Nat.add_zero, Nat.sub_zero, Nat.mul_one]
  refine all_i fun n0 => ?_
  refine imp_i fun h0 => ?_
  refine imp_i fun h1 => ?_
  refine imp_i fun h2 => ?_
  try simp only [sigOnes, onesPost, List.cons.injEq, DV.b.injEq, and_true, List.length_cons, List.length_nil] at h2
  refine req_i ?_ ?_
  · -- r0
   clear h2; revert h1; revert h0; revert n0; refine all64 ?_; decide +kernel
  refine req_i ?_ ?_
  · -- r1
   clear h2; revert h1; revert h0; revert n0; refine all64 ?_; decide +kernel
  refine req_i ?_ ?_
  · -- r2
   (try simp only [sigOnes, onesPost, two]); clear h2; revert h1; revert h0; revert n0; refine all64 ?_; decide +kernel
  rfl
theorem ext_ones : ∀ p ∈ ([] : List (Nat × Ext)), ExtRow Tryd.prog p.1 p.2 := by
  intro p hp
  cases hp
theorem cts_ones : CtsOk Tryd.prog [] := fun f c h => by cases h
theorem fn_ones : FnOk Tryd.prog 42 sigOnes gl11 := fn_sound (by kernel_rfl) ext_ones cts_ones names vt_ones
end Go.Proofs.YtiadfbpbeaeflaaDoor

namespace Go.Proofs.YtiadfbpbeaeflaaDoor
open Go.Ev Go.Sp
set_option maxRecDepth 100000
theorem vc_pw : vcFn Tryd.prog [] noA gl11 100 43 sigPw = (allB fun n0 : Int => 
impB ((-9223372036854775808 : Int) ≤ n0) (
impB (n0 ≤ (9223372036854775807 : Int)) (
allB fun n1 : Int => 
impB ((-9223372036854775808 : Int) ≤ n1) (
impB (n1 ≤ (9223372036854775807 : Int)) (
impB (sigPw.pre [DV.n n0, DV.n n1]) (
allB fun n2 : Int => 
impB (n2 = Go.IntKind.i64.wrap (n0 * n0)) (
impB (Int.negSucc (9223372036854775807 : Nat) ≤ n2) (
impB (n2 ≤ Int.ofNat (9223372036854775807 : Nat)) (
allB fun n3 : Int => 
impB (n3 = Go.IntKind.i64.wrap (n1 * n1)) (
impB (Int.negSucc (9223372036854775807 : Nat) ≤ n3) (
impB (n3 ≤ Int.ofNat (9223372036854775807 : Nat)) (
allB fun n4 : Int => 
impB (n4 = Go.IntKind.i64.wrap (n2 + n3)) (
impB (Int.negSucc (9223372036854775807 : Nat) ≤ n4) (
impB (n4 ≤ Int.ofNat (9223372036854775807 : Nat)) (
reqB ((-9223372036854775808 : Int) ≤ n4) (
reqB (n4 ≤ (9223372036854775807 : Int)) (
reqB (sigPw.post [DV.n n0, DV.n n1] [DV.n n4]) (
true)))))))))))))))))) := by kernel_rfl
set_option maxHeartbeats 8000000 in
theorem vt_pw : vcFn Tryd.prog [] noA gl11 100 43 sigPw = true := by
  rw [vc_pw]
  try simp only [Int.toNat_natCast, List.length_set, List.length_replicate, List.length_take, List.length_drop, List.length_append, List.length_cons, List.length_nil, Nat.min_self, List.take_take, lenCols_i, lenCols_b, List.drop_zero, List.take_length, List.take_nil, List.drop_nil, List.take_zero, List.nil_append, Nat.add_eq, Nat.mul_eq, Nat.sub_eq, Nat.zero_add, Nat.add_zero, Nat.sub_zero, Nat.mul_one]
  refine all_i fun n0 => ?_
  refine imp_i fun h0 => ?_
  refine imp_i fun h1 => ?_
  refine all_i fun n1 => ?_
  refine imp_i fun h2 => ?_
  refine imp_i fun h3 => ?_
  refine imp_i fun h4 => ?_
  try simp only [sigPw, pwPost, List.cons.injEq, DV.b.injEq, and_true, List.length_cons, List.length_nil] at h4
  refine all_i fun n2 => ?_
  refine imp_i fun h5 => ?_
  simp only [wrap_i64] at h5
  have eh5 : n2 = sw (n0 * n0) := by unfold sw; (try simp only [wrap_i64] at h5); omega
  refine imp_i fun h6 => ?_
  refine imp_i fun h7 => ?_
  refine all_i fun n3 => ?_
  refine imp_i fun h8 => ?_
  simp only [wrap_i64] at h8
  have eh8 : n3 = sw (n1 * n1) := by unfold sw; (try simp only [wrap_i64] at h8); omega
  refine imp_i fun h9 => ?_
  refine imp_i fun h10 => ?_
  refine all_i fun n4 => ?_
  refine imp_i fun h11 => ?_
  simp only [wrap_i64] at h11
  have eh11 : n4 = sw (n2 + n3) := by unfold sw; (try simp only [wrap_i64] at h11); omega
  refine imp_i fun h12 => ?_
  refine imp_i fun h13 => ?_
  refine req_i ?_ ?_
  · -- r0
   first | omega | assumption | grind
  refine req_i ?_ ?_
  · -- r1
   first | omega | assumption | grind
  refine req_i ?_ ?_
  · -- r2
   show n4 = pw n0 n1; rw [eh11, eh5, eh8]; rfl
  rfl
theorem ext_pw : ∀ p ∈ ([] : List (Nat × Ext)), ExtRow Tryd.prog p.1 p.2 := by
  intro p hp
  cases hp
theorem cts_pw : CtsOk Tryd.prog [] := fun f c h => by cases h
theorem fn_pw : FnOk Tryd.prog 43 sigPw gl11 := fn_sound (by kernel_rfl) ext_pw cts_pw names vt_pw
end Go.Proofs.YtiadfbpbeaeflaaDoor

namespace Go.Proofs.YtiadfbpbeaeflaaDoor
open Go.Ev Go.Sp
set_option maxRecDepth 100000
theorem vc_steps : vcFn Tryd.prog [(40, Ext.ctr (ctOfG gl11 sigCs)), (42, Ext.ctr (ctOfG gl11 sigOnes)), (41, Ext.ctr (ctOfG gl11 sigSp)), (43, Ext.ctr (ctOfG gl11 sigPw))] (fun f p _ => at2 f p 15 250 stL (none)) gl11 100 15 sigSt = (allB fun l0 : List Int => 
impB (l0.length ≤ (30 : Nat)) (
impB (∀ (y : Int), y ∈ l0 → (-9223372036854775808 : Int) ≤ y ∧ y ≤ (9223372036854775807 : Int)) (
allB fun l1 : List Int => 
impB (l1.length = l0.length) (
impB (∀ (y : Int), y ∈ l1 → (-9223372036854775808 : Int) ≤ y ∧ y ≤ (9223372036854775807 : Int)) (
allB fun n2 : Int => 
impB ((-9223372036854775808 : Int) ≤ n2) (
impB (n2 ≤ (9223372036854775807 : Int)) (
impB (sigSt.pre [DV.l l0, DV.l l1, DV.n n2]) (
reqB (((0 : Nat) + l0.length) * (2 : Nat) ≤ l0.length.mul (2 : Nat)) (
reqB (l0.length ≤ (30 : Nat)) (
reqB ((List.take l0.length (List.drop (0 : Nat) l0)).length = l0.length) (
reqB (∀ (y : Int),
 y ∈ List.take l0.length (List.drop (0 : Nat) l0) → (-9223372036854775808 : Int) ≤ y ∧ y ≤ (9223372036854775807 : Int)) (
reqB ((List.take l0.length (List.drop (0 : Nat) l1)).length = l0.length) (
reqB (∀ (y : Int),
 y ∈ List.take l0.length (List.drop (0 : Nat) l1) → (-9223372036854775808 : Int) ≤ y ∧ y ≤ (9223372036854775807 : Int)) (
reqB (sigCs.pre
 [DV.l (List.take l0.length (List.drop (0 : Nat) l0)), DV.l (List.take l0.length (List.drop (0 : Nat) l1))]) (
allB fun n3 : Int => 
impB ((0 : Int) ≤ n3) (
impB (n3 ≤ (18 : Int)) (
impB (sigCs.post
 [DV.l (List.take l0.length (List.drop (0 : Nat) l0)), DV.l (List.take l0.length (List.drop (0 : Nat) l1))]
 [DV.n n3]) (
bR (dec (n3 ≠ (0 : Int))) (
 reqB ((0 : Int) ≤ n3) (
 reqB (n3 ≤ (18 : Int)) (
 reqB (sigSt.post [DV.l l0, DV.l l1, DV.n n2] [DV.l [], DV.n n3]) (
 true)))) (
 bR (dec (n2 < (1 : Int))) (
 reqB (sigSt.post [DV.l l0, DV.l l1, DV.n n2] [DV.l [], DV.n (3 : Int)]) (
 true)) (
 bR (dec ((64 : Int) < n2)) (
 reqB (sigSt.post [DV.l l0, DV.l l1, DV.n n2] [DV.l [], DV.n (3 : Int)]) (
 true)) (
 allB fun n4 : Int => 
 impB (n4 = Go.IntKind.u64.wrap n2) (
 impB (Int.ofNat (0 : Nat) ≤ n4) (
 impB (n4 ≤ Int.ofNat (18446744073709551615 : Nat)) (
 reqB ((1 : Int) ≤ n4) (
 reqB (n4 ≤ (64 : Int)) (
 reqB (sigOnes.pre [DV.n n4]) (
 allB fun n5 : Int => 
 impB ((0 : Int) ≤ n5) (
 impB (n5 ≤ (64 : Int)) (
 impB (sigOnes.post [DV.n n4] [DV.n n5]) (
 bR (dec (n5 ≠ (1 : Int))) (
 reqB (sigSt.post [DV.l l0, DV.l l1, DV.n n2] [DV.l [], DV.n (3 : Int)]) (
 true)) (
 reqB ((0 : Int) ≤ n2) (
 reqB ((0 : Int) ≤ n2) (
 reqB (n2.toNat ≤ n2.toNat) (
 reqB (n2.toNat ≤ (1000000 : Nat)) (
 reqB (((0 : Nat) + l0.length) * (2 : Nat) ≤ l0.length.mul (2 : Nat)) (
 reqB (l0.length ≤ (30 : Nat)) (
 reqB ((List.take l0.length (List.drop (0 : Nat) l0)).length = l0.length) (
 reqB (∀ (y : Int),
 y ∈ List.take l0.length (List.drop (0 : Nat) l0) → (-9223372036854775808 : Int) ≤ y ∧ y ≤ (9223372036854775807 : Int)) (
 reqB ((List.take l0.length (List.drop (0 : Nat) l1)).length = l0.length) (
 reqB (∀ (y : Int),
 y ∈ List.take l0.length (List.drop (0 : Nat) l1) → (-9223372036854775808 : Int) ≤ y ∧ y ≤ (9223372036854775807 : Int)) (
 reqB ((1 : Int) ≤ n2) (
 reqB (n2 ≤ (64 : Int)) (
 reqB (lenCols
 [Col.i Go.IntKind.i64 (Int.negSucc (9223372036854775807 : Nat)) (Int.ofNat (9223372036854775807 : Nat))
 (List.replicate n2.toNat (0 : Int))] ≤
 (64 : Nat)) (
 reqB ((List.replicate n2.toNat (0 : Int)).length =
 lenCols
 [Col.i Go.IntKind.i64 (Int.negSucc (9223372036854775807 : Nat)) (Int.ofNat (9223372036854775807 : Nat))
 (List.replicate n2.toNat (0 : Int))]) (
 reqB (∀ (y : Int), y ∈ List.replicate n2.toNat (0 : Int) → (-9223372036854775808 : Int) ≤ y ∧ y ≤ (9223372036854775807 : Int)) (
 reqB (stL.inv
 [DV.l (List.take l0.length (List.drop (0 : Nat) l0)), DV.l (List.take l0.length (List.drop (0 : Nat) l1)),
 DV.n n2]
 [DV.n (0 : Int), DV.l (List.replicate n2.toNat (0 : Int))]) (
 allB fun n6 : Int => 
 impB ((0 : Int) ≤ n6) (
 impB (n6 ≤ (64 : Int)) (
 allB fun l7 : List Int => 
 impB (l7.length ≤ (64 : Nat)) (
 impB (∀ (y : Int), y ∈ l7 → (-9223372036854775808 : Int) ≤ y ∧ y ≤ (9223372036854775807 : Int)) (
 impB (stL.inv
 [DV.l (List.take l0.length (List.drop (0 : Nat) l0)), DV.l (List.take l0.length (List.drop (0 : Nat) l1)),
 DV.n n2]
 [DV.n n6, DV.l l7]) (
 bR (dec (n6 < n2)) (
 reqB (n2 ≠ (0 : Int)) (
 allB fun n8 : Int => 
 impB (n8 = Go.IntKind.i64.wrap ((n6 * Int.ofNat (4294967296 : Nat)).tdiv n2)) (
 impB (Int.negSucc (9223372036854775807 : Nat) ≤ n8) (
 impB (n8 ≤ Int.ofNat (9223372036854775807 : Nat)) (
 allB fun n9 : Int => 
 impB (n9 = Go.IntKind.u32.wrap n8) (
 impB (Int.ofNat (0 : Nat) ≤ n9) (
 impB (n9 ≤ Int.ofNat (4294967295 : Nat)) (
 reqB (((0 : Nat) + l0.length) * (2 : Nat) ≤ l0.length.mul (2 : Nat)) (
 reqB (l0.length ≤ (30 : Nat)) (
 reqB ((List.take l0.length (List.drop (0 : Nat) l0)).length = l0.length) (
 reqB (∀ (y : Int),
 y ∈ List.take l0.length (List.drop (0 : Nat) l0) → (-9223372036854775808 : Int) ≤ y ∧ y ≤ (9223372036854775807 : Int)) (
 reqB ((List.take l0.length (List.drop (0 : Nat) l1)).length = l0.length) (
 reqB (∀ (y : Int),
 y ∈ List.take l0.length (List.drop (0 : Nat) l1) → (-9223372036854775808 : Int) ≤ y ∧ y ≤ (9223372036854775807 : Int)) (
 reqB ((0 : Int) ≤ n9) (
 reqB (n9 ≤ (4294967295 : Int)) (
 reqB (sigSp.pre
 [DV.l (List.take l0.length (List.drop (0 : Nat) l0)), DV.l (List.take l0.length (List.drop (0 : Nat) l1)),
 DV.n n9]) (
 allB fun n10 : Int => 
 impB ((-4261412864 : Int) ≤ n10) (
 impB (n10 ≤ (4261412864 : Int)) (
 allB fun n11 : Int => 
 impB ((-4261412864 : Int) ≤ n11) (
 impB (n11 ≤ (4261412864 : Int)) (
 impB (sigSp.post
 [DV.l (List.take l0.length (List.drop (0 : Nat) l0)), DV.l (List.take l0.length (List.drop (0 : Nat) l1)),
 DV.n n9]
 [DV.n n10, DV.n n11]) (
 reqB ((-9223372036854775808 : Int) ≤ n10) (
 reqB (n10 ≤ (9223372036854775807 : Int)) (
 reqB ((-9223372036854775808 : Int) ≤ n11) (
 reqB (n11 ≤ (9223372036854775807 : Int)) (
 reqB (sigPw.pre [DV.n n10, DV.n n11]) (
 allB fun n12 : Int => 
 impB ((-9223372036854775808 : Int) ≤ n12) (
 impB (n12 ≤ (9223372036854775807 : Int)) (
 impB (sigPw.post [DV.n n10, DV.n n11] [DV.n n12]) (
 reqB (n6.toNat < n2.toNat) (
 reqB (Nat.add (0 : Nat) n6.toNat < l7.length) (
 bR (bR (bR (dec ((0 : Nat) = (0 : Nat))) (
 dec (l0.length = l0.length)) (
 false)) (
 bR (dec (n2 = n2)) (
 bR (bR (dec ((0 : Nat) = (0 : Nat))) (
 dec (n2.toNat = n2.toNat)) (
 false)) (
 bR (dec (n2 = n2)) (
 true) (
 false)) (
 false)) (
 false)) (
 false)) (
 reqB ((0 : Int) ≤ n6 + (1 : Int)) (
 reqB (n6 + (1 : Int) ≤ (64 : Int)) (
 reqB (lenCols
 [Col.i Go.IntKind.i64 (-9223372036854775808 : Int) (9223372036854775807 : Int)
 (l7.set (Nat.add (0 : Nat) n6.toNat) n12)] ≤
 (64 : Nat)) (
 reqB ((l7.set (Nat.add (0 : Nat) n6.toNat) n12).length =
 lenCols
 [Col.i Go.IntKind.i64 (-9223372036854775808 : Int) (9223372036854775807 : Int)
 (l7.set (Nat.add (0 : Nat) n6.toNat) n12)]) (
 reqB (∀ (y : Int),
 y ∈ l7.set (Nat.add (0 : Nat) n6.toNat) n12 → (-9223372036854775808 : Int) ≤ y ∧ y ≤ (9223372036854775807 : Int)) (
 reqB (stL.inv
 [DV.l (List.take l0.length (List.drop (0 : Nat) l0)), DV.l (List.take l0.length (List.drop (0 : Nat) l1)),
 DV.n n2]
 [DV.n (n6 + (1 : Int)), DV.l (l7.set (Nat.add (0 : Nat) n6.toNat) n12)]) (
 reqB (stL.mea
 [DV.l (List.take l0.length (List.drop (0 : Nat) l0)),
 DV.l (List.take l0.length (List.drop (0 : Nat) l1)), DV.n n2]
 [DV.n (n6 + (1 : Int)), DV.l (l7.set (Nat.add (0 : Nat) n6.toNat) n12)] <
 stL.mea
 [DV.l (List.take l0.length (List.drop (0 : Nat) l0)),
 DV.l (List.take l0.length (List.drop (0 : Nat) l1)), DV.n n2]
 [DV.n n6, DV.l l7]) (
 true)))))))) (
 false))))))))))))))))))))))))))))))))) (
 reqB (((0 : Nat) + n2.toNat) * (1 : Nat) ≤ l7.length.mul (1 : Nat)) (
 reqB (n2.toNat ≤ (64 : Nat)) (
 reqB ((List.take n2.toNat (List.drop (0 : Nat) l7)).length = n2.toNat) (
 reqB (∀ (y : Int),
 y ∈ List.take n2.toNat (List.drop (0 : Nat) l7) → (-9223372036854775808 : Int) ≤ y ∧ y ≤ (9223372036854775807 : Int)) (
 reqB (sigSt.post [DV.l l0, DV.l l1, DV.n n2]
 [DV.l (List.take n2.toNat (List.drop (0 : Nat) l7)), DV.n (0 : Int)]) (
 true)))))))))))))))))))))))))))))))))))))))))))))))))))))))))) := by kernel_rfl
set_option maxHeartbeats 8000000 in
theorem vt_steps : vcFn Tryd.prog [(40, Ext.ctr (ctOfG gl11 sigCs)), (42, Ext.ctr (ctOfG gl11 sigOnes)), (41, Ext.ctr (ctOfG gl11 sigSp)), (43, Ext.ctr (ctOfG gl11 sigPw))] (fun f p _ => at2 f p 15 250 stL (none)) gl11 100 15 sigSt = true := by
  rw [vc_steps]
  try simp only [Int.toNat_natCast, List.length_set, List.length_replicate, List.length_take, List.length_drop, List.length_append, List.length_cons, List.length_nil, Nat.min_self, List.take_take, lenCols_i, lenCols_b, List.drop_zero, List.take_length, List.take_nil, List.drop_nil, List.take_zero, List.nil_append, Nat.add_eq, Nat.mul_eq, Nat.sub_eq, Nat.zero_add, Nat.add_zero, Nat.sub_zero, Nat.mul_one]
  refine all_i fun l0 => ?_
  refine imp_i fun h0 => ?_
  refine imp_i fun h1 => ?_
  refine all_i fun l1 => ?_
  refine imp_i fun h2 => ?_
  have tkl1 := take_eq h2
  try simp only [tkl1]
  refine imp_i fun h3 => ?_
  refine all_i fun n2 => ?_
  refine imp_i fun h4 => ?_
  refine imp_i fun h5 => ?_
  refine imp_i fun h6 => ?_
  try simp only [sigSt, smpS, cM, stPost, List.cons.injEq, DV.b.injEq, and_true, List.length_cons, List.length_nil] at h6
  refine req_i ?_ ?_
  · -- r0
   first | omega | ((try simp only [Nat.mul_eq]); first | done | omega | assumption | grind [getD_set, getD_rep, toNat_succ, cntN_yes, cntN_no])
  refine req_i ?_ ?_
  · -- r1
   first | omega | ((try simp only [Nat.zero_add]); first | done | omega | assumption | grind [getD_set, getD_rep, toNat_succ, cntN_yes, cntN_no])
  refine req_i ?_ ?_
  · -- r2
   first | omega | ((try simp only [List.take_nil, List.take_zero, List.length_take, List.take_length, List.take_take, Nat.min_self, List.drop_nil, List.length_drop, List.drop_zero, List.length_cons, List.length_nil]); first | done | omega | assumption | grind [getD_set, getD_rep, toNat_succ, cntN_yes, cntN_no])
  refine req_i ?_ ?_
  · -- r3
   first | assumption | exact rep_bd (by omega) (by omega) | exact set_bd (by assumption) (by omega) (by omega) | exact take_bd (by assumption) | ((try simp only [List.take_nil, List.take_zero, List.length_take, List.take_length, List.take_take, Nat.min_self, List.drop_nil, List.length_drop, List.drop_zero, List.length_cons, List.length_nil]); first | assumption | exact rep_bd (by omega) (by omega) | exact set_bd (by assumption) (by omega) (by omega) | exact take_bd (by assumption) | grind [getD_set, getD_rep, toNat_succ, cntN_yes, cntN_no])
  refine req_i ?_ ?_
  · -- r4
   first | omega | ((try simp only [List.take_nil, List.take_zero, List.length_take, List.take_length, List.take_take, Nat.min_self, List.drop_nil, List.length_drop, List.drop_zero, List.length_cons, List.length_nil]); first | done | omega | assumption | grind [getD_set, getD_rep, toNat_succ, cntN_yes, cntN_no])
  refine req_i ?_ ?_
  · -- r5
   first | assumption | exact rep_bd (by omega) (by omega) | exact set_bd (by assumption) (by omega) (by omega) | exact take_bd (by assumption) | ((try simp only [List.take_nil, List.take_zero, List.length_take, List.take_length, List.take_take, Nat.min_self, List.drop_nil, List.length_drop, List.drop_zero, List.length_cons, List.length_nil]); first | assumption | exact rep_bd (by omega) (by omega) | exact set_bd (by assumption) (by omega) (by omega) | exact take_bd (by assumption) | grind [getD_set, getD_rep, toNat_succ, cntN_yes, cntN_no])
  refine req_i ?_ ?_
  · -- r6
   first | omega | ((try simp only [sigCs, smpS, csPost, List.cons.injEq, DV.b.injEq, and_true, List.take_nil, List.take_zero, List.length_take, List.take_length, List.take_take, Nat.min_self, List.drop_nil, List.length_drop, List.drop_zero, List.length_cons, List.length_nil]); first | done | omega | assumption | grind [getD_set, getD_rep, toNat_succ, cntN_yes, cntN_no])
  refine all_i fun n3 => ?_
  refine imp_i fun h7 => ?_
  refine imp_i fun h8 => ?_
  refine imp_i fun h9 => ?_
  try simp only [Int.toNat_natCast, List.length_set, List.length_replicate, List.length_take, List.length_drop, List.length_append, List.length_cons, List.length_nil, Nat.min_self, List.take_take, lenCols_i, lenCols_b, List.drop_zero, List.take_length, List.take_nil, List.drop_nil, List.take_zero, List.nil_append, Nat.add_eq, Nat.mul_eq, Nat.sub_eq, Nat.zero_add, Nat.add_zero, Nat.sub_zero, Nat.mul_one] at h9
  refine bR_dec (fun h10 => ?_) (fun h10 => ?_)
  ·
   refine req_i ?_ ?_
   · -- r7
    first | omega | assumption | grind
   refine req_i ?_ ?_
   · -- r8
    first | omega | assumption | grind
   refine req_i ?_ ?_
   · -- r9
    rcases h9 with ⟨a, b⟩ | ⟨a, b, c⟩ | ⟨a, b, c⟩
    · exact .inl ⟨a, b, rfl⟩
    · omega
    · exact .inr (.inl ⟨a, b, c, rfl⟩)
   rfl
  ·
   obtain ⟨q1, q2⟩ : (l0.length : Int) ≤ 16 ∧ okS l0 l1 := by
     rcases h9 with ⟨a, b⟩ | ⟨a, b, c⟩ | ⟨a, b, c⟩
     · omega
     · exact ⟨a, b⟩
     · omega
   refine bR_dec (fun h11 => ?_) (fun h11 => ?_)
   ·
    refine req_i ?_ ?_
    · -- r10
     exact .inr (.inr (.inl ⟨q1, q2, fun g => by unfold two at g; omega, rfl, rfl⟩))
    rfl
   ·
    refine bR_dec (fun h12 => ?_) (fun h12 => ?_)
    ·
     refine req_i ?_ ?_
     · -- r11
      exact .inr (.inr (.inl ⟨q1, q2, fun g => by unfold two at g; omega, rfl, rfl⟩))
     rfl
    ·
     refine all_i fun n4 => ?_
     refine imp_i fun h13 => ?_
     simp only [wrap_u64] at h13
     replace h13 : n4 = n2 := by (try simp only [wrap_u64] at h13); omega
     refine imp_i fun h14 => ?_
     refine imp_i fun h15 => ?_
     refine req_i ?_ ?_
     · -- r12
      first | omega | assumption | grind
     refine req_i ?_ ?_
     · -- r13
      first | omega | assumption | grind
     refine req_i ?_ ?_
     · -- r14
      first | trivial | assumption | (simp only [sigOnes, onesPost, List.cons.injEq, DV.b.injEq, and_true, List.length_cons, List.length_nil]; done) | ((try simp only [sigOnes, onesPost, List.cons.injEq, DV.b.injEq, and_true, List.length_cons, List.length_nil]); first | omega | assumption | grind)
     refine all_i fun n5 => ?_
     refine imp_i fun h16 => ?_
     refine imp_i fun h17 => ?_
     refine imp_i fun h18 => ?_
     try simp only [sigOnes, onesPost, List.cons.injEq, DV.b.injEq, and_true, List.length_cons, List.length_nil] at h18
     refine bR_dec (fun h19 => ?_) (fun h19 => ?_)
     ·
      have nt : ¬two n2 := fun g => h19 (h18.2 (by rw [h13]; exact g))
      refine req_i ?_ ?_
      · -- r15
       exact .inr (.inr (.inl ⟨q1, q2, nt, rfl, rfl⟩))
      rfl
     ·
      have tw : two n2 := by rw [← h13]; exact h18.1 (by omega)
      refine req_i ?_ ?_
      · -- r16
       first | omega | assumption | grind
      refine req_i ?_ ?_
      · -- r17
       first | omega | assumption | grind
      refine req_i ?_ ?_
      · -- r18
       first | omega | assumption | grind
      refine req_i ?_ ?_
      · -- r19
       first | omega | assumption | grind
      refine req_i ?_ ?_
      · -- r20
       first | omega | ((try simp only [Nat.mul_eq]); first | done | omega | assumption | grind [getD_set, getD_rep, toNat_succ, cntN_yes, cntN_no])
      refine req_i ?_ ?_
      · -- r21
       first | omega | ((try simp only [Nat.zero_add]); first | done | omega | assumption | grind [getD_set, getD_rep, toNat_succ, cntN_yes, cntN_no])
      refine req_i ?_ ?_
      · -- r22
       first | omega | ((try simp only [List.take_nil, List.take_zero, List.length_take, List.take_length, List.take_take, Nat.min_self, List.drop_nil, List.length_drop, List.drop_zero, List.length_cons, List.length_nil]); first | done | omega | assumption | grind [getD_set, getD_rep, toNat_succ, cntN_yes, cntN_no])
      refine req_i ?_ ?_
      · -- r23
       first | assumption | exact rep_bd (by omega) (by omega) | exact set_bd (by assumption) (by omega) (by omega) | exact take_bd (by assumption) | ((try simp only [List.take_nil, List.take_zero, List.length_take, List.take_length, List.take_take, Nat.min_self, List.drop_nil, List.length_drop, List.drop_zero, List.length_cons, List.length_nil]); first | assumption | exact rep_bd (by omega) (by omega) | exact set_bd (by assumption) (by omega) (by omega) | exact take_bd (by assumption) | grind [getD_set, getD_rep, toNat_succ, cntN_yes, cntN_no])
      refine req_i ?_ ?_
      · -- r24
       first | omega | ((try simp only [List.take_nil, List.take_zero, List.length_take, List.take_length, List.take_take, Nat.min_self, List.drop_nil, List.length_drop, List.drop_zero, List.length_cons, List.length_nil]); first | done | omega | assumption | grind [getD_set, getD_rep, toNat_succ, cntN_yes, cntN_no])
      refine req_i ?_ ?_
      · -- r25
       first | assumption | exact rep_bd (by omega) (by omega) | exact set_bd (by assumption) (by omega) (by omega) | exact take_bd (by assumption) | ((try simp only [List.take_nil, List.take_zero, List.length_take, List.take_length, List.take_take, Nat.min_self, List.drop_nil, List.length_drop, List.drop_zero, List.length_cons, List.length_nil]); first | assumption | exact rep_bd (by omega) (by omega) | exact set_bd (by assumption) (by omega) (by omega) | exact take_bd (by assumption) | grind [getD_set, getD_rep, toNat_succ, cntN_yes, cntN_no])
      refine req_i ?_ ?_
      · -- r26
       first | omega | assumption | grind
      refine req_i ?_ ?_
      · -- r27
       first | omega | assumption | grind
      refine req_i ?_ ?_
      · -- r28
       first | omega | ((try simp only [Int.toNat_natCast, List.length_replicate, List.length_cons, List.length_nil, lenCols_i, lenCols_b]); first | done | omega | assumption | grind [getD_set, getD_rep, toNat_succ, cntN_yes, cntN_no])
      refine req_i ?_ ?_
      · -- r29
       first | omega | ((try simp only [Int.toNat_natCast, List.length_replicate, List.length_cons, List.length_nil, lenCols_i, lenCols_b]); first | done | omega | assumption | grind [getD_set, getD_rep, toNat_succ, cntN_yes, cntN_no])
      refine req_i ?_ ?_
      · -- r30
       first | assumption | exact rep_bd (by omega) (by omega) | exact set_bd (by assumption) (by omega) (by omega) | exact take_bd (by assumption) | ((try simp only [Int.toNat_natCast, List.length_replicate, List.length_cons, List.length_nil]); first | assumption | exact rep_bd (by omega) (by omega) | exact set_bd (by assumption) (by omega) (by omega) | exact take_bd (by assumption) | grind [getD_set, getD_rep, toNat_succ, cntN_yes, cntN_no])
      refine req_i ?_ ?_
      · -- r31
       (try simp only [stL, stRL, stInv, stRInv, List.drop_zero, List.take_length, tkl1, Nat.add_eq, Nat.zero_add]); exact ⟨by omega, by omega, tw, by omega, q1, q2, by (try rw [List.length_replicate]); omega, fun j hj => by omega⟩
      refine all_i fun n6 => ?_
      refine imp_i fun h20 => ?_
      refine imp_i fun h21 => ?_
      refine all_i fun l7 => ?_
      refine imp_i fun h22 => ?_
      refine imp_i fun h23 => ?_
      refine imp_i fun h24 => ?_
      try simp only [Int.toNat_natCast, List.length_set, List.length_replicate, List.length_take, List.length_drop, List.length_append, List.length_cons, List.length_nil, Nat.min_self, List.take_take, lenCols_i, lenCols_b, List.drop_zero, List.take_length, List.take_nil, List.drop_nil, List.take_zero, List.nil_append, Nat.add_eq, Nat.mul_eq, Nat.sub_eq, Nat.zero_add, Nat.add_zero, Nat.sub_zero, Nat.mul_one] at h24
      obtain ⟨i1, i2, i3, i4, i5, i6, i7, i8⟩ : 0 ≤ n6 ∧ n6 ≤ n2 ∧ two n2 ∧ l0.length = l1.length ∧ (l0.length : Int) ≤ 16 ∧ okS l0 l1 ∧ (l7.length : Int) = n2 ∧ ∀ j : Nat, (j : Int) < n6 → l7.getD j 0 = stAt l0 l1 n2 j := by
        (try simp only [List.drop_zero, List.take_length, tkl1] at h24); exact h24
      refine bR_dec (fun h25 => ?_) (fun h25 => ?_)
      ·
       have sp := stp_bd tw i1 h25
       refine req_i ?_ ?_
       · -- r32
        first | omega | assumption | grind
       refine all_i fun n8 => ?_
       refine imp_i fun h26 => ?_
       simp only [wrap_i64] at h26
       replace h26 : n8 = stp n2 n6 := by
         have e := sp.2.2.1
         (try simp only [wrap_i64] at h26)
         first | omega | (rw [show (n6 * Int.ofNat 4294967296).tdiv n2 = stp n2 n6 from e] at h26; omega)
       refine imp_i fun h27 => ?_
       refine imp_i fun h28 => ?_
       refine all_i fun n9 => ?_
       refine imp_i fun h29 => ?_
       simp only [wrap_u32] at h29
       replace h29 : n9 = n8 := by (try simp only [wrap_u32] at h29); omega
       refine imp_i fun h30 => ?_
       refine imp_i fun h31 => ?_
       refine req_i ?_ ?_
       · -- r33
        first | omega | ((try simp only [Nat.mul_eq]); first | done | omega | assumption | grind [getD_set, getD_rep, toNat_succ, cntN_yes, cntN_no])
       refine req_i ?_ ?_
       · -- r34
        first | omega | ((try simp only [Nat.zero_add]); first | done | omega | assumption | grind [getD_set, getD_rep, toNat_succ, cntN_yes, cntN_no])
       refine req_i ?_ ?_
       · -- r35
        first | omega | ((try simp only [List.take_nil, List.take_zero, List.length_take, List.take_length, List.take_take, Nat.min_self, List.drop_nil, List.length_drop, List.drop_zero, List.length_cons, List.length_nil]); first | done | omega | assumption | grind [getD_set, getD_rep, toNat_succ, cntN_yes, cntN_no])
       refine req_i ?_ ?_
       · -- r36
        first | assumption | exact rep_bd (by omega) (by omega) | exact set_bd (by assumption) (by omega) (by omega) | exact take_bd (by assumption) | ((try simp only [List.take_nil, List.take_zero, List.length_take, List.take_length, List.take_take, Nat.min_self, List.drop_nil, List.length_drop, List.drop_zero, List.length_cons, List.length_nil]); first | assumption | exact rep_bd (by omega) (by omega) | exact set_bd (by assumption) (by omega) (by omega) | exact take_bd (by assumption) | grind [getD_set, getD_rep, toNat_succ, cntN_yes, cntN_no])
       refine req_i ?_ ?_
       · -- r37
        first | omega | ((try simp only [List.take_nil, List.take_zero, List.length_take, List.take_length, List.take_take, Nat.min_self, List.drop_nil, List.length_drop, List.drop_zero, List.length_cons, List.length_nil]); first | done | omega | assumption | grind [getD_set, getD_rep, toNat_succ, cntN_yes, cntN_no])
       refine req_i ?_ ?_
       · -- r38
        first | assumption | exact rep_bd (by omega) (by omega) | exact set_bd (by assumption) (by omega) (by omega) | exact take_bd (by assumption) | ((try simp only [List.take_nil, List.take_zero, List.length_take, List.take_length, List.take_take, Nat.min_self, List.drop_nil, List.length_drop, List.drop_zero, List.length_cons, List.length_nil]); first | assumption | exact rep_bd (by omega) (by omega) | exact set_bd (by assumption) (by omega) (by omega) | exact take_bd (by assumption) | grind [getD_set, getD_rep, toNat_succ, cntN_yes, cntN_no])
       refine req_i ?_ ?_
       · -- r39
        first | omega | assumption | grind
       refine req_i ?_ ?_
       · -- r40
        first | omega | assumption | grind
       refine req_i ?_ ?_
       · -- r41
        (try simp only [List.drop_zero, List.take_length, tkl1]); exact ⟨q1, q2⟩
       refine all_i fun n10 => ?_
       refine imp_i fun h32 => ?_
       refine imp_i fun h33 => ?_
       refine all_i fun n11 => ?_
       refine imp_i fun h34 => ?_
       refine imp_i fun h35 => ?_
       refine imp_i fun h36 => ?_
       try simp only [Int.toNat_natCast, List.length_set, List.length_replicate, List.length_take, List.length_drop, List.length_append, List.length_cons, List.length_nil, Nat.min_self, List.take_take, lenCols_i, lenCols_b, List.drop_zero, List.take_length, List.take_nil, List.drop_nil, List.take_zero, List.nil_append, Nat.add_eq, Nat.mul_eq, Nat.sub_eq, Nat.zero_add, Nat.add_zero, Nat.sub_zero, Nat.mul_one] at h36
       refine req_i ?_ ?_
       · -- r42
        first | omega | assumption | grind
       refine req_i ?_ ?_
       · -- r43
        first | omega | assumption | grind
       refine req_i ?_ ?_
       · -- r44
        first | omega | assumption | grind
       refine req_i ?_ ?_
       · -- r45
        first | omega | assumption | grind
       refine req_i ?_ ?_
       · -- r46
        first | trivial | assumption | (simp only [sigPw, pwPost, List.cons.injEq, DV.b.injEq, and_true, List.length_cons, List.length_nil]; done) | ((try simp only [sigPw, pwPost, List.cons.injEq, DV.b.injEq, and_true, List.length_cons, List.length_nil]); first | omega | assumption | grind)
       refine all_i fun n12 => ?_
       refine imp_i fun h37 => ?_
       refine imp_i fun h38 => ?_
       refine imp_i fun h39 => ?_
       try simp only [Int.toNat_natCast, List.length_set, List.length_replicate, List.length_take, List.length_drop, List.length_append, List.length_cons, List.length_nil, Nat.min_self, List.take_take, lenCols_i, lenCols_b, List.drop_zero, List.take_length, List.take_nil, List.drop_nil, List.take_zero, List.nil_append, Nat.add_eq, Nat.mul_eq, Nat.sub_eq, Nat.zero_add, Nat.add_zero, Nat.sub_zero, Nat.mul_one] at h39
       have p : n12 = pw n10 n11 := h39
       have p1 : n10 = spI l0 l1 n9 l0.length := h36.1
       have p2 : n11 = spQ l0 l1 n9 l0.length := h36.2
       have e12 : n12 = stAt l0 l1 n2 n6 := by unfold stAt; rw [p, p1, p2, h29, h26]
       refine req_i ?_ ?_
       · -- r47
        first | omega | assumption | grind
       refine req_i ?_ ?_
       · -- r48
        first | omega | ((try simp only [Int.toNat_natCast, List.length_cons, List.length_nil, Nat.add_eq, Nat.zero_add, Nat.add_zero]); first | done | omega | assumption | grind [getD_set, getD_rep, toNat_succ, cntN_yes, cntN_no])
       refine bR_t ?_ ?_
       · -- g0
        first | rfl | (simp only [bR_iff, bR_iff_f, dec_iff, dec_f, beqB_iff', andB_iff', reduceCtorEq, imp_self, false_implies, and_true, true_and, implies_true, and_self]; done) | (simp [bR_iff, dec_iff, beqB_iff', andB_iff']; done) | (simp [bR_iff, dec_iff, beqB_iff', andB_iff']; omega)
       refine req_i ?_ ?_
       · -- r49
        first | omega | assumption | grind
       refine req_i ?_ ?_
       · -- r50
        first | omega | assumption | grind
       refine req_i ?_ ?_
       · -- r51
        first | omega | ((try simp only [Int.toNat_natCast, List.length_set, List.length_cons, List.length_nil, lenCols_i, lenCols_b, Nat.add_eq, Nat.zero_add, Nat.add_zero]); first | done | omega | assumption | grind [getD_set, getD_rep, toNat_succ, cntN_yes, cntN_no])
       refine req_i ?_ ?_
       · -- r52
        first | omega | ((try simp only [Int.toNat_natCast, List.length_set, List.length_cons, List.length_nil, lenCols_i, lenCols_b, Nat.add_eq, Nat.zero_add, Nat.add_zero]); first | done | omega | assumption | grind [getD_set, getD_rep, toNat_succ, cntN_yes, cntN_no])
       refine req_i ?_ ?_
       · -- r53
        (try simp only [Nat.add_eq, Nat.zero_add]); exact set_bd h23 (by omega) (by omega)
       refine req_i ?_ ?_
       · -- r54
        (try simp only [stL, stRL, stInv, stRInv, List.drop_zero, List.take_length, tkl1, Nat.add_eq, Nat.zero_add]); exact ⟨by omega, by omega, i3, i4, i5, i6, by rw [List.length_set]; exact i7, st_set i1 (by omega) e12 i8⟩
       refine req_i ?_ ?_
       · -- r55
        first | omega | ((try simp only [stL, cM, stInv, stMea, List.cons.injEq, DV.b.injEq, and_true, Int.toNat_natCast, List.length_set, List.take_nil, List.take_zero, List.length_take, List.take_length, List.take_take, Nat.min_self, List.drop_nil, List.length_drop, List.drop_zero, List.length_cons, List.length_nil, Nat.add_eq, Nat.zero_add, Nat.add_zero]); first | done | omega | assumption | grind [getD_set, getD_rep, toNat_succ, cntN_yes, cntN_no])
       rfl
      ·
       refine req_i ?_ ?_
       · -- r56
        first | omega | ((try simp only [Int.toNat_natCast, List.length_cons, List.length_nil, Nat.mul_eq]); first | done | omega | assumption | grind [getD_set, getD_rep, toNat_succ, cntN_yes, cntN_no])
       refine req_i ?_ ?_
       · -- r57
        first | omega | assumption | grind
       refine req_i ?_ ?_
       · -- r58
        first | omega | ((try simp only [Int.toNat_natCast, List.take_nil, List.take_zero, List.length_take, List.take_length, List.take_take, Nat.min_self, List.drop_nil, List.length_drop, List.drop_zero, List.length_cons, List.length_nil]); first | done | omega | assumption | grind [getD_set, getD_rep, toNat_succ, cntN_yes, cntN_no])
       refine req_i ?_ ?_
       · -- r59
        first | assumption | exact rep_bd (by omega) (by omega) | exact set_bd (by assumption) (by omega) (by omega) | exact take_bd (by assumption) | ((try simp only [Int.toNat_natCast, List.take_nil, List.take_zero, List.length_take, List.take_length, List.take_take, Nat.min_self, List.drop_nil, List.length_drop, List.drop_zero, List.length_cons, List.length_nil]); first | assumption | exact rep_bd (by omega) (by omega) | exact set_bd (by assumption) (by omega) (by omega) | exact take_bd (by assumption) | grind [getD_set, getD_rep, toNat_succ, cntN_yes, cntN_no])
       refine req_i ?_ ?_
       · -- r60
        (try simp only [List.drop_zero]); rw [List.take_of_length_le (by omega)]; exact .inr (.inr (.inr ⟨q1, q2, tw, rfl, i7, fun j hj => i8 j (by omega)⟩))
       rfl
theorem ext_steps : ∀ p ∈ ([(40, Ext.ctr (ctOfG gl11 sigCs)), (42, Ext.ctr (ctOfG gl11 sigOnes)), (41, Ext.ctr (ctOfG gl11 sigSp)), (43, Ext.ctr (ctOfG gl11 sigPw))] : List (Nat × Ext)), ExtRow Tryd.prog p.1 p.2 := by
  intro p hp
  simp only [List.mem_cons, List.not_mem_nil, or_false] at hp
  rcases hp with rfl | rfl | rfl | rfl
  · trivial
  · trivial
  · trivial
  · trivial
theorem cts_steps : CtsOk Tryd.prog [(40, Ext.ctr (ctOfG gl11 sigCs)), (42, Ext.ctr (ctOfG gl11 sigOnes)), (41, Ext.ctr (ctOfG gl11 sigSp)), (43, Ext.ctr (ctOfG gl11 sigPw))] := ctsOk_ofG (cs := [(40, sigCs), (42, sigOnes), (41, sigSp), (43, sigPw)])
  (fun p hp => by
    simp only [List.mem_cons, List.not_mem_nil, or_false] at hp
    rcases hp with rfl | rfl | rfl | rfl
    · exact fn_cs
    · exact fn_ones
    · exact fn_spun
    · exact fn_pw
)
  (fun f c h => by
    simp only [List.lookup_cons] at h
    repeat' split at h
    all_goals first | (cases h; done) | (rename_i e; have e := beq_iff_eq.1 e; subst e; cases h; refine ⟨_, ?_, rfl⟩; simp))
theorem fn_steps : FnOk Tryd.prog 15 sigSt gl11 := fn_sound (by kernel_rfl) ext_steps cts_steps names vt_steps
end Go.Proofs.YtiadfbpbeaeflaaDoor

namespace Go.Proofs.YtiadfbpbeaeflaaDoor
open Go.Ev Go.Sp
set_option maxRecDepth 100000
theorem vc_pwR : vcFn Tryd.prog [] noA gl11 100 50 sigPw = (allB fun n0 : Int => 
impB ((-9223372036854775808 : Int) ≤ n0) (
impB (n0 ≤ (9223372036854775807 : Int)) (
allB fun n1 : Int => 
impB ((-9223372036854775808 : Int) ≤ n1) (
impB (n1 ≤ (9223372036854775807 : Int)) (
impB (sigPw.pre [DV.n n0, DV.n n1]) (
allB fun n2 : Int => 
impB (n2 = Go.IntKind.i64.wrap (n0 * n0)) (
impB (Int.negSucc (9223372036854775807 : Nat) ≤ n2) (
impB (n2 ≤ Int.ofNat (9223372036854775807 : Nat)) (
allB fun n3 : Int => 
impB (n3 = Go.IntKind.i64.wrap (n1 * n1)) (
impB (Int.negSucc (9223372036854775807 : Nat) ≤ n3) (
impB (n3 ≤ Int.ofNat (9223372036854775807 : Nat)) (
allB fun n4 : Int => 
impB (n4 = Go.IntKind.i64.wrap (n2 + n3)) (
impB (Int.negSucc (9223372036854775807 : Nat) ≤ n4) (
impB (n4 ≤ Int.ofNat (9223372036854775807 : Nat)) (
reqB ((-9223372036854775808 : Int) ≤ n4) (
reqB (n4 ≤ (9223372036854775807 : Int)) (
reqB (sigPw.post [DV.n n0, DV.n n1] [DV.n n4]) (
true)))))))))))))))))) := by kernel_rfl
set_option maxHeartbeats 8000000 in
theorem vt_pwR : vcFn Tryd.prog [] noA gl11 100 50 sigPw = true := by
  rw [vc_pwR]
  try simp only [Int.toNat_natCast, List.length_set, List.length_replicate, List.length_take, List.length_drop, List.length_append, List.length_cons, List.length_nil, Nat.min_self, List.take_take, lenCols_i, lenCols_b, List.drop_zero, List.take_length, List.take_nil, List.drop_nil, List.take_zero, List.nil_append, Nat.add_eq, Nat.mul_eq, Nat.sub_eq, Nat.zero_add, Nat.add_zero, Nat.sub_zero, Nat.mul_one]
  refine all_i fun n0 => ?_
  refine imp_i fun h0 => ?_
  refine imp_i fun h1 => ?_
  refine all_i fun n1 => ?_
  refine imp_i fun h2 => ?_
  refine imp_i fun h3 => ?_
  refine imp_i fun h4 => ?_
  try simp only [sigPw, pwPost, List.cons.injEq, DV.b.injEq, and_true, List.length_cons, List.length_nil] at h4
  refine all_i fun n2 => ?_
  refine imp_i fun h5 => ?_
  simp only [wrap_i64] at h5
  have eh5 : n2 = sw (n0 * n0) := by unfold sw; (try simp only [wrap_i64] at h5); omega
  refine imp_i fun h6 => ?_
  refine imp_i fun h7 => ?_
  refine all_i fun n3 => ?_
  refine imp_i fun h8 => ?_
  simp only [wrap_i64] at h8
  have eh8 : n3 = sw (n1 * n1) := by unfold sw; (try simp only [wrap_i64] at h8); omega
  refine imp_i fun h9 => ?_
  refine imp_i fun h10 => ?_
  refine all_i fun n4 => ?_
  refine imp_i fun h11 => ?_
  simp only [wrap_i64] at h11
  have eh11 : n4 = sw (n2 + n3) := by unfold sw; (try simp only [wrap_i64] at h11); omega
  refine imp_i fun h12 => ?_
  refine imp_i fun h13 => ?_
  refine req_i ?_ ?_
  · -- r0
   first | omega | assumption | grind
  refine req_i ?_ ?_
  · -- r1
   first | omega | assumption | grind
  refine req_i ?_ ?_
  · -- r2
   show n4 = pw n0 n1; rw [eh11, eh5, eh8]; rfl
  rfl
theorem ext_pwR : ∀ p ∈ ([] : List (Nat × Ext)), ExtRow Tryd.prog p.1 p.2 := by
  intro p hp
  cases hp
theorem cts_pwR : CtsOk Tryd.prog [] := fun f c h => by cases h
theorem fn_pwR : FnOk Tryd.prog 50 sigPw gl11 := fn_sound (by kernel_rfl) ext_pwR cts_pwR names vt_pwR
end Go.Proofs.YtiadfbpbeaeflaaDoor

namespace Go.Proofs.YtiadfbpbeaeflaaDoor
open Go.Ev Go.Sp
set_option maxRecDepth 100000
theorem vc_stepsR : vcFn Tryd.prog [(48, Ext.ctr (ctOfG gl11 sigSm)), (49, Ext.ctr (ctOfG gl11 sigSp)), (50, Ext.ctr (ctOfG gl11 sigPw))] (fun f p _ => at2 f p 25 250 stRL (none)) gl11 100 25 sigSt = (allB fun l0 : List Int => 
impB (l0.length ≤ (30 : Nat)) (
impB (∀ (y : Int), y ∈ l0 → (-9223372036854775808 : Int) ≤ y ∧ y ≤ (9223372036854775807 : Int)) (
allB fun l1 : List Int => 
impB (l1.length = l0.length) (
impB (∀ (y : Int), y ∈ l1 → (-9223372036854775808 : Int) ≤ y ∧ y ≤ (9223372036854775807 : Int)) (
allB fun n2 : Int => 
impB ((-9223372036854775808 : Int) ≤ n2) (
impB (n2 ≤ (9223372036854775807 : Int)) (
impB (sigSt.pre [DV.l l0, DV.l l1, DV.n n2]) (
reqB (((0 : Nat) + l0.length) * (2 : Nat) ≤ l0.length.mul (2 : Nat)) (
reqB (l0.length ≤ (30 : Nat)) (
reqB ((List.take l0.length (List.drop (0 : Nat) l0)).length = l0.length) (
reqB (∀ (y : Int),
 y ∈ List.take l0.length (List.drop (0 : Nat) l0) → (-9223372036854775808 : Int) ≤ y ∧ y ≤ (9223372036854775807 : Int)) (
reqB ((List.take l0.length (List.drop (0 : Nat) l1)).length = l0.length) (
reqB (∀ (y : Int),
 y ∈ List.take l0.length (List.drop (0 : Nat) l1) → (-9223372036854775808 : Int) ≤ y ∧ y ≤ (9223372036854775807 : Int)) (
reqB (sigSm.pre
 [DV.l (List.take l0.length (List.drop (0 : Nat) l0)), DV.l (List.take l0.length (List.drop (0 : Nat) l1)),
 DV.n (16 : Int)]) (
allB fun n3 : Int => 
impB ((0 : Int) ≤ n3) (
impB (n3 ≤ (18 : Int)) (
impB (sigSm.post
 [DV.l (List.take l0.length (List.drop (0 : Nat) l0)), DV.l (List.take l0.length (List.drop (0 : Nat) l1)),
 DV.n (16 : Int)]
 [DV.n n3]) (
bR (dec (n3 ≠ (0 : Int))) (
 reqB ((0 : Int) ≤ n3) (
 reqB (n3 ≤ (18 : Int)) (
 reqB (sigSt.post [DV.l l0, DV.l l1, DV.n n2] [DV.l [], DV.n n3]) (
 true)))) (
 bR (dec (n2 < (1 : Int))) (
 reqB (sigSt.post [DV.l l0, DV.l l1, DV.n n2] [DV.l [], DV.n (3 : Int)]) (
 true)) (
 bR (dec ((64 : Int) < n2)) (
 reqB (sigSt.post [DV.l l0, DV.l l1, DV.n n2] [DV.l [], DV.n (3 : Int)]) (
 true)) (
 allB fun n4 : Int => 
 impB (n4 = Go.IntKind.i64.wrap (n2 - (1 : Int))) (
 impB (Int.negSucc (9223372036854775807 : Nat) ≤ n4) (
 impB (n4 ≤ Int.ofNat (9223372036854775807 : Nat)) (
 bR (dec (opI (SO.and Go.IntKind.i64) n2 n4 ≠ (0 : Int))) (
 reqB (sigSt.post [DV.l l0, DV.l l1, DV.n n2] [DV.l [], DV.n (3 : Int)]) (
 true)) (
 reqB (((0 : Nat) + l0.length) * (2 : Nat) ≤ l0.length.mul (2 : Nat)) (
 reqB (l0.length ≤ (30 : Nat)) (
 reqB ((List.take l0.length (List.drop (0 : Nat) l0)).length = l0.length) (
 reqB (∀ (y : Int),
 y ∈ List.take l0.length (List.drop (0 : Nat) l0) → (-9223372036854775808 : Int) ≤ y ∧ y ≤ (9223372036854775807 : Int)) (
 reqB ((List.take l0.length (List.drop (0 : Nat) l1)).length = l0.length) (
 reqB (∀ (y : Int),
 y ∈ List.take l0.length (List.drop (0 : Nat) l1) → (-9223372036854775808 : Int) ≤ y ∧ y ≤ (9223372036854775807 : Int)) (
 reqB ((1 : Int) ≤ n2) (
 reqB (n2 ≤ (64 : Int)) (
 reqB (stRL.inv
 [DV.l (List.take l0.length (List.drop (0 : Nat) l0)), DV.l (List.take l0.length (List.drop (0 : Nat) l1)),
 DV.n n2]
 [DV.n (0 : Int), DV.l []]) (
 allB fun n5 : Int => 
 impB ((0 : Int) ≤ n5) (
 impB (n5 ≤ (64 : Int)) (
 allB fun l6 : List Int => 
 impB (l6.length ≤ (64 : Nat)) (
 impB (∀ (y : Int), y ∈ l6 → (-9223372036854775808 : Int) ≤ y ∧ y ≤ (9223372036854775807 : Int)) (
 impB (stRL.inv
 [DV.l (List.take l0.length (List.drop (0 : Nat) l0)), DV.l (List.take l0.length (List.drop (0 : Nat) l1)),
 DV.n n2]
 [DV.n n5, DV.l l6]) (
 bR (dec (n5 < n2)) (
 reqB (n2 ≠ (0 : Int)) (
 allB fun n7 : Int => 
 impB (n7 = Go.IntKind.i64.wrap (Int.tdiv (4294967296 : Int) n2)) (
 impB (Int.negSucc (9223372036854775807 : Nat) ≤ n7) (
 impB (n7 ≤ Int.ofNat (9223372036854775807 : Nat)) (
 allB fun n8 : Int => 
 impB (n8 = Go.IntKind.i64.wrap (n5 * n7)) (
 impB (Int.negSucc (9223372036854775807 : Nat) ≤ n8) (
 impB (n8 ≤ Int.ofNat (9223372036854775807 : Nat)) (
 allB fun n9 : Int => 
 impB (n9 = Go.IntKind.u32.wrap n8) (
 impB (Int.ofNat (0 : Nat) ≤ n9) (
 impB (n9 ≤ Int.ofNat (4294967295 : Nat)) (
 reqB (((0 : Nat) + l0.length) * (2 : Nat) ≤ l0.length.mul (2 : Nat)) (
 reqB (l0.length ≤ (30 : Nat)) (
 reqB ((List.take l0.length (List.drop (0 : Nat) l0)).length = l0.length) (
 reqB (∀ (y : Int),
 y ∈ List.take l0.length (List.drop (0 : Nat) l0) → (-9223372036854775808 : Int) ≤ y ∧ y ≤ (9223372036854775807 : Int)) (
 reqB ((List.take l0.length (List.drop (0 : Nat) l1)).length = l0.length) (
 reqB (∀ (y : Int),
 y ∈ List.take l0.length (List.drop (0 : Nat) l1) → (-9223372036854775808 : Int) ≤ y ∧ y ≤ (9223372036854775807 : Int)) (
 reqB ((0 : Int) ≤ n9) (
 reqB (n9 ≤ (4294967295 : Int)) (
 reqB (sigSp.pre
 [DV.l (List.take l0.length (List.drop (0 : Nat) l0)), DV.l (List.take l0.length (List.drop (0 : Nat) l1)),
 DV.n n9]) (
 allB fun n10 : Int => 
 impB ((-4261412864 : Int) ≤ n10) (
 impB (n10 ≤ (4261412864 : Int)) (
 allB fun n11 : Int => 
 impB ((-4261412864 : Int) ≤ n11) (
 impB (n11 ≤ (4261412864 : Int)) (
 impB (sigSp.post
 [DV.l (List.take l0.length (List.drop (0 : Nat) l0)), DV.l (List.take l0.length (List.drop (0 : Nat) l1)),
 DV.n n9]
 [DV.n n10, DV.n n11]) (
 reqB ((-9223372036854775808 : Int) ≤ n10) (
 reqB (n10 ≤ (9223372036854775807 : Int)) (
 reqB ((-9223372036854775808 : Int) ≤ n11) (
 reqB (n11 ≤ (9223372036854775807 : Int)) (
 reqB (sigPw.pre [DV.n n10, DV.n n11]) (
 allB fun n12 : Int => 
 impB ((-9223372036854775808 : Int) ≤ n12) (
 impB (n12 ≤ (9223372036854775807 : Int)) (
 impB (sigPw.post [DV.n n10, DV.n n11] [DV.n n12]) (
 reqB (l6.length + (1 : Nat) ≤ (1000000 : Nat)) (
 reqB (((0 : Nat) + l6.length) * (0 + (1 : Nat)) ≤ l6.length.mul (1 : Nat)) (
 bR (bR (bR (dec ((0 : Nat) = (0 : Nat))) (
 dec (l0.length = l0.length)) (
 false)) (
 bR (dec (n2 = n2)) (
 true) (
 false)) (
 false)) (
 reqB ((0 : Int) ≤ n5 + (1 : Int)) (
 reqB (n5 + (1 : Int) ≤ (64 : Int)) (
 reqB (((0 : Nat) + l6.length.add (1 : Nat)) * (1 : Nat) ≤ (l6.length.add (1 : Nat)).mul (0 + (1 : Nat))) (
 reqB (l6.length.add (1 : Nat) ≤ (64 : Nat)) (
 reqB ((List.take (l6.length.add (1 : Nat))
 (List.drop (0 : Nat) (List.take l6.length (List.drop (0 : Nat) l6) ++ [n12]))).length =
 l6.length.add (1 : Nat)) (
 reqB (∀ (y : Int),
 y ∈
 List.take (l6.length.add (1 : Nat))
 (List.drop (0 : Nat) (List.take l6.length (List.drop (0 : Nat) l6) ++ [n12])) →
 (-9223372036854775808 : Int) ≤ y ∧ y ≤ (9223372036854775807 : Int)) (
 reqB (stRL.inv
 [DV.l (List.take l0.length (List.drop (0 : Nat) l0)), DV.l (List.take l0.length (List.drop (0 : Nat) l1)),
 DV.n n2]
 [DV.n (n5 + (1 : Int)),
 DV.l
 (List.take (l6.length.add (1 : Nat))
 (List.drop (0 : Nat) (List.take l6.length (List.drop (0 : Nat) l6) ++ [n12])))]) (
 reqB (stRL.mea
 [DV.l (List.take l0.length (List.drop (0 : Nat) l0)),
 DV.l (List.take l0.length (List.drop (0 : Nat) l1)), DV.n n2]
 [DV.n (n5 + (1 : Int)),
 DV.l
 (List.take (l6.length.add (1 : Nat))
 (List.drop (0 : Nat) (List.take l6.length (List.drop (0 : Nat) l6) ++ [n12])))] <
 stRL.mea
 [DV.l (List.take l0.length (List.drop (0 : Nat) l0)),
 DV.l (List.take l0.length (List.drop (0 : Nat) l1)), DV.n n2]
 [DV.n n5, DV.l l6]) (
 true))))))))) (
 false)))))))))))))))))))))))))))))))))))) (
 reqB (((0 : Nat) + l6.length) * (1 : Nat) ≤ l6.length.mul (1 : Nat)) (
 reqB (l6.length ≤ (64 : Nat)) (
 reqB ((List.take l6.length (List.drop (0 : Nat) l6)).length = l6.length) (
 reqB (∀ (y : Int),
 y ∈ List.take l6.length (List.drop (0 : Nat) l6) → (-9223372036854775808 : Int) ≤ y ∧ y ≤ (9223372036854775807 : Int)) (
 reqB (sigSt.post [DV.l l0, DV.l l1, DV.n n2]
 [DV.l (List.take l6.length (List.drop (0 : Nat) l6)), DV.n (0 : Int)]) (
 true))))))))))))))))))))))))))))))))))))))))))))) := by kernel_rfl
set_option maxHeartbeats 8000000 in
theorem vt_stepsR : vcFn Tryd.prog [(48, Ext.ctr (ctOfG gl11 sigSm)), (49, Ext.ctr (ctOfG gl11 sigSp)), (50, Ext.ctr (ctOfG gl11 sigPw))] (fun f p _ => at2 f p 25 250 stRL (none)) gl11 100 25 sigSt = true := by
  rw [vc_stepsR]
  try simp only [Int.toNat_natCast, List.length_set, List.length_replicate, List.length_take, List.length_drop, List.length_append, List.length_cons, List.length_nil, Nat.min_self, List.take_take, lenCols_i, lenCols_b, List.drop_zero, List.take_length, List.take_nil, List.drop_nil, List.take_zero, List.nil_append, Nat.add_eq, Nat.mul_eq, Nat.sub_eq, Nat.zero_add, Nat.add_zero, Nat.sub_zero, Nat.mul_one]
  refine all_i fun l0 => ?_
  refine imp_i fun h0 => ?_
  refine imp_i fun h1 => ?_
  refine all_i fun l1 => ?_
  refine imp_i fun h2 => ?_
  have tkl1 := take_eq h2
  try simp only [tkl1]
  refine imp_i fun h3 => ?_
  refine all_i fun n2 => ?_
  refine imp_i fun h4 => ?_
  refine imp_i fun h5 => ?_
  refine imp_i fun h6 => ?_
  try simp only [sigSt, smpS, cM, stPost, List.cons.injEq, DV.b.injEq, and_true, List.length_cons, List.length_nil] at h6
  refine req_i ?_ ?_
  · -- r0
   first | omega | ((try simp only [Nat.mul_eq]); first | done | omega | assumption | grind [getD_set, getD_rep, toNat_succ, cntN_yes, cntN_no])
  refine req_i ?_ ?_
  · -- r1
   first | omega | ((try simp only [Nat.zero_add]); first | done | omega | assumption | grind [getD_set, getD_rep, toNat_succ, cntN_yes, cntN_no])
  refine req_i ?_ ?_
  · -- r2
   first | omega | ((try simp only [List.take_nil, List.take_zero, List.length_take, List.take_length, List.take_take, Nat.min_self, List.drop_nil, List.length_drop, List.drop_zero, List.length_cons, List.length_nil]); first | done | omega | assumption | grind [getD_set, getD_rep, toNat_succ, cntN_yes, cntN_no])
  refine req_i ?_ ?_
  · -- r3
   first | assumption | exact rep_bd (by omega) (by omega) | exact set_bd (by assumption) (by omega) (by omega) | exact take_bd (by assumption) | ((try simp only [List.take_nil, List.take_zero, List.length_take, List.take_length, List.take_take, Nat.min_self, List.drop_nil, List.length_drop, List.drop_zero, List.length_cons, List.length_nil]); first | assumption | exact rep_bd (by omega) (by omega) | exact set_bd (by assumption) (by omega) (by omega) | exact take_bd (by assumption) | grind [getD_set, getD_rep, toNat_succ, cntN_yes, cntN_no])
  refine req_i ?_ ?_
  · -- r4
   first | omega | ((try simp only [List.take_nil, List.take_zero, List.length_take, List.take_length, List.take_take, Nat.min_self, List.drop_nil, List.length_drop, List.drop_zero, List.length_cons, List.length_nil]); first | done | omega | assumption | grind [getD_set, getD_rep, toNat_succ, cntN_yes, cntN_no])
  refine req_i ?_ ?_
  · -- r5
   first | assumption | exact rep_bd (by omega) (by omega) | exact set_bd (by assumption) (by omega) (by omega) | exact take_bd (by assumption) | ((try simp only [List.take_nil, List.take_zero, List.length_take, List.take_length, List.take_take, Nat.min_self, List.drop_nil, List.length_drop, List.drop_zero, List.length_cons, List.length_nil]); first | assumption | exact rep_bd (by omega) (by omega) | exact set_bd (by assumption) (by omega) (by omega) | exact take_bd (by assumption) | grind [getD_set, getD_rep, toNat_succ, cntN_yes, cntN_no])
  refine req_i ?_ ?_
  · -- r6
   first | omega | ((try simp only [sigSm, smpS, smPost, List.cons.injEq, DV.b.injEq, and_true, List.take_nil, List.take_zero, List.length_take, List.take_length, List.take_take, Nat.min_self, List.drop_nil, List.length_drop, List.drop_zero, List.length_cons, List.length_nil]); first | done | omega | assumption | grind [getD_set, getD_rep, toNat_succ, cntN_yes, cntN_no])
  refine all_i fun n3 => ?_
  refine imp_i fun h7 => ?_
  refine imp_i fun h8 => ?_
  refine imp_i fun h9 => ?_
  try simp only [Int.toNat_natCast, List.length_set, List.length_replicate, List.length_take, List.length_drop, List.length_append, List.length_cons, List.length_nil, Nat.min_self, List.take_take, lenCols_i, lenCols_b, List.drop_zero, List.take_length, List.take_nil, List.drop_nil, List.take_zero, List.nil_append, Nat.add_eq, Nat.mul_eq, Nat.sub_eq, Nat.zero_add, Nat.add_zero, Nat.sub_zero, Nat.mul_one] at h9
  refine bR_dec (fun h10 => ?_) (fun h10 => ?_)
  ·
   refine req_i ?_ ?_
   · -- r7
    first | omega | assumption | grind
   refine req_i ?_ ?_
   · -- r8
    first | omega | assumption | grind
   refine req_i ?_ ?_
   · -- r9
    rcases h9 with ⟨a, b⟩ | ⟨a, b, c⟩ | ⟨a, b, c⟩
    · exact .inl ⟨a, b, rfl⟩
    · omega
    · exact .inr (.inl ⟨a, b, c, rfl⟩)
   rfl
  ·
   obtain ⟨q1, q2⟩ : (l0.length : Int) ≤ 16 ∧ okS l0 l1 := by
     rcases h9 with ⟨a, b⟩ | ⟨a, b, c⟩ | ⟨a, b, c⟩
     · omega
     · exact ⟨a, b⟩
     · omega
   refine bR_dec (fun h11 => ?_) (fun h11 => ?_)
   ·
    refine req_i ?_ ?_
    · -- r10
     exact .inr (.inr (.inl ⟨q1, q2, fun g => by unfold two at g; omega, rfl, rfl⟩))
    rfl
   ·
    refine bR_dec (fun h12 => ?_) (fun h12 => ?_)
    ·
     refine req_i ?_ ?_
     · -- r11
      exact .inr (.inr (.inl ⟨q1, q2, fun g => by unfold two at g; omega, rfl, rfl⟩))
     rfl
    ·
     refine all_i fun n4 => ?_
     refine imp_i fun h13 => ?_
     simp only [wrap_i64] at h13
     replace h13 : n4 = n2 - 1 := by (try simp only [wrap_i64] at h13); omega
     refine imp_i fun h14 => ?_
     refine imp_i fun h15 => ?_
     refine bR_dec (fun h16 => ?_) (fun h16 => ?_)
     ·
      have at2 := and_two (n := n2) (by omega) (by omega)
      rw [h13] at h16
      have nt : ¬two n2 := fun g => h16 (at2.2 g)
      refine req_i ?_ ?_
      · -- r12
       exact .inr (.inr (.inl ⟨q1, q2, nt, rfl, rfl⟩))
      rfl
     ·
      have at2 := and_two (n := n2) (by omega) (by omega)
      rw [h13] at h16
      have tw : two n2 := at2.1 (Classical.not_not.1 h16)
      refine req_i ?_ ?_
      · -- r13
       first | omega | ((try simp only [Nat.mul_eq]); first | done | omega | assumption | grind [getD_set, getD_rep, toNat_succ, cntN_yes, cntN_no])
      refine req_i ?_ ?_
      · -- r14
       first | omega | ((try simp only [Nat.zero_add]); first | done | omega | assumption | grind [getD_set, getD_rep, toNat_succ, cntN_yes, cntN_no])
      refine req_i ?_ ?_
      · -- r15
       first | omega | ((try simp only [List.take_nil, List.take_zero, List.length_take, List.take_length, List.take_take, Nat.min_self, List.drop_nil, List.length_drop, List.drop_zero, List.length_cons, List.length_nil]); first | done | omega | assumption | grind [getD_set, getD_rep, toNat_succ, cntN_yes, cntN_no])
      refine req_i ?_ ?_
      · -- r16
       first | assumption | exact rep_bd (by omega) (by omega) | exact set_bd (by assumption) (by omega) (by omega) | exact take_bd (by assumption) | ((try simp only [List.take_nil, List.take_zero, List.length_take, List.take_length, List.take_take, Nat.min_self, List.drop_nil, List.length_drop, List.drop_zero, List.length_cons, List.length_nil]); first | assumption | exact rep_bd (by omega) (by omega) | exact set_bd (by assumption) (by omega) (by omega) | exact take_bd (by assumption) | grind [getD_set, getD_rep, toNat_succ, cntN_yes, cntN_no])
      refine req_i ?_ ?_
      · -- r17
       first | omega | ((try simp only [List.take_nil, List.take_zero, List.length_take, List.take_length, List.take_take, Nat.min_self, List.drop_nil, List.length_drop, List.drop_zero, List.length_cons, List.length_nil]); first | done | omega | assumption | grind [getD_set, getD_rep, toNat_succ, cntN_yes, cntN_no])
      refine req_i ?_ ?_
      · -- r18
       first | assumption | exact rep_bd (by omega) (by omega) | exact set_bd (by assumption) (by omega) (by omega) | exact take_bd (by assumption) | ((try simp only [List.take_nil, List.take_zero, List.length_take, List.take_length, List.take_take, Nat.min_self, List.drop_nil, List.length_drop, List.drop_zero, List.length_cons, List.length_nil]); first | assumption | exact rep_bd (by omega) (by omega) | exact set_bd (by assumption) (by omega) (by omega) | exact take_bd (by assumption) | grind [getD_set, getD_rep, toNat_succ, cntN_yes, cntN_no])
      refine req_i ?_ ?_
      · -- r19
       first | omega | assumption | grind
      refine req_i ?_ ?_
      · -- r20
       first | omega | assumption | grind
      refine req_i ?_ ?_
      · -- r21
       (try simp only [stL, stRL, stInv, stRInv, List.drop_zero, List.take_length, tkl1, Nat.add_eq, Nat.zero_add]); exact ⟨by omega, by omega, tw, by omega, q1, q2, by simp, fun j hj => by omega⟩
      refine all_i fun n5 => ?_
      refine imp_i fun h17 => ?_
      refine imp_i fun h18 => ?_
      refine all_i fun l6 => ?_
      refine imp_i fun h19 => ?_
      refine imp_i fun h20 => ?_
      refine imp_i fun h21 => ?_
      try simp only [Int.toNat_natCast, List.length_set, List.length_replicate, List.length_take, List.length_drop, List.length_append, List.length_cons, List.length_nil, Nat.min_self, List.take_take, lenCols_i, lenCols_b, List.drop_zero, List.take_length, List.take_nil, List.drop_nil, List.take_zero, List.nil_append, Nat.add_eq, Nat.mul_eq, Nat.sub_eq, Nat.zero_add, Nat.add_zero, Nat.sub_zero, Nat.mul_one] at h21
      obtain ⟨i1, i2, i3, i4, i5, i6, i7, i8⟩ : 0 ≤ n5 ∧ n5 ≤ n2 ∧ two n2 ∧ l0.length = l1.length ∧ (l0.length : Int) ≤ 16 ∧ okS l0 l1 ∧ (l6.length : Int) = n5 ∧ ∀ j : Nat, (j : Int) < n5 → l6.getD j 0 = stAt l0 l1 n2 j := by
        (try simp only [List.drop_zero, List.take_length, tkl1] at h21); exact h21
      refine bR_dec (fun h22 => ?_) (fun h22 => ?_)
      ·
       have sp := stp_bd tw i1 h22
       have t4 := td4 tw
       refine req_i ?_ ?_
       · -- r22
        first | omega | assumption | grind
       refine all_i fun n7 => ?_
       refine imp_i fun h23 => ?_
       simp only [wrap_i64] at h23
       replace h23 : n7 = (4294967296 : Int).tdiv n2 := by (try simp only [wrap_i64] at h23); omega
       refine imp_i fun h24 => ?_
       refine imp_i fun h25 => ?_
       refine all_i fun n8 => ?_
       refine imp_i fun h26 => ?_
       simp only [wrap_i64] at h26
       have m := sp.2.2.2
       rw [← h23] at m
       replace h26 : n8 = stp n2 n5 := by (try simp only [wrap_i64] at h26); omega
       refine imp_i fun h27 => ?_
       refine imp_i fun h28 => ?_
       refine all_i fun n9 => ?_
       refine imp_i fun h29 => ?_
       simp only [wrap_u32] at h29
       replace h29 : n9 = n8 := by (try simp only [wrap_u32] at h29); omega
       refine imp_i fun h30 => ?_
       refine imp_i fun h31 => ?_
       refine req_i ?_ ?_
       · -- r23
        first | omega | ((try simp only [Nat.mul_eq]); first | done | omega | assumption | grind [getD_set, getD_rep, toNat_succ, cntN_yes, cntN_no])
       refine req_i ?_ ?_
       · -- r24
        first | omega | ((try simp only [Nat.zero_add]); first | done | omega | assumption | grind [getD_set, getD_rep, toNat_succ, cntN_yes, cntN_no])
       refine req_i ?_ ?_
       · -- r25
        first | omega | ((try simp only [List.take_nil, List.take_zero, List.length_take, List.take_length, List.take_take, Nat.min_self, List.drop_nil, List.length_drop, List.drop_zero, List.length_cons, List.length_nil]); first | done | omega | assumption | grind [getD_set, getD_rep, toNat_succ, cntN_yes, cntN_no])
       refine req_i ?_ ?_
       · -- r26
        first | assumption | exact rep_bd (by omega) (by omega) | exact set_bd (by assumption) (by omega) (by omega) | exact take_bd (by assumption) | ((try simp only [List.take_nil, List.take_zero, List.length_take, List.take_length, List.take_take, Nat.min_self, List.drop_nil, List.length_drop, List.drop_zero, List.length_cons, List.length_nil]); first | assumption | exact rep_bd (by omega) (by omega) | exact set_bd (by assumption) (by omega) (by omega) | exact take_bd (by assumption) | grind [getD_set, getD_rep, toNat_succ, cntN_yes, cntN_no])
       refine req_i ?_ ?_
       · -- r27
        first | omega | ((try simp only [List.take_nil, List.take_zero, List.length_take, List.take_length, List.take_take, Nat.min_self, List.drop_nil, List.length_drop, List.drop_zero, List.length_cons, List.length_nil]); first | done | omega | assumption | grind [getD_set, getD_rep, toNat_succ, cntN_yes, cntN_no])
       refine req_i ?_ ?_
       · -- r28
        first | assumption | exact rep_bd (by omega) (by omega) | exact set_bd (by assumption) (by omega) (by omega) | exact take_bd (by assumption) | ((try simp only [List.take_nil, List.take_zero, List.length_take, List.take_length, List.take_take, Nat.min_self, List.drop_nil, List.length_drop, List.drop_zero, List.length_cons, List.length_nil]); first | assumption | exact rep_bd (by omega) (by omega) | exact set_bd (by assumption) (by omega) (by omega) | exact take_bd (by assumption) | grind [getD_set, getD_rep, toNat_succ, cntN_yes, cntN_no])
       refine req_i ?_ ?_
       · -- r29
        first | omega | assumption | grind
       refine req_i ?_ ?_
       · -- r30
        first | omega | assumption | grind
       refine req_i ?_ ?_
       · -- r31
        (try simp only [List.drop_zero, List.take_length, tkl1]); exact ⟨q1, q2⟩
       refine all_i fun n10 => ?_
       refine imp_i fun h32 => ?_
       refine imp_i fun h33 => ?_
       refine all_i fun n11 => ?_
       refine imp_i fun h34 => ?_
       refine imp_i fun h35 => ?_
       refine imp_i fun h36 => ?_
       try simp only [Int.toNat_natCast, List.length_set, List.length_replicate, List.length_take, List.length_drop, List.length_append, List.length_cons, List.length_nil, Nat.min_self, List.take_take, lenCols_i, lenCols_b, List.drop_zero, List.take_length, List.take_nil, List.drop_nil, List.take_zero, List.nil_append, Nat.add_eq, Nat.mul_eq, Nat.sub_eq, Nat.zero_add, Nat.add_zero, Nat.sub_zero, Nat.mul_one] at h36
       refine req_i ?_ ?_
       · -- r32
        first | omega | assumption | grind
       refine req_i ?_ ?_
       · -- r33
        first | omega | assumption | grind
       refine req_i ?_ ?_
       · -- r34
        first | omega | assumption | grind
       refine req_i ?_ ?_
       · -- r35
        first | omega | assumption | grind
       refine req_i ?_ ?_
       · -- r36
        first | trivial | assumption | (simp only [sigPw, pwPost, List.cons.injEq, DV.b.injEq, and_true, List.length_cons, List.length_nil]; done) | ((try simp only [sigPw, pwPost, List.cons.injEq, DV.b.injEq, and_true, List.length_cons, List.length_nil]); first | omega | assumption | grind)
       refine all_i fun n12 => ?_
       refine imp_i fun h37 => ?_
       refine imp_i fun h38 => ?_
       refine imp_i fun h39 => ?_
       try simp only [Int.toNat_natCast, List.length_set, List.length_replicate, List.length_take, List.length_drop, List.length_append, List.length_cons, List.length_nil, Nat.min_self, List.take_take, lenCols_i, lenCols_b, List.drop_zero, List.take_length, List.take_nil, List.drop_nil, List.take_zero, List.nil_append, Nat.add_eq, Nat.mul_eq, Nat.sub_eq, Nat.zero_add, Nat.add_zero, Nat.sub_zero, Nat.mul_one] at h39
       have p : n12 = pw n10 n11 := h39
       have p1 : n10 = spI l0 l1 n9 l0.length := h36.1
       have p2 : n11 = spQ l0 l1 n9 l0.length := h36.2
       have e12 : n12 = stAt l0 l1 n2 n5 := by unfold stAt; rw [p, p1, p2, h29, h26]
       have tk := take_snoc (l := l6) (m := l6) (x := n12) rfl
       refine req_i ?_ ?_
       · -- r37
        first | omega | ((try simp only [Nat.zero_add]); first | done | omega | assumption | grind [getD_set, getD_rep, toNat_succ, cntN_yes, cntN_no])
       refine req_i ?_ ?_
       · -- r38
        first | omega | ((try simp only [Nat.mul_eq]); first | done | omega | assumption | grind [getD_set, getD_rep, toNat_succ, cntN_yes, cntN_no])
       refine bR_t ?_ ?_
       · -- g0
        first | rfl | (simp only [bR_iff, bR_iff_f, dec_iff, dec_f, beqB_iff', andB_iff', reduceCtorEq, imp_self, false_implies, and_true, true_and, implies_true, and_self]; done) | (simp [bR_iff, dec_iff, beqB_iff', andB_iff']; done) | (simp [bR_iff, dec_iff, beqB_iff', andB_iff']; omega)
       refine req_i ?_ ?_
       · -- r39
        first | omega | assumption | grind
       refine req_i ?_ ?_
       · -- r40
        first | omega | assumption | grind
       refine req_i ?_ ?_
       · -- r41
        first | omega | ((try simp only [Nat.add_eq, Nat.zero_add, Nat.add_zero, Nat.mul_eq]); first | done | omega | assumption | grind [getD_set, getD_rep, toNat_succ, cntN_yes, cntN_no])
       refine req_i ?_ ?_
       · -- r42
        first | omega | ((try simp only [Nat.add_eq, Nat.zero_add, Nat.add_zero]); first | done | omega | assumption | grind [getD_set, getD_rep, toNat_succ, cntN_yes, cntN_no])
       refine req_i ?_ ?_
       · -- r43
        first | omega | ((try simp only [List.take_nil, List.take_zero, List.length_take, List.take_length, List.take_take, Nat.min_self, List.drop_nil, List.length_drop, List.drop_zero, List.nil_append, List.length_append, List.length_cons, List.length_nil, Nat.add_eq, Nat.zero_add, Nat.add_zero]); first | done | omega | assumption | grind [getD_set, getD_rep, toNat_succ, cntN_yes, cntN_no])
       refine req_i ?_ ?_
       · -- r44
        (try simp only [List.drop_zero, Nat.add_eq, Nat.zero_add]); (try rw [tk]); exact app_bd h20 (one_bd (by omega) (by omega))
       refine req_i ?_ ?_
       · -- r45
        (try simp only [stL, stRL, stInv, stRInv, List.drop_zero, List.take_length, tkl1, Nat.add_eq, Nat.zero_add]); (try rw [tk]); exact ⟨by omega, by omega, i3, i4, i5, i6, by rw [List.length_append, List.length_singleton]; omega, st_app i7 e12 i8⟩
       refine req_i ?_ ?_
       · -- r46
        first | omega | ((try simp only [stRL, cM, stRInv, stMea, List.cons.injEq, DV.b.injEq, and_true, List.take_nil, List.take_zero, List.length_take, List.take_length, List.take_take, Nat.min_self, List.drop_nil, List.length_drop, List.drop_zero, List.nil_append, List.length_append, List.length_cons, List.length_nil, Nat.add_eq, Nat.zero_add, Nat.add_zero]); first | done | omega | assumption | grind [getD_set, getD_rep, toNat_succ, cntN_yes, cntN_no])
       rfl
      ·
       refine req_i ?_ ?_
       · -- r47
        first | omega | ((try simp only [Nat.mul_eq]); first | done | omega | assumption | grind [getD_set, getD_rep, toNat_succ, cntN_yes, cntN_no])
       refine req_i ?_ ?_
       · -- r48
        first | omega | ((try simp only [Nat.zero_add]); first | done | omega | assumption | grind [getD_set, getD_rep, toNat_succ, cntN_yes, cntN_no])
       refine req_i ?_ ?_
       · -- r49
        first | omega | ((try simp only [List.take_nil, List.take_zero, List.length_take, List.take_length, List.take_take, Nat.min_self, List.drop_nil, List.length_drop, List.drop_zero, List.length_cons, List.length_nil]); first | done | omega | assumption | grind [getD_set, getD_rep, toNat_succ, cntN_yes, cntN_no])
       refine req_i ?_ ?_
       · -- r50
        first | assumption | exact rep_bd (by omega) (by omega) | exact set_bd (by assumption) (by omega) (by omega) | exact take_bd (by assumption) | ((try simp only [List.take_nil, List.take_zero, List.length_take, List.take_length, List.take_take, Nat.min_self, List.drop_nil, List.length_drop, List.drop_zero, List.length_cons, List.length_nil]); first | assumption | exact rep_bd (by omega) (by omega) | exact set_bd (by assumption) (by omega) (by omega) | exact take_bd (by assumption) | grind [getD_set, getD_rep, toNat_succ, cntN_yes, cntN_no])
       refine req_i ?_ ?_
       · -- r51
        (try simp only [List.drop_zero, List.take_length]); exact .inr (.inr (.inr ⟨q1, q2, tw, rfl, by omega, fun j hj => i8 j (by omega)⟩))
       rfl
theorem ext_stepsR : ∀ p ∈ ([(48, Ext.ctr (ctOfG gl11 sigSm)), (49, Ext.ctr (ctOfG gl11 sigSp)), (50, Ext.ctr (ctOfG gl11 sigPw))] : List (Nat × Ext)), ExtRow Tryd.prog p.1 p.2 := by
  intro p hp
  simp only [List.mem_cons, List.not_mem_nil, or_false] at hp
  rcases hp with rfl | rfl | rfl
  · trivial
  · trivial
  · trivial
theorem cts_stepsR : CtsOk Tryd.prog [(48, Ext.ctr (ctOfG gl11 sigSm)), (49, Ext.ctr (ctOfG gl11 sigSp)), (50, Ext.ctr (ctOfG gl11 sigPw))] := ctsOk_ofG (cs := [(48, sigSm), (49, sigSp), (50, sigPw)])
  (fun p hp => by
    simp only [List.mem_cons, List.not_mem_nil, or_false] at hp
    rcases hp with rfl | rfl | rfl
    · exact fn_sm
    · exact fn_spin
    · exact fn_pwR
)
  (fun f c h => by
    simp only [List.lookup_cons] at h
    repeat' split at h
    all_goals first | (cases h; done) | (rename_i e; have e := beq_iff_eq.1 e; subst e; cases h; refine ⟨_, ?_, rfl⟩; simp))
theorem fn_stepsR : FnOk Tryd.prog 25 sigSt gl11 := fn_sound (by kernel_rfl) ext_stepsR cts_stepsR names vt_stepsR
end Go.Proofs.YtiadfbpbeaeflaaDoor

namespace Go.Proofs.YtiadfbpbeaeflaaDoor
open Go.Ev Go.Sp
set_option maxRecDepth 100000
theorem vc_best : vcFn Tryd.prog [(44, Ext.ctr (ctOfG gl11 sigCp)), (43, Ext.ctr (ctOfG gl11 sigPw))] (fun f p _ => at2 f p 45 58 grL (none)) gl11 100 16 sigBst = (allB fun l0 : List Int => 
impB (l0.length ≤ (30 : Nat)) (
impB (∀ (y : Int), y ∈ l0 → (-9223372036854775808 : Int) ≤ y ∧ y ≤ (9223372036854775807 : Int)) (
allB fun l1 : List Int => 
impB (l1.length = l0.length) (
impB (∀ (y : Int), y ∈ l1 → (-9223372036854775808 : Int) ≤ y ∧ y ≤ (9223372036854775807 : Int)) (
impB (sigBst.pre [DV.l l0, DV.l l1]) (
bR (dec ((↑l0.length : Int) = (0 : Int))) (
 reqB (sigBst.post [DV.l l0, DV.l l1] [DV.n (0 : Int), DV.n (0 : Int), DV.n (3 : Int)]) (
 true)) (
 reqB (((0 : Nat) + l0.length) * (2 : Nat) ≤ l0.length.mul (2 : Nat)) (
 reqB (l0.length ≤ (30 : Nat)) (
 reqB ((List.take l0.length (List.drop (0 : Nat) l0)).length = l0.length) (
 reqB (∀ (y : Int),
 y ∈ List.take l0.length (List.drop (0 : Nat) l0) → (-9223372036854775808 : Int) ≤ y ∧ y ≤ (9223372036854775807 : Int)) (
 reqB ((List.take l0.length (List.drop (0 : Nat) l1)).length = l0.length) (
 reqB (∀ (y : Int),
 y ∈ List.take l0.length (List.drop (0 : Nat) l1) → (-9223372036854775808 : Int) ≤ y ∧ y ≤ (9223372036854775807 : Int)) (
 reqB (sigCp.pre
 [DV.l (List.take l0.length (List.drop (0 : Nat) l0)), DV.l (List.take l0.length (List.drop (0 : Nat) l1)),
 DV.n (1048576 : Int)]) (
 allB fun n2 : Int => 
 impB ((0 : Int) ≤ n2) (
 impB (n2 ≤ (18 : Int)) (
 impB (sigCp.post
 [DV.l (List.take l0.length (List.drop (0 : Nat) l0)), DV.l (List.take l0.length (List.drop (0 : Nat) l1)),
 DV.n (1048576 : Int)]
 [DV.n n2]) (
 bR (dec (n2 ≠ (0 : Int))) (
 reqB ((0 : Int) ≤ n2) (
 reqB (n2 ≤ (18 : Int)) (
 reqB (sigBst.post [DV.l l0, DV.l l1] [DV.n (0 : Int), DV.n (0 : Int), DV.n n2]) (
 true)))) (
 reqB ((0 : Nat) < l0.length) (
 reqB ((0 : Nat) < l0.length) (
 reqB ((0 : Nat) < l1.length) (
 reqB ((-9223372036854775808 : Int) ≤ l0.getD (0 : Nat) (0 : Int)) (
 reqB (l0.getD (0 : Nat) (0 : Int) ≤ (9223372036854775807 : Int)) (
 reqB ((-9223372036854775808 : Int) ≤ l1.getD (0 : Nat) (0 : Int)) (
 reqB (l1.getD (0 : Nat) (0 : Int) ≤ (9223372036854775807 : Int)) (
 reqB (sigPw.pre [DV.n (l0.getD (0 : Nat) (0 : Int)), DV.n (l1.getD (0 : Nat) (0 : Int))]) (
 allB fun n3 : Int => 
 impB ((-9223372036854775808 : Int) ≤ n3) (
 impB (n3 ≤ (9223372036854775807 : Int)) (
 impB (sigPw.post [DV.n (l0.getD (0 : Nat) (0 : Int)), DV.n (l1.getD (0 : Nat) (0 : Int))] [DV.n n3]) (
 reqB (((0 : Nat) + l0.length) * (2 : Nat) ≤ l0.length.mul (2 : Nat)) (
 reqB (l0.length ≤ (30 : Nat)) (
 reqB ((List.take l0.length (List.drop (0 : Nat) l0)).length = l0.length) (
 reqB (∀ (y : Int),
 y ∈ List.take l0.length (List.drop (0 : Nat) l0) → (-9223372036854775808 : Int) ≤ y ∧ y ≤ (9223372036854775807 : Int)) (
 reqB ((List.take l0.length (List.drop (0 : Nat) l1)).length = l0.length) (
 reqB (∀ (y : Int),
 y ∈ List.take l0.length (List.drop (0 : Nat) l1) → (-9223372036854775808 : Int) ≤ y ∧ y ≤ (9223372036854775807 : Int)) (
 reqB ((-9223372036854775808 : Int) ≤ n3) (
 reqB (n3 ≤ (9223372036854775807 : Int)) (
 reqB (grL.inv
 [DV.l (List.take l0.length (List.drop (0 : Nat) l0)), DV.l (List.take l0.length (List.drop (0 : Nat) l1))]
 [DV.n (0 : Int), DV.n (0 : Int), DV.n n3]) (
 allB fun n4 : Int => 
 impB ((0 : Int) ≤ n4) (
 impB (n4 ≤ (30 : Int)) (
 allB fun n5 : Int => 
 impB ((0 : Int) ≤ n5) (
 impB (n5 ≤ (30 : Int)) (
 allB fun n6 : Int => 
 impB ((-9223372036854775808 : Int) ≤ n6) (
 impB (n6 ≤ (9223372036854775807 : Int)) (
 impB (grL.inv
 [DV.l (List.take l0.length (List.drop (0 : Nat) l0)), DV.l (List.take l0.length (List.drop (0 : Nat) l1))]
 [DV.n n4, DV.n n5, DV.n n6]) (
 bR (dec (n4 < (↑l0.length : Int))) (
 reqB (n4.toNat < l0.length) (
 reqB (Nat.add (0 : Nat) n4.toNat < l0.length) (
 reqB (Nat.add (0 : Nat) n4.toNat < l1.length) (
 reqB ((-9223372036854775808 : Int) ≤ l0.getD (Nat.add (0 : Nat) n4.toNat) (0 : Int)) (
 reqB (l0.getD (Nat.add (0 : Nat) n4.toNat) (0 : Int) ≤ (9223372036854775807 : Int)) (
 reqB ((-9223372036854775808 : Int) ≤ l1.getD (Nat.add (0 : Nat) n4.toNat) (0 : Int)) (
 reqB (l1.getD (Nat.add (0 : Nat) n4.toNat) (0 : Int) ≤ (9223372036854775807 : Int)) (
 reqB (sigPw.pre
 [DV.n (l0.getD (Nat.add (0 : Nat) n4.toNat) (0 : Int)),
 DV.n (l1.getD (Nat.add (0 : Nat) n4.toNat) (0 : Int))]) (
 allB fun n7 : Int => 
 impB ((-9223372036854775808 : Int) ≤ n7) (
 impB (n7 ≤ (9223372036854775807 : Int)) (
 impB (sigPw.post
 [DV.n (l0.getD (Nat.add (0 : Nat) n4.toNat) (0 : Int)),
 DV.n (l1.getD (Nat.add (0 : Nat) n4.toNat) (0 : Int))]
 [DV.n n7]) (
 bR (dec (n6 < n7)) (
 bR (bR (bR (dec ((0 : Nat) = (0 : Nat))) (
 dec (l0.length = l0.length)) (
 false)) (
 bR (bR (dec ((0 : Nat) = (0 : Nat))) (
 dec (l0.length = l0.length)) (
 false)) (
 bR (dec ((↑l0.length : Int) = (↑l0.length : Int))) (
 true) (
 false)) (
 false)) (
 false)) (
 reqB ((0 : Int) ≤ n4 + (1 : Int)) (
 reqB (n4 + (1 : Int) ≤ (30 : Int)) (
 reqB ((0 : Int) ≤ n4) (
 reqB (n4 ≤ (30 : Int)) (
 reqB ((-9223372036854775808 : Int) ≤ n7) (
 reqB (n7 ≤ (9223372036854775807 : Int)) (
 reqB (grL.inv
 [DV.l (List.take l0.length (List.drop (0 : Nat) l0)), DV.l (List.take l0.length (List.drop (0 : Nat) l1))]
 [DV.n (n4 + (1 : Int)), DV.n n4, DV.n n7]) (
 reqB (grL.mea
 [DV.l (List.take l0.length (List.drop (0 : Nat) l0)),
 DV.l (List.take l0.length (List.drop (0 : Nat) l1))]
 [DV.n (n4 + (1 : Int)), DV.n n4, DV.n n7] <
 grL.mea
 [DV.l (List.take l0.length (List.drop (0 : Nat) l0)),
 DV.l (List.take l0.length (List.drop (0 : Nat) l1))]
 [DV.n n4, DV.n n5, DV.n n6]) (
 true))))))))) (
 false)) (
 bR (bR (bR (dec ((0 : Nat) = (0 : Nat))) (
 dec (l0.length = l0.length)) (
 false)) (
 bR (bR (dec ((0 : Nat) = (0 : Nat))) (
 dec (l0.length = l0.length)) (
 false)) (
 bR (dec ((↑l0.length : Int) = (↑l0.length : Int))) (
 true) (
 false)) (
 false)) (
 false)) (
 reqB ((0 : Int) ≤ n4 + (1 : Int)) (
 reqB (n4 + (1 : Int) ≤ (30 : Int)) (
 reqB ((0 : Int) ≤ n5) (
 reqB (n5 ≤ (30 : Int)) (
 reqB ((-9223372036854775808 : Int) ≤ n6) (
 reqB (n6 ≤ (9223372036854775807 : Int)) (
 reqB (grL.inv
 [DV.l (List.take l0.length (List.drop (0 : Nat) l0)), DV.l (List.take l0.length (List.drop (0 : Nat) l1))]
 [DV.n (n4 + (1 : Int)), DV.n n5, DV.n n6]) (
 reqB (grL.mea
 [DV.l (List.take l0.length (List.drop (0 : Nat) l0)),
 DV.l (List.take l0.length (List.drop (0 : Nat) l1))]
 [DV.n (n4 + (1 : Int)), DV.n n5, DV.n n6] <
 grL.mea
 [DV.l (List.take l0.length (List.drop (0 : Nat) l0)),
 DV.l (List.take l0.length (List.drop (0 : Nat) l1))]
 [DV.n n4, DV.n n5, DV.n n6]) (
 true))))))))) (
 false)))))))))))))) (
 reqB ((0 : Int) ≤ n5) (
 reqB (n5 ≤ (30 : Int)) (
 reqB ((-9223372036854775808 : Int) ≤ n6) (
 reqB (n6 ≤ (9223372036854775807 : Int)) (
 reqB (sigBst.post [DV.l l0, DV.l l1] [DV.n n5, DV.n n6, DV.n (0 : Int)]) (
 true))))))))))))))))))))))))))))))))))))))))))))))))))) := by kernel_rfl
set_option maxHeartbeats 8000000 in
theorem vt_best : vcFn Tryd.prog [(44, Ext.ctr (ctOfG gl11 sigCp)), (43, Ext.ctr (ctOfG gl11 sigPw))] (fun f p _ => at2 f p 45 58 grL (none)) gl11 100 16 sigBst = true := by
  rw [vc_best]
  try simp only [Int.toNat_natCast, List.length_set, List.length_replicate, List.length_take, List.length_drop, List.length_append, List.length_cons, List.length_nil, Nat.min_self, List.take_take, lenCols_i, lenCols_b, List.drop_zero, List.take_length, List.take_nil, List.drop_nil, List.take_zero, List.nil_append, Nat.add_eq, Nat.mul_eq, Nat.sub_eq, Nat.zero_add, Nat.add_zero, Nat.sub_zero, Nat.mul_one]
  refine all_i fun l0 => ?_
  refine imp_i fun h0 => ?_
  refine imp_i fun h1 => ?_
  refine all_i fun l1 => ?_
  refine imp_i fun h2 => ?_
  have tkl1 := take_eq h2
  try simp only [tkl1]
  refine imp_i fun h3 => ?_
  refine imp_i fun h4 => ?_
  try simp only [sigBst, smpS, bstPost, List.cons.injEq, DV.b.injEq, and_true, List.length_cons, List.length_nil] at h4
  refine bR_dec (fun h5 => ?_) (fun h5 => ?_)
  ·
   refine req_i ?_ ?_
   · -- r0
    first | omega | ((try simp only [sigBst, smpS, bstPost, List.cons.injEq, DV.b.injEq, and_true, List.length_cons, List.length_nil]); first | done | omega | assumption | grind [getD_set, getD_rep, toNat_succ, cntN_yes, cntN_no])
   rfl
  ·
   refine req_i ?_ ?_
   · -- r1
    first | omega | ((try simp only [Nat.mul_eq]); first | done | omega | assumption | grind [getD_set, getD_rep, toNat_succ, cntN_yes, cntN_no])
   refine req_i ?_ ?_
   · -- r2
    first | omega | ((try simp only [Nat.zero_add]); first | done | omega | assumption | grind [getD_set, getD_rep, toNat_succ, cntN_yes, cntN_no])
   refine req_i ?_ ?_
   · -- r3
    first | omega | ((try simp only [List.take_nil, List.take_zero, List.length_take, List.take_length, List.take_take, Nat.min_self, List.drop_nil, List.length_drop, List.drop_zero, List.length_cons, List.length_nil]); first | done | omega | assumption | grind [getD_set, getD_rep, toNat_succ, cntN_yes, cntN_no])
   refine req_i ?_ ?_
   · -- r4
    first | assumption | exact rep_bd (by omega) (by omega) | exact set_bd (by assumption) (by omega) (by omega) | exact take_bd (by assumption) | ((try simp only [List.take_nil, List.take_zero, List.length_take, List.take_length, List.take_take, Nat.min_self, List.drop_nil, List.length_drop, List.drop_zero, List.length_cons, List.length_nil]); first | assumption | exact rep_bd (by omega) (by omega) | exact set_bd (by assumption) (by omega) (by omega) | exact take_bd (by assumption) | grind [getD_set, getD_rep, toNat_succ, cntN_yes, cntN_no])
   refine req_i ?_ ?_
   · -- r5
    first | omega | ((try simp only [List.take_nil, List.take_zero, List.length_take, List.take_length, List.take_take, Nat.min_self, List.drop_nil, List.length_drop, List.drop_zero, List.length_cons, List.length_nil]); first | done | omega | assumption | grind [getD_set, getD_rep, toNat_succ, cntN_yes, cntN_no])
   refine req_i ?_ ?_
   · -- r6
    first | assumption | exact rep_bd (by omega) (by omega) | exact set_bd (by assumption) (by omega) (by omega) | exact take_bd (by assumption) | ((try simp only [List.take_nil, List.take_zero, List.length_take, List.take_length, List.take_take, Nat.min_self, List.drop_nil, List.length_drop, List.drop_zero, List.length_cons, List.length_nil]); first | assumption | exact rep_bd (by omega) (by omega) | exact set_bd (by assumption) (by omega) (by omega) | exact take_bd (by assumption) | grind [getD_set, getD_rep, toNat_succ, cntN_yes, cntN_no])
   refine req_i ?_ ?_
   · -- r7
    first | omega | ((try simp only [sigCp, smpS, cpPost, List.cons.injEq, DV.b.injEq, and_true, List.take_nil, List.take_zero, List.length_take, List.take_length, List.take_take, Nat.min_self, List.drop_nil, List.length_drop, List.drop_zero, List.length_cons, List.length_nil]); first | done | omega | assumption | grind [getD_set, getD_rep, toNat_succ, cntN_yes, cntN_no])
   refine all_i fun n2 => ?_
   refine imp_i fun h6 => ?_
   refine imp_i fun h7 => ?_
   refine imp_i fun h8 => ?_
   try simp only [Int.toNat_natCast, List.length_set, List.length_replicate, List.length_take, List.length_drop, List.length_append, List.length_cons, List.length_nil, Nat.min_self, List.take_take, lenCols_i, lenCols_b, List.drop_zero, List.take_length, List.take_nil, List.drop_nil, List.take_zero, List.nil_append, Nat.add_eq, Nat.mul_eq, Nat.sub_eq, Nat.zero_add, Nat.add_zero, Nat.sub_zero, Nat.mul_one] at h8
   refine bR_dec (fun h9 => ?_) (fun h9 => ?_)
   ·
    obtain ⟨no, e9⟩ : ¬okS l0 l1 ∧ n2 = 2 := by
      rcases h8 with ⟨a, b⟩ | h
      · omega
      · exact h
    refine req_i ?_ ?_
    · -- r8
     first | omega | assumption | grind
    refine req_i ?_ ?_
    · -- r9
     first | omega | assumption | grind
    refine req_i ?_ ?_
    · -- r10
     exact .inr (.inr ⟨by omega, no, rfl, rfl, e9⟩)
    rfl
   ·
    have ok : okS l0 l1 := by
      rcases h8 with ⟨a, b⟩ | ⟨a, b⟩
      · exact a
      · omega
    have z0 := ok 0 (by omega)
    unfold inS at z0
    refine req_i ?_ ?_
    · -- r11
     first | omega | ((try simp only [Nat.zero_add]); first | done | omega | assumption | grind [getD_set, getD_rep, toNat_succ, cntN_yes, cntN_no])
    refine req_i ?_ ?_
    · -- r12
     first | omega | ((try simp only [Nat.zero_add]); first | done | omega | assumption | grind [getD_set, getD_rep, toNat_succ, cntN_yes, cntN_no])
    refine req_i ?_ ?_
    · -- r13
     first | omega | ((try simp only [Nat.zero_add]); first | done | omega | assumption | grind [getD_set, getD_rep, toNat_succ, cntN_yes, cntN_no])
    refine req_i ?_ ?_
    · -- r14
     first | omega | assumption | grind
    refine req_i ?_ ?_
    · -- r15
     first | omega | assumption | grind
    refine req_i ?_ ?_
    · -- r16
     first | omega | assumption | grind
    refine req_i ?_ ?_
    · -- r17
     first | omega | assumption | grind
    refine req_i ?_ ?_
    · -- r18
     first | trivial | assumption | (simp only [sigPw, pwPost, List.cons.injEq, DV.b.injEq, and_true, List.length_cons, List.length_nil]; done) | ((try simp only [sigPw, pwPost, List.cons.injEq, DV.b.injEq, and_true, List.length_cons, List.length_nil]); first | omega | assumption | grind)
    refine all_i fun n3 => ?_
    refine imp_i fun h10 => ?_
    refine imp_i fun h11 => ?_
    refine imp_i fun h12 => ?_
    try simp only [sigPw, pwPost, List.cons.injEq, DV.b.injEq, and_true, List.length_cons, List.length_nil] at h12
    refine req_i ?_ ?_
    · -- r19
     first | omega | ((try simp only [Nat.mul_eq]); first | done | omega | assumption | grind [getD_set, getD_rep, toNat_succ, cntN_yes, cntN_no])
    refine req_i ?_ ?_
    · -- r20
     first | omega | ((try simp only [Nat.zero_add]); first | done | omega | assumption | grind [getD_set, getD_rep, toNat_succ, cntN_yes, cntN_no])
    refine req_i ?_ ?_
    · -- r21
     first | omega | ((try simp only [List.take_nil, List.take_zero, List.length_take, List.take_length, List.take_take, Nat.min_self, List.drop_nil, List.length_drop, List.drop_zero, List.length_cons, List.length_nil]); first | done | omega | assumption | grind [getD_set, getD_rep, toNat_succ, cntN_yes, cntN_no])
    refine req_i ?_ ?_
    · -- r22
     first | assumption | exact rep_bd (by omega) (by omega) | exact set_bd (by assumption) (by omega) (by omega) | exact take_bd (by assumption) | ((try simp only [List.take_nil, List.take_zero, List.length_take, List.take_length, List.take_take, Nat.min_self, List.drop_nil, List.length_drop, List.drop_zero, List.length_cons, List.length_nil]); first | assumption | exact rep_bd (by omega) (by omega) | exact set_bd (by assumption) (by omega) (by omega) | exact take_bd (by assumption) | grind [getD_set, getD_rep, toNat_succ, cntN_yes, cntN_no])
    refine req_i ?_ ?_
    · -- r23
     first | omega | ((try simp only [List.take_nil, List.take_zero, List.length_take, List.take_length, List.take_take, Nat.min_self, List.drop_nil, List.length_drop, List.drop_zero, List.length_cons, List.length_nil]); first | done | omega | assumption | grind [getD_set, getD_rep, toNat_succ, cntN_yes, cntN_no])
    refine req_i ?_ ?_
    · -- r24
     first | assumption | exact rep_bd (by omega) (by omega) | exact set_bd (by assumption) (by omega) (by omega) | exact take_bd (by assumption) | ((try simp only [List.take_nil, List.take_zero, List.length_take, List.take_length, List.take_take, Nat.min_self, List.drop_nil, List.length_drop, List.drop_zero, List.length_cons, List.length_nil]); first | assumption | exact rep_bd (by omega) (by omega) | exact set_bd (by assumption) (by omega) (by omega) | exact take_bd (by assumption) | grind [getD_set, getD_rep, toNat_succ, cntN_yes, cntN_no])
    refine req_i ?_ ?_
    · -- r25
     first | omega | assumption | grind
    refine req_i ?_ ?_
    · -- r26
     first | omega | assumption | grind
    refine req_i ?_ ?_
    · -- r27
     (try simp only [grL, grInv, grRL, grRInv, List.drop_zero, List.take_length, tkl1, Nat.add_eq, Nat.zero_add]); exact ⟨by omega, by omega, by omega, .inl ⟨by trivial, by trivial, h12⟩⟩
    refine all_i fun n4 => ?_
    refine imp_i fun h13 => ?_
    refine imp_i fun h14 => ?_
    refine all_i fun n5 => ?_
    refine imp_i fun h15 => ?_
    refine imp_i fun h16 => ?_
    refine all_i fun n6 => ?_
    refine imp_i fun h17 => ?_
    refine imp_i fun h18 => ?_
    refine imp_i fun h19 => ?_
    try simp only [Int.toNat_natCast, List.length_set, List.length_replicate, List.length_take, List.length_drop, List.length_append, List.length_cons, List.length_nil, Nat.min_self, List.take_take, lenCols_i, lenCols_b, List.drop_zero, List.take_length, List.take_nil, List.drop_nil, List.take_zero, List.nil_append, Nat.add_eq, Nat.mul_eq, Nat.sub_eq, Nat.zero_add, Nat.add_zero, Nat.sub_zero, Nat.mul_one] at h19
    obtain ⟨i1, i2, i3, i4⟩ : 0 ≤ n4 ∧ n4 ≤ (l0.length : Int) ∧ l0.length = l1.length ∧ ((n4 = 0 ∧ n5 = 0 ∧ n6 = pw (l0.getD 0 0) (l1.getD 0 0)) ∨ (1 ≤ n4 ∧ isBest l0 l1 n4 n5 ∧ n6 = pw (l0.getD n5.toNat 0) (l1.getD n5.toNat 0))) := by
      (try simp only [List.drop_zero, List.take_length, tkl1] at h19); exact h19
    refine bR_dec (fun h20 => ?_) (fun h20 => ?_)
    ·
     have z4 := ok n4.toNat (by omega)
     unfold inS at z4
     refine req_i ?_ ?_
     · -- r28
      first | omega | ((try simp only [Int.toNat_natCast, List.length_cons, List.length_nil]); first | done | omega | assumption | grind [getD_set, getD_rep, toNat_succ, cntN_yes, cntN_no])
     refine req_i ?_ ?_
     · -- r29
      first | omega | ((try simp only [Int.toNat_natCast, List.length_cons, List.length_nil, Nat.add_eq, Nat.zero_add, Nat.add_zero]); first | done | omega | assumption | grind [getD_set, getD_rep, toNat_succ, cntN_yes, cntN_no])
     refine req_i ?_ ?_
     · -- r30
      first | omega | ((try simp only [Int.toNat_natCast, List.length_cons, List.length_nil, Nat.add_eq, Nat.zero_add, Nat.add_zero]); first | done | omega | assumption | grind [getD_set, getD_rep, toNat_succ, cntN_yes, cntN_no])
     refine req_i ?_ ?_
     · -- r31
      first | omega | assumption | grind
     refine req_i ?_ ?_
     · -- r32
      first | omega | assumption | grind
     refine req_i ?_ ?_
     · -- r33
      first | omega | assumption | grind
     refine req_i ?_ ?_
     · -- r34
      first | omega | assumption | grind
     refine req_i ?_ ?_
     · -- r35
      first | omega | ((try simp only [sigPw, pwPost, List.cons.injEq, DV.b.injEq, and_true, Int.toNat_natCast, List.length_cons, List.length_nil, Nat.add_eq, Nat.zero_add, Nat.add_zero]); first | done | omega | assumption | grind [getD_set, getD_rep, toNat_succ, cntN_yes, cntN_no])
     refine all_i fun n7 => ?_
     refine imp_i fun h21 => ?_
     refine imp_i fun h22 => ?_
     refine imp_i fun h23 => ?_
     try simp only [sigPw, pwPost, List.cons.injEq, DV.b.injEq, and_true, Int.toNat_natCast, List.length_cons, List.length_nil, Nat.add_eq, Nat.zero_add, Nat.add_zero] at h23
     have eh23 : n7 = pw (l0.getD n4.toNat 0) (l1.getD n4.toNat 0) := by
       (try simp only [Nat.add_eq, Nat.zero_add] at h23); exact h23
     refine bR_dec (fun h24 => ?_) (fun h24 => ?_)
     ·
      have nb : isBest l0 l1 (n4 + 1) n4 := by
        rcases i4 with ⟨a, b, c⟩ | ⟨a, b, c⟩
        · exfalso; rw [eh23, c, a] at h24; exact absurd h24 (Int.lt_irrefl _)
        · exact best_new b (by omega) (by rw [← c, ← eh23]; exact h24)
      refine bR_t ?_ ?_
      · -- g0
       first | rfl | (simp only [bR_iff, bR_iff_f, dec_iff, dec_f, beqB_iff', andB_iff', reduceCtorEq, imp_self, false_implies, and_true, true_and, implies_true, and_self]; done) | (simp [bR_iff, dec_iff, beqB_iff', andB_iff']; done) | (simp [bR_iff, dec_iff, beqB_iff', andB_iff']; omega)
      refine req_i ?_ ?_
      · -- r36
       first | omega | assumption | grind
      refine req_i ?_ ?_
      · -- r37
       first | omega | assumption | grind
      refine req_i ?_ ?_
      · -- r38
       first | omega | assumption | grind
      refine req_i ?_ ?_
      · -- r39
       first | omega | assumption | grind
      refine req_i ?_ ?_
      · -- r40
       first | omega | assumption | grind
      refine req_i ?_ ?_
      · -- r41
       first | omega | assumption | grind
      refine req_i ?_ ?_
      · -- r42
       (try simp only [grL, grInv, grRL, grRInv, List.drop_zero, List.take_length, tkl1, Nat.add_eq, Nat.zero_add]); exact ⟨by omega, by omega, by omega, .inr ⟨by omega, nb, eh23⟩⟩
      refine req_i ?_ ?_
      · -- r43
       first | omega | ((try simp only [grL, grInv, mea14, List.cons.injEq, DV.b.injEq, and_true, List.take_nil, List.take_zero, List.length_take, List.take_length, List.take_take, Nat.min_self, List.drop_nil, List.length_drop, List.drop_zero, List.length_cons, List.length_nil]); first | done | omega | assumption | grind [getD_set, getD_rep, toNat_succ, cntN_yes, cntN_no])
      rfl
     ·
      have nb : isBest l0 l1 (n4 + 1) n5 ∧ n6 = pw (l0.getD n5.toNat 0) (l1.getD n5.toNat 0) := by
        rcases i4 with ⟨a, b, c⟩ | ⟨a, b, c⟩
        · rw [a, b]; exact ⟨best_one, c⟩
        · exact ⟨best_old b (by omega) (by rw [← c, ← eh23]; exact h24), c⟩
      refine bR_t ?_ ?_
      · -- g1
       first | rfl | (simp only [bR_iff, bR_iff_f, dec_iff, dec_f, beqB_iff', andB_iff', reduceCtorEq, imp_self, false_implies, and_true, true_and, implies_true, and_self]; done) | (simp [bR_iff, dec_iff, beqB_iff', andB_iff']; done) | (simp [bR_iff, dec_iff, beqB_iff', andB_iff']; omega)
      refine req_i ?_ ?_
      · -- r44
       first | omega | assumption | grind
      refine req_i ?_ ?_
      · -- r45
       first | omega | assumption | grind
      refine req_i ?_ ?_
      · -- r46
       first | omega | assumption | grind
      refine req_i ?_ ?_
      · -- r47
       first | omega | assumption | grind
      refine req_i ?_ ?_
      · -- r48
       first | omega | assumption | grind
      refine req_i ?_ ?_
      · -- r49
       first | omega | assumption | grind
      refine req_i ?_ ?_
      · -- r50
       (try simp only [grL, grInv, grRL, grRInv, List.drop_zero, List.take_length, tkl1, Nat.add_eq, Nat.zero_add]); exact ⟨by omega, by omega, by omega, .inr ⟨by omega, nb.1, nb.2⟩⟩
      refine req_i ?_ ?_
      · -- r51
       first | omega | ((try simp only [grL, grInv, mea14, List.cons.injEq, DV.b.injEq, and_true, List.take_nil, List.take_zero, List.length_take, List.take_length, List.take_take, Nat.min_self, List.drop_nil, List.length_drop, List.drop_zero, List.length_cons, List.length_nil]); first | done | omega | assumption | grind [getD_set, getD_rep, toNat_succ, cntN_yes, cntN_no])
      rfl
    ·
     refine req_i ?_ ?_
     · -- r52
      first | omega | assumption | grind
     refine req_i ?_ ?_
     · -- r53
      first | omega | assumption | grind
     refine req_i ?_ ?_
     · -- r54
      first | omega | assumption | grind
     refine req_i ?_ ?_
     · -- r55
      first | omega | assumption | grind
     refine req_i ?_ ?_
     · -- r56
      rcases i4 with ⟨a, _⟩ | ⟨a, b, c⟩
      · omega
      · exact .inr (.inl ⟨by omega, ok, by rw [show (l0.length : Int) = n4 by omega]; exact b, c, rfl⟩)
     rfl
theorem ext_best : ∀ p ∈ ([(44, Ext.ctr (ctOfG gl11 sigCp)), (43, Ext.ctr (ctOfG gl11 sigPw))] : List (Nat × Ext)), ExtRow Tryd.prog p.1 p.2 := by
  intro p hp
  simp only [List.mem_cons, List.not_mem_nil, or_false] at hp
  rcases hp with rfl | rfl
  · trivial
  · trivial
theorem cts_best : CtsOk Tryd.prog [(44, Ext.ctr (ctOfG gl11 sigCp)), (43, Ext.ctr (ctOfG gl11 sigPw))] := ctsOk_ofG (cs := [(44, sigCp), (43, sigPw)])
  (fun p hp => by
    simp only [List.mem_cons, List.not_mem_nil, or_false] at hp
    rcases hp with rfl | rfl
    · exact fn_cp
    · exact fn_pw
)
  (fun f c h => by
    simp only [List.lookup_cons] at h
    repeat' split at h
    all_goals first | (cases h; done) | (rename_i e; have e := beq_iff_eq.1 e; subst e; cases h; refine ⟨_, ?_, rfl⟩; simp))
theorem fn_best : FnOk Tryd.prog 16 sigBst gl11 := fn_sound (by kernel_rfl) ext_best cts_best names vt_best
end Go.Proofs.YtiadfbpbeaeflaaDoor

