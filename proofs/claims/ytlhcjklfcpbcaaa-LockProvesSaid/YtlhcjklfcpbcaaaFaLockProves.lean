import Derived.Test.YtlhcjklfcpbcaaaSpec19q
import Derived.Test.YtlhcjklfcpbcaaaRows
import Derived.Test.YtlhcjklfcpbcaaaFnames
namespace Go.Proofs.Ytlhcjklfcpbcaaa
open Go.Ev Go.Sp
set_option maxRecDepth 100000
theorem vc_known : vcFn Try.prog [] noA [] 1000 5 sigTrue0 = (impB (sigTrue0.pre []) (
reqB (sigTrue0.post [] [DV.b (eqI (0 : Int) (0 : Int))]) (
true))) := by kernel_rfl
set_option maxHeartbeats 8000000 in
theorem vt_known : vcFn Try.prog [] noA [] 1000 5 sigTrue0 = true := by
  rw [vc_known]
  try simp only [bR_same, dec_same, bR_true, bR_false]
  simp only [allB_iff, impB_iff, reqB_iff, bR_iff, bR_iff_f, dec_iff, dec_f, reduceCtorEq, imp_false, Classical.not_not, implies_true, true_and, and_true]
  intro _
  first | rfl | trivial | simp [sigTrue0]
theorem ext_known : ∀ p ∈ ([] : List (Nat × Ext)), ExtRow Try.prog p.1 p.2 := by
  intro p hp
  cases hp
theorem cts_known : CtsOk Try.prog [] := fun f c h => by cases h
theorem fn_known : FnOk Try.prog 5 sigTrue0 [] := fn_sound (by kernel_rfl) ext_known cts_known names vt_known
end Go.Proofs.Ytlhcjklfcpbcaaa

namespace Go.Proofs.Ytlhcjklfcpbcaaa
open Go.Ev Go.Sp
set_option maxRecDepth 100000
theorem vc_pick : vcFn Try.prog [] tab [] 100 21 sigPick = (allB fun n0 : Int => 
impB ((-9223372036854775808 : Int) ≤ n0) (
impB (n0 ≤ (9223372036854775807 : Int)) (
allB fun n1 : Int => 
impB ((1 : Int) ≤ n1) (
impB (n1 ≤ (1000000 : Int)) (
impB (sigPick.pre [DV.n n0, DV.n n1]) (
bR (dec (n0.tmod n1 < (0 : Int))) (
 reqB ((0 : Int) ≤ n0.tmod n1 + n1) (
 reqB (n0.tmod n1 + n1 ≤ (1000000 : Int)) (
 reqB (sigPick.post [DV.n n0, DV.n n1] [DV.n (n0.tmod n1 + n1)]) (
 true)))) (
 reqB ((0 : Int) ≤ n0.tmod n1) (
 reqB (n0.tmod n1 ≤ (1000000 : Int)) (
 reqB (sigPick.post [DV.n n0, DV.n n1] [DV.n (n0.tmod n1)]) (
 true)))))))))) := by kernel_rfl
set_option maxHeartbeats 8000000 in
theorem vt_pick : vcFn Try.prog [] tab [] 100 21 sigPick = true := by
  rw [vc_pick]
  try simp only [bR_same, dec_same, bR_true, bR_false]
  simp only [allB_iff, impB_iff, reqB_iff, bR_iff, bR_iff_f, dec_iff, dec_f, reduceCtorEq, imp_false, Classical.not_not, implies_true, true_and, and_true]
  simp only [sigPick, pickPost, wrap_i64]
  intro x h1 h2 n h3 h4 _
  have T := tmod_of (x := x) (n := n) (by omega)
  generalize x.tmod n = t at T ⊢
  generalize x % n = e at T ⊢
  obtain ⟨t1, t2, t3, t4⟩ := T
  repeat' (first | intro _ | apply And.intro)
  all_goals first | omega | (have := t1 (by assumption); omega) | (have := t2 (by assumption); omega)
theorem ext_pick : ∀ p ∈ ([] : List (Nat × Ext)), ExtRow Try.prog p.1 p.2 := by
  intro p hp
  cases hp
theorem cts_pick : CtsOk Try.prog [] := fun f c h => by cases h
theorem fn_pick : FnOk Try.prog 21 sigPick [] := fn_sound (by kernel_rfl) ext_pick cts_pick names vt_pick
end Go.Proofs.Ytlhcjklfcpbcaaa

namespace Go.Proofs.Ytlhcjklfcpbcaaa
open Go.Ev Go.Sp
set_option maxRecDepth 100000
theorem vc_newL : vcFn Try.prog [] tab [] 100 11 sigNew = (allB fun n0 : Int => 
impB ((1 : Int) ≤ n0) (
impB (n0 ≤ (100 : Int)) (
allB fun n1 : Int => 
impB ((1 : Int) ≤ n1) (
impB (n1 ≤ (100 : Int)) (
impB (sigNew.pre [DV.n n0, DV.n n1]) (
reqB ((1 : Int) ≤ n0) (
reqB (n0 ≤ (100 : Int)) (
reqB ((1 : Int) ≤ n1) (
reqB (n1 ≤ (100 : Int)) (
reqB (sigNew.post [DV.n n0, DV.n n1]
 [DV.n n0, DV.n n1, DV.n (0 : Int), DV.n (0 : Int), DV.b Bool.false,
 DV.n (0 : Int)]) (
true))))))))))) := by kernel_rfl
set_option maxHeartbeats 8000000 in
theorem vt_newL : vcFn Try.prog [] tab [] 100 11 sigNew = true := by
  rw [vc_newL]
  try simp only [bR_same, dec_same, bR_true, bR_false]
  simp only [allB_iff, impB_iff, reqB_iff, bR_iff, bR_iff_f, dec_iff, dec_f, reduceCtorEq, imp_false, Classical.not_not, implies_true, true_and, and_true]
  simp only [sigNew, newPost, wrap_i64]
  repeat' (first | intro _ | apply And.intro)
  all_goals first | omega | grind
theorem ext_newL : ∀ p ∈ ([] : List (Nat × Ext)), ExtRow Try.prog p.1 p.2 := by
  intro p hp
  cases hp
theorem cts_newL : CtsOk Try.prog [] := fun f c h => by cases h
theorem fn_newL : FnOk Try.prog 11 sigNew [] := fn_sound (by kernel_rfl) ext_newL cts_newL names vt_newL
end Go.Proofs.Ytlhcjklfcpbcaaa

namespace Go.Proofs.Ytlhcjklfcpbcaaa
open Go.Ev Go.Sp
set_option maxRecDepth 100000
theorem vc_chkL : vcFn Try.prog [] tab [] 100 15 sigChk = (allB fun n0 : Int => 
impB ((-9223372036854775808 : Int) ≤ n0) (
impB (n0 ≤ (9223372036854775807 : Int)) (
allB fun n1 : Int => 
impB ((-9223372036854775808 : Int) ≤ n1) (
impB (n1 ≤ (9223372036854775807 : Int)) (
allB fun n2 : Int => 
impB ((-9223372036854775808 : Int) ≤ n2) (
impB (n2 ≤ (9223372036854775807 : Int)) (
allB fun n3 : Int => 
impB ((-9223372036854775808 : Int) ≤ n3) (
impB (n3 ≤ (9223372036854775807 : Int)) (
allB fun b4 : Bool => 
impB (sigChk.pre [DV.n n0, DV.n n1, DV.n n2, DV.n n3, DV.b b4]) (
bR (dec (n0 < (1 : Int))) (
 reqB (sigChk.post [DV.n n0, DV.n n1, DV.n n2, DV.n n3, DV.b b4] [DV.n (2 : Int)]) (
 true)) (
 bR (dec ((100 : Int) < n0)) (
 reqB (sigChk.post [DV.n n0, DV.n n1, DV.n n2, DV.n n3, DV.b b4] [DV.n (2 : Int)]) (
 true)) (
 bR (dec (n1 < (1 : Int))) (
 reqB (sigChk.post [DV.n n0, DV.n n1, DV.n n2, DV.n n3, DV.b b4] [DV.n (2 : Int)]) (
 true)) (
 bR (dec ((100 : Int) < n1)) (
 reqB (sigChk.post [DV.n n0, DV.n n1, DV.n n2, DV.n n3, DV.b b4] [DV.n (2 : Int)]) (
 true)) (
 bR (bR (dec (n2 = (0 : Int))) (
 bR (dec (n3 = (0 : Int))) (
 true) (
 false)) (
 false)) (
 bR (bR (bR (b4) (
 false) (
 true)) (
 false) (
 true)) (
 reqB (sigChk.post [DV.n n0, DV.n n1, DV.n n2, DV.n n3, DV.b b4] [DV.n (3 : Int)]) (
 true)) (
 reqB (sigChk.post [DV.n n0, DV.n n1, DV.n n2, DV.n n3, DV.b b4] [DV.n (0 : Int)]) (
 true))) (
 bR (bR (dec (n2 = n0)) (
 bR (dec (n3 = (0 : Int))) (
 true) (
 false)) (
 false)) (
 bR (bR (b4) (
 false) (
 true)) (
 reqB (sigChk.post [DV.n n0, DV.n n1, DV.n n2, DV.n n3, DV.b b4] [DV.n (3 : Int)]) (
 true)) (
 reqB (sigChk.post [DV.n n0, DV.n n1, DV.n n2, DV.n n3, DV.b b4] [DV.n (0 : Int)]) (
 true))) (
 bR (bR (dec (n2 = (0 : Int))) (
 bR (dec (n3 = n1)) (
 true) (
 false)) (
 false)) (
 bR (bR (bR (b4) (
 false) (
 true)) (
 false) (
 true)) (
 reqB (sigChk.post [DV.n n0, DV.n n1, DV.n n2, DV.n n3, DV.b b4] [DV.n (3 : Int)]) (
 true)) (
 reqB (sigChk.post [DV.n n0, DV.n n1, DV.n n2, DV.n n3, DV.b b4] [DV.n (0 : Int)]) (
 true))) (
 bR (dec (n3 = (0 : Int))) (
 bR (dec ((0 : Int) < n2)) (
 bR (dec (n2 < n0)) (
 bR (bR (b4) (
 false) (
 true)) (
 reqB (sigChk.post [DV.n n0, DV.n n1, DV.n n2, DV.n n3, DV.b b4] [DV.n (0 : Int)]) (
 true)) (
 bR (bR (dec ((1 : Int) < n1)) (
 false) (
 true)) (
 reqB (sigChk.post [DV.n n0, DV.n n1, DV.n n2, DV.n n3, DV.b b4] [DV.n (3 : Int)]) (
 true)) (
 reqB (sigChk.post [DV.n n0, DV.n n1, DV.n n2, DV.n n3, DV.b b4] [DV.n (0 : Int)]) (
 true)))) (
 reqB (sigChk.post [DV.n n0, DV.n n1, DV.n n2, DV.n n3, DV.b b4] [DV.n (3 : Int)]) (
 true))) (
 reqB (sigChk.post [DV.n n0, DV.n n1, DV.n n2, DV.n n3, DV.b b4] [DV.n (3 : Int)]) (
 true))) (
 bR (dec (n2 = (0 : Int))) (
 bR (dec ((0 : Int) < n3)) (
 bR (bR (dec (n3 < n1)) (
 false) (
 true)) (
 reqB (sigChk.post [DV.n n0, DV.n n1, DV.n n2, DV.n n3, DV.b b4] [DV.n (3 : Int)]) (
 true)) (
 reqB (sigChk.post [DV.n n0, DV.n n1, DV.n n2, DV.n n3, DV.b b4] [DV.n (0 : Int)]) (
 true))) (
 reqB (sigChk.post [DV.n n0, DV.n n1, DV.n n2, DV.n n3, DV.b b4] [DV.n (3 : Int)]) (
 true))) (
 reqB (sigChk.post [DV.n n0, DV.n n1, DV.n n2, DV.n n3, DV.b b4] [DV.n (3 : Int)]) (
 true)))))))))))))))))))) := by kernel_rfl
set_option maxHeartbeats 8000000 in
theorem vt_chkL : vcFn Try.prog [] tab [] 100 15 sigChk = true := by
  rw [vc_chkL]
  try simp only [bR_same, dec_same, bR_true, bR_false]
  simp only [allB_iff, impB_iff, reqB_iff, bR_iff, bR_iff_f, dec_iff, dec_f, reduceCtorEq, imp_false, Classical.not_not, implies_true, true_and, and_true]
  simp only [sigChk, chkPost]
  intro a _ _ b _ _ c _ _ d _ _ e _
  cases e
  all_goals
    simp only [bR_false, bR_true, Bool.false_eq_true, Bool.true_eq_false, reduceCtorEq, forall_const, false_implies, and_true, true_and, true_implies]
    repeat' (first | intro _ | apply And.intro)
    all_goals first | omega | (simp [chk, *]; done) | (simp [chk, *]; omega) | (simp only [chk]; grind)
theorem ext_chkL : ∀ p ∈ ([] : List (Nat × Ext)), ExtRow Try.prog p.1 p.2 := by
  intro p hp
  cases hp
theorem cts_chkL : CtsOk Try.prog [] := fun f c h => by cases h
theorem fn_chkL : FnOk Try.prog 15 sigChk [] := fn_sound (by kernel_rfl) ext_chkL cts_chkL names vt_chkL
end Go.Proofs.Ytlhcjklfcpbcaaa

namespace Go.Proofs.Ytlhcjklfcpbcaaa
open Go.Ev Go.Sp
set_option maxRecDepth 100000
theorem vc_runL : vcFn Try.prog [(15, Ext.ctr (ctOf sigChk))] tab [] 100 18 sigRun = (allB fun n0 : Int => 
impB ((-9223372036854775808 : Int) ≤ n0) (
impB (n0 ≤ (9223372036854775807 : Int)) (
allB fun n1 : Int => 
impB ((-9223372036854775808 : Int) ≤ n1) (
impB (n1 ≤ (9223372036854775807 : Int)) (
allB fun n2 : Int => 
impB ((-9223372036854775808 : Int) ≤ n2) (
impB (n2 ≤ (9223372036854775807 : Int)) (
allB fun n3 : Int => 
impB ((-9223372036854775808 : Int) ≤ n3) (
impB (n3 ≤ (9223372036854775807 : Int)) (
allB fun b4 : Bool => 
allB fun l5 : List Bool => 
impB (l5.length ≤ (9223372036854775807 : Nat)) (
impB (sigRun.pre [DV.n n0, DV.n n1, DV.n n2, DV.n n3, DV.b b4, DV.lb l5]) (
reqB ((-9223372036854775808 : Int) ≤ n0) (
reqB (n0 ≤ (9223372036854775807 : Int)) (
reqB ((-9223372036854775808 : Int) ≤ n1) (
reqB (n1 ≤ (9223372036854775807 : Int)) (
reqB ((-9223372036854775808 : Int) ≤ n2) (
reqB (n2 ≤ (9223372036854775807 : Int)) (
reqB ((-9223372036854775808 : Int) ≤ n3) (
reqB (n3 ≤ (9223372036854775807 : Int)) (
reqB (sigChk.pre [DV.n n0, DV.n n1, DV.n n2, DV.n n3, DV.b b4]) (
allB fun n6 : Int => 
impB ((-9223372036854775808 : Int) ≤ n6) (
impB (n6 ≤ (9223372036854775807 : Int)) (
impB (sigChk.post [DV.n n0, DV.n n1, DV.n n2, DV.n n3, DV.b b4] [DV.n n6]) (
bR (dec (n6 ≠ (0 : Int))) (
 reqB ((-9223372036854775808 : Int) ≤ n6) (
 reqB (n6 ≤ (9223372036854775807 : Int)) (
 reqB (sigRun.post [DV.n n0, DV.n n1, DV.n n2, DV.n n3, DV.b b4, DV.lb l5]
 [DV.n (0 : Int), DV.n (0 : Int), DV.n (0 : Int), DV.n (0 : Int), DV.b Bool.false,
 DV.lb [], DV.n n6]) (
 true)))) (
 bR (dec ((10000 : Int) < (↑l5.length : Int))) (
 reqB (sigRun.post [DV.n n0, DV.n n1, DV.n n2, DV.n n3, DV.b b4, DV.lb l5]
 [DV.n (0 : Int), DV.n (0 : Int), DV.n (0 : Int), DV.n (0 : Int), DV.b Bool.false,
 DV.lb [], DV.n (4 : Int)]) (
 true)) (
 reqB ((0 : Nat) ≤ (↑l5.length : Int).toNat) (
 reqB ((↑l5.length : Int).toNat ≤ (1000000 : Nat)) (
 reqB (((0 : Nat) + l5.length) * (1 : Nat) ≤ l5.length.mul (1 : Nat)) (
 reqB (l5.length ≤ (9223372036854775807 : Nat)) (
 reqB ((List.take l5.length (List.drop (0 : Nat) l5)).length = l5.length) (
 reqB ((1 : Int) ≤ n0) (
 reqB (n0 ≤ (100 : Int)) (
 reqB ((1 : Int) ≤ n1) (
 reqB (n1 ≤ (100 : Int)) (
 reqB ((0 : Int) ≤ n2) (
 reqB (n2 ≤ (100 : Int)) (
 reqB ((0 : Int) ≤ n3) (
 reqB (n3 ≤ (100 : Int)) (
 reqB (((0 : Nat) + (0 : Nat)) * (1 : Nat) ≤ (0 : Nat)) (
 reqB ((0 : Nat) ≤ (10000 : Nat)) (
 reqB ((List.take (0 : Nat) (List.drop (0 : Nat) (List.replicate (0 : Nat) Bool.false))).length = (0 : Nat)) (
 reqB ((0 : Int) ≤ n2) (
 reqB (n2 ≤ (100 : Int)) (
 reqB ((0 : Int) ≤ n3) (
 reqB (n3 ≤ (100 : Int)) (
 reqB (foldL.inv
 [DV.lb (List.take l5.length (List.drop (0 : Nat) l5)), DV.n n0, DV.n n1, DV.n n2,
 DV.n n3, DV.b b4]
 [DV.lb (List.take (0 : Nat) (List.drop (0 : Nat) (List.replicate (0 : Nat) Bool.false))), DV.n (0 : Int),
 DV.n n2, DV.n n3, DV.b b4]) (
 allB fun l7 : List Bool => 
 impB (l7.length ≤ (10000 : Nat)) (
 allB fun n8 : Int => 
 impB ((0 : Int) ≤ n8) (
 impB (n8 ≤ (10000 : Int)) (
 allB fun n9 : Int => 
 impB ((0 : Int) ≤ n9) (
 impB (n9 ≤ (100 : Int)) (
 allB fun n10 : Int => 
 impB ((0 : Int) ≤ n10) (
 impB (n10 ≤ (100 : Int)) (
 allB fun b11 : Bool => 
 impB (foldL.inv
 [DV.lb (List.take l5.length (List.drop (0 : Nat) l5)), DV.n n0, DV.n n1, DV.n n2,
 DV.n n3, DV.b b4]
 [DV.lb l7, DV.n n8, DV.n n9, DV.n n10, DV.b b11]) (
 bR (dec (n8 < (↑l5.length : Int))) (
 reqB (n8.toNat < l5.length) (
 reqB (Nat.add (0 : Nat) n8.toNat < l5.length) (
 bR (bR (l5.getD (Nat.add (0 : Nat) n8.toNat) Bool.false) (
 true) (
 false)) (
 bR (b11) (
 reqB (l7.length + (1 : Nat) ≤ (1000000 : Nat)) (
 reqB (((0 : Nat) + l7.length) * (0 + (1 : Nat)) ≤ l7.length.mul (1 : Nat)) (
 bR (bR (bR (dec ((0 : Nat) = (0 : Nat))) (
 dec (l5.length = l5.length)) (
 false)) (
 bR (bR (dec ((0 : Nat) = (0 : Nat))) (
 dec (l5.length = l5.length)) (
 false)) (
 bR (dec ((↑l5.length : Int) = (↑l5.length : Int))) (
 true) (
 false)) (
 false)) (
 false)) (
 bR (bR (bR (dec (n0 = n0)) (
 bR (dec (n1 = n1)) (
 bR (dec (n2 = n2)) (
 bR (dec (n3 = n3)) (
 bR (bR (b4) (
 b4) (
 bR (b4) (
 false) (
 true))) (
 true) (
 false)) (
 false)) (
 false)) (
 false)) (
 false)) (
 bR (bR (dec (n0 = n0)) (
 bR (dec (n1 = n1)) (
 true) (
 false)) (
 false)) (
 true) (
 false)) (
 false)) (
 reqB (((0 : Nat) + l7.length.add (1 : Nat)) * (1 : Nat) ≤ (l7.length.add (1 : Nat)).mul (0 + (1 : Nat))) (
 reqB (l7.length.add (1 : Nat) ≤ (10000 : Nat)) (
 reqB ((List.take (l7.length.add (1 : Nat))
 (List.drop (0 : Nat) (List.take l7.length (List.drop (0 : Nat) l7) ++ [Bool.true]))).length =
 l7.length.add (1 : Nat)) (
 reqB ((0 : Int) ≤ n8 + (1 : Int)) (
 reqB (n8 + (1 : Int) ≤ (10000 : Int)) (
 reqB ((0 : Int) ≤ Min.min (n9 + (1 : Int)) n0) (
 reqB (Min.min (n9 + (1 : Int)) n0 ≤ (100 : Int)) (
 reqB (foldL.inv
 [DV.lb (List.take l5.length (List.drop (0 : Nat) l5)), DV.n n0, DV.n n1, DV.n n2,
 DV.n n3, DV.b b4]
 [DV.lb
 (List.take (l7.length.add (1 : Nat))
 (List.drop (0 : Nat) (List.take l7.length (List.drop (0 : Nat) l7) ++ [Bool.true]))),
 DV.n (n8 + (1 : Int)), DV.n (Min.min (n9 + (1 : Int)) n0), DV.n (0 : Int), DV.b Bool.true]) (
 reqB (foldL.mea
 [DV.lb (List.take l5.length (List.drop (0 : Nat) l5)), DV.n n0, DV.n n1, DV.n n2,
 DV.n n3, DV.b b4]
 [DV.lb
 (List.take (l7.length.add (1 : Nat))
 (List.drop (0 : Nat) (List.take l7.length (List.drop (0 : Nat) l7) ++ [Bool.true]))),
 DV.n (n8 + (1 : Int)), DV.n (Min.min (n9 + (1 : Int)) n0), DV.n (0 : Int),
 DV.b Bool.true] <
 foldL.mea
 [DV.lb (List.take l5.length (List.drop (0 : Nat) l5)), DV.n n0, DV.n n1, DV.n n2,
 DV.n n3, DV.b b4]
 [DV.lb l7, DV.n n8, DV.n n9, DV.n n10, DV.b b11]) (
 true)))))))))) (
 false)) (
 false)))) (
 reqB (l7.length + (1 : Nat) ≤ (1000000 : Nat)) (
 reqB (((0 : Nat) + l7.length) * (0 + (1 : Nat)) ≤ l7.length.mul (1 : Nat)) (
 bR (bR (bR (dec ((0 : Nat) = (0 : Nat))) (
 dec (l5.length = l5.length)) (
 false)) (
 bR (bR (dec ((0 : Nat) = (0 : Nat))) (
 dec (l5.length = l5.length)) (
 false)) (
 bR (dec ((↑l5.length : Int) = (↑l5.length : Int))) (
 true) (
 false)) (
 false)) (
 false)) (
 bR (bR (bR (dec (n0 = n0)) (
 bR (dec (n1 = n1)) (
 bR (dec (n2 = n2)) (
 bR (dec (n3 = n3)) (
 bR (bR (b4) (
 b4) (
 bR (b4) (
 false) (
 true))) (
 true) (
 false)) (
 false)) (
 false)) (
 false)) (
 false)) (
 bR (bR (dec (n0 = n0)) (
 bR (dec (n1 = n1)) (
 true) (
 false)) (
 false)) (
 true) (
 false)) (
 false)) (
 reqB (((0 : Nat) + l7.length.add (1 : Nat)) * (1 : Nat) ≤ (l7.length.add (1 : Nat)).mul (0 + (1 : Nat))) (
 reqB (l7.length.add (1 : Nat) ≤ (10000 : Nat)) (
 reqB ((List.take (l7.length.add (1 : Nat))
 (List.drop (0 : Nat)
 (List.take l7.length (List.drop (0 : Nat) l7) ++ [dec (Min.min (n9 + (1 : Int)) n0 = n0)]))).length =
 l7.length.add (1 : Nat)) (
 reqB ((0 : Int) ≤ n8 + (1 : Int)) (
 reqB (n8 + (1 : Int) ≤ (10000 : Int)) (
 reqB ((0 : Int) ≤ Min.min (n9 + (1 : Int)) n0) (
 reqB (Min.min (n9 + (1 : Int)) n0 ≤ (100 : Int)) (
 reqB (foldL.inv
 [DV.lb (List.take l5.length (List.drop (0 : Nat) l5)), DV.n n0, DV.n n1, DV.n n2,
 DV.n n3, DV.b b4]
 [DV.lb
 (List.take (l7.length.add (1 : Nat))
 (List.drop (0 : Nat)
 (List.take l7.length (List.drop (0 : Nat) l7) ++ [dec (Min.min (n9 + (1 : Int)) n0 = n0)]))),
 DV.n (n8 + (1 : Int)), DV.n (Min.min (n9 + (1 : Int)) n0), DV.n (0 : Int),
 DV.b (dec (Min.min (n9 + (1 : Int)) n0 = n0))]) (
 reqB (foldL.mea
 [DV.lb (List.take l5.length (List.drop (0 : Nat) l5)), DV.n n0, DV.n n1, DV.n n2,
 DV.n n3, DV.b b4]
 [DV.lb
 (List.take (l7.length.add (1 : Nat))
 (List.drop (0 : Nat)
 (List.take l7.length (List.drop (0 : Nat) l7) ++ [dec (Min.min (n9 + (1 : Int)) n0 = n0)]))),
 DV.n (n8 + (1 : Int)), DV.n (Min.min (n9 + (1 : Int)) n0), DV.n (0 : Int),
 DV.b (dec (Min.min (n9 + (1 : Int)) n0 = n0))] <
 foldL.mea
 [DV.lb (List.take l5.length (List.drop (0 : Nat) l5)), DV.n n0, DV.n n1, DV.n n2,
 DV.n n3, DV.b b4]
 [DV.lb l7, DV.n n8, DV.n n9, DV.n n10, DV.b b11]) (
 true)))))))))) (
 false)) (
 false))))) (
 bR (bR (l5.getD (Nat.add (0 : Nat) n8.toNat) Bool.false) (
 false) (
 true)) (
 bR (b11) (
 reqB (l7.length + (1 : Nat) ≤ (1000000 : Nat)) (
 reqB (((0 : Nat) + l7.length) * (0 + (1 : Nat)) ≤ l7.length.mul (1 : Nat)) (
 bR (bR (bR (dec ((0 : Nat) = (0 : Nat))) (
 dec (l5.length = l5.length)) (
 false)) (
 bR (bR (dec ((0 : Nat) = (0 : Nat))) (
 dec (l5.length = l5.length)) (
 false)) (
 bR (dec ((↑l5.length : Int) = (↑l5.length : Int))) (
 true) (
 false)) (
 false)) (
 false)) (
 bR (bR (bR (dec (n0 = n0)) (
 bR (dec (n1 = n1)) (
 bR (dec (n2 = n2)) (
 bR (dec (n3 = n3)) (
 bR (bR (b4) (
 b4) (
 bR (b4) (
 false) (
 true))) (
 true) (
 false)) (
 false)) (
 false)) (
 false)) (
 false)) (
 bR (bR (dec (n0 = n0)) (
 bR (dec (n1 = n1)) (
 true) (
 false)) (
 false)) (
 true) (
 false)) (
 false)) (
 reqB (((0 : Nat) + l7.length.add (1 : Nat)) * (1 : Nat) ≤ (l7.length.add (1 : Nat)).mul (0 + (1 : Nat))) (
 reqB (l7.length.add (1 : Nat) ≤ (10000 : Nat)) (
 reqB ((List.take (l7.length.add (1 : Nat))
 (List.drop (0 : Nat)
 (List.take l7.length (List.drop (0 : Nat) l7) ++ [dec (Min.min (n10 + (1 : Int)) n1 < n1)]))).length =
 l7.length.add (1 : Nat)) (
 reqB ((0 : Int) ≤ n8 + (1 : Int)) (
 reqB (n8 + (1 : Int) ≤ (10000 : Int)) (
 reqB ((0 : Int) ≤ Min.min (n10 + (1 : Int)) n1) (
 reqB (Min.min (n10 + (1 : Int)) n1 ≤ (100 : Int)) (
 reqB (foldL.inv
 [DV.lb (List.take l5.length (List.drop (0 : Nat) l5)), DV.n n0, DV.n n1, DV.n n2,
 DV.n n3, DV.b b4]
 [DV.lb
 (List.take (l7.length.add (1 : Nat))
 (List.drop (0 : Nat)
 (List.take l7.length (List.drop (0 : Nat) l7) ++ [dec (Min.min (n10 + (1 : Int)) n1 < n1)]))),
 DV.n (n8 + (1 : Int)), DV.n (0 : Int), DV.n (Min.min (n10 + (1 : Int)) n1),
 DV.b (dec (Min.min (n10 + (1 : Int)) n1 < n1))]) (
 reqB (foldL.mea
 [DV.lb (List.take l5.length (List.drop (0 : Nat) l5)), DV.n n0, DV.n n1, DV.n n2,
 DV.n n3, DV.b b4]
 [DV.lb
 (List.take (l7.length.add (1 : Nat))
 (List.drop (0 : Nat)
 (List.take l7.length (List.drop (0 : Nat) l7) ++ [dec (Min.min (n10 + (1 : Int)) n1 < n1)]))),
 DV.n (n8 + (1 : Int)), DV.n (0 : Int), DV.n (Min.min (n10 + (1 : Int)) n1),
 DV.b (dec (Min.min (n10 + (1 : Int)) n1 < n1))] <
 foldL.mea
 [DV.lb (List.take l5.length (List.drop (0 : Nat) l5)), DV.n n0, DV.n n1, DV.n n2,
 DV.n n3, DV.b b4]
 [DV.lb l7, DV.n n8, DV.n n9, DV.n n10, DV.b b11]) (
 true)))))))))) (
 false)) (
 false)))) (
 reqB (l7.length + (1 : Nat) ≤ (1000000 : Nat)) (
 reqB (((0 : Nat) + l7.length) * (0 + (1 : Nat)) ≤ l7.length.mul (1 : Nat)) (
 bR (bR (bR (dec ((0 : Nat) = (0 : Nat))) (
 dec (l5.length = l5.length)) (
 false)) (
 bR (bR (dec ((0 : Nat) = (0 : Nat))) (
 dec (l5.length = l5.length)) (
 false)) (
 bR (dec ((↑l5.length : Int) = (↑l5.length : Int))) (
 true) (
 false)) (
 false)) (
 false)) (
 bR (bR (bR (dec (n0 = n0)) (
 bR (dec (n1 = n1)) (
 bR (dec (n2 = n2)) (
 bR (dec (n3 = n3)) (
 bR (bR (b4) (
 b4) (
 bR (b4) (
 false) (
 true))) (
 true) (
 false)) (
 false)) (
 false)) (
 false)) (
 false)) (
 bR (bR (dec (n0 = n0)) (
 bR (dec (n1 = n1)) (
 true) (
 false)) (
 false)) (
 true) (
 false)) (
 false)) (
 reqB (((0 : Nat) + l7.length.add (1 : Nat)) * (1 : Nat) ≤ (l7.length.add (1 : Nat)).mul (0 + (1 : Nat))) (
 reqB (l7.length.add (1 : Nat) ≤ (10000 : Nat)) (
 reqB ((List.take (l7.length.add (1 : Nat))
 (List.drop (0 : Nat) (List.take l7.length (List.drop (0 : Nat) l7) ++ [Bool.false]))).length =
 l7.length.add (1 : Nat)) (
 reqB ((0 : Int) ≤ n8 + (1 : Int)) (
 reqB (n8 + (1 : Int) ≤ (10000 : Int)) (
 reqB ((0 : Int) ≤ Min.min (n10 + (1 : Int)) n1) (
 reqB (Min.min (n10 + (1 : Int)) n1 ≤ (100 : Int)) (
 reqB (foldL.inv
 [DV.lb (List.take l5.length (List.drop (0 : Nat) l5)), DV.n n0, DV.n n1, DV.n n2,
 DV.n n3, DV.b b4]
 [DV.lb
 (List.take (l7.length.add (1 : Nat))
 (List.drop (0 : Nat) (List.take l7.length (List.drop (0 : Nat) l7) ++ [Bool.false]))),
 DV.n (n8 + (1 : Int)), DV.n (0 : Int), DV.n (Min.min (n10 + (1 : Int)) n1), DV.b Bool.false]) (
 reqB (foldL.mea
 [DV.lb (List.take l5.length (List.drop (0 : Nat) l5)), DV.n n0, DV.n n1, DV.n n2,
 DV.n n3, DV.b b4]
 [DV.lb
 (List.take (l7.length.add (1 : Nat))
 (List.drop (0 : Nat) (List.take l7.length (List.drop (0 : Nat) l7) ++ [Bool.false]))),
 DV.n (n8 + (1 : Int)), DV.n (0 : Int), DV.n (Min.min (n10 + (1 : Int)) n1),
 DV.b Bool.false] <
 foldL.mea
 [DV.lb (List.take l5.length (List.drop (0 : Nat) l5)), DV.n n0, DV.n n1, DV.n n2,
 DV.n n3, DV.b b4]
 [DV.lb l7, DV.n n8, DV.n n9, DV.n n10, DV.b b11]) (
 true)))))))))) (
 false)) (
 false))))) (
 false))))) (
 reqB ((-9223372036854775808 : Int) ≤ n0) (
 reqB (n0 ≤ (9223372036854775807 : Int)) (
 reqB ((-9223372036854775808 : Int) ≤ n1) (
 reqB (n1 ≤ (9223372036854775807 : Int)) (
 reqB ((-9223372036854775808 : Int) ≤ n9) (
 reqB (n9 ≤ (9223372036854775807 : Int)) (
 reqB ((-9223372036854775808 : Int) ≤ n10) (
 reqB (n10 ≤ (9223372036854775807 : Int)) (
 reqB (((0 : Nat) + l7.length) * (1 : Nat) ≤ l7.length.mul (1 : Nat)) (
 reqB (l7.length ≤ (10000 : Nat)) (
 reqB ((List.take l7.length (List.drop (0 : Nat) l7)).length = l7.length) (
 reqB (sigRun.post [DV.n n0, DV.n n1, DV.n n2, DV.n n3, DV.b b4, DV.lb l5]
 [DV.n n0, DV.n n1, DV.n n9, DV.n n10, DV.b b11,
 DV.lb (List.take l7.length (List.drop (0 : Nat) l7)), DV.n (0 : Int)]) (
 true))))))))))))))))))))))))))))))))))))))))))))))))))))))))))))))))))) := by kernel_rfl
set_option maxHeartbeats 8000000 in
theorem vt_runL : vcFn Try.prog [(15, Ext.ctr (ctOf sigChk))] tab [] 100 18 sigRun = true := by
  rw [vc_runL]
  try simp only [bR_same, dec_same, bR_true, bR_false]
  simp only [allB_iff, impB_iff, reqB_iff, bR_iff, bR_iff_f, dec_iff, dec_f, reduceCtorEq, imp_false, Classical.not_not, implies_true, true_and, and_true]
  simp only [sigRun, runPost, sigChk, chkPost, foldL, foldInv, runMea, List.drop_zero, List.take_length, Nat.add_eq, Nat.mul_eq, Nat.zero_add, Nat.mul_one, wrap_i64, dec_eq]
  repeat' (first | intro _ | apply And.intro)
  all_goals first | omega | (grind [chk_range, chk_zero, runS_snoc, outS_snoc, outS_length, take_next, runS, outS, stp])
theorem ext_runL : ∀ p ∈ ([(15, Ext.ctr (ctOf sigChk))] : List (Nat × Ext)), ExtRow Try.prog p.1 p.2 := by
  intro p hp
  simp only [List.mem_cons, List.not_mem_nil, or_false] at hp
  rcases hp with rfl
  · trivial
theorem cts_runL : CtsOk Try.prog [(15, Ext.ctr (ctOf sigChk))] := ctsOk_of (cs := [(15, sigChk)])
  (fun p hp => by
    simp only [List.mem_cons, List.not_mem_nil, or_false] at hp
    rcases hp with rfl
    · exact fn_chkL
)
  (fun f c h => by
    simp only [List.lookup_cons] at h
    repeat' split at h
    all_goals first | (cases h; done) | (rename_i e; have e := beq_iff_eq.1 e; subst e; cases h; exact ⟨_, by simp, rfl⟩))
theorem fn_runL : FnOk Try.prog 18 sigRun [] := fn_sound (by kernel_rfl) ext_runL cts_runL names vt_runL
end Go.Proofs.Ytlhcjklfcpbcaaa

