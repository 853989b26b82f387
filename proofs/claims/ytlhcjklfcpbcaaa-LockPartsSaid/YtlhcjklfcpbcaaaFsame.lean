import Derived.Test.YtlhcjklfcpbcaaaSpec
import Derived.Test.YtlhcjklfcpbcaaaRows
import Derived.Test.YtlhcjklfcpbcaaaFnames
namespace Go.Proofs.Ytlhcjklfcpbcaaa
open Go.Ev Go.Sp
set_option maxRecDepth 100000
theorem vc_same : vcFn Try.prog [] tab [] 100 20 sigSame = (allB fun l0 : List Bool => 
impB (l0.length ≤ (9223372036854775807 : Nat)) (
allB fun l1 : List Bool => 
impB (l1.length ≤ (9223372036854775807 : Nat)) (
impB (sigSame.pre [DV.lb l0, DV.lb l1]) (
bR (dec ((↑l0.length : Int) ≠ (↑l1.length : Int))) (
 reqB (sigSame.post [DV.lb l0, DV.lb l1] [DV.b Bool.false]) (
 true)) (
 reqB (((0 : Nat) + l0.length) * (1 : Nat) ≤ l0.length.mul (1 : Nat)) (
 reqB (l0.length ≤ (9223372036854775807 : Nat)) (
 reqB ((List.take l0.length (List.drop (0 : Nat) l0)).length = l0.length) (
 reqB (((0 : Nat) + l1.length) * (1 : Nat) ≤ l1.length.mul (1 : Nat)) (
 reqB (l1.length ≤ (9223372036854775807 : Nat)) (
 reqB ((List.take l1.length (List.drop (0 : Nat) l1)).length = l1.length) (
 reqB (samL.inv
  [DV.lb (List.take l0.length (List.drop (0 : Nat) l0)),
    DV.lb (List.take l1.length (List.drop (0 : Nat) l1))]
  [DV.n (0 : Int)]) (
 allB fun n2 : Int => 
 impB ((-9223372036854775808 : Int) ≤ n2) (
 impB (n2 ≤ (9223372036854775807 : Int)) (
 impB (samL.inv
  [DV.lb (List.take l0.length (List.drop (0 : Nat) l0)),
    DV.lb (List.take l1.length (List.drop (0 : Nat) l1))]
  [DV.n n2]) (
 bR (dec (n2 < (↑l0.length : Int))) (
  reqB ((0 : Int) ≤ n2) (
  reqB (n2.toNat < l0.length) (
  reqB (Nat.add (0 : Nat) n2.toNat < l0.length) (
  reqB ((0 : Int) ≤ n2) (
  reqB (n2.toNat < l1.length) (
  reqB (Nat.add (0 : Nat) n2.toNat < l1.length) (
  bR (bR (bR (l0.getD (Nat.add (0 : Nat) n2.toNat) Bool.false) (
   l1.getD (Nat.add (0 : Nat) n2.toNat) Bool.false) (
   bR (l1.getD (Nat.add (0 : Nat) n2.toNat) Bool.false) (
    false) (
    true))) (
   false) (
   true)) (
   reqB (sigSame.post [DV.lb l0, DV.lb l1] [DV.b Bool.false]) (
   true)) (
   allB fun n3 : Int => 
   impB (n3 = Go.IntKind.i64.wrap (n2 + (1 : Int))) (
   impB (Int.negSucc (9223372036854775807 : Nat) ≤ n3) (
   impB (n3 ≤ Int.ofNat (9223372036854775807 : Nat)) (
   bR (bR (bR (dec ((0 : Nat) = (0 : Nat))) (
    dec (l0.length = l0.length)) (
    false)) (
    bR (bR (dec ((0 : Nat) = (0 : Nat))) (
     dec (l1.length = l1.length)) (
     false)) (
     true) (
     false)) (
    false)) (
    reqB ((-9223372036854775808 : Int) ≤ n3) (
    reqB (n3 ≤ (9223372036854775807 : Int)) (
    reqB (samL.inv
  [DV.lb (List.take l0.length (List.drop (0 : Nat) l0)),
    DV.lb (List.take l1.length (List.drop (0 : Nat) l1))]
  [DV.n n3]) (
    reqB (samL.mea
    [DV.lb (List.take l0.length (List.drop (0 : Nat) l0)),
      DV.lb (List.take l1.length (List.drop (0 : Nat) l1))]
    [DV.n n3] <
  samL.mea
    [DV.lb (List.take l0.length (List.drop (0 : Nat) l0)),
      DV.lb (List.take l1.length (List.drop (0 : Nat) l1))]
    [DV.n n2]) (
    true))))) (
    false)))))))))))) (
  reqB (sigSame.post [DV.lb l0, DV.lb l1] [DV.b Bool.true]) (
  true))))))))))))))))) := by kernel_rfl
set_option maxHeartbeats 8000000 in
theorem vt_same : vcFn Try.prog [] tab [] 100 20 sigSame = true := by
  rw [vc_same]
  try simp only [bR_same, dec_same, bR_true, bR_false]
  simp only [allB_iff, impB_iff, reqB_iff, bR_iff, bR_iff_f, dec_iff, dec_f, reduceCtorEq, imp_false, Classical.not_not, implies_true, true_and, and_true]
  simp only [sigSame, samePost, samL, sameInv, sameMea, List.drop_zero, List.take_length, Nat.add_eq, Nat.mul_eq, Nat.zero_add, Nat.mul_one, wrap_i64]
  repeat' (first | intro _ | apply And.intro)
  all_goals first | omega | grind | exact ⟨fun _ => eq_of_getD (by omega) (by grind), fun _ => trivial⟩
theorem ext_same : ∀ p ∈ ([] : List (Nat × Ext)), ExtRow Try.prog p.1 p.2 := by
  intro p hp
  cases hp
theorem cts_same : CtsOk Try.prog [] := fun f c h => by cases h
theorem fn_same : FnOk Try.prog 20 sigSame [] := fn_sound (by kernel_rfl) ext_same cts_same names vt_same
end Go.Proofs.Ytlhcjklfcpbcaaa
