import Derived.Test.YtpmlodchbgfmeaaSpecGold
namespace Go.Sp
open Go.Ev
noncomputable def codeFL : LSpec := ⟨[0, 1, 2, 7, 13, 14], [(.tmp 15, ib 0 1100), (.blk (key 3), .l [.i .i64 (-9223372036854775808) 9223372036854775807] 1000000)], [(.tmp 0, cB), (.tmp 1, cB), (.tmp 2, ib 1 1100)], codeFInv, meaC, 20⟩
noncomputable def codeRL : LSpec := ⟨[0, 1, 6, 8, 10, 12], [(.tmp 13, ib 0 1100), (.blk (key 3), .l [.i .i64 (-9223372036854775808) 9223372036854775807] 1000000)], [(.tmp 8, cB), (.tmp 10, cB), (.tmp 1, i64)], codeFInv, meaC, 20⟩
noncomputable def sumLS : LSpec := ⟨[7, 17, 18], [(.tmp 19, ib 0 1100), (.tmp 8, ib (-1100) 1100)], [(.tmp 17, cCh)], sumInv, meaC, 20⟩
noncomputable def sumRL : LSpec := ⟨[6], [(.tmp 9, ib 0 1100), (.tmp 8, ib (-1100) 1100)], [(.tmp 6, cCh)], sumInv, meaC, 20⟩
noncomputable def equGL : LSpec := ⟨[0, 1], [(.tmp 5, ib 0 1100)], [(.tmp 0, cW), (.tmp 1, cW)], equGInv, meaC, 20⟩
theorem nG_bd {d : Int} : 31 ≤ nG d ∧ nG d ≤ 1023 := by unfold nG; repeat' split; all_goals omega
theorem codeF_step {u v c : List Int} {p i x : Int} (h0 : 0 ≤ i) (hi : i < (u.length : Int)) (hl : c.length = u.length) (h : ∀ j : Nat, (j : Int) < i → c.getD j 0 = 1 - 2 * chipB u v p j) (hx : x = 1 - 2 * chipB u v p i.toNat) :
    0 ≤ i + 1 ∧ i + 1 ≤ (u.length : Int) ∧ (c.set i.toNat x).length = u.length ∧ ∀ j : Nat, (j : Int) < i + 1 → (c.set i.toNat x).getD j 0 = 1 - 2 * chipB u v p j := by
  refine ⟨by omega, by omega, by rw [List.length_set, hl], fun j hj => ?_⟩
  rw [getD_set]
  by_cases e : i.toNat = j
  · rw [if_pos ⟨e, by omega⟩, hx, e]
  · rw [if_neg (fun g => e g.1)]; exact h j (by omega)
theorem chipB2 {u v : List Int} {i : Int} : chipB u v 2 i.toNat = v.getD i.toNat 0 := by rw [chipB, if_neg (by omega), if_pos rfl]
theorem chipB1 {u v : List Int} {i : Int} : chipB u v 1 i.toNat = u.getD i.toNat 0 := by rw [chipB, if_pos rfl]
theorem chipB3 {u v : List Int} {i p m : Int} (hp : 2 < p) (h : 0 ≤ i) (e : m = (i + p - 3) % (v.length : Int)) : chipB u v p i.toNat = (u.getD i.toNat 0 + v.getD m.toNat 0) % 2 := by
  rw [chipB, if_neg (by omega), if_neg (by omega), Int.toNat_of_nonneg h, e]
theorem code_no {d p e : Int} (h : ¬(okD d ∧ 1 ≤ p ∧ p ≤ nG d + 2)) (he : e = 2) : codePost [.n d, .n p] [.l [], .n e] := ite_no h ⟨he, rfl⟩
theorem code_yes {d p e : Int} {c : List Int} (h : okD d ∧ 1 ≤ p ∧ p ≤ nG d + 2) (he : e = 0) (hc : c = codeL d p) : codePost [.n d, .n p] [.l c, .n e] := ite_yes h ⟨he, hc⟩
theorem sum_no {d p e s : Int} (h : ¬(okD d ∧ 1 ≤ p ∧ p ≤ nG d + 2)) (he : e = 2) (hs : s = 0) : sumPost [.n d, .n p] [.n s, .n e] := ite_no h ⟨he, hs⟩
theorem sum_yes {d p e s : Int} (h : okD d ∧ 1 ≤ p ∧ p ≤ nG d + 2) (he : e = 0) (hs : s = sumL (codeL d p)) : sumPost [.n d, .n p] [.n s, .n e] := ite_yes h ⟨he, hs⟩
def sigNG3 : Sig := sigNG 3
def sigNG4 : Sig := sigNG 4
def sigNG5 : Sig := sigNG 5
end Go.Sp
