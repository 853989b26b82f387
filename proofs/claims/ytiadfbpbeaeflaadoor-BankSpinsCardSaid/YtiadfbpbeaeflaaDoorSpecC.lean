import Derived.Test.YtiadfbpbeaeflaaDoorEvSY
namespace Go.Sp
open Go.Ev
noncomputable section
def cI (k : IntKind) : CX := .i k k.min k.max
def i64 : CX := .i .i64 (-9223372036854775808) 9223372036854775807
def ib (lo hi : Int) : CX := .i .i64 lo hi
def u64 : CX := .i .u64 0 18446744073709551615
def at2 (f p f0 p0 : Nat) (s : LSpec) (r : Option LSpec) : Option LSpec := bR (Nat.beq f f0) (bR (Nat.beq p p0) (some s) r) r
def noA : Nat → LT := fun _ _ _ => none
def sigTrue0 : Sig := ⟨[], [.one .b], fun _ => True, fun _ rs => rs = [.b true]⟩
def pickPost : List DV → List DV → Prop
  | [.n x, .n n], [.n r] => r = x % n ∧ 0 ≤ r ∧ r < n
  | _, _ => False
def sigPickN (m : Int) : Sig := ⟨[.one i64, .one (.i .i64 1 m)], [.one (.i .i64 0 m)], fun _ => True, pickPost⟩
theorem all_i {σ : Type} {p : σ → Bool} (h : ∀ x, p x = true) : allB p = true := allB_iff.2 h
theorem imp_i {p : Prop} {k : Bool} (h : p → k = true) : impB p k = true := impB_iff.2 h
theorem req_i {p : Prop} {k : Bool} (h : p) (g : k = true) : reqB p k = true := reqB_iff.2 ⟨h, g⟩
theorem bR_i {c t e : Bool} (h : c = true → t = true) (g : c = false → e = true) : bR c t e = true := by cases c; exact g rfl; exact h rfl
theorem bR_t {c t e : Bool} (h : c = true) (g : t = true) : bR c t e = true := by cases h; exact g
theorem bR_dec {p : Prop} {t e : Bool} (h : p → t = true) (g : ¬p → e = true) : bR (dec p) t e = true := bR_i (fun x => h (dec_iff.1 x)) (fun x => g fun y => by rw [dec_iff.2 y] at x; cases x)
theorem dec_true' {p : Prop} : dec p = true ↔ p := dec_iff
theorem tmod_of {x n : Int} (h : 0 < n) : (x.tmod n < 0 → x.tmod n + n = x % n) ∧ (¬ x.tmod n < 0 → x.tmod n = x % n) ∧ 0 ≤ x % n ∧ x % n < n := by
  have h1 := Int.emod_nonneg x (Int.ne_of_gt h)
  have h2 := Int.emod_lt_of_pos x h
  have h3 := Int.tmod_eq_emod (a := x) (b := n)
  split at h3 <;> omega
theorem tdiv_nn {a b : Int} (h : 0 ≤ a) : a.tdiv b = a / b := Int.tdiv_eq_ediv_of_nonneg h
theorem tmod_nn {a b : Int} (h : 0 ≤ a) : a.tmod b = a % b := Int.tmod_eq_emod_of_nonneg h
theorem getD_bd {l : List Int} {lo hi : Int} {i : Nat} (h : ∀ y ∈ l, lo ≤ y ∧ y ≤ hi) (h1 : lo ≤ 0) (h2 : 0 ≤ hi) : lo ≤ l.getD i 0 ∧ l.getD i 0 ≤ hi := by
  rw [List.getD_eq_getElem?_getD]
  cases e : l[i]? with
  | none => exact ⟨h1, h2⟩
  | some y => exact h y (List.mem_of_getElem? e)
theorem getD_in {l : List Int} {lo hi : Int} {i : Nat} (h : ∀ y ∈ l, lo ≤ y ∧ y ≤ hi) (h1 : i < l.length) : lo ≤ l.getD i 0 ∧ l.getD i 0 ≤ hi := by
  rw [List.getD_eq_getElem?_getD, List.getElem?_eq_getElem h1]
  exact h _ (List.getElem_mem h1)
theorem andB_iff' {a b : Bool} : andB a b = true ↔ a = true ∧ b = true := by cases a <;> cases b <;> simp [andB, bR]
theorem beqB_iff' {a b : Bool} : beqB a b = true ↔ a = b := by cases a <;> cases b <;> simp [beqB, bR]
theorem take_next {α : Type} {d : α} {l : List α} {n : Int} (h : 0 ≤ n) (k : n < (l.length : Int)) : l.take (n + 1).toNat = l.take n.toNat ++ [l.getD n.toNat d] := by
  have e : (n + 1).toNat = n.toNat + 1 := by omega
  have hl : n.toNat < l.length := by omega
  rw [e, List.take_succ_eq_append_getElem hl]
  simp [List.getD_eq_getElem?_getD, hl]
theorem take_all {α : Type} {l : List α} {n : Int} (h : ¬ n < (l.length : Int)) : l.take n.toNat = l := List.take_of_length_le (by omega)
theorem eq_of_getD {α : Type} {d : α} {a b : List α} (h : a.length = b.length) (k : ∀ j, j < a.length → a.getD j d = b.getD j d) : a = b :=
  List.ext_getElem h fun i h1 h2 => by have := k i h1; simpa [List.getD_eq_getElem?_getD, h1, h2] using this
end
end Go.Sp
