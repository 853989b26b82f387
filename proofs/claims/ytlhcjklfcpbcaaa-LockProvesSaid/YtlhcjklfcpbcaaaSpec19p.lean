import Derived.Test.YtlhcjklfcpbcaaaSpec19
namespace Go.Sp
open Go.Ev
noncomputable section
theorem all_i {σ : Type} {p : σ → Bool} (h : ∀ x, p x = true) : allB p = true := allB_iff.2 h
theorem imp_i {p : Prop} {k : Bool} (h : p → k = true) : impB p k = true := impB_iff.2 h
theorem req_i {p : Prop} {k : Bool} (h : p) (g : k = true) : reqB p k = true := reqB_iff.2 ⟨h, g⟩
theorem bR_i {c t e : Bool} (h : c = true → t = true) (g : c = false → e = true) : bR c t e = true := by cases c; exact g rfl; exact h rfl
theorem bR_t {c t e : Bool} (h : c = true) (g : t = true) : bR c t e = true := by cases h; exact g
theorem bR_dec {p : Prop} {t e : Bool} (h : p → t = true) (g : ¬p → e = true) : bR (dec p) t e = true := bR_i (fun x => h (dec_iff.1 x)) (fun x => g fun y => by rw [dec_iff.2 y] at x; cases x)
theorem lenCols_i (k : IntKind) (lo hi : Int) (l : List Int) (r : List Col) : lenCols (Col.i k lo hi l :: r) = l.length := rfl
theorem lenCols_b (l : List Bool) (r : List Col) : lenCols (Col.b l :: r) = l.length := rfl
theorem rep_bd {lo hi x : Int} {n : Nat} (h1 : lo ≤ x) (h2 : x ≤ hi) : ∀ y ∈ List.replicate n x, lo ≤ y ∧ y ≤ hi := fun y hy => by
  rw [List.eq_of_mem_replicate hy]; exact ⟨h1, h2⟩
theorem set_bd {l : List Int} {lo hi x : Int} {i : Nat} (h : ∀ y ∈ l, lo ≤ y ∧ y ≤ hi) (h1 : lo ≤ x) (h2 : x ≤ hi) : ∀ y ∈ l.set i x, lo ≤ y ∧ y ≤ hi := fun y hy => by
  rcases List.mem_or_eq_of_mem_set hy with g | rfl
  · exact h y g
  · exact ⟨h1, h2⟩
theorem take_bd {l : List Int} {lo hi : Int} {n : Nat} (h : ∀ y ∈ l, lo ≤ y ∧ y ≤ hi) : ∀ y ∈ l.take n, lo ≤ y ∧ y ≤ hi := fun y hy => h y (List.mem_of_mem_take hy)
theorem take_eq {α β : Type} {l : List α} {m : List β} (h : m.length = l.length) : m.take l.length = m := by rw [← h]; exact List.take_length
theorem getD_set {α : Type} {d x : α} {l : List α} {i j : Nat} : (l.set i x).getD j d = if i = j ∧ j < l.length then x else l.getD j d := by
  rw [List.getD_eq_getElem?_getD, List.getD_eq_getElem?_getD, List.getElem?_set]
  by_cases h : i = j
  · subst h
    by_cases g : i < l.length
    · simp [g]
    · simp [g]
  · simp [h]
theorem getD_rep {α : Type} {d x : α} {n j : Nat} : (List.replicate n x).getD j d = if j < n then x else d := by
  rw [List.getD_eq_getElem?_getD, List.getElem?_replicate]
  split <;> rfl
theorem toNat_succ {i : Int} (h : 0 ≤ i) : (i + 1).toNat = i.toNat + 1 := by omega
def upN (l : List Bool) : Nat → Int
  | 0 => 0
  | k + 1 => if l.getD k false = true then upN l k + 1 else 0
def dnN (l : List Bool) : Nat → Int
  | 0 => 0
  | k + 1 => if l.getD k false = true then 0 else dnN l k + 1
def wN (a b : Int) (l : List Bool) : Nat → Bool
  | 0 => false
  | k + 1 => if a ≤ upN l (k + 1) then true else if b ≤ dnN l (k + 1) then false else wN a b l k
theorem upN_s (l : List Bool) (k : Nat) : upN l (k + 1) = if l.getD k false = true then upN l k + 1 else 0 := rfl
theorem dnN_s (l : List Bool) (k : Nat) : dnN l (k + 1) = if l.getD k false = true then 0 else dnN l k + 1 := rfl
theorem wN_s (a b : Int) (l : List Bool) (k : Nat) : wN a b l (k + 1) = if a ≤ upN l (k + 1) then true else if b ≤ dnN l (k + 1) then false else wN a b l k := rfl
theorem upN_bd (l : List Bool) : ∀ k : Nat, 0 ≤ upN l k ∧ upN l k ≤ k
  | 0 => ⟨Int.le_refl _, Int.le_refl _⟩
  | k + 1 => by have := upN_bd l k; rw [upN_s]; split <;> omega
theorem dnN_bd (l : List Bool) : ∀ k : Nat, 0 ≤ dnN l k ∧ dnN l k ≤ k
  | 0 => ⟨Int.le_refl _, Int.le_refl _⟩
  | k + 1 => by have := dnN_bd l k; rw [dnN_s]; split <;> omega
/-- the state after the first k claims -/
theorem run_state {a b : Int} {l : List Bool} (ha : 1 ≤ a) (hb : 1 ≤ b) : ∀ k : Nat, k ≤ l.length → runS a b (0, 0, false) (l.take k) = (min (upN l k) a, min (dnN l k) b, wN a b l k)
  | 0, _ => by
    show ((0 : Int), (0 : Int), false) = _
    simp only [upN, dnN, wN, Prod.mk.injEq, and_true]; omega
  | k + 1, hk => by
    have ih := run_state ha hb (l := l) k (by omega)
    have hl : k < l.length := by omega
    rw [List.take_succ_eq_append_getElem hl, runS_snoc, ih]
    have e : l[k] = l.getD k false := by simp [List.getD_eq_getElem?_getD, hl]
    rw [e]
    have u := upN_bd l k
    have d := dnN_bd l k
    have us := upN_s l k
    have ds := dnN_s l k
    cases hc : l.getD k false with
    | true =>
      rw [hc, if_pos rfl] at us ds
      rw [wN_s, us, ds]
      simp only [stp, if_true, Prod.mk.injEq]
      refine ⟨by omega, by omega, ?_⟩
      rw [if_neg (show ¬ b ≤ 0 by omega)]
      by_cases q : a ≤ upN l k + 1
      · rw [if_pos q, show decide (min (min (upN l k) a + 1) a = a) = true from decide_eq_true (by omega)]; simp
      · rw [if_neg q, show decide (min (min (upN l k) a + 1) a = a) = false from decide_eq_false (by omega)]; simp
    | false =>
      rw [hc, if_neg (by decide)] at us ds
      rw [wN_s, us, ds]
      simp only [stp, Bool.false_eq_true, if_false, Prod.mk.injEq]
      refine ⟨by omega, by omega, ?_⟩
      rw [if_neg (show ¬ a ≤ 0 by omega)]
      by_cases q : b ≤ dnN l k + 1
      · rw [if_pos q, show decide (min (min (dnN l k) b + 1) b < b) = false from decide_eq_false (by omega)]; simp
      · rw [if_neg q, show decide (min (min (dnN l k) b + 1) b < b) = true from decide_eq_true (by omega)]; simp
/-- whether it is locked behind a claim -/
theorem out_state {a b : Int} {l : List Bool} {k : Nat} (ha : 1 ≤ a) (hb : 1 ≤ b) (hk : k < l.length) : (outS a b (0, 0, false) l).getD k false = wN a b l (k + 1) := by
  have h := outS_get a b l (0, 0, false) k hk
  rw [h]
  have r := run_state (a := a) (b := b) (l := l) ha hb (k + 1) (by omega)
  rw [List.take_succ_eq_append_getElem hk, runS_snoc] at r
  have e : l[k] = l.getD k false := by simp [List.getD_eq_getElem?_getD, hk]
  rw [e] at r
  rw [r]
theorem w_dn {a b : Int} {l : List Bool} {k : Nat} (ha : 1 ≤ a) (hb : 1 ≤ b) (h : wN a b l (k + 1) = true) : dnN l (k + 1) < b := by
  rw [wN_s] at h
  split at h
  · rename_i q
    have us := upN_s l k
    have ds := dnN_s l k
    split at us
    · rename_i c; rw [if_pos c] at ds; omega
    · omega
  · split at h
    · cases h
    · omega
theorem w_all {a b : Int} {l : List Bool} (ha : 1 ≤ a) : ∀ k : Nat, dnN l k = k → wN a b l k = false
  | 0, _ => rfl
  | k + 1, h => by
    have ds := dnN_s l k
    have us := upN_s l k
    have bd := dnN_bd l k
    split at ds
    · omega
    · rename_i c
      rw [if_neg c] at us
      have ih := w_all (b := b) (l := l) ha k (by omega)
      rw [wN_s, us, if_neg (by omega), ih]
      split <;> rfl
def ibL (lo hi : Int) : CX := .i .i64 lo hi
def sigLP : Sig := ⟨[.one i64, .one i64, lbV], [.one .b], fun _ => True, fun _ rs => rs = [.b true]⟩
def lbC : CX := .l [.b] 9223372036854775807
def outInv : List DV → List DV → Prop
  | [.lb l], [.n i] => 0 ≤ i ∧ i ≤ (l.length : Int)
  | _, _ => False
def outMea : List DV → List DV → Nat
  | [.lb l], [.n i] => ((l.length : Int) - i).toNat
  | _, _ => 0
def outL : LSpec := ⟨[0, 1, 2, 7, 11], [(.tmp 13, ibL 0 200)], [(.tmp 2, lbC)], outInv, outMea, 100⟩
def kInv : List DV → List DV → Prop
  | [.lb l, .n a, .n b, .n i], [.b w, .n k] => w = false ∧ -1 ≤ k ∧ k ≤ i ∧ wN a b l (i + 1).toNat = wN a b l (k + 1).toNat
  | _, _ => False
def kMea : List DV → List DV → Nat
  | _, [.b _, .n k] => (k + 1).toNat
  | _, _ => 0
def kL : LSpec := ⟨[0, 1, 2, 7, 11, 13], [(.tmp 14, .b), (.tmp 15, ibL (-1) 200)], [(.tmp 2, lbC), (.tmp 0, ibL 1 8), (.tmp 1, ibL 1 8), (.tmp 13, ibL 0 200)], kInv, kMea, 40⟩
def upInv : List DV → List DV → Prop
  | [.lb l, .n k], [.n u, .n n] => u = k - n ∧ -1 ≤ n ∧ n ≤ k ∧ u + upN l (n + 1).toNat = upN l (k + 1).toNat
  | _, _ => False
def dnInv : List DV → List DV → Prop
  | [.lb l, .n k], [.n u, .n n] => u = k - n ∧ -1 ≤ n ∧ n ≤ k ∧ u + dnN l (n + 1).toNat = dnN l (k + 1).toNat
  | _, _ => False
def nMea : List DV → List DV → Nat
  | _, [.n _, .n n] => (n + 1).toNat
  | _, _ => 0
def upL : LSpec := ⟨[0, 1, 2, 7, 11, 13, 14, 15, 17], [(.tmp 16, ibL 0 200), (.tmp 18, ibL (-1) 200)], [(.tmp 2, lbC), (.tmp 15, ibL 0 200)], upInv, nMea, 10⟩
def dnL : LSpec := ⟨[0, 1, 2, 7, 11, 13, 14, 15, 16], [(.tmp 17, ibL 0 200), (.tmp 19, ibL (-1) 200)], [(.tmp 2, lbC), (.tmp 15, ibL 0 200)], dnInv, nMea, 10⟩
def thInv : List DV → List DV → Prop
  | [.lb l, .n i, .n b], [.n n] => 0 ≤ n ∧ n ≤ b ∧ n ≤ i + 1 ∧ dnN l (i + 1).toNat = n + dnN l (i + 1 - n).toNat
  | _, _ => False
def thMea : List DV → List DV → Nat
  | _, [.n n] => (10 - n).toNat
  | _, _ => 0
def thL : LSpec := ⟨[0, 1, 2, 7, 11, 13], [(.tmp 20, ibL 0 9)], [(.tmp 2, lbC), (.tmp 13, ibL 0 200), (.tmp 1, ibL 1 8)], thInv, thMea, 10⟩
def tabP : Nat → LT := fun f p c => at2 f p 6 2042 outL (at2 f p 6 522826 kL (at2 f p 6 133843530 upL (at2 f p 6 267687066 dnL (at2 f p 6 1045662 thL none))))
theorem upN_t {l : List Bool} {n : Int} (h : 0 ≤ n) (g : l.getD n.toNat false = true) : upN l (n + 1).toNat = upN l n.toNat + 1 := by
  rw [toNat_succ h, upN_s, if_pos g]
theorem upN_f {l : List Bool} {n : Int} (h : 0 ≤ n) (g : l.getD n.toNat false = false) : upN l (n + 1).toNat = 0 := by
  rw [toNat_succ h, upN_s, if_neg (by rw [g]; decide)]
theorem dnN_t {l : List Bool} {n : Int} (h : 0 ≤ n) (g : l.getD n.toNat false = true) : dnN l (n + 1).toNat = 0 := by
  rw [toNat_succ h, dnN_s, if_pos g]
theorem dnN_f {l : List Bool} {n : Int} (h : 0 ≤ n) (g : l.getD n.toNat false = false) : dnN l (n + 1).toNat = dnN l n.toNat + 1 := by
  rw [toNat_succ h, dnN_s, if_neg (by rw [g]; decide)]
theorem wN_i {a b : Int} {l : List Bool} {k : Int} (h : 0 ≤ k) : wN a b l (k + 1).toNat = if a ≤ upN l (k + 1).toNat then true else if b ≤ dnN l (k + 1).toNat then false else wN a b l k.toNat := by
  rw [toNat_succ h, wN_s]
theorem w_dn' {a b : Int} {l : List Bool} {k : Int} (ha : 1 ≤ a) (hb : 1 ≤ b) (hk : 0 ≤ k) (h : wN a b l (k + 1).toNat = true) : dnN l (k + 1).toNat < b := by
  rw [toNat_succ hk] at *; exact w_dn ha hb h
theorem w_all' {a b : Int} {l : List Bool} {k : Int} (ha : 1 ≤ a) (hk : 0 ≤ k) (h : dnN l (k + 1).toNat = k + 1) : wN a b l (k + 1).toNat = false := by
  apply w_all ha
  omega
theorem out_state' {a b : Int} {l : List Bool} {k : Int} (ha : 1 ≤ a) (hb : 1 ≤ b) (h0 : 0 ≤ k) (hk : k < (l.length : Int)) : (outS a b (0, 0, false) l).getD k.toNat false = wN a b l (k + 1).toNat := by
  rw [toNat_succ h0]; exact out_state ha hb (by omega)
end
end Go.Sp
