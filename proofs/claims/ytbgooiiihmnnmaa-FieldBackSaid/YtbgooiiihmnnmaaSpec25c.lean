import Derived.Test.YtbgooiiihmnnmaaSpec25b
namespace Go.Sp
open Go.Ev
def dgInv : List DV → List DV → Prop
  | [.n a, .n b, .n n, .l l0], [.n i, .l l] => 0 ≤ a ∧ a + b ≤ (l0.length : Int) ∧ 1 ≤ b ∧ b ≤ 40 ∧ 0 ≤ i ∧ i ≤ b ∧ l.length = l0.length ∧ ∀ j : Nat, j < l0.length → l.getD j 0 = if a ≤ (j : Int) ∧ (j : Int) < a + i then n / p2 (a + b - 1 - j) % 2 else l0.getD j 0
  | _, _ => False
def dgMea : List DV → List DV → Nat
  | [.n _, .n b, .n _, .l _], .n i :: _ => (b - i).toNat
  | _, _ => 0
def wrInv : List DV → List DV → Prop
  | [.n n0, .n a, .n b, .l l0], [.n i, .n n, .l l] => 0 ≤ a ∧ a + b ≤ (l0.length : Int) ∧ 1 ≤ b ∧ b ≤ 40 ∧ a - 1 ≤ i ∧ i ≤ a + b - 1 ∧ 0 ≤ n0 ∧ n = n0 / p2 (a + b - 1 - i) ∧ l.length = l0.length ∧ ∀ j : Nat, j < l0.length → l.getD j 0 = if i < (j : Int) ∧ (j : Int) < a + b then n0 / p2 (a + b - 1 - j) % 2 else l0.getD j 0
  | _, _ => False
def wrMea : List DV → List DV → Nat
  | [.n _, .n a, .n _, .l _], .n i :: _ => (i - a + 1).toNat
  | _, _ => 0
noncomputable section
def dgL : LSpec := ⟨[0, 1, 2, 5, 6], [(.tmp 7, ib 0 40), (.blk (key 3), cL)], [(.cell (key 5) 0, i64), (.cell (key 5) 1, i64), (.cell (key 6) 0, nB), (.blk (key 3), cL)], dgInv, dgMea, 60⟩
def wrL : LSpec := ⟨[0, 1, 4], [(.tmp 6, ib (-1) 4000), (.tmp 2, ib 0 2199023255552), (.blk (key 4), cL)], [(.tmp 2, ib 0 2199023255552), (.cell (key 5) 0, i64), (.cell (key 5) 1, i64), (.blk (key 4), cL)], wrInv, wrMea, 60⟩
end
theorem dg_step {a b n i v : Int} {l0 l : List Int} (h0 : 0 ≤ a) (hi : 0 ≤ i) (hb : i < b) (hl : a + b ≤ (l0.length : Int)) (e : l.length = l0.length) (hv : v = n / p2 (b - 1 - i) % 2)
    (h : ∀ j : Nat, j < l0.length → l.getD j 0 = if a ≤ (j : Int) ∧ (j : Int) < a + i then n / p2 (a + b - 1 - j) % 2 else l0.getD j 0) :
    ∀ j : Nat, j < l0.length → (l.set (a + i).toNat v).getD j 0 = if a ≤ (j : Int) ∧ (j : Int) < a + (i + 1) then n / p2 (a + b - 1 - j) % 2 else l0.getD j 0 := by
  intro j hj
  rw [getD_set]
  by_cases c : (a + i).toNat = j
  · rw [if_pos ⟨c, by omega⟩, if_pos (by omega), hv, show a + b - 1 - (j : Int) = b - 1 - i by omega]
  · rw [if_neg (fun g => c g.1), h j hj]
    by_cases d : a ≤ (j : Int) ∧ (j : Int) < a + i
    · rw [if_pos d, if_pos (by omega)]
    · rw [if_neg d, if_neg (by omega)]
theorem wr_step {a b n0 n i v : Int} {l0 l : List Int} (h0 : 0 ≤ a) (hi : a ≤ i) (hb : i ≤ a + b - 1) (hl : a + b ≤ (l0.length : Int)) (e : l.length = l0.length) (hn : n = n0 / p2 (a + b - 1 - i)) (hv : v = n % 2)
    (h : ∀ j : Nat, j < l0.length → l.getD j 0 = if i < (j : Int) ∧ (j : Int) < a + b then n0 / p2 (a + b - 1 - j) % 2 else l0.getD j 0) :
    ∀ j : Nat, j < l0.length → (l.set i.toNat v).getD j 0 = if i - 1 < (j : Int) ∧ (j : Int) < a + b then n0 / p2 (a + b - 1 - j) % 2 else l0.getD j 0 := by
  intro j hj
  rw [getD_set]
  by_cases c : i.toNat = j
  · rw [if_pos ⟨c, by omega⟩, if_pos (by omega), hv, hn, show a + b - 1 - (j : Int) = a + b - 1 - i by omega]
  · rw [if_neg (fun g => c g.1), h j hj]
    by_cases d : i < (j : Int) ∧ (j : Int) < a + b
    · rw [if_pos d, if_pos (by omega)]
    · rw [if_neg d, if_neg (by omega)]
theorem half_next {n0 k : Int} (h : 0 ≤ k) : n0 / p2 k / 2 = n0 / p2 (k + 1) := by
  rw [p2_add h (by omega), p2_1, Int.ediv_ediv_of_nonneg (Int.le_of_lt (p2_pos k))]
theorem bit_wrap {n k b : Int} (h : 0 ≤ k) (g : k < b) : (n + p2 b) / p2 k % 2 = n / p2 k % 2 := by
  have e : p2 b = p2 k * (2 * p2 (b - k - 1)) := by
    have e1 : p2 (k + (b - k - 1 + 1)) = p2 k * p2 (b - k - 1 + 1) := p2_add h (by omega)
    have e2 : p2 (b - k - 1 + 1) = p2 (b - k - 1) * p2 1 := p2_add (by omega) (by omega)
    rw [show k + (b - k - 1 + 1) = b by omega] at e1
    rw [e1, e2, p2_1, Int.mul_comm (p2 (b - k - 1)) 2]
  rw [e, Int.add_mul_ediv_left _ _ (Int.ne_of_gt (p2_pos k))]
  omega
theorem putP_wrap {l m : List Int} {a b n : Int} (h : putP l a b (n + p2 b) m) : putP l a b n m := by
  refine ⟨h.1, fun j hj => ?_⟩
  rw [h.2 j hj]
  by_cases c : a ≤ (j : Int) ∧ (j : Int) < a + b
  · rw [if_pos c, if_pos c, bit_wrap (by omega) (by omega)]
  · rw [if_neg c, if_neg c]
theorem putP_wr {l m : List Int} {a b n i : Int} (hi : i = a - 1) (e : m.length = l.length) (h : ∀ j : Nat, j < l.length → m.getD j 0 = if i < (j : Int) ∧ (j : Int) < a + b then n / p2 (a + b - 1 - j) % 2 else l.getD j 0) : putP l a b n m := by
  refine ⟨e, fun j hj => ?_⟩
  rw [h j hj]
  by_cases c : a ≤ (j : Int) ∧ (j : Int) < a + b
  · rw [if_pos c, if_pos (by omega)]
  · rw [if_neg c, if_neg (by omega)]
theorem putP_dg {l m : List Int} {a b n i : Int} (hi : i = b) (e : m.length = l.length) (h : ∀ j : Nat, j < l.length → m.getD j 0 = if a ≤ (j : Int) ∧ (j : Int) < a + i then n / p2 (a + b - 1 - j) % 2 else l.getD j 0) : putP l a b n m := by
  rw [hi] at h; exact ⟨e, h⟩
end Go.Sp
namespace Go.Sp
open Go.Ev
theorem lo_p2 {g : Bool} {b : Int} (h : 1 ≤ b) (k : b ≤ 40) : -p2 b ≤ loR g b := by
  have := p2_b h k
  cases g
  · rw [loR_f]; omega
  · rw [loR_t]; omega
end Go.Sp
namespace Go.Sp
open Go.Ev
theorem lim_fun {a b u s x y e x' y' e' : Int} {g : Bool} (h : sigLim.post [.n a, .n b, .b g, .n u, .n s] [.n x, .n y, .n e]) (h' : sigLim.post [.n a, .n b, .b g, .n u, .n s] [.n x', .n y', .n e']) : x = x' ∧ y = y' ∧ e = e' := by
  rcases h with ⟨o, p, q, r⟩ | ⟨o, p, q, r⟩ <;> rcases h' with ⟨o', p', q', r'⟩ | ⟨o', p', q', r'⟩
  · exact ⟨by rw [p, p'], by rw [q, q'], by rw [r, r']⟩
  · exact absurd o o'
  · exact absurd o' o
  · exact ⟨by rw [p, p'], by rw [q, q'], by rw [r, r']⟩
theorem chk_fun {a b u s e e' : Int} {g : Bool} (h : sigChk.post [.n a, .n b, .b g, .n u, .n s] [.n e]) (h' : sigChk.post [.n a, .n b, .b g, .n u, .n s] [.n e']) : e = e' := by
  rcases h with ⟨o, r⟩ | ⟨o, r⟩ <;> rcases h' with ⟨o', r'⟩ | ⟨o', r'⟩
  · rw [r, r']
  · exact absurd o o'
  · exact absurd o' o
  · rw [r, r']
theorem pl_fun {l : List Int} {a b u s e e' : Int} (h : plErr l a b u s e) (h' : plErr l a b u s e') : e = e' := by
  rcases h with ⟨o, r⟩ | ⟨o, p, r⟩ | ⟨o, p, q, r⟩ <;> rcases h' with ⟨o', r'⟩ | ⟨o', p', r'⟩ | ⟨o', p', q', r'⟩
  all_goals first | omega | exact absurd o o' | exact absurd o' o
theorem pl_not {l : List Int} {a b u s e : Int} (h : plErr l a b u s e) (h' : okL l a b u s) : False := by
  obtain ⟨o', p', q'⟩ := h'
  rcases h with ⟨o, r⟩ | ⟨o, p, r⟩ | ⟨o, p, q, r⟩
  · exact o o'
  · omega
  · exact q q'
theorem put_fun {l m m' : List Int} {a b u s v e e' : Int} {g : Bool} (h : sigPut.post [.l l, .n a, .n b, .b g, .n u, .n s, .n v] [.l m, .n e]) (h' : sigPut.post [.l l, .n a, .n b, .b g, .n u, .n s, .n v] [.l m', .n e']) : m = m' ∧ e = e' := by
  rcases h with ⟨o, p⟩ | ⟨o, i, p, q⟩ | ⟨o, i, p, q⟩ <;> rcases h' with ⟨o', p'⟩ | ⟨o', i', p', q'⟩ | ⟨o', i', p', q'⟩
  · exact ⟨by rw [p, p'], pl_fun o o'⟩
  · exact (pl_not o o').elim
  · exact (pl_not o o').elim
  · exact (pl_not o' o).elim
  · exact ⟨by rw [p, p'], by rw [q, q']⟩
  · exact absurd i' i
  · exact (pl_not o' o).elim
  · exact absurd i i'
  · exact ⟨putP_fun p p', by rw [q, q']⟩
theorem get_fun {l : List Int} {a b u s x x' e e' : Int} {g : Bool} (h : sigGet.post [.l l, .n a, .n b, .b g, .n u, .n s] [.n x, .n e]) (h' : sigGet.post [.l l, .n a, .n b, .b g, .n u, .n s] [.n x', .n e']) : x = x' ∧ e = e' := by
  rcases h with ⟨o, p⟩ | ⟨o, p, q⟩ <;> rcases h' with ⟨o', p'⟩ | ⟨o', p', q'⟩
  · exact ⟨by rw [p, p'], pl_fun o o'⟩
  · exact (pl_not o o').elim
  · exact (pl_not o' o).elim
  · exact ⟨by rw [p, p'], by rw [q, q']⟩
end Go.Sp
