import Derived.Test.YtpmlodchbgfmeaaSpecGold2
namespace Go.Sp
open Go.Ev
/-- o is l, rotated by k places -/
def rotE (l o : List Int) (k : Int) : Prop := ∀ j : Nat, j < l.length → l.getD (((j : Int) + k) % (l.length : Int)).toNat 0 = o.getD j 0
def pm1 (c : List Int) : Prop := ∀ j : Nat, j < c.length → c.getD j 0 = 1 ∨ c.getD j 0 = -1
def noRot (l o : List Int) : Prop := ∀ k : Int, 0 ≤ k → k < (l.length : Int) → ¬rotE l o k
def rotFPost : List DV → List DV → Prop
  | [.l l, .l o], [.n r] => (0 ≤ r ∧ r < (l.length : Int) ∧ rotE l o r ∧ ∀ k : Int, 0 ≤ k → k < r → ¬rotE l o k) ∨ (r = -1 ∧ noRot l o)
  | _, _ => False
def rotFPre : List DV → Prop
  | [.l l, .l o] => o.length = l.length
  | _ => False
def cC2 : CX := .l [.i .i64 (-1) 1] 1100
def sigRotF : Sig := ⟨[.one cC2, .one cW], [.one (ib (-1) 1100)], rotFPre, rotFPost⟩
def rotFInv : List DV → List DV → Prop
  | [.l l, .l o], [.n k] => 0 ≤ k ∧ k ≤ (l.length : Int) ∧ o.length = l.length ∧ ∀ i : Int, 0 ≤ i → i < k → ¬rotE l o i
  | _, _ => False
def rotF2Inv : List DV → List DV → Prop
  | [.l l, .l o, .n k], [.n i] => 0 ≤ i ∧ i ≤ (l.length : Int) ∧ 0 ≤ k ∧ k < (l.length : Int) ∧ o.length = l.length ∧ ∀ j : Nat, (j : Int) < i → l.getD (((j : Int) + k) % (l.length : Int)).toNat 0 = o.getD j 0
  | _, _ => False
def rotBPost : List DV → List DV → Prop
  | [.l o, .l l, .n k], [.b r] => (r = true ↔ rotE l o k)
  | _, _ => False
def rotBPre : List DV → Prop
  | [.l o, .l l, .n _] => o.length = l.length
  | _ => False
def sigRotB : Sig := ⟨[.one cW, .one cC2, .one (ib 0 1100)], [.one .b], rotBPre, rotBPost⟩
def rotBInv : List DV → List DV → Prop
  | [.l o, .l l, .n k], [.n i] => 0 ≤ i ∧ i ≤ (l.length : Int) ∧ 0 ≤ k ∧ o.length = l.length ∧ ∀ j : Nat, (j : Int) < i → l.getD (((j : Int) + k) % (l.length : Int)).toNat 0 = o.getD j 0
  | _, _ => False
def foundP (d : Int) (c : List Int) (p k : Int) : Prop := 1 ≤ p ∧ p ≤ nG d + 2 ∧ 0 ≤ k ∧ k < nG d ∧ rotE (codeL d p) c k ∧ (∀ i : Int, 0 ≤ i → i < k → ¬rotE (codeL d p) c i) ∧ ∀ q : Int, 1 ≤ q → q < p → noRot (codeL d q) c
def noneP (d : Int) (c : List Int) (p : Int) : Prop := ∀ q : Int, 1 ≤ q → q < p → noRot (codeL d q) c
def findR (d : Int) (c : List Int) (p k e : Int) : Prop := (¬okD d ∧ e = 2 ∧ p = 0 ∧ k = 0) ∨ (okD d ∧ ¬((c.length : Int) = nG d ∧ pm1 c) ∧ e = 3 ∧ p = 0 ∧ k = 0) ∨ (okD d ∧ (c.length : Int) = nG d ∧ pm1 c ∧ foundP d c p k ∧ e = 0) ∨ (okD d ∧ (c.length : Int) = nG d ∧ pm1 c ∧ noneP d c (nG d + 3) ∧ e = 18 ∧ p = 0 ∧ k = 0)
def findPost : List DV → List DV → Prop
  | [.n d, .l c], [.n p, .n k, .n e] => findR d c p k e
  | _, _ => False
def sigFind : Sig := ⟨[.one i64, .one (.l [.i .i64 (-9223372036854775808) 9223372036854775807] 200)], [.one (ib 0 1100), .one (ib 0 1100), .one (ib 0 18)], fun _ => True, findPost⟩
theorem len_code {d p : Int} (h : okD d) : ((codeL d p).length : Int) = nG d := by
  rw [codeL, chips_len]; exact bits_len h (.inl rfl)
theorem found_fun {d : Int} (hd : okD d) {c : List Int} {p k q i : Int} (h : foundP d c p k) (g : foundP d c q i) : p = q ∧ k = i := by
  obtain ⟨a1, a2, a3, a4, a5, a6, a7⟩ := h
  obtain ⟨b1, b2, b3, b4, b5, b6, b7⟩ := g
  have e : p = q := by
    rcases Int.lt_trichotomy p q with x | x | x
    · exact absurd a5 (b7 p a1 x k a3 (by rw [len_code hd]; exact a4))
    · exact x
    · exact absurd b5 (a7 q b1 x i b3 (by rw [len_code hd]; exact b4))
  subst e
  refine ⟨rfl, ?_⟩
  rcases Int.lt_trichotomy k i with x | x | x
  · exact absurd a5 (b6 k a3 x)
  · exact x
  · exact absurd b5 (a6 i b3 x)
theorem found_none {d : Int} (hd : okD d) {c : List Int} {p k : Int} (h : foundP d c p k) (g : noneP d c (nG d + 3)) : False := by
  obtain ⟨a1, a2, a3, a4, a5, a6, a7⟩ := h
  exact g p a1 (by omega) k a3 (by rw [len_code hd]; exact a4) a5
theorem find_fun {d p k e q i f : Int} {c : List Int} (h : findR d c p k e) (g : findR d c q i f) : p = q ∧ k = i ∧ e = f := by
  rcases h with ⟨h1, h2⟩ | ⟨h1, h2, h3⟩ | ⟨h1, h2, h3, h4, h5⟩ | ⟨h1, h2, h3, h4, h5⟩ <;> rcases g with ⟨g1, g2⟩ | ⟨g1, g2, g3⟩ | ⟨g1, g2, g3, g4, g5⟩ | ⟨g1, g2, g3, g4, g5⟩
  all_goals first | omega | exact absurd h1 g1 | exact absurd g1 h1 | exact absurd ⟨h2, h3⟩ g2 | exact absurd ⟨g2, g3⟩ h2 | exact (found_none h1 h4 g4).elim | exact (found_none h1 g4 h4).elim | skip
  have := found_fun h1 h4 g4
  omega
def chkFInv : List DV → List DV → Prop
  | [.l c], [.n i] => 0 ≤ i ∧ i ≤ (c.length : Int) ∧ ∀ j : Nat, (j : Int) < i → c.getD j 0 = 1 ∨ c.getD j 0 = -1
  | _, _ => False
def findInv : List DV → List DV → Prop
  | [.n d, .l c], [.n p] => 1 ≤ p ∧ p ≤ nG d + 3 ∧ noneP d c p
  | _, _ => False
def find2Inv : List DV → List DV → Prop
  | [.n d, .l c, .n p], [.n k] => 1 ≤ p ∧ p ≤ nG d + 2 ∧ 0 ≤ k ∧ k ≤ nG d ∧ ∀ i : Int, 0 ≤ i → i < k → ¬rotE (codeL d p) c i
  | _, _ => False
theorem noneP_next {d p : Int} {c : List Int} (h : noneP d c p) (g : noRot (codeL d p) c) : noneP d c (p + 1) := fun q h1 h2 => by
  rcases Int.lt_or_le q p with x | x
  · exact h q h1 x
  · rw [show q = p by omega]; exact g
theorem below_next {P : Int → Prop} {k : Int} (h : ∀ i : Int, 0 ≤ i → i < k → ¬P i) (g : ¬P k) : ∀ i : Int, 0 ≤ i → i < k + 1 → ¬P i := fun i h1 h2 => by
  rcases Int.lt_or_le i k with x | x
  · exact h i h1 x
  · rw [show i = k by omega]; exact g
def pickGP : List DV → List DV → Prop
  | [.n x, .n m], [.n r] => r = x % m
  | _, _ => False
def sigTurn : Sig := ⟨[.one i64, .one (.i .i64 1 4000000000)], [.one (ib 0 4000000000)], fun _ => True, pickGP⟩
theorem tmod_rot {i k n : Int} (h0 : 0 ≤ i) (hk : 0 ≤ k) : (i + k).tmod n = (((i.toNat : Nat) : Int) + k) % n := by
  rw [tmod_nn (by omega), Int.toNat_of_nonneg h0]
theorem rot_step {l o : List Int} {i k : Int} (h0 : 0 ≤ i) (hk : 0 ≤ k) (h : ∀ j : Nat, (j : Int) < i → l.getD (((j : Int) + k) % (l.length : Int)).toNat 0 = o.getD j 0) (e : l.getD ((i + k).tmod (l.length : Int)).toNat 0 = o.getD i.toNat 0) :
    ∀ j : Nat, (j : Int) < i + 1 → l.getD (((j : Int) + k) % (l.length : Int)).toNat 0 = o.getD j 0 := fun j hj => by
  rcases Int.lt_or_le (j : Int) i with x | x
  · exact h j x
  · rw [tmod_rot h0 hk, show i.toNat = j by omega] at e; exact e
theorem rot_no {l o : List Int} {i k : Int} (h0 : 0 ≤ i) (hi : i < (l.length : Int)) (hk : 0 ≤ k) (e : ¬l.getD ((i + k).tmod (l.length : Int)).toNat 0 = o.getD i.toNat 0) : ¬rotE l o k := fun h => by
  rw [tmod_rot h0 hk] at e; exact e (h i.toNat (by omega))
theorem mod_bd {a n : Int} (h : 0 ≤ a) (hn : 0 < n) : 0 ≤ a.tmod n ∧ a.tmod n < n := by
  rw [tmod_nn h]; exact ⟨Int.emod_nonneg a (by omega), Int.emod_lt_of_pos a hn⟩
def sigNF : Sig := ⟨[.one i64, .one (.l [.i .i64 (-9223372036854775808) 9223372036854775807] 9223372036854775807)], [.one .b], fun _ => True, fun _ rs => rs = [.b true]⟩
noncomputable section
def meaR1 : List DV → List DV → Nat
  | .l l :: _, .n i :: _ => ((l.length : Int) - i).toNat
  | _, _ => 0
def meaR2 : List DV → List DV → Nat
  | _ :: .l l :: _, .n i :: _ => ((l.length : Int) - i).toNat
  | _, _ => 0
def meaD : List DV → List DV → Nat
  | .n d :: _, .n i :: _ => (nG d + 3 - i).toNat
  | _, _ => 0
def rotFL : LSpec := ⟨[0, 1, 8], [(.tmp 9, ib 0 1100)], [(.tmp 0, cC2), (.tmp 1, cW)], rotFInv, meaR1, 60⟩
def rotF2L : LSpec := ⟨[0, 1, 5, 8, 9], [(.tmp 6, ib 0 1100)], [(.tmp 0, cC2), (.tmp 1, cW), (.tmp 5, ib 0 1100)], rotF2Inv, meaR1, 20⟩
def rotBL : LSpec := ⟨[0, 1, 2], [(.tmp 7, ib 0 1100)], [(.tmp 0, cW), (.tmp 1, cC2), (.tmp 2, ib 0 1100)], rotBInv, meaR2, 20⟩
def cF : CX := .l [.i .i64 (-9223372036854775808) 9223372036854775807] 200
def chkFL : LSpec := ⟨[0, 1, 7, 26, 27], [(.tmp 28, ib 0 1100)], [(.tmp 26, cF)], chkFInv, meaR1, 60⟩
def findL : LSpec := ⟨[0, 1, 7, 11], [(.tmp 4, ib 0 1100)], [(.tmp 0, i64), (.tmp 1, cF)], findInv, meaD, 600⟩
def chkFRL : LSpec := ⟨[0, 1, 7], [(.tmp 9, ib 0 1100)], [(.tmp 1, cF)], chkFInv, meaR1, 60⟩
def findRL : LSpec := ⟨[0, 1, 7], [(.tmp 10, ib 0 1100)], [(.tmp 0, i64), (.tmp 1, cF)], findInv, meaD, 900⟩
def findR2L : LSpec := ⟨[0, 1, 7, 10, 11], [(.tmp 13, ib 0 1100)], [(.tmp 0, i64), (.tmp 1, cF), (.tmp 10, ib 0 1100)], find2Inv, meaD, 60⟩
end
end Go.Sp
