/- Lists: blocks whose cells are columns. -/
import Derived.Test.YtiadfbpbeaeflaaDoorEvSZ
namespace Go.Ev
open Go.RowKit (Below)
section
variable {P : Program} {C : CallK}
theorem dropN_eq (n : Nat) : ∀ l : List EV, dropN n l = l.drop n := by
  induction n with
  | zero => intro l; rfl
  | succ n ih => intro l; cases l with
    | nil => rfl
    | cons x l => exact ih l
theorem asPtr2_ok {v : EV} {kp : List Bool → Nat → Ans} {ka : List Bool → Nat → Nat → Nat → Ans} (h : asPtr2 v kp ka = true) : (∃ b o, v = .ptr b o ∧ kp b o = true) ∨ ∃ b r z c, v = .aptr b r z c ∧ ka b r z c = true := by
  cases v <;> first | exact .inl ⟨_, _, rfl, h⟩ | exact .inr ⟨_, _, _, _, rfl, h⟩ | exact absurd (show false = true from h) (by decide)
theorem asSl2_ok {v : EV} {kn : Ans} {kc : List Bool → Nat → Nat → Nat → Ans} {ka : List Bool → Nat → Nat → Nat → Nat → Ans} (h : asSl2 v kn kc ka = true) :
    (v = .nils ∧ kn = true) ∨ (∃ b o l z, v = .slice b o l z ∧ kc b o l z = true) ∨ ∃ b o l z m, v = .aslice b o l z m ∧ ka b o l z m = true := by
  cases v <;> first | exact .inl ⟨rfl, h⟩ | exact .inr (.inl ⟨_, _, _, _, rfl, h⟩) | exact .inr (.inr ⟨_, _, _, _, _, rfl, h⟩) | exact absurd (show false = true from h) (by decide)
theorem natQ_ok {v : EV} {K : Nat → Ans} (h : natQ v K = true) : ∃ m : Nat, K m = true ∧ ∀ φ v', VR φ v v' → ∃ k, v' = .int k (m : Int) := by
  obtain ⟨k, n, lo, hi, h1, h2⟩ := asNum_ok h
  cases hb : eqI lo hi with
  | true =>
    rw [hb, bR_true] at h1
    obtain ⟨m, e, h3⟩ := iR_nat h1
    rw [fN_eq] at h3
    refine ⟨m, h3, fun φ v' hv => ?_⟩
    obtain ⟨rfl, g1, g2⟩ := h2 φ v' hv
    have := eqI_iff hb
    have e1 : n = (m : Int) := by omega
    exact ⟨k, by rw [e1]⟩
  | false =>
    rw [hb, bR_false] at h1
    have key : K n.toNat = true ∧ (InR n lo hi → 0 ≤ n) := by
      cases hc : leI 0 lo with
      | true => rw [hc, bR_true] at h1; exact ⟨h1, fun g => by have := leI_t hc; have := g.1; omega⟩
      | false => rw [hc, bR_false] at h1; obtain ⟨h3, h4⟩ := reqB_ok h1; exact ⟨h4, fun _ => h3⟩
    refine ⟨n.toNat, key.1, fun φ v' hv => ?_⟩
    obtain ⟨rfl, g⟩ := h2 φ v' hv
    have := key.2 g
    exact ⟨k, by congr 1; omega⟩
theorem idxQ_ok {v : EV} {len : Nat} {K : Nat → Ans} (h : idxQ len v K = true) : ∃ m : Nat, m < len ∧ K m = true ∧ ∀ φ v', VR φ v v' → ∃ k, v' = .int k (m : Int) := by
  obtain ⟨m, h1, h2⟩ := natQ_ok h
  obtain ⟨h3, h4⟩ := reqB_ok h1
  exact ⟨m, h3, h4, h2⟩
theorem getD_some {α : Type} {l : List α} {r : Nat} {d : α} (h : r < l.length) : l[r]? = some (l.getD r d) := by
  rw [List.getD_eq_getElem?_getD, List.getElem?_eq_getElem h]; rfl
theorem Col.at_ok {c : Col} {r : Nat} {K : EV → Ans} (h : c.at r K = true) : ∃ v, K v = true ∧ notAny v = true ∧ ∀ (φ : Phi) (cs : Array Value) (δ n sz j : Nat), CR cs δ n sz j c → ∃ v', cs[δ + (r * sz + j)]? = some v' ∧ VR φ v v' ∧ r * sz + sz ≤ n := by
  have fit : ∀ {a sz n : Nat}, r < a → a * sz = n → r * sz + sz ≤ n := fun {a sz n} h e => by
    have := Nat.mul_le_mul_right sz (show r + 1 ≤ a from h)
    rw [Nat.succ_mul] at this; omega
  cases c with
  | i k lo hi l =>
    obtain ⟨h1, h2⟩ := reqB_ok h
    refine ⟨_, h2, rfl, fun φ cs δ n sz j hc => ?_⟩
    obtain ⟨g1, g2, g3⟩ := hc.2 r _ (getD_some h1)
    exact ⟨_, g1, .sym _ _ _ _ g2 g3, fit h1 hc.1⟩
  | b l =>
    obtain ⟨h1, h2⟩ := reqB_ok h
    refine ⟨_, h2, rfl, fun φ cs δ n sz j hc => ?_⟩
    exact ⟨_, hc.2 r _ (getD_some h1), .bool _, fit h1 hc.1⟩
/-- columns are those of cells -/
def CRs (cs : Array Value) (δ n sz : Nat) (c0 : Nat) (cols : List Col) : Prop := ∀ j c, cols[j]? = some c → CR cs δ n sz (c0 + j) c
theorem readCols_ok {cols : List Col} {r n : Nat} : ∀ {c : Nat} {K : List EV → Ans}, readCols cols r n c K = true → ∃ l, K l = true ∧ l.length = n ∧
    (∀ v ∈ l, notAny v = true) ∧ ∀ (φ : Phi) (cs : Array Value) (δ N sz : Nat), CRs cs δ N sz 0 cols → ∀ j v, l[j]? = some v → ∃ v', cs[δ + (r * sz + (c + j))]? = some v' ∧ VR φ v v' := by
  induction n with
  | zero => intro c K h; exact ⟨[], h, rfl, (fun v hv => by cases hv), fun φ cs δ N sz _ j v hj => by simp at hj⟩
  | succ n ih =>
    intro c K h
    obtain ⟨col, hcol, h1⟩ := oR_ok (show oR (nthN c cols) (fun col => col.at r fun v => readCols cols r n (Nat.succ c) fun l => K (v :: l)) = true from h)
    rw [nthN_eq] at hcol
    obtain ⟨v, h2, hna, h3⟩ := Col.at_ok h1
    obtain ⟨l, h4, h5, h50, h6⟩ := ih h2
    refine ⟨v :: l, h4, by simp [h5], fun u hu => ?_, fun φ cs δ N sz hc j u hj => ?_⟩
    · rcases List.mem_cons.1 hu with rfl | hu
      · exact hna
      · exact h50 u hu
    · cases j with
      | zero =>
        simp at hj; subst hj
        have := hc c col hcol
        rw [Nat.zero_add] at this
        obtain ⟨v', e1, e2, _⟩ := h3 φ cs δ N sz c this
        exact ⟨v', by rw [← e1]; congr 1, e2⟩
      | succ j =>
        obtain ⟨v', e1, e2⟩ := h6 φ cs δ N sz hc j u (by simpa using hj)
        exact ⟨v', by rw [← e1]; congr 2; omega, e2⟩
/-- a column has these values -/
def ColOf (vs : List EV) : Col → Prop
  | .i k lo hi l => l.length = vs.length ∧ ∀ (i : Nat) (v : EV) (φ : Phi) (v' : Value), vs[i]? = some v → VR φ v v' → ∃ x, l[i]? = some x ∧ v' = .int k x ∧ lo ≤ x ∧ x ≤ hi
  | .b l => l.length = vs.length ∧ ∀ (i : Nat) (v : EV) (φ : Phi) (v' : Value), vs[i]? = some v → VR φ v v' → ∃ x, l[i]? = some x ∧ v' = .bool x
theorem colInts_ok {k : IntKind} : ∀ {vs : List EV} {lo hi : Int} {K : Int → Int → List Int → Ans}, colInts k vs lo hi K = true → ∃ lo' hi' l, K lo' hi' l = true ∧ lo' ≤ lo ∧ hi ≤ hi' ∧ ColOf vs (.i k lo' hi' l)
  | [], lo, hi, K, h => ⟨lo, hi, [], h, Int.le_refl _, Int.le_refl _, rfl, fun i v φ v' hi => by simp at hi⟩
  | v :: vs, lo, hi, K, h => by
    obtain ⟨k', n, a, b, h1, h2⟩ := asNum_ok (show asNum v (fun k' n l h => guardB (kindEq k k') (fI (minI lo l) fun lo => fI (maxI hi h) fun hi => colInts k vs lo hi fun lo hi r => K lo hi (n :: r))) = true from h)
    obtain ⟨hk, h1⟩ := guard_ok h1
    rw [fI_eq, fI_eq, minI_eq, maxI_eq] at h1
    obtain ⟨lo', hi', l, h3, h4, h5, h6, h7⟩ := colInts_ok h1
    obtain rfl := kindEq_ok hk
    refine ⟨lo', hi', n :: l, h3, by omega, by omega, by simp [h6], fun i u φ v' hi hv => ?_⟩
    cases i with
    | zero =>
      simp at hi; subst hi
      obtain ⟨rfl, g1, g2⟩ := h2 φ v' hv
      exact ⟨n, rfl, rfl, by omega, by omega⟩
    | succ i => exact h7 i u φ v' (by simpa using hi) hv
theorem colBools_ok : ∀ {vs : List EV} {K : List Bool → Ans}, colBools vs K = true → ∃ l, K l = true ∧ ColOf vs (.b l)
  | [], K, h => ⟨[], h, rfl, fun i v φ v' hi => by simp at hi⟩
  | v :: vs, K, h => by
    obtain ⟨b, rfl, h1⟩ := asBool_ok (show asBool v (fun b => colBools vs fun r => K (b :: r)) = true from h)
    obtain ⟨l, h3, h6, h7⟩ := colBools_ok h1
    refine ⟨b :: l, h3, by simp [h6], fun i u φ v' hi hv => ?_⟩
    cases i with
    | zero => simp at hi; subst hi; cases hv; exact ⟨b, rfl, rfl⟩
    | succ i => exact h7 i u φ v' (by simpa using hi) hv
theorem mkCol_ok {vs : List EV} {K : Col → Ans} (h : mkCol vs K = true) : ∃ c, K c = true ∧ ColOf vs c := by
  cases vs with
  | nil => exact absurd (show false = true from h) (by decide)
  | cons v r =>
    have h : bR (isNum v) (asNum v fun k n l h => fI l fun l => fI h fun h => colInts k r l h fun lo hi ns => K (.i k lo hi (n :: ns))) (asBool v fun b => colBools r fun bs => K (.b (b :: bs))) = true := h
    cases hn : isNum v with
    | true =>
      rw [hn, bR_true] at h
      obtain ⟨k, n, a, b, h1, h2⟩ := asNum_ok h
      rw [fI_eq, fI_eq] at h1
      obtain ⟨lo', hi', l, h3, h4, h5, h6, h7⟩ := colInts_ok h1
      refine ⟨_, h3, by simp [h6], fun i u φ v' hi hv => ?_⟩
      cases i with
      | zero =>
        simp at hi; subst hi
        obtain ⟨rfl, g1, g2⟩ := h2 φ v' hv
        exact ⟨n, rfl, rfl, by omega, by omega⟩
      | succ i => exact h7 i u φ v' (by simpa using hi) hv
    | false =>
      rw [hn, bR_false] at h
      obtain ⟨b, rfl, h1⟩ := asBool_ok h
      obtain ⟨l, h3, h6, h7⟩ := colBools_ok h1
      refine ⟨_, h3, by simp [h6], fun i u φ v' hi hv => ?_⟩
      cases i with
      | zero => simp at hi; subst hi; cases hv; exact ⟨b, rfl, rfl⟩
      | succ i => exact h7 i u φ v' (by simpa using hi) hv
theorem everyN_ok {z rows : Nat} : ∀ {l : List EV} {K : List EV → Ans}, everyN z rows l K = true → ∃ vs, K vs = true ∧ vs.length = rows ∧ ∀ i, i < rows → vs[i]? = l[i * z]? := by
  induction rows with
  | zero => intro l K h; exact ⟨[], h, rfl, fun i hi => absurd hi (by omega)⟩
  | succ n ih =>
    intro l K h
    cases l with
    | nil => exact absurd (show false = true from h) (by decide)
    | cons v l =>
      obtain ⟨vs, h1, h2, h3⟩ := ih (show everyN z n (dropN z (v :: l)) (fun r => K (v :: r)) = true from h)
      refine ⟨v :: vs, h1, by simp [h2], fun i hi => ?_⟩
      cases i with
      | zero => simp
      | succ i =>
        have := h3 i (by omega)
        rw [dropN_eq, List.getElem?_drop] at this
        simp only [List.getElem?_cons_succ]
        rw [this]; congr 1; rw [Nat.succ_mul]; omega
/-- columns of rows of cells -/
def ColsOf (cells : List EV) (z rows c0 : Nat) (cols : List Col) : Prop := ∀ j c, cols[j]? = some c → ∃ vs, ColOf vs c ∧ vs.length = rows ∧ ∀ i, i < rows → vs[i]? = cells[i * z + (c0 + j)]?
theorem rowsOf_ok {cells : List EV} {z rows n : Nat} : ∀ {c : Nat} {K : List Col → Ans}, rowsOf cells z rows n c K = true → ∃ cols, K cols = true ∧ cols.length = n ∧ ColsOf cells z rows c cols := by
  induction n with
  | zero => intro c K h; exact ⟨[], h, rfl, fun j c hj => by simp at hj⟩
  | succ n ih =>
    intro c K h
    obtain ⟨vs, h1, h2, h3⟩ := everyN_ok (show everyN z rows (dropN c cells) (fun vs => mkCol vs fun col => rowsOf cells z rows n (Nat.succ c) fun l => K (col :: l)) = true from h)
    obtain ⟨col, h4, h5⟩ := mkCol_ok h1
    obtain ⟨cols, h6, h7, h8⟩ := ih h4
    refine ⟨col :: cols, h6, by simp [h7], fun j e hj => ?_⟩
    cases j with
    | zero =>
      simp at hj; subst hj
      exact ⟨vs, h5, h2, fun i hi => by rw [h3 i hi, dropN_eq, List.getElem?_drop]; congr 1; omega⟩
    | succ j =>
      obtain ⟨us, g1, g2, g3⟩ := h8 j e (by simpa using hj)
      exact ⟨us, g1, g2, fun i hi => by rw [g3 i hi]; congr 1; omega⟩
/-- from cells to columns -/
theorem CR_of {cells : List EV} {z rows j : Nat} {c : Col} {vs : List EV} {φ : Phi} {cs : Array Value} {δ : Nat} (hc : ColOf vs c) (hl : vs.length = rows) (hg : ∀ i, i < rows → vs[i]? = cells[i * z + j]?)
    (hv : ∀ i v, cells[i]? = some v → ∃ v', cs[δ + i]? = some v' ∧ VR φ v v') : CR cs δ (rows * z) z j c := by
  cases c with
  | i k lo hi l =>
    refine ⟨by rw [hc.1, hl], fun i x hx => ?_⟩
    have hi : i < rows := by have := (List.getElem?_eq_some_iff.1 hx).1; rw [hc.1, hl] at this; exact this
    have e0 : vs[i]? = some vs[i] := List.getElem?_eq_getElem (by omega)
    obtain ⟨v', e1, e2⟩ := hv (i * z + j) vs[i] (by rw [← hg i hi]; exact e0)
    obtain ⟨y, g1, g2, g3, g4⟩ := hc.2 i _ φ v' e0 e2
    rw [hx] at g1; cases g1
    exact ⟨by rw [e1, g2], g3, g4⟩
  | b l =>
    refine ⟨by rw [hc.1, hl], fun i x hx => ?_⟩
    have hi : i < rows := by have := (List.getElem?_eq_some_iff.1 hx).1; rw [hc.1, hl] at this; exact this
    have e0 : vs[i]? = some vs[i] := List.getElem?_eq_getElem (by omega)
    obtain ⟨v', e1, e2⟩ := hv (i * z + j) vs[i] (by rw [← hg i hi]; exact e0)
    obtain ⟨y, g1, g2⟩ := hc.2 i _ φ v' e0 e2
    rw [hx] at g1; cases g1
    rw [e1, g2]
theorem absB_ok {k : Blk} {z : Nat} {K : List Col → Ans} (h : absB k z K = true) : ∃ cols, K cols = true ∧ cols.length = z ∧ (k.cols ≠ [] → cols = k.cols) ∧
    ∀ {φ : Phi} {cs : Array Value} {δ : Nat}, BR φ k cs δ → CRs cs δ k.n z 0 cols := by
  unfold absB at h
  cases hf : flatB k with
  | false =>
    rw [hf, bR_false] at h
    obtain ⟨h1, h2⟩ := guard_ok h
    have hz := Nat.eq_of_beq_eq_true h1
    rw [lenN_eq] at hz
    refine ⟨_, h2, hz, fun _ => rfl, fun {φ cs δ} hb j c hj => ?_⟩
    rw [Nat.zero_add, ← hz]
    exact hb.cols j c hj
  | true =>
    rw [hf, bR_true, fN_eq] at h
    obtain ⟨hz, h⟩ := guard_ok h
    rw [fN_eq] at h
    obtain ⟨hr, h⟩ := guard_ok h
    have hr := Nat.eq_of_beq_eq_true hr
    obtain ⟨cells, h1, h2, h3⟩ := readN_ok h
    obtain ⟨cols, h4, h5, h6⟩ := rowsOf_ok h1
    refine ⟨cols, h4, h5, fun hne => absurd (flatB_ok hf) hne, fun {φ cs δ} hb j c hj => ?_⟩
    obtain ⟨vs, g1, g2, g3⟩ := h6 j c hj
    have hr' : k.n / z * z = k.n := hr
    rw [← hr']
    refine CR_of (cells := cells) g1 g2 g3 (φ := φ) fun i v hi => ?_
    have hlt : i < k.n := by have := (List.getElem?_eq_some_iff.1 hi).1; omega
    obtain ⟨u, e1, e2⟩ := h3 i hlt
    rw [hi] at e1; cases e1
    rw [Nat.zero_add] at e2
    exact hb.cells i v hlt e2
theorem WR.blk {w0 : World} {φ : Phi} {s : St} {w : World} (h : WR w0 φ s w) {b : List Bool} {k : Blk} (hk : s.L.get b = some k ∨ ∃ hp ∈ s.R, hp.get b = some k) (hr : Real φ b k) : ∃ p fz, At φ b k w p fz := by
  rcases hk with hk | ⟨hp, h1, h2⟩
  · rcases h.loc b k hk with h1 | ⟨p, fz, h1, _⟩
    · exact absurd h1 hr
    · exact ⟨p, fz, h1⟩
  · rcases h.ro hp h1 b k h2 with h3 | ⟨p, fz, h3⟩
    · exact absurd h3 hr
    · exact ⟨p, fz, h3.world (h.below.block p.1 h3.lt)⟩
theorem loadA_ok {s : St} {b : List Bool} {r z c n : Nat} {K : List EV → Ans} (h : loadA s b r z c (n + 1) K = true) : ∃ l, K l = true ∧ l.length = n + 1 ∧ (∀ v ∈ l, notAny v = true) ∧
    ∀ {w0 : World} {φ : Phi} {w : World}, WR w0 φ s w → ∀ {rb δ S : Nat}, φ b = some (rb, δ, S) →
      ∃ l' : List Value, VRs φ l l' ∧ ∀ (j : Nat) (v : Value), l'[j]? = some v → w.cell? ⟨rb, δ + (r * z + c) + j, none⟩ = some v := by
  obtain ⟨k, h1, hk⟩ := look_ok h
  obtain ⟨cols, h2, hz, hcols, h3⟩ := absB_ok h1
  obtain ⟨l, h4, h5, h50, h6⟩ := readCols_ok h2
  refine ⟨l, h4, h5, h50, fun {w0 φ w} hw {rb δ S} hφ => ?_⟩
  obtain ⟨col, hcol, h7⟩ := oR_ok (show oR (nthN c cols) _ = true from h2)
  rw [nthN_eq] at hcol
  have hlen : r < col.len := by
    cases col with
    | i k lo hi l => exact (reqB_ok h7).1
    | b l => exact (reqB_ok h7).1
  have hnv : ¬ k.void := fun hv => by
    rw [hcols hv.1] at hcol
    have := hv.2.2 col (List.mem_of_getElem? hcol)
    omega
  obtain ⟨p, fz, hp, cs, ty, hc, hs, hb⟩ := hw.blk hk (fun g => hnv g.1)
  rw [hφ] at hp; cases hp
  have hget : ∀ j v, l[j]? = some v → ∃ v', cs[δ + (r * z + c) + j]? = some v' ∧ VR φ v v' := fun j v hj => by
    obtain ⟨v', e1, e2⟩ := h6 φ cs δ k.n z (h3 hb) j v hj
    exact ⟨v', by rw [← e1]; congr 1; omega, e2⟩
  have hlen : δ + (r * z + c) + (n + 1) ≤ cs.size := by
    obtain ⟨v', e1, _⟩ := hget n l[n] (List.getElem?_eq_getElem (by omega))
    have := (Array.getElem?_eq_some_iff.1 e1).1
    omega
  refine ⟨(cs.toList.drop (δ + (r * z + c))).take (n + 1), VRs.of_get (by simp; omega) fun i v v' h7 h8 => ?_, fun j v h8 => ?_⟩
  · have hi : i < n + 1 := by rw [← h5]; exact (List.getElem?_eq_some_iff.1 h7).1
    obtain ⟨u', e2, e3⟩ := hget i v h7
    rw [List.getElem?_take, if_pos hi, List.getElem?_drop] at h8
    have : cs[δ + (r * z + c) + i]? = some v' := by rw [← h8]; simp
    rw [this] at e2; cases e2
    exact e3
  · have hi : j < n + 1 := by
      have := (List.getElem?_eq_some_iff.1 h8).1
      simp at this; omega
    rw [List.getElem?_take, if_pos hi, List.getElem?_drop] at h8
    simp [World.cell?, hc]
    simpa using h8
/-- c' is c with a value at a row -/
def PutRel (r : Nat) (v : EV) (c c' : Col) : Prop := r < c.len ∧ c'.len = c.len ∧ ∀ {φ : Phi} {v' : Value}, VR φ v v' → ∀ {cs cs' : Array Value} {δ n sz j : Nat}, CR cs δ n sz j c →
  cs'[δ + (r * sz + j)]? = some v' → (∀ i, i ≠ r → i < c.len → cs'[δ + (i * sz + j)]? = cs[δ + (i * sz + j)]?) → CR cs' δ n sz j c'
theorem reqIn_ok {lo hi n l h : Int} {k : Ans} (hh : reqIn lo hi n l h k = true) : k = true ∧ (InR n l h → lo ≤ n ∧ n ≤ hi) := by
  unfold reqIn at hh
  cases hb : andB (leI lo l) (leI h hi) with
  | true =>
    rw [hb, bR_true] at hh
    obtain ⟨h1, h2⟩ := andB_ok hb
    have h1 := leI_t h1
    have h2 := leI_t h2
    exact ⟨hh, fun ⟨g1, g2⟩ => ⟨by omega, by omega⟩⟩
  | false =>
    rw [hb, bR_false] at hh
    obtain ⟨h1, h2⟩ := reqB_ok hh
    exact ⟨h2, fun _ => h1⟩
theorem get_set' {α : Type} {l : List α} {r i : Nat} {x y : α} (h : (l.set r x)[i]? = some y) : (i = r ∧ y = x) ∨ (i ≠ r ∧ l[i]? = some y) := by
  rw [List.getElem?_set] at h
  by_cases e : r = i
  · rw [if_pos e] at h
    split at h
    · cases h; exact .inl ⟨e.symm, rfl⟩
    · cases h
  · rw [if_neg e] at h; exact .inr ⟨fun g => e g.symm, h⟩
theorem Col.put_ok {c : Col} {r : Nat} {v : EV} {K : Col → Ans} (h : c.put r v K = true) : ∃ c', K c' = true ∧ PutRel r v c c' := by
  cases c with
  | i k lo hi l =>
    obtain ⟨k', n, a, b, h1, h2⟩ := asNum_ok (show asNum v (fun k' n l' h' => guardB (kindEq k k') (reqIn lo hi n l' h' (reqB (r < l.length) (K (.i k lo hi (l.set r n)))))) = true from h)
    obtain ⟨hk, h3⟩ := guard_ok h1
    obtain rfl := kindEq_ok hk
    obtain ⟨h4, hin⟩ := reqIn_ok h3
    obtain ⟨hr, h5⟩ := reqB_ok h4
    refine ⟨_, h5, hr, by simp [Col.len], fun {φ v'} hv {cs cs' δ N sz j} hc hat hoth => ⟨by rw [List.length_set]; exact hc.1, fun i x hx => ?_⟩⟩
    obtain ⟨rfl, hR⟩ := h2 φ v' hv
    rcases get_set' hx with ⟨rfl, rfl⟩ | ⟨hne, hx⟩
    · exact ⟨hat, hin hR⟩
    · obtain ⟨g1, g2⟩ := hc.2 i x hx
      exact ⟨(hoth i hne (List.getElem?_eq_some_iff.1 hx).1).trans g1, g2⟩
  | b l =>
    obtain ⟨b, rfl, h1⟩ := asBool_ok (show asBool v (fun b => reqB (r < l.length) (K (.b (l.set r b)))) = true from h)
    obtain ⟨hr, h1⟩ := reqB_ok h1
    refine ⟨_, h1, hr, by simp [Col.len], fun {φ v'} hv {cs cs' δ N sz j} hc hat hoth => ⟨by rw [List.length_set]; exact hc.1, fun i x hx => ?_⟩⟩
    cases hv
    rcases get_set' hx with ⟨rfl, rfl⟩ | ⟨hne, hx⟩
    · exact hat
    · exact (hoth i hne (List.getElem?_eq_some_iff.1 hx).1).trans (hc.2 i x hx)
/-- columns with values put at a row, from the column n on -/
def PutAll (r n : Nat) (vs : List EV) (cols cols' : List Col) : Prop := cols'.length = cols.length ∧ n + vs.length ≤ cols.length ∧
  ∀ j c c', cols[j]? = some c → cols'[j]? = some c' → (n ≤ j → ∀ v, vs[j - n]? = some v → PutRel r v c c') ∧ ((j < n ∨ n + vs.length ≤ j) → c' = c)
theorem putGoC_ok {r : Nat} : ∀ {vs : List EV} {cols : List Col} {K : List Col → Ans}, putGoC r vs cols K = true → ∃ cols', K cols' = true ∧ PutAll r 0 vs cols cols'
  | [], cols, K, h => ⟨cols, h, rfl, by simp, fun j c c' h1 h2 => by rw [h1] at h2; cases h2; exact ⟨fun _ v hv => by simp at hv, fun _ => rfl⟩⟩
  | v :: vs, cols, K, h => by
    cases cols with
    | nil => exact absurd (show false = true from h) (by decide)
    | cons c cols =>
      obtain ⟨c', h1, h2⟩ := Col.put_ok (show c.put r v (fun c' => putGoC r vs cols fun l' => K (c' :: l')) = true from h)
      obtain ⟨cols', h3, h4, h5, h6⟩ := putGoC_ok h1
      refine ⟨c' :: cols', h3, by simp [h4], by simp at h5 ⊢; omega, fun j e e' g1 g2 => ?_⟩
      cases j with
      | zero =>
        simp at g1 g2; subst g1; subst g2
        exact ⟨fun _ u hu => by simp at hu; subst hu; exact h2, fun hj => by simp at hj⟩
      | succ j =>
        obtain ⟨q1, q2⟩ := h6 j e e' (by simpa using g1) (by simpa using g2)
        refine ⟨fun _ u hu => q1 (Nat.zero_le _) u (by simpa using hu), fun hj => q2 (.inr ?_)⟩
        simp at hj ⊢; omega
theorem putCols_ok {r n : Nat} : ∀ {vs : List EV} {cols : List Col} {K : List Col → Ans}, putCols r n vs cols K = true → ∃ cols', K cols' = true ∧ PutAll r n vs cols cols' := by
  induction n with
  | zero => intro vs cols K h; exact putGoC_ok h
  | succ n ih =>
    intro vs cols K h
    cases cols with
    | nil => exact absurd (show false = true from h) (by decide)
    | cons c cols =>
      obtain ⟨cols', h3, h4, h5, h6⟩ := ih (show putCols r n vs cols (fun l' => K (c :: l')) = true from h)
      refine ⟨c :: cols', h3, by simp [h4], by simp; omega, fun j e e' g1 g2 => ?_⟩
      cases j with
      | zero => simp at g1 g2; subst g1; subst g2; exact ⟨fun hj => absurd hj (by omega), fun _ => rfl⟩
      | succ j =>
        obtain ⟨q1, q2⟩ := h6 j e e' (by simpa using g1) (by simpa using g2)
        exact ⟨fun hj u hu => q1 (by omega) u (by rw [← hu]; congr 1; omega), fun hj => q2 (by omega)⟩
theorem notB_ok {b : Bool} (h : notB b = true) : b = false := by cases b <;> first | rfl | exact absurd h (by decide)
theorem nilB_f {α : Type} {l : List α} (h : nilB l = false) : l ≠ [] := by rintro rfl; cases h
theorem storeA_ok {P : Program} {s : St} {b : List Bool} {r z c : Nat} {vs : List EV} {K : St → Ans} (h : storeA s b r z c vs K = true) :
    ∃ s', K s' = true ∧ s'.c = s.c ∧ ∀ {w0 : World} {φ : Phi} {w : World}, WR w0 φ s w → ∀ {rb δ S : Nat} {vs' : List Value}, φ b = some (rb, δ, S) → VRs φ vs vs' →
      ∃ w', (storeCells ⟨rb, δ + (r * z + c), none⟩ vs').run P w = .ok () w' ∧ WR w0 φ s' w' := by
  obtain ⟨k, hk, h1⟩ := oR_ok h
  obtain ⟨hfz, h1⟩ := guard_ok h1
  have hfz := notB_ok hfz
  obtain ⟨hcell, h1⟩ := guard_ok h1
  obtain ⟨hnil, h1⟩ := guard_ok h1
  have hnil := nilB_f (notB_ok hnil)
  obtain ⟨cols, h2, hz, hcols, hCR⟩ := absB_ok h1
  obtain ⟨cols', h3, hlen', hfit, hput⟩ := putCols_ok h2
  rw [Tr.setC_eq] at h3
  have hvs1 : 0 < vs.length := List.length_pos_iff.2 hnil
  -- a column that is written: the row is there
  have hrow : ∀ j, j < cols.length → ∃ col, cols[j]? = some col := fun j hj => ⟨_, List.getElem?_eq_getElem hj⟩
  have hrlt : ∃ col, cols[c]? = some col ∧ r < col.len := by
    obtain ⟨col, e1⟩ := hrow c (by omega)
    obtain ⟨col', e2⟩ : ∃ col', cols'[c]? = some col' := ⟨_, List.getElem?_eq_getElem (by omega)⟩
    obtain ⟨v0, hv0⟩ : ∃ v0, vs[0]? = some v0 := ⟨_, List.getElem?_eq_getElem hvs1⟩
    have := (hput c col col' e1 e2).1 (Nat.le_refl _) v0 (by simpa using hv0)
    exact ⟨col, e1, this.1⟩
  refine ⟨_, h3, rfl, fun {w0 φ w} hw {rb δ S vs'} hφ hvs => ?_⟩
  have hnv : ¬ k.void := fun hv => by
    obtain ⟨col, e1, e2⟩ := hrlt
    rw [hcols hv.1] at e1
    have := hv.2.2 col (List.mem_of_getElem? e1)
    omega
  have hreal : Real φ b k := fun g => hnv g.1
  obtain ⟨p, fz, ⟨hp, cs, ty, hcs, hsz, hb⟩, hfz0, hlo⟩ := (hw.loc b k hk).real hreal
  obtain rfl := hfz0 hfz
  rw [hφ] at hp; cases hp
  have hb1 := hb.1
  simp only at hcs hsz hb hb1 hlo
  have hl := hvs.length
  have hCRs := hCR hb
  have hin : r * z + (c + vs.length) ≤ k.n := by
    obtain ⟨col, e1, e2⟩ := hrlt
    have := (hCRs c col e1).len
    have h4 := Nat.mul_le_mul_right z (show r + 1 ≤ col.len from e2)
    rw [Nat.succ_mul] at h4
    omega
  have hrun := run_storeCells_at (P := P) rb (δ + (r * z + c)) ty vs' 0 cs w hcs (by omega) (hvs.ones hcell)
  refine ⟨_, hrun, ?_⟩
  have hcs' := setRow_heap w rb cs (cs.toList.take (δ + (r * z + c) + 0) ++ vs' ++ cs.toList.drop (δ + (r * z + c) + 0 + vs'.length)).toArray ty (0, 0) hcs
  have hget : ∀ i, (cs.toList.take (δ + (r * z + c) + 0) ++ vs' ++ cs.toList.drop (δ + (r * z + c) + 0 + vs'.length)).toArray[i]? = if δ + (r * z + c) ≤ i ∧ i < δ + (r * z + c) + vs'.length then vs'[i - (δ + (r * z + c))]? else cs[i]? := by
    intro i
    simp only [List.getElem?_toArray, Nat.add_zero]
    rw [getElem?_splice _ _ _ (by simp; omega)]
    split <;> simp
  have hap : ∀ b' k' p', b ≠ b' → (kill k.mate s.L).get b' = some k' → Real φ b' k' → φ b' = some p' → rb ≠ p'.1 := by
    intro b' k' p' hne hk' hr' hp'
    rw [get_kill] at hk'
    split at hk'
    · cases hk'
    · rename_i hm; exact hw.apart b b' k k' _ p' hk hk' hne hm ⟨hreal, hr', by rw [hfz]; exact fun h => by cases h⟩ hφ hp'
  have hcne : cols' ≠ [] := by
    intro e; rw [e] at hlen'
    have : cols.length = 0 := hlen'.symm
    omega
  refine ⟨hw.below.trans (below_setRow (Below.refl _ _) hlo _), hw.ro, fun b' k' hk' => ?_, fun b1 b2 k1 k2 p1 p2 h4 h5 h6 h7 hfr h8 h9 => ?_,
    hw.loops.step (Ext2.refl _) (Others.of_except hcs fun i hi _ => setRow_other w rb i _ hi)⟩
  · rw [Tr.get_set] at hk'
    by_cases hbb : b = b'
    · subst hbb
      rw [if_pos rfl] at hk'; cases hk'
      refine .inr ⟨_, _, ⟨hφ, _, ty, hcs', ?_, ?_, fun i v hi hv => ?_, fun j col' hj => ?_⟩, fun _ => rfl, hlo⟩
      · simp; omega
      · simp; omega
      · have : (Tr.nil : Tr EV).get (key i) = some v := hv
        rw [Tr.get_nil] at this; cases this
      · have hjl : j < cols.length := by have : j < cols'.length := (List.getElem?_eq_some_iff.1 hj).1; omega
        obtain ⟨col, e1⟩ := hrow j hjl
        obtain ⟨q1, q2⟩ := hput j col col' e1 hj
        have hc1 := hCRs j col e1
        rw [Nat.zero_add] at hc1
        show CR _ δ k.n cols'.length j col'
        rw [hlen', hz]
        by_cases hjw : c ≤ j ∧ j < c + vs.length
        · obtain ⟨v, hv⟩ : ∃ v, vs[j - c]? = some v := ⟨_, List.getElem?_eq_getElem (by omega)⟩
          obtain ⟨r1, r2, r3⟩ := q1 hjw.1 v hv
          obtain ⟨v', e3, e4⟩ := hvs.get hv
          refine r3 e4 hc1 ?_ fun i hne hi => ?_
          · rw [hget, if_pos (by omega)]
            rw [← e3]; congr 1; omega
          · rw [hget, if_neg]
            intro ⟨g1, g2⟩
            rcases Nat.lt_or_gt_of_ne hne with hlt | hgt
            · have := Nat.mul_le_mul_right z (show i + 1 ≤ r from hlt)
              rw [Nat.succ_mul] at this
              omega
            · have := Nat.mul_le_mul_right z (show r + 1 ≤ i from hgt)
              rw [Nat.succ_mul] at this
              omega
        · have := q2 (by omega)
          subst this
          have same : ∀ i, i < col'.len → ∀ y, cs[δ + (i * z + j)]? = some y → (cs.toList.take (δ + (r * z + c) + 0) ++ vs' ++ cs.toList.drop (δ + (r * z + c) + 0 + vs'.length)).toArray[δ + (i * z + j)]? = some y := fun i hi y hy => by
            rw [hget, if_neg, hy]
            intro ⟨g1, g2⟩
            rcases Nat.lt_trichotomy i r with hlt | heq | hgt
            · have := Nat.mul_le_mul_right z (show i + 1 ≤ r from hlt)
              rw [Nat.succ_mul] at this
              omega
            · subst heq; omega
            · have := Nat.mul_le_mul_right z (show r + 1 ≤ i from hgt)
              rw [Nat.succ_mul] at this
              omega
          cases col' with
          | i k lo hi l => exact ⟨hc1.1, fun i x hx => ⟨same i (List.getElem?_eq_some_iff.1 hx).1 _ (hc1.2 i x hx).1, (hc1.2 i x hx).2⟩⟩
          | b l => exact ⟨hc1.1, fun i x hx => same i (List.getElem?_eq_some_iff.1 hx).1 _ (hc1.2 i x hx)⟩
    · rw [if_neg hbb] at hk'
      have hk0 : s.L.get b' = some k' := by rw [get_kill] at hk'; split at hk' <;> simp_all
      rcases hw.loc b' k' hk0 with h1 | ⟨p', fz', h10, h11⟩
      · exact .inl h1
      · by_cases hr' : Real φ b' k'
        · exact .inr ⟨p', fz', h10.world (setRow_other w rb p'.1 _ (hap b' k' p' hbb hk' hr' h10.1).symm), h11⟩
        · exact .inl (gone_of hr')
  · rw [Tr.get_set] at h4 h5
    by_cases hb1 : b = b1
    · subst hb1
      rw [if_neg h6] at h5
      rw [hφ] at h8; cases h8
      exact hap b2 k2 p2 h6 h5 hfr.r h9
    · rw [if_neg hb1] at h4
      by_cases hb2 : b = b2
      · subst hb2
        rw [hφ] at h9; cases h9
        exact (hap b1 k1 p1 hb1 h4 hfr.l h8).symm
      · rw [if_neg hb2] at h5
        have h4' : s.L.get b1 = some k1 := by rw [get_kill] at h4; split at h4 <;> simp_all
        have h5' : s.L.get b2 = some k2 := by rw [get_kill] at h5; split at h5 <;> simp_all
        exact hw.apart b1 b2 k1 k2 p1 p2 h4' h5' h6 h7 hfr h8 h9
/-! columns one behind the other -/
theorem lt_len {l : List Int} {i : Nat} {x : Int} (h : l[i]? = some x) : i < l.length := (List.getElem?_eq_some_iff.1 h).1
/-- a column behind another -/
def AppRel (a b c : Col) : Prop := ∀ {csa csb cs : Array Value} {δa δb δ na nb sz j : Nat}, CR csa δa na sz j a → CR csb δb nb sz j b →
  (∀ i y, i < a.len → csa[δa + (i * sz + j)]? = some y → cs[δ + (i * sz + j)]? = some y) → (∀ i y, i < b.len → csb[δb + (i * sz + j)]? = some y → cs[δ + na + (i * sz + j)]? = some y) → CR cs δ (na + nb) sz j c
theorem get_app {α : Type} {l m : List α} {i : Nat} {x : α} (h : (l ++ m)[i]? = some x) : (i < l.length ∧ l[i]? = some x) ∨ (l.length ≤ i ∧ m[i - l.length]? = some x) := by
  by_cases e : i < l.length
  · rw [List.getElem?_append_left e] at h; exact .inl ⟨e, h⟩
  · rw [List.getElem?_append_right (by omega)] at h; exact .inr ⟨by omega, h⟩
theorem Col.app_ok {a b : Col} {K : Col → Ans} (h : a.app b K = true) : ∃ c, K c = true ∧ AppRel a b c := by
  cases a with
  | i k lo hi l =>
    cases b with
    | b l' => exact absurd (show false = true from h) (by decide)
    | i k' lo' hi' l' =>
      obtain ⟨hk, h1⟩ := guard_ok (show guardB (kindEq k k') (fI (minI lo lo') fun lo => fI (maxI hi hi') fun hi => K (.i k lo hi (l ++ l'))) = true from h)
      obtain rfl := kindEq_ok hk
      rw [fI_eq, fI_eq, minI_eq, maxI_eq] at h1
      refine ⟨_, h1, fun {csa csb cs δa δb δ na nb sz j} ha hb h2 h3 => ⟨by rw [List.length_append, Nat.add_mul, ha.1, hb.1], fun i x hx => ?_⟩⟩
      rcases get_app hx with ⟨g1, g2⟩ | ⟨g1, g2⟩
      · obtain ⟨e1, e2, e3⟩ := ha.2 i x g2
        exact ⟨h2 i _ g1 e1, by omega, by omega⟩
      · obtain ⟨e1, e2, e3⟩ := hb.2 _ x g2
        refine ⟨?_, by omega, by omega⟩
        have := h3 _ _ (lt_len g2) e1
        rw [← this]
        congr 1
        have e4 : i * sz = na + (i - l.length) * sz := by rw [← ha.1, ← Nat.add_mul]; congr 1; omega
        omega
  | b l =>
    cases b with
    | i k' lo' hi' l' => exact absurd (show false = true from h) (by decide)
    | b l' =>
      refine ⟨_, (show K (.b (l ++ l')) = true from h), fun {csa csb cs δa δb δ na nb sz j} ha hb h2 h3 => ⟨by rw [List.length_append, Nat.add_mul, ha.1, hb.1], fun i x hx => ?_⟩⟩
      rcases get_app hx with ⟨g1, g2⟩ | ⟨g1, g2⟩
      · exact h2 i _ g1 (ha.2 i x g2)
      · have := h3 _ _ (show i - l.length < l'.length from (List.getElem?_eq_some_iff.1 g2).1) (hb.2 _ x g2)
        rw [← this]
        congr 1
        have e4 : i * sz = na + (i - l.length) * sz := by rw [← ha.1, ← Nat.add_mul]; congr 1; omega
        omega
theorem appCols_ok : ∀ {a b : List Col} {K : List Col → Ans}, appCols a b K = true → ∃ cols, K cols = true ∧ cols.length = a.length ∧ a.length = b.length ∧ ∀ (j : Nat) (c : Col), cols[j]? = some c → ∃ (x y : Col), a[j]? = some x ∧ b[j]? = some y ∧ AppRel x y c
  | [], b, K, h => by
    have h : bR (nilB b) (K []) false = true := h
    cases b with
    | nil => exact ⟨[], h, rfl, rfl, fun j c hj => by simp at hj⟩
    | cons x b => exact absurd (show false = true from h) (by decide)
  | c :: a, b, K, h => by
    cases b with
    | nil => exact absurd (show false = true from h) (by decide)
    | cons d b =>
      obtain ⟨e, h1, h2⟩ := Col.app_ok (show c.app d (fun e => appCols a b fun r => K (e :: r)) = true from h)
      obtain ⟨cols, h3, h4, h40, h5⟩ := appCols_ok h1
      refine ⟨e :: cols, h3, by simp [h4], by simp [h40], fun j u hj => ?_⟩
      cases j with
      | zero => simp at hj; subst hj; exact ⟨c, d, rfl, rfl, h2⟩
      | succ j => obtain ⟨x, y, g1, g2, g3⟩ := h5 j u (by simpa using hj); exact ⟨x, y, by simpa using g1, by simpa using g2, g3⟩
theorem widen_ok : ∀ {cols : List Col} {K : List Col → Ans}, widen cols K = true → ∃ cols', K cols' = true ∧ cols'.length = cols.length ∧ ∀ (j : Nat) (c' : Col), cols'[j]? = some c' → ∃ c : Col, cols[j]? = some c ∧ ∀ {cs : Array Value} {δ n sz j : Nat}, CR cs δ n sz j c → CR cs δ n sz j c'
  | [], K, h => ⟨[], h, rfl, fun j c hj => by simp at hj⟩
  | .i k lo hi l :: cols, K, h => by
    have h : fI k.min (fun mn => fI k.max fun mx => guardB (andB (leI mn lo) (leI hi mx)) (widen cols fun r => K (.i k mn mx l :: r))) = true := h
    rw [fI_eq, fI_eq] at h
    obtain ⟨hb, h1⟩ := guard_ok h
    obtain ⟨b1, b2⟩ := andB_ok hb
    have b1 := leI_t b1
    have b2 := leI_t b2
    obtain ⟨cols', h3, h4, h5⟩ := widen_ok h1
    refine ⟨_ :: cols', h3, by simp [h4], fun j c' hj => ?_⟩
    cases j with
    | zero =>
      simp at hj; subst hj
      exact ⟨_, rfl, fun hc => ⟨hc.1, fun i x hx => by obtain ⟨g1, g2, g3⟩ := hc.2 i x hx; exact ⟨g1, by omega, by omega⟩⟩⟩
    | succ j => obtain ⟨c, g1, g2⟩ := h5 j c' (by simpa using hj); exact ⟨c, by simpa using g1, g2⟩
  | .b l :: cols, K, h => by
    obtain ⟨cols', h3, h4, h5⟩ := widen_ok (show widen cols (fun r => K (.b l :: r)) = true from h)
    refine ⟨_ :: cols', h3, by simp [h4], fun j c' hj => ?_⟩
    cases j with
    | zero => simp at hj; subst hj; exact ⟨_, rfl, id⟩
    | succ j => obtain ⟨c, g1, g2⟩ := h5 j c' (by simpa using hj); exact ⟨c, by simpa using g1, g2⟩
theorem Col.sub_ok {c : Col} {cs : Array Value} {δ n sz j o len : Nat} (h : CR cs δ n sz j c) (hs : 1 ≤ sz) (hf : (o + len) * sz ≤ n) : CR cs (δ + o * sz) (len * sz) sz j (c.sub o len) := by
  have hl : o + len ≤ c.len := by
    rw [← h.len] at hf
    exact Nat.le_of_mul_le_mul_right hf (by omega)
  have key : ∀ {α : Type} {l : List α} {i : Nat} {x : α}, ((l.drop o).take len)[i]? = some x → l[o + i]? = some x := by
    intro α l i x hx
    rw [List.getElem?_take] at hx
    split at hx
    · rw [List.getElem?_drop] at hx; exact hx
    · cases hx
  cases c with
  | i k lo hi l =>
    have hl : o + len ≤ l.length := hl
    refine ⟨by simp; congr 1; omega, fun i x hx => ?_⟩
    obtain ⟨g1, g2⟩ := h.2 _ x (key hx)
    exact ⟨by rw [← g1]; congr 1; rw [Nat.add_mul]; omega, g2⟩
  | b l =>
    have hl : o + len ≤ l.length := hl
    refine ⟨by simp; congr 1; omega, fun i x hx => ?_⟩
    have g1 := h.2 _ x (key hx)
    rw [← g1]; congr 1; rw [Nat.add_mul]; omega
theorem subCols_get {o len : Nat} : ∀ {cols : List Col} {j : Nat} {c : Col}, (subCols o len cols)[j]? = some c → ∃ d, cols[j]? = some d ∧ c = d.sub o len
  | [], j, c, h => by simp [subCols] at h
  | d :: cols, j, c, h => by
    have h : (d.sub o len :: subCols o len cols)[j]? = some c := h
    cases j with
    | zero => simp at h; exact ⟨d, rfl, h.symm⟩
    | succ j => obtain ⟨e, g1, g2⟩ := subCols_get (by simpa using h); exact ⟨e, by simpa using g1, g2⟩
theorem subCols_length {o len : Nat} : ∀ {cols : List Col}, (subCols o len cols).length = cols.length
  | [] => rfl
  | _ :: cols => congrArg Nat.succ (subCols_length (cols := cols))
theorem WR.less {w0 : World} {φ : Phi} {s : St} {w : World} (h : WR w0 φ s w) {L : Heap} (hs : ∀ b k, L.get b = some k → s.L.get b = some k) : WR w0 φ ⟨s.c, L, s.R, s.J⟩ w :=
  ⟨h.below, h.ro, fun b k hb => h.loc b k (hs b k hb), fun b b' k k' p p' h1 h2 => h.apart b b' k k' p p' (hs _ _ h1) (hs _ _ h2), h.loops⟩
/-- a new block, which lies behind all that was -/
theorem addWR {w0 : World} {φ : Phi} {s : St} {w w' : World} {nk : Blk} {q : Nat × Nat × Nat} (hw : WR w0 φ s w) (hc : φ s.c = none) (hbl : Below w.heap.size w w')
    (hnew : (nk.void ∧ q.2.2 = 0) ∨ (w.heap.size ≤ q.1 ∧ At (φ.put s.c q) s.c nk w' q (0, 0))) : WR w0 (φ.put s.c q) ⟨inc s.c, Tr.set (some nk) s.c s.L, s.R, s.J⟩ w' := by
  have hst := Step.put (φ := φ) q hc
  have hself : (φ.put s.c q) s.c = some q := by simp [Phi.put]
  have hnr : Real (φ.put s.c q) s.c nk → w.heap.size ≤ q.1 := fun hr => by
    rcases hnew with hv | ⟨h, _⟩
    · exact absurd ⟨hv.1, q, hself, hv.2⟩ hr
    · exact h
  have lt : ∀ b k p, (Tr.set (some nk) s.c s.L).get b = some k → b ≠ s.c → Real (φ.put s.c q) b k → (φ.put s.c q) b = some p → s.L.get b = some k ∧ φ b = some p ∧ p.1 < w.heap.size := by
    intro b k p hk hne hr hp
    rw [Tr.get_set, if_neg (fun e => hne e.symm)] at hk
    obtain ⟨q', _, h7, _⟩ := (hw.loc b k hk).real (hr.back hst.ext)
    have : φ b = some p := by simpa [Phi.put, hne] using hp
    have h8 := h7.1
    rw [this] at h8; cases h8
    exact ⟨hk, this, h7.lt⟩
  refine ⟨hw.below.trans (hbl.mono hw.below.size), fun hp h1 b k h2 => (hw.ro hp h1 b k h2).mono hst.ext, fun b k hk => ?_, fun b1 b2 k1 k2 p1 p2 h1 h2 h3 h4 hsep h5 h6 => ?_,
    hw.loops.step hst.ext (Others.of_lt fun i hi => hbl.block i hi)⟩
  · by_cases hb : b = s.c
    · subst hb
      rw [Tr.get_set, if_pos rfl] at hk; cases hk
      rcases hnew with hv | ⟨h1, h2⟩
      · exact .inl ⟨hv.1, q, hself, hv.2⟩
      · exact .inr ⟨q, _, h2, fun _ => rfl, Nat.le_trans hw.below.size h1⟩
    · rw [Tr.get_set, if_neg (fun e => hb e.symm)] at hk
      rcases hw.loc b k hk with h1 | ⟨p, fz, h1, h2⟩
      · exact .inl (h1.mono hst.ext)
      · exact .inr ⟨p, fz, (h1.mono hst.ext).world (hbl.block p.1 h1.lt), h2⟩
  · by_cases e1 : b1 = s.c
    · subst e1
      rw [Tr.get_set, if_pos rfl] at h1; cases h1
      rw [hself] at h5; cases h5
      have := (lt b2 k2 p2 h2 (fun e => h3 e.symm) hsep.r h6).2.2
      have := hnr hsep.l
      omega
    · by_cases e2 : b2 = s.c
      · subst e2
        rw [Tr.get_set, if_pos rfl] at h2; cases h2
        rw [hself] at h6; cases h6
        have := (lt b1 k1 p1 h1 e1 hsep.l h5).2.2
        have := hnr hsep.r
        omega
      · obtain ⟨g1, g2, _⟩ := lt b1 k1 p1 h1 e1 hsep.l h5
        obtain ⟨g3, g4, _⟩ := lt b2 k2 p2 h2 e2 hsep.r h6
        exact hw.apart b1 b2 k1 k2 p1 p2 g1 g3 h3 h4 (hsep.back hst.ext) g2 g4
theorem CRs.ones {ys : List Value} {m z : Nat} {cols : List Col} (h : CRs ys.toArray 0 (m * z) z 0 cols) (hc : cols.length = z) (hl : ys.length = m * z) : ∀ u ∈ ys, u.oneCell' = true := by
  intro u hu
  obtain ⟨t, ht⟩ := List.getElem?_of_mem hu
  have hlt : t < m * z := by rw [← hl]; exact (List.getElem?_eq_some_iff.1 ht).1
  have hz : 0 < z := Nat.pos_of_ne_zero fun e => by rw [e] at hlt; omega
  have hmod := Nat.mod_lt t hz
  obtain ⟨c, hcj⟩ : ∃ c, cols[t % z]? = some c := ⟨_, List.getElem?_eq_getElem (by omega)⟩
  have hcr := h _ c hcj
  rw [Nat.zero_add] at hcr
  have hdiv : t / z < m := (Nat.div_lt_iff_lt_mul hz).2 hlt
  have e1 : t / z * z + t % z = t := by rw [Nat.mul_comm]; exact Nat.div_add_mod t z
  have hm : c.len = m := by
    have := hcr.len
    exact Nat.eq_of_mul_eq_mul_right hz this
  cases c with
  | i k lo hi l =>
    have hm : l.length = m := hm
    obtain ⟨x, hx⟩ : ∃ x, l[t / z]? = some x := ⟨_, List.getElem?_eq_getElem (by omega)⟩
    have := (hcr.2 _ x hx).1
    rw [Nat.zero_add, e1] at this
    simp [ht] at this; rw [this]; rfl
  | b l =>
    have hm : l.length = m := hm
    obtain ⟨x, hx⟩ : ∃ x, l[t / z]? = some x := ⟨_, List.getElem?_eq_getElem (by omega)⟩
    have := hcr.2 _ x hx
    rw [Nat.zero_add, e1] at this
    simp [ht] at this; rw [this]; rfl
/-- cells of a slice of rows -/
structure Rows (w : World) (v' : Value) (m z : Nat) (cols : List Col) (ys : List Value) : Prop where
  at_ : ∃ a cap, v' = .slice a m cap ∧ m ≤ cap ∧ (∀ ad, a = some ad → ∀ j u, ys[j]? = some u → w.cell? (ad.add j) = some u) ∧ (m ≠ 0 → a ≠ none)
  len : ys.length = m * z
  crs : CRs ys.toArray 0 (m * z) z 0 cols
theorem addr_add' {rb q n : Nat} : (⟨rb, q, none⟩ : Addr).add n = ⟨rb, q + n, none⟩ := by
  unfold Addr.add; split <;> simp_all
theorem sub_zero_CR {c : Col} {cs : Array Value} {δ sz j o : Nat} : CR cs δ (0 * sz) sz j (c.sub o 0) := by
  cases c with
  | i k lo hi l => exact ⟨by simp, fun i x hx => by simp at hx⟩
  | b l => exact ⟨by simp, fun i x hx => by simp at hx⟩
theorem contentQ_ok {s : St} {z : Nat} {v : EV} {kn : Ans} {K : Nat → List Col → Ans} (h : contentQ s z v kn K = true) (hz1 : 1 ≤ z) :
    (kn = true ∧ ∀ φ v', VR φ v v' → v' = .slice none 0 0 ∨ ∃ a c, v' = .slice (some a) 0 c) ∨
    ∃ m cols, K m cols = true ∧ cols.length = z ∧ ∀ {w0 : World} {φ : Phi} {w : World}, WR w0 φ s w → ∀ v', VR φ v v' → ∃ ys, Rows w v' m z cols ys := by
  rcases asSl2_ok h with ⟨rfl, h1⟩ | ⟨b, o, len, z', rfl, h1⟩ | ⟨b, o, len, z', mx, rfl, h1⟩
  · exact .inl ⟨h1, fun φ v' hv => by cases hv; exact .inl rfl⟩
  · obtain ⟨hz, h1'⟩ := guard_ok h1
    clear h1 h
    have h1 := h1'; clear h1'
    have hz := Nat.eq_of_beq_eq_true hz
    subst hz
    cases hb : Nat.beq len 0 with
    | true =>
      rw [hb, bR_true] at h1
      have e0 := Nat.eq_of_beq_eq_true hb
      exact .inl ⟨h1, fun φ v' hv => by subst e0; cases hv <;> exact .inr ⟨_, _, rfl⟩⟩
    | false =>
      rw [hb, bR_false] at h1
      have hne : len ≠ 0 := fun e => by subst e; cases hb
      obtain ⟨cells, h2, h3, h4⟩ := loadB_ok h1
      obtain ⟨cols, h5, h6, h7⟩ := rowsOf_ok h2
      refine .inr ⟨len, cols, h5, h6, fun {w0 φ w} hw v' hv => ?_⟩
      cases hv with
      | slice0 a hφ => exact absurd rfl hne
      | slice hφ g1 g2 =>
        obtain ⟨l', e1, e2⟩ := h4 hw hφ
        have hl' : l'.length = len * z' := by rw [← e1.length, h3]; rfl
        refine ⟨l', ⟨_, _, rfl, g1, fun ad had j u hj => ?_, fun _ => by simp⟩, hl', fun j c hj => ?_⟩
        · cases had; rw [addr_add']; exact e2 j u hj
        · obtain ⟨vs, q1, q2, q3⟩ := h7 j c hj
          refine CR_of (cells := cells) q1 q2 q3 (φ := φ) fun i u hi => ?_
          obtain ⟨u', r1, r2⟩ := e1.get hi
          exact ⟨u', by simpa using r1, r2⟩
  · obtain ⟨hz, h1⟩ := guard_ok h1
    have hz := Nat.eq_of_beq_eq_true hz
    subst hz
    obtain ⟨k, h1, hk⟩ := look_ok h1
    obtain ⟨hfit, h1⟩ := reqB_ok h1
    obtain ⟨cols, h2, h3, hcols, h4⟩ := absB_ok h1
    refine .inr ⟨len, _, h2, by rw [subCols_length]; exact h3, fun {w0 φ w} hw v' hv => ?_⟩
    have zero : len = 0 → CRs ([] : List Value).toArray 0 (len * z') z' 0 (subCols o len cols) := fun e j c hj => by
      obtain ⟨d, _, rfl⟩ := subCols_get hj
      subst e; exact sub_zero_CR
    cases hv with
    | aslice0 a hφ => exact ⟨[], ⟨_, _, rfl, Nat.le_refl _, fun ad _ j u hj => by simp at hj, fun e => absurd rfl e⟩, by simp, zero rfl⟩
    | aslice hφ g1 g2 g3 =>
      rename_i rb δ S cap
      by_cases hv : Gone φ b k
      · have e0 : len = 0 := by
          have := hv.1.2.1
          rw [this] at hfit
          rcases Nat.mul_eq_zero.1 (Nat.le_zero.1 hfit) with h | h
          · omega
          · omega
        refine ⟨[], ⟨_, _, rfl, g1, fun ad _ j u hj => by simp at hj, fun e => absurd e0 e⟩, by rw [e0]; simp, zero e0⟩
      · obtain ⟨p, fz, hp, cs, ty, hc, hs, hb⟩ := hw.blk hk hv
        rw [hφ] at hp; cases hp
        have hb1 := hb.1
        simp only at hb1 hc hs hb
        have hfit' : o * z' + len * z' ≤ k.n := by rw [← Nat.add_mul]; exact hfit
        have hlen : ((cs.toList.drop (δ + o * z')).take (len * z')).length = len * z' := by simp; omega
        refine ⟨(cs.toList.drop (δ + o * z')).take (len * z'), ⟨_, _, rfl, g1, fun ad had j u hj => ?_, fun _ => by simp⟩, hlen, fun j c hj => ?_⟩
        · cases had
          have hj2 : j < len * z' := by rw [← hlen]; exact (List.getElem?_eq_some_iff.1 hj).1
          rw [addr_add', ← hj, List.getElem?_take, if_pos hj2, List.getElem?_drop]
          simp [World.cell?, hc]
        · obtain ⟨d, hd, rfl⟩ := subCols_get hj
          have hcr := Col.sub_ok (h4 hb j d hd) hz1 hfit
          have hsame : ∀ i jj, i < len → jj < z' → ((cs.toList.drop (δ + o * z')).take (len * z')).toArray[0 + (i * z' + jj)]? = cs[δ + o * z' + (i * z' + jj)]? := fun i jj hi hjj => by
            have : i * z' + jj < len * z' := by
              have := Nat.mul_le_mul_right z' (show i + 1 ≤ len from hi)
              rw [Nat.succ_mul] at this; omega
            rw [Nat.zero_add]
            simp only [List.getElem?_toArray]
            rw [List.getElem?_take, if_pos this, List.getElem?_drop, Array.getElem?_toList]
          have hjz : 0 + j < z' := by
            have := (List.getElem?_eq_some_iff.1 hj).1
            rw [subCols_length] at this; omega
          have hlenc := hcr.len
          have hclen : (d.sub o len).len = len := Nat.eq_of_mul_eq_mul_right (by omega) hlenc
          generalize d.sub o len = c at hcr hclen
          cases c with
          | i k lo hi l =>
            have hclen : l.length = len := hclen
            exact ⟨hcr.1, fun i x hx => by rw [hsame i _ (by have := lt_len hx; omega) hjz]; exact hcr.2 i x hx⟩
          | b l =>
            have hclen : l.length = len := hclen
            exact ⟨hcr.1, fun i x hx => by rw [hsame i _ (by have := (List.getElem?_eq_some_iff.1 hx).1; omega) hjz]; exact hcr.2 i x hx⟩
end
end Go.Ev
