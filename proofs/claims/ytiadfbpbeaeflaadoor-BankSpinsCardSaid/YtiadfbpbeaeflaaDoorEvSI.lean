/- Loops by invariants: what is there when a round begins. -/
import Derived.Test.YtiadfbpbeaeflaaDoorEvSJ
namespace Go.Ev
open Go.RowKit (Below)
theorem key_same {φ φ1 : Phi} (hx : Ext2 φ φ1) {b : List Bool} {p p' : Nat × Nat × Nat} (h0 : φ b = some p) (h1 : φ1 b = some p') : φ b = some p' := by
  have := hx _ _ h0
  rw [h1] at this; cases this; exact h0
mutual
theorem VR.rekey {φ φ1 : Phi} (hx : Ext2 φ φ1) {v : EV} {v0 v1 : Value} (h0 : VR φ v v0) (h1 : VR φ1 v v1) : VR φ v v1 := by
  cases h1 with
  | bool b => exact .bool b
  | int k n => exact .int k n
  | str s => exact .str s
  | nilp => exact .nilp
  | ptr h => cases h0 with | ptr h' => exact .ptr (key_same hx h' h)
  | nils => exact .nils
  | slice h h1 h2 => cases h0 with
    | slice h' _ _ => exact .slice (key_same hx h' h) h1 h2
    | slice0 _ h' => exact .slice (key_same hx h' h) h1 h2
  | slice0 a h => cases h0 with
    | slice h' _ _ => exact .slice0 a h'
    | slice0 _ h' => exact .slice0 a h'
  | func h1 h2 => cases h0 with | func g1 g2 => exact .func (VRs.rekey hx g1 h1) (VRs.rekey hx g2 h2)
  | nilf => exact .nilf
  | iface h => cases h0 with | iface g => exact .iface (VR.rekey hx g h)
  | nili => exact .nili
  | agg h => cases h0 with | agg g => exact .agg (VRs.rekey hx g h)
  | tuple h => cases h0 with | tuple g => exact .tuple (VRs.rekey hx g h)
  | nilm => exact .nilm
  | yld h => cases h0 with | yld h' => exact .yld (key_same hx h' h)
  | mapv h => cases h0 with | mapv h' => exact .mapv (key_same hx h' h)
  | sym k n lo hi h1 h2 => exact .sym k n lo hi h1 h2
  | any => exact .any _
  | aptr h => cases h0 with | aptr h' => exact .aptr (key_same hx h' h)
  | aslice h h1 h2 h3 => cases h0 with
    | aslice h' _ _ _ => exact .aslice (key_same hx h' h) h1 h2 h3
    | aslice0 _ h' => exact .aslice (key_same hx h' h) h1 h2 h3
  | aslice0 a h => cases h0 with
    | aslice h' _ _ _ => exact .aslice0 a h'
    | aslice0 _ h' => exact .aslice0 a h'
theorem VRs.rekey {φ φ1 : Phi} (hx : Ext2 φ φ1) {v : List EV} {v0 v1 : List Value} (h0 : VRs φ v v0) (h1 : VRs φ1 v v1) : VRs φ v v1 := by
  cases h1 with
  | nil => exact .nil
  | cons h hs => cases h0 with | cons g gs => exact .cons (VR.rekey hx g h) (VRs.rekey hx gs hs)
end
theorem nilL_ok {α : Type} {l : List α} {k : Ans} (h : nilL l k = true) : l = [] ∧ k = true := by
  cases l with
  | nil => exact ⟨rfl, h⟩
  | cons x l => exact absurd (show false = true from h) (by decide)
theorem noneB_ok {α : Type} {o : Option α} (h : noneB o = true) : o = none := by
  cases o with
  | none => rfl
  | some x => exact absurd (show false = true from h) (by decide)
/-! columns of kinds -/
inductive Tmpl : List CK → List Col → List DV → Prop
  | nil : Tmpl [] [] []
  | i {k : IntKind} {lo hi : Int} {l : List Int} {cs : List CK} {cols : List Col} {d : List DV} (h : Tmpl cs cols d) : Tmpl (.i k lo hi :: cs) (.i k lo hi l :: cols) (.l l :: d)
  | b {l : List Bool} {cs : List CK} {cols : List Col} {d : List DV} (h : Tmpl cs cols d) : Tmpl (.b :: cs) (.b l :: cols) (.lb l :: d)
theorem Tmpl.length {cs : List CK} {cols : List Col} {d : List DV} (h : Tmpl cs cols d) : cols.length = cs.length := by
  induction h with
  | nil => rfl
  | i _ ih => simp [ih]
  | b _ ih => simp [ih]
theorem emptyD_ok : ∀ cs : List CK, ∃ cols, Tmpl cs cols (emptyD cs) ∧ ∀ c ∈ cols, c.len = 0
  | [] => ⟨[], .nil, fun c hc => by cases hc⟩
  | .i k lo hi :: cs => by
    obtain ⟨cols, h1, h2⟩ := emptyD_ok cs
    refine ⟨.i k lo hi [] :: cols, .i h1, fun c hc => ?_⟩
    rcases List.mem_cons.1 hc with rfl | hc
    · rfl
    · exact h2 c hc
  | .b :: cs => by
    obtain ⟨cols, h1, h2⟩ := emptyD_ok cs
    refine ⟨.b [] :: cols, .b h1, fun c hc => ?_⟩
    rcases List.mem_cons.1 hc with rfl | hc
    · rfl
    · exact h2 c hc
/-- what holds of the column holds of the other -/
def Weak (c c' : Col) : Prop := c'.len = c.len ∧ ∀ {cs : Array Value} {δ n sz j : Nat}, CR cs δ n sz j c → CR cs δ n sz j c'
/-- bounds of a column -/
def Col.bnd : Col → Prop
  | .i _ lo hi l => ∀ y ∈ l, lo ≤ y ∧ y ≤ hi
  | .b _ => True
theorem colsD_ok {len : Nat} : ∀ {cs : List CK} {l : List Col} {K : List DV → Ans}, colsD len cs l K = true → ∃ d cols, K d = true ∧ Tmpl cs cols d ∧ l.length = cs.length ∧ (∀ c ∈ cols, c.len = len ∧ c.bnd) ∧ ∀ (j : Nat) (c' : Col), cols[j]? = some c' → ∃ c : Col, l[j]? = some c ∧ Weak c c'
  | [], l, K, h => by
    have h : bR (nilB l) (K []) false = true := h
    cases l with
    | nil => exact ⟨[], [], h, .nil, rfl, (fun c hc => by cases hc), fun j c hj => by simp at hj⟩
    | cons x l => exact absurd (show false = true from h) (by decide)
  | .i k lo hi :: cs, l, K, h => by
    cases l with
    | nil => exact absurd (show false = true from h) (by decide)
    | cons d l =>
      cases d with
      | b x => exact absurd (show false = true from h) (by decide)
      | i k' lo' hi' x =>
        obtain ⟨hk, h1⟩ := guard_ok (show guardB (kindEq k k') (reqB (x.length = len) (reqB (∀ y ∈ x, lo ≤ y ∧ y ≤ hi) (colsD len cs l fun r => K (.l x :: r)))) = true from h)
        obtain rfl := kindEq_ok hk
        obtain ⟨hl, h2⟩ := reqB_ok h1
        obtain ⟨hb, h3⟩ := reqB_ok h2
        obtain ⟨d, cols, g2, g3, g4, g5, g6⟩ := colsD_ok h3
        refine ⟨_, .i k lo hi x :: cols, g2, .i g3, by simp [g4], fun c hc => ?_, fun j c' hj => ?_⟩
        · rcases List.mem_cons.1 hc with rfl | hc
          · exact ⟨hl, hb⟩
          · exact g5 c hc
        · cases j with
          | zero =>
            simp at hj; subst hj
            exact ⟨_, rfl, rfl, fun {cs δ n sz j} hc => ⟨hc.1, fun i y hy => ⟨(hc.2 i y hy).1, hb y (List.mem_of_getElem? hy)⟩⟩⟩
          | succ j => obtain ⟨c, r1, r2⟩ := g6 j c' (by simpa using hj); exact ⟨c, by simpa using r1, r2⟩
  | .b :: cs, l, K, h => by
    cases l with
    | nil => exact absurd (show false = true from h) (by decide)
    | cons d l =>
      cases d with
      | i k' lo' hi' x => exact absurd (show false = true from h) (by decide)
      | b x =>
        obtain ⟨hl, h3⟩ := reqB_ok (show reqB (x.length = len) (colsD len cs l fun r => K (.lb x :: r)) = true from h)
        obtain ⟨d, cols, g2, g3, g4, g5, g6⟩ := colsD_ok h3
        refine ⟨_, .b x :: cols, g2, .b g3, by simp [g4], fun c hc => ?_, fun j c' hj => ?_⟩
        · rcases List.mem_cons.1 hc with rfl | hc
          · exact ⟨hl, trivial⟩
          · exact g5 c hc
        · cases j with
          | zero => simp at hj; subst hj; exact ⟨_, rfl, rfl, id⟩
          | succ j => obtain ⟨c, r1, r2⟩ := g6 j c' (by simpa using hj); exact ⟨c, by simpa using r1, r2⟩
theorem CR.bnd {cs : Array Value} {δ n sz j : Nat} {c : Col} (h : CR cs δ n sz j c) : c.bnd := by
  cases c with
  | i k lo hi l => intro y hy; obtain ⟨i, hi⟩ := List.getElem?_of_mem hy; exact (h.2 i y hi).2
  | b l => trivial
theorem bnd_empty {c : Col} (h : c.len = 0) : c.bnd := by
  cases c with
  | i k lo hi l => intro y hy; have h : l.length = 0 := h; rw [List.length_eq_zero_iff] at h; subst h; cases hy
  | b l => trivial
theorem allCols_ok {cs : List CK} {cols : List Col} {d : List DV} (ht : Tmpl cs cols d) {len : Nat} (hl : ∀ c ∈ cols, c.len = len ∧ c.bnd) : ∀ {K : List Col → List DV → Ans}, allCols cs len K = true → K cols d = true := by
  induction ht with
  | nil => intro K h; exact h
  | i _ ih =>
    rename_i k lo hi l cs cols d _
    intro K h
    have h1 := allB_ok (show allB (fun l : List Int => impB (l.length = len) (impB (∀ y ∈ l, lo ≤ y ∧ y ≤ hi) (allCols cs len fun r d => K (.i k lo hi l :: r) (.l l :: d)))) = true from h) l
    obtain ⟨g1, g2⟩ := hl _ List.mem_cons_self
    have h2 := impB_ok (impB_ok h1 g1) g2
    exact ih (fun c hc => hl c (List.mem_cons_of_mem _ hc)) h2
  | b _ ih =>
    rename_i l cs cols d _
    intro K h
    have h1 := allB_ok (show allB (fun l : List Bool => impB (l.length = len) (allCols cs len fun r d => K (.b l :: r) (.lb l :: d))) = true from h) l
    have h2 := impB_ok h1 (hl _ List.mem_cons_self).1
    exact ih (fun c hc => hl c (List.mem_cons_of_mem _ hc)) h2
theorem allRows_ok {cs : List CK} {cols : List Col} {d : List DV} (ht : Tmpl cs cols d) {len mx : Nat} (hl : ∀ c ∈ cols, c.len = len ∧ c.bnd) (hm : len ≤ mx) (hne : cs ≠ []) {K : Nat → List Col → List DV → Ans} (h : allRows cs mx K = true) : K len cols d = true := by
  cases ht with
  | nil => exact absurd rfl hne
  | i h3 =>
    rename_i k lo hi l cs cols d
    have h1 := allB_ok (show allB (fun l : List Int => impB (l.length ≤ mx) (impB (∀ y ∈ l, lo ≤ y ∧ y ≤ hi) (allCols cs l.length fun r d => K l.length (.i k lo hi l :: r) (.l l :: d)))) = true from h) l
    obtain ⟨g1, g2⟩ := hl _ List.mem_cons_self
    have g1 : l.length = len := g1
    subst g1
    have h2 := impB_ok (impB_ok h1 hm) g2
    exact allCols_ok h3 (fun c hc => hl c (List.mem_cons_of_mem _ hc)) h2
  | b h3 =>
    rename_i l cs cols d
    have h1 := allB_ok (show allB (fun l : List Bool => impB (l.length ≤ mx) (allCols cs l.length fun r d => K l.length (.b l :: r) (.lb l :: d))) = true from h) l
    obtain ⟨g1, _⟩ := hl _ List.mem_cons_self
    have g1 : l.length = len := g1
    subst g1
    have h2 := impB_ok h1 hm
    exact allCols_ok h3 (fun c hc => hl c (List.mem_cons_of_mem _ hc)) h2
/-! an own slice -/
/-- where a slice's rows lie, which nobody else has -/
def OwnAt (w0 : World) (φ : Phi) (s : St) (w : World) (b : Option (List Bool)) (v' : Value) (len z : Nat) (cols : List Col) (loc : Option Nat) : Prop :=
  (len = 0 ∧ (∃ a, v' = .slice a 0 0) ∧ (∀ c ∈ cols, c.len = 0) ∧ loc = none) ∨
  ∃ b' rb q cap δ S cs ty k, b = some b' ∧ v' = .slice (some ⟨rb, q, none⟩) len cap ∧ len ≤ cap ∧ s.L.get b' = some k ∧ Real φ b' k ∧ φ b' = some (rb, δ, S) ∧ w.heap[rb]? = some (.cells cs ty (0, 0)) ∧ cs.size = S ∧ w0.heap.size ≤ rb ∧ q + cap * z ≤ S ∧
    (∀ (j : Nat) (c : Col), cols[j]? = some c → CR cs q (len * z) z j c) ∧ loc = some rb
theorem own_ok {cs : List CK} {mx : Nat} {v : EV} {s : St} {K : List DV → Ans} (h : exC (.l cs mx) v s K = true) : ∃ d cols len, K d = true ∧ Tmpl cs cols d ∧ cs ≠ [] ∧ len ≤ mx ∧ (∀ c ∈ cols, c.len = len ∧ c.bnd) ∧
    ∀ {w0 : World} {φ : Phi} {w : World}, (∀ b, keyOf v = some b → ∃ k, s.L.get b = some k ∧ k.fz = false) → WR w0 φ s w → ∀ v', VR φ v v' → ∃ loc, OwnAt w0 φ s w (keyOf v) v' len cs.length cols loc := by
  obtain ⟨hnil, h⟩ := guard_ok (show guardB (notB (nilB cs)) (contentQ s (lenN cs) v (K (emptyD cs)) fun len cols => reqB (len ≤ mx) (colsD len cs cols K)) = true from h)
  have hne := nilB_f (notB_ok hnil)
  have hz : 1 ≤ cs.length := List.length_pos_iff.2 hne
  rw [lenN_eq] at h
  obtain ⟨ecols, het, hez⟩ := emptyD_ok cs
  -- at an owned block
  have block : ∀ {w0 : World} {φ : Phi} {w : World} {b : List Bool} {rb δ S : Nat}, (∃ k, s.L.get b = some k ∧ k.fz = false) → WR w0 φ s w → φ b = some (rb, δ, S) →
      S = 0 ∨ ∃ k cs' ty, s.L.get b = some k ∧ Real φ b k ∧ w.heap[rb]? = some (.cells cs' ty (0, 0)) ∧ cs'.size = S ∧ w0.heap.size ≤ rb := fun {w0 φ w b rb δ S} ⟨k, h1, h2⟩ hw hφ => by
    by_cases hg : Gone φ b k
    · obtain ⟨_, p, e1, e2⟩ := hg
      rw [hφ] at e1; cases e1; exact .inl e2
    · obtain ⟨p, fz, ⟨hp, cs', ty, q1, q2, _⟩, q4, q5⟩ := (hw.loc b k h1).real hg
      rw [hφ] at hp; cases hp
      rw [q4 h2] at q1
      exact .inr ⟨k, cs', ty, h1, hg, q1, q2, q5⟩
  have zcap : ∀ {cap : Nat}, cap * cs.length ≤ 0 → cap = 0 := fun {cap} h => by
    rcases Nat.mul_eq_zero.1 (Nat.le_zero.1 h) with h | h <;> omega
  have hform := asSl2_ok (show asSl2 v _ _ _ = true from h)
  rcases contentQ_ok h hz with ⟨hk, hem⟩ | ⟨m, cols0, h1, h2, h3⟩
  · refine ⟨_, ecols, 0, hk, het, hne, Nat.zero_le _, (fun c hc => ⟨hez c hc, bnd_empty (hez c hc)⟩), fun {w0 φ w} hown hw v' hv => ?_⟩
    rcases hem φ v' hv with rfl | ⟨a, c, rfl⟩
    · exact ⟨none, .inl ⟨rfl, ⟨_, rfl⟩, hez, rfl⟩⟩
    · rcases hform with ⟨rfl, _⟩ | ⟨b, o, l, z, rfl, _⟩ | ⟨b, o, l, z, m, rfl, hform⟩
      · cases hv
      · cases hv with
        | slice0 a hφ => exact ⟨none, .inl ⟨rfl, ⟨_, rfl⟩, hez, rfl⟩⟩
        | slice hφ g1 g2 =>
          obtain ⟨hzz, _⟩ := guard_ok ‹_›
          have hzz := Nat.eq_of_beq_eq_true hzz
          subst hzz
          rcases block (hown b rfl) hw hφ with e | ⟨k, cs', ty, r1, r2, r3, r4, r5⟩
          · have := zcap (cap := c) (by omega)
            subst this
            exact ⟨none, .inl ⟨rfl, ⟨_, rfl⟩, hez, rfl⟩⟩
          · refine ⟨some _, .inr ⟨b, _, _, c, _, _, cs', ty, k, rfl, rfl, by omega, r1, r2, hφ, r3, r4, r5, g2, fun j cc hj => ?_, rfl⟩⟩
            have := hez cc (List.mem_of_getElem? hj)
            cases cc with
            | i k lo hi l => have this : l.length = 0 := this; exact ⟨by simp [this], fun i x hx => by have := lt_len hx; omega⟩
            | b l => have this : l.length = 0 := this; exact ⟨by simp [this], fun i x hx => by have := (List.getElem?_eq_some_iff.1 hx).1; omega⟩
      · cases hv with
        | aslice0 a hφ => exact ⟨none, .inl ⟨rfl, ⟨_, rfl⟩, hez, rfl⟩⟩
        | aslice hφ g1 g2 g3 =>
          obtain ⟨hzz, _⟩ := guard_ok hform
          have hzz := Nat.eq_of_beq_eq_true hzz
          subst hzz
          rcases block (hown b rfl) hw hφ with e | ⟨k, cs', ty, r1, r2, r3, r4, r5⟩
          · have := zcap (cap := c) (by omega)
            subst this
            exact ⟨none, .inl ⟨rfl, ⟨_, rfl⟩, hez, rfl⟩⟩
          · refine ⟨some _, .inr ⟨b, _, _, c, _, _, cs', ty, k, rfl, rfl, by omega, r1, r2, hφ, r3, r4, r5, by omega, fun j cc hj => ?_, rfl⟩⟩
            have := hez cc (List.mem_of_getElem? hj)
            cases cc with
            | i k lo hi l => have this : l.length = 0 := this; exact ⟨by simp [this], fun i x hx => by have := lt_len hx; omega⟩
            | b l => have this : l.length = 0 := this; exact ⟨by simp [this], fun i x hx => by have := (List.getElem?_eq_some_iff.1 hx).1; omega⟩
  · obtain ⟨hm, h1⟩ := reqB_ok h1
    obtain ⟨d, cols, h4, h5, h6, h60, h7⟩ := colsD_ok h1
    refine ⟨d, cols, m, h4, h5, hne, hm, h60, fun {w0 φ w} hown hw v' hv => ?_⟩
    obtain ⟨ys, hR⟩ := h3 hw v' hv
    have crs : ∀ {cs' : Array Value} {q : Nat}, (∀ (i : Nat) (u : Value), ys[i]? = some u → cs'[q + i]? = some u) → ∀ (j : Nat) (c : Col), cols[j]? = some c → CR cs' q (m * cs.length) cs.length j c := fun {cs' q} hq j c hj => by
      obtain ⟨c0, g1, g2⟩ := h7 j c hj
      have := hR.crs j c0 g1
      rw [Nat.zero_add] at this
      exact (g2.2 this).move fun i u hu => hq i u (by simpa using hu)
    have empty : m = 0 → ∀ c ∈ cols, c.len = 0 := fun e c hc => by
      obtain ⟨j, hj⟩ := List.getElem?_of_mem hc
      have := (crs (cs' := #[]) (q := 0) (fun i u hu => by have := (List.getElem?_eq_some_iff.1 hu).1; rw [hR.len, e] at this; omega) j c hj).len
      rw [e, Nat.zero_mul] at this
      rcases Nat.mul_eq_zero.1 this with h | h <;> omega
    obtain ⟨a, cap, rfl, hle, hcell, hne2⟩ := hR.at_
    have fin : ∀ {b : List Bool} {rb δ S q : Nat}, keyOf v = some b → a = some ⟨rb, q, none⟩ → φ b = some (rb, δ, S) → q + cap * cs.length ≤ S → ∃ loc, OwnAt w0 φ s w (keyOf v) (.slice a m cap) m cs.length cols loc := fun {b rb δ S q} hb ha hφ hS => by
      subst ha
      rcases block (hown b hb) hw hφ with e | ⟨k, cs', ty, r1, r2, r3, r4, r5⟩
      · have := zcap (cap := cap) (by omega)
        subst this
        have e0 : m = 0 := by omega
        exact ⟨none, .inl ⟨e0, ⟨_, by rw [e0]⟩, empty e0, rfl⟩⟩
      · refine ⟨some rb, .inr ⟨b, rb, q, cap, δ, S, cs', ty, k, hb, rfl, hle, r1, r2, hφ, r3, r4, r5, hS, crs fun i u hu => ?_, rfl⟩⟩
        have := hcell _ rfl i u hu
        rw [addr_add] at this
        simpa [World.cell?, r3] using this
    rcases hform with ⟨rfl, _⟩ | ⟨b, o, l, z, rfl, hform⟩ | ⟨b, o, l, z, mm, rfl, hform⟩
    · cases hv
      exact ⟨none, .inl ⟨rfl, ⟨_, rfl⟩, empty rfl, rfl⟩⟩
    · obtain ⟨hzz, _⟩ := guard_ok hform
      have hzz := Nat.eq_of_beq_eq_true hzz
      subst hzz
      cases hv with
      | slice0 a hφ => exact ⟨none, .inl ⟨rfl, ⟨_, rfl⟩, empty rfl, rfl⟩⟩
      | slice hφ g1 g2 => exact fin rfl rfl hφ g2
    · obtain ⟨hzz, _⟩ := guard_ok hform
      have hzz := Nat.eq_of_beq_eq_true hzz
      subst hzz
      cases hv with
      | aslice0 a hφ => exact ⟨none, .inl ⟨rfl, ⟨_, rfl⟩, empty rfl, rfl⟩⟩
      | aslice hφ g1 g2 g3 => exact fin rfl rfl hφ (by omega)
/-! lists of keys -/
theorem keysFrom_ge {n : Nat} : ∀ {c b : List Bool}, b ∈ keysFrom n c → val c ≤ val b ∧ val b < val c + n := by
  induction n with
  | zero => intro c b h; cases h
  | succ n ih =>
    intro c b h
    rcases List.mem_cons.1 (show b ∈ c :: keysFrom n (inc c) from h) with rfl | h
    · omega
    · have := ih h; rw [val_inc] at this; omega
theorem hasKey_f : ∀ {l : List (List Bool)} {b : List Bool}, hasKey b l = false → ∀ x ∈ l, x ≠ b
  | [], b, _, x, hx => by cases hx
  | y :: l, b, h, x, hx => by
    have h : bR (beqL b y) true (hasKey b l) = false := h
    cases hb : beqL b y with
    | true => rw [hb] at h; cases h
    | false =>
      rw [hb] at h
      rcases List.mem_cons.1 hx with rfl | hx
      · rintro rfl; rw [beqL_refl] at hb; cases hb
      · exact hasKey_f h x hx
theorem distinctK_ok : ∀ {l : List (List Bool)}, distinctK l = true → l.Pairwise (· ≠ ·)
  | [], _ => .nil
  | x :: l, h => by
    obtain ⟨h1, h2⟩ := andB_ok (show andB (notB (hasKey x l)) (distinctK l) = true from h)
    exact .cons (fun y hy e => hasKey_f (notB_ok h1) y hy e.symm) (distinctK_ok h2)
theorem ownedK_ok {L : Heap} : ∀ {l : List (List Bool)}, ownedK L l = true → ∀ b ∈ l, ∃ k, L.get b = some k ∧ k.fz = false ∧ k.mate = none
  | [], _, b, hb => by cases hb
  | x :: l, h, b, hb => by
    have h : Option.rec (motive := fun _ => Bool) false (fun k => andB (notB k.fz) (andB (noneB k.mate) (ownedK L l))) (L.get x) = true := h
    cases hg : L.get x with
    | none => rw [hg] at h; exact absurd (show false = true from h) (by decide)
    | some k =>
      rw [hg] at h
      obtain ⟨h1, h2⟩ := andB_ok (show andB (notB k.fz) (andB (noneB k.mate) (ownedK L l)) = true from h)
      obtain ⟨h3, h4⟩ := andB_ok h2
      rcases List.mem_cons.1 hb with rfl | hb
      · exact ⟨k, hg, notB_ok h1, noneB_ok h3⟩
      · exact ownedK_ok h4 b hb
theorem ownedR_ok {L : Heap} {m : List (List Bool)} : ∀ {l : List (List Bool)}, ownedR L m l = true → ∀ b ∈ l, ∃ k, L.get b = some k ∧ k.fz = false ∧ ∀ x ∈ m, k.mate ≠ some x
  | [], _, b, hb => by cases hb
  | x :: l, h, b, hb => by
    have h : Option.rec (motive := fun _ => Bool) false (fun k => andB (notB k.fz) (andB (Option.rec (motive := fun _ => Bool) true (fun x => notB (hasKey x m)) k.mate) (ownedR L m l))) (L.get x) = true := h
    cases hg : L.get x with
    | none => rw [hg] at h; exact absurd (show false = true from h) (by decide)
    | some k =>
      rw [hg] at h
      obtain ⟨h1, h2⟩ := andB_ok (show andB (notB k.fz) (andB (Option.rec (motive := fun _ => Bool) true (fun x => notB (hasKey x m)) k.mate) (ownedR L m l)) = true from h)
      obtain ⟨h3, h4⟩ := andB_ok h2
      rcases List.mem_cons.1 hb with rfl | hb
      · refine ⟨k, hg, notB_ok h1, fun x hx e => ?_⟩
        rw [e] at h3
        exact hasKey_f (notB_ok (show notB (hasKey x m) = true from h3)) x hx rfl
      · exact ownedR_ok h4 b hb
theorem noneIn_ok {m : List (List Bool)} : ∀ {l : List (List Bool)}, noneIn l m = true → ∀ b ∈ l, ∀ x ∈ m, x ≠ b
  | [], _, b, hb, _, _ => by cases hb
  | y :: l, h, b, hb, x, hx => by
    obtain ⟨h1, h2⟩ := andB_ok (show andB (notB (hasKey y m)) (noneIn l m) = true from h)
    rcases List.mem_cons.1 hb with rfl | hb
    · exact hasKey_f (notB_ok h1) x hx
    · exact noneIn_ok h2 b hb x hx
theorem keptB_mem {L : Heap} {ps : List (Place × CX)} {own : List (List Bool)} : ∀ {ks : List (List Bool)} {p : List Bool × Blk}, p ∈ keptB L ps own ks → p.1 ∈ ks ∧ (∀ x ∈ own, x ≠ p.1) ∧ ∃ k, L.get p.1 = some k ∧ k.mate = none ∧ p.2 = blank p.1 ps k
  | [], p, h => by
    have h : p ∈ ([] : List (List Bool × Blk)) := h
    cases h
  | b :: ks, p, h => by
    have h : p ∈ bR (hasKey b own) (keptB L ps own ks) (Option.rec (motive := fun _ => List (List Bool × Blk)) (keptB L ps own ks) (fun k => bR (noneB k.mate) ((b, blank b ps k) :: keptB L ps own ks) (keptB L ps own ks)) (L.get b)) := h
    have tail : p ∈ keptB L ps own ks → p.1 ∈ b :: ks ∧ (∀ x ∈ own, x ≠ p.1) ∧ ∃ k, L.get p.1 = some k ∧ k.mate = none ∧ p.2 = blank p.1 ps k := fun h => by
      obtain ⟨h1, h2, h3⟩ := keptB_mem h
      exact ⟨List.mem_cons_of_mem _ h1, h2, h3⟩
    cases hk : hasKey b own with
    | true => rw [hk] at h; exact tail h
    | false =>
      rw [hk, bR_false] at h
      cases hg : L.get b with
      | none => rw [hg] at h; exact tail h
      | some k =>
        rw [hg] at h
        have h : p ∈ bR (noneB k.mate) ((b, blank b ps k) :: keptB L ps own ks) (keptB L ps own ks) := h
        cases hm : noneB k.mate with
        | false => rw [hm] at h; exact tail h
        | true =>
          rw [hm, bR_true] at h
          rcases List.mem_cons.1 h with rfl | h
          · exact ⟨List.mem_cons_self, hasKey_f hk, k, hg, noneB_ok hm, rfl⟩
          · exact tail h
theorem keysOf_mem : ∀ {l : List (List Bool × Blk)} {p : List Bool × Blk}, p ∈ l → p.1 ∈ keysOf l
  | [], p, h => by cases h
  | q :: l, p, h => by
    rcases List.mem_cons.1 h with rfl | h
    · exact List.mem_cons_self
    · exact List.mem_cons_of_mem _ (keysOf_mem h)
theorem heapL_get : ∀ {l : List (List Bool × Blk)} {b : List Bool} {k : Blk}, (heapL l).get b = some k → (b, k) ∈ l
  | [], b, k, h => by
    have h : (Tr.nil : Heap).get b = some k := h
    rw [Tr.get_nil] at h; cases h
  | p :: l, b, k, h => by
    have h : (Tr.set (some p.2) p.1 (heapL l)).get b = some k := h
    rw [Tr.get_set] at h
    split at h
    · rename_i e; cases h; subst e; exact List.mem_cons_self
    · exact List.mem_cons_of_mem _ (heapL_get h)
theorem keepsL_ok {L : Heap} : ∀ {l : List (List Bool × Blk)}, keepsL L l = true → ∀ p ∈ l, ∃ k, L.get p.1 = some k ∧ sameBlk p.2 k = true
  | [], _, p, hp => by cases hp
  | q :: l, h, p, hp => by
    have h : Option.rec (motive := fun _ => Bool) false (fun k => bR (sameBlk q.2 k) (keepsL L l) false) (L.get q.1) = true := h
    cases hg : L.get q.1 with
    | none => rw [hg] at h; exact absurd (show false = true from h) (by decide)
    | some k =>
      rw [hg] at h
      obtain ⟨h1, h2⟩ := bR_and (show bR (sameBlk q.2 k) (keepsL L l) false = true from h)
      rcases List.mem_cons.1 hp with rfl | hp
      · exact ⟨k, hg, h1⟩
      · exact keepsL_ok h2 p hp
theorem blankC_get {b : List Bool} {ps : List (Place × CX)} {t : Tr EV} {n : Nat} : ∀ {i0 i : Nat} {v : EV}, (blankC b ps n t i0).get (key i) = some v → t.get (key i) = some v := by
  induction n with
  | zero =>
    intro i0 i v h
    have h : (Tr.nil : Tr EV).get (key i) = some v := h
    rw [Tr.get_nil] at h; cases h
  | succ n ih =>
    intro i0 i v h
    have h : (bR (isSlotCell b i0 ps) (blankC b ps n t (Nat.succ i0)) (Option.rec (motive := fun _ => Tr EV) (blankC b ps n t (Nat.succ i0)) (fun v => Tr.set (some v) (key i0) (blankC b ps n t (Nat.succ i0))) (t.get (key i0)))).get (key i) = some v := h
    cases hs : isSlotCell b i0 ps with
    | true => rw [hs, bR_true] at h; exact ih h
    | false =>
      rw [hs, bR_false] at h
      cases hg : t.get (key i0) with
      | none => rw [hg] at h; exact ih h
      | some u =>
        rw [hg] at h
        have h : (Tr.set (some u) (key i0) (blankC b ps n t (Nat.succ i0))).get (key i) = some v := h
        rw [Tr.get_set] at h
        split at h
        · rename_i e; cases h; rw [← e]; exact hg
        · exact ih h
theorem sameC_ok {t t' : Tr EV} {n : Nat} : ∀ {i0 : Nat}, sameC n t t' i0 = true → ∀ i v, i0 ≤ i → i < i0 + n → t.get (key i) = some v → t'.get (key i) = some v := by
  induction n with
  | zero => intro i0 _ i v h1 h2; omega
  | succ n ih =>
    intro i0 h i v h1 h2 hv
    have h : Option.rec (motive := fun _ => Bool) (sameC n t t' (Nat.succ i0)) (fun v => Option.rec (motive := fun _ => Bool) false (fun u => bR (evSame 6 v u) (sameC n t t' (Nat.succ i0)) false) (t'.get (key i0))) (t.get (key i0)) = true := h
    by_cases e : i0 = i
    · subst e
      rw [hv] at h
      have h : Option.rec (motive := fun _ => Bool) false (fun u => bR (evSame 6 v u) (sameC n t t' (Nat.succ i0)) false) (t'.get (key i0)) = true := h
      cases hg : t'.get (key i0) with
      | none => rw [hg] at h; exact absurd (show false = true from h) (by decide)
      | some u =>
        rw [hg] at h
        obtain ⟨h3, _⟩ := bR_and (show bR (evSame 6 v u) (sameC n t t' (Nat.succ i0)) false = true from h)
        rw [evSame_ok _ _ _ h3]
    · have hs : sameC n t t' (Nat.succ i0) = true := by
        cases hg : t.get (key i0) with
        | none => rw [hg] at h; exact h
        | some u =>
          rw [hg] at h
          have h : Option.rec (motive := fun _ => Bool) false (fun w => bR (evSame 6 u w) (sameC n t t' (Nat.succ i0)) false) (t'.get (key i0)) = true := h
          cases hg' : t'.get (key i0) with
          | none => rw [hg'] at h; exact absurd (show false = true from h) (by decide)
          | some u' => rw [hg'] at h; exact (bR_and (show bR (evSame 6 u u') (sameC n t t' (Nat.succ i0)) false = true from h)).2
      exact ih hs i v (by omega) (by omega) hv
/-! what stays, behind a round -/
/-- the entry's state holds of some world -/
structure Entry (w0 : World) (φ : Phi) (nt : Nat) (ro : Option Nat) (T : Tr EV) (s : St) : Prop where
  w : ∃ w, WR w0 φ s w
  a : ∃ a, AR φ nt ro T a
theorem kept_loc {w0 : World} {φ φ1 : Phi} {w w1 : World} {s s1 : St} {ps : List (Place × CX)} {b : List Bool} {k k' : Blk} (hx : Ext2 φ φ1) (hw : WR w0 φ s w) (hw1 : WR w0 φ1 s1 w1) (hk : s.L.get b = some k) (hk' : s1.L.get b = some k') (hs : sameBlk (blank b ps k) k' = true) :
    LocOk w0 φ w1 b (blank b ps k) ∧ (∀ p, φ1 b = some p → φ b = some p) ∧ (blank b ps k).fz = k'.fz ∧ k'.mate = none ∧ (Real φ b (blank b ps k) → Real φ1 b k') := by
  obtain ⟨hm, hs⟩ := andB_ok hs
  obtain ⟨hf, hs⟩ := andB_ok hs
  have hfz : (blank b ps k).fz = k'.fz := by
    revert hf; generalize (blank b ps k).fz = x; generalize k'.fz = y
    cases x <;> cases y <;> simp [beqB, bR]
  have hφ : ∃ p, φ b = some p := by
    rcases hw.loc b k hk with ⟨_, p, h, _⟩ | ⟨p, _, h, _⟩
    · exact ⟨p, h⟩
    · exact ⟨p, h.1⟩
  obtain ⟨p0, hp0⟩ := hφ
  have back : ∀ p, φ1 b = some p → φ b = some p := fun p hp => key_same hx hp0 hp
  have hkey : LocOk w0 φ w1 b (blank b ps k) ∧ (Real φ b (blank b ps k) → Real φ1 b k') := by
    cases hfl : flatB k with
    | true =>
      have hc := flatB_ok hfl
      have eb : blank b ps k = ⟨blankC b ps k.n k.cells 0, k.n, none, [], k.fz⟩ := by unfold blank; rw [hfl, bR_true]
      rw [eb] at hs ⊢
      obtain ⟨h1, h2⟩ := andB_ok (show andB (flatB k') (andB (Nat.beq k.n k'.n) (sameC k.n (blankC b ps k.n k.cells 0) k'.cells 0)) = true from hs)
      obtain ⟨h2, h3⟩ := andB_ok h2
      have hc' := flatB_ok h1
      have hn : k.n = k'.n := Nat.eq_of_beq_eq_true h2
      refine ⟨.inr ?_, fun _ => real_flat hc'⟩
      obtain ⟨p, fz, ⟨hp, cs, ty, q1, q2, q3⟩, q4, q5⟩ := (hw1.loc b k' hk').real (real_flat hc')
      have hp' := back p hp
      refine ⟨p, fz, ⟨hp', cs, ty, q1, q2, by show _ + k.n ≤ _; rw [hn]; exact q3.fits, fun i v hi hv => ?_, fun j c hj => by cases hj⟩, fun e => q4 ?_, q5⟩
      · have hv0 := blankC_get hv
        have hv1 := sameC_ok h3 i v (Nat.zero_le _) (by simpa using hi) hv
        have hi : i < k.n := hi
        obtain ⟨v', r1, r2⟩ := q3.cells i v (by omega) hv1
        obtain ⟨p', _, ⟨_, cs0, _, _, _, s3⟩, _⟩ := (hw.loc b k hk).real (real_flat hc)
        obtain ⟨v0, t1, t2⟩ := s3.cells i v hi hv0
        exact ⟨v', r1, t2.rekey hx r2⟩
      · rw [← hfz, eb]; exact e
    | false =>
      have eb : blank b ps k = ⟨.nil, k.n, none, k.cols, k.fz⟩ := by unfold blank; rw [hfl, bR_false]
      have hf2 : flatB (blank b ps k) = false := by rw [eb]; exact hfl
      rw [hf2, bR_false, eb] at hs
      obtain ⟨h1, h2⟩ := andB_ok hs
      have hn : k.n = k'.n := dec_iff.1 h1
      have hc : k.cols = k'.cols := dec_iff.1 h2
      have gone : Gone φ1 b k' → Gone φ b (blank b ps k) := fun ⟨⟨v1, v2, v3⟩, p, e1, e2⟩ => by
        rw [eb]
        exact ⟨⟨by show k.cols ≠ []; rw [hc]; exact v1, by show k.n = 0; rw [hn]; exact v2, by show ∀ c ∈ k.cols, c.len = 0; rw [hc]; exact v3⟩, p, back p e1, e2⟩
      refine ⟨?_, fun hr hg => hr (gone hg)⟩
      rcases hw1.loc b k' hk' with hg | ⟨p, fz, ⟨hp, cs, ty, q1, q2, q3⟩, q4, q5⟩
      · exact .inl (gone hg)
      · refine .inr ⟨p, fz, ⟨back p hp, cs, ty, q1, q2, ?_, fun i v hi hv => ?_, fun j c hj => ?_⟩, fun e => q4 (by rw [← hfz]; exact e), q5⟩
        · rw [eb]; show _ + k.n ≤ _; rw [hn]; exact q3.fits
        · rw [eb] at hv
          have hv : (Tr.nil : Tr EV).get (key i) = some v := hv
          rw [Tr.get_nil] at hv; cases hv
        · rw [eb] at hj ⊢
          have hj : k.cols[j]? = some c := hj
          show CR cs _ k.n k.cols.length j c
          rw [hc] at hj ⊢
          rw [hn]; exact q3.cols j c hj
  exact ⟨hkey.1, back, hfz, noneB_ok hm, hkey.2⟩
/-- the blocks that stay, seen as they were seen at the entry -/
theorem MRs.rekey {φ φ1 : Phi} (hx : Ext2 φ φ1) : ∀ {l : List (EV × EV)} {es0 es1 : List MapEntry}, MRs φ l es0 → MRs φ1 l es1 → MRs φ l es1
  | [], [], [], _, _ => trivial
  | _ :: _, _ :: _, _ :: _, ⟨a1, a2, a3⟩, ⟨b1, b2, b3⟩ => ⟨VR.rekey hx a1 b1, VR.rekey hx a2 b2, MRs.rekey hx a3 b3⟩
  | [], _ :: _, _, h, _ => h.elim
  | [], [], _ :: _, _, h => h.elim
  | _ :: _, [], _, h, _ => h.elim
  | _ :: _, _ :: _, [], _, h => h.elim
theorem EOk.rekey {φ φ1 : Phi} (hx : Ext2 φ φ1) {w0 w w1 : World} : ∀ {e : JE}, EOk φ w0 w e → EOk φ1 w0 w1 e → EOk φ w0 w1 e
  | .loop k st T nt ps a b, ⟨l, q, r, h1, h2, h3, h4, h5, h6, h7, h8⟩, ⟨l1, q1, r1, g1, g2, g3, g4, g5, g6, g7, g8⟩ => by
    have := hx _ _ h1
    rw [g1] at this; cases this
    exact ⟨l, q, r1, h1, g2, g3, g4, g5, g6, ⟨g7.1, fun t => VR.rekey hx (h7.2 t) (g7.2 t)⟩, g8⟩
  | .dfr k, ⟨l, q, h1, h2, h3⟩, ⟨l1, q1, g1, g2, g3⟩ => by
    have := hx _ _ h1
    rw [g1] at this; cases this
    exact ⟨l, q, h1, g2, g3⟩
  | .mp k l, ⟨rb, q, es, clock, h1, h2, h3, h4⟩, ⟨rb1, q1, es1, clock1, g1, g2, g3, g4⟩ => by
    have := hx _ _ h1
    rw [g1] at this; cases this
    exact ⟨rb, q, es1, clock1, h1, g2, g3, h4.rekey hx g4⟩
theorem JOk.rekey {φ φ1 : Phi} (hx : Ext2 φ φ1) {w0 w w1 : World} {J : List JE} (h : JOk φ w0 w J) (k : JOk φ1 w0 w1 J) : JOk φ w0 w1 J :=
  ⟨fun e he => (h.all e he).rekey hx (k.all e he), h.apart⟩
theorem kept_WR {w0 : World} {φ φ1 : Phi} {w w1 : World} {s s1 : St} {ps : List (Place × CX)} {own ks : List (List Bool)} (hx : Ext2 φ φ1) (hw : WR w0 φ s w) (hw1 : WR w0 φ1 s1 w1) (hR : ∀ h ∈ s.R, ∀ b k, h.get b = some k → RoOk φ w0 b k)
    (hk : ∀ p ∈ keptB s.L ps own ks, ∃ k, s1.L.get p.1 = some k ∧ sameBlk p.2 k = true) (hJ : JOk φ w0 w s.J → JOk φ1 w0 w1 s1.J → JOk φ1 w0 w1 s.J) : WR w0 φ ⟨s.c, heapL (keptB s.L ps own ks), s.R, s.J⟩ w1 := by
  have info : ∀ b k, (heapL (keptB s.L ps own ks)).get b = some k → LocOk w0 φ w1 b k ∧ (∀ p, φ1 b = some p → φ b = some p) ∧ k.mate = none ∧ ∃ k', s1.L.get b = some k' ∧ k.fz = k'.fz ∧ k'.mate = none ∧ (Real φ b k → Real φ1 b k') := fun b k hb => by
    have hm := heapL_get hb
    obtain ⟨_, _, k0, h1, h2, h3⟩ := keptB_mem hm
    obtain ⟨k', h4, h5⟩ := hk _ hm
    have h3 : k = blank b ps k0 := h3
    subst h3
    obtain ⟨g1, g2, g3, g4, g5⟩ := kept_loc (ps := ps) hx hw hw1 h1 h4 h5
    exact ⟨g1, g2, by unfold blank; cases flatB k0 <;> rfl, k', h4, g3, g4, g5⟩
  refine ⟨hw1.below, hR, fun b k hb => (info b k hb).1, fun b b' k k' p p' h1 h2 h3 h4 hsep h5 h6 => ?_, hw.loops.rekey hx (hJ hw.loops hw1.loops)⟩
  obtain ⟨_, i2, _, k1, i3, i4, i5, i6⟩ := info b k h1
  obtain ⟨_, j2, _, k2, j3, j4, j5, j6⟩ := info b' k' h2
  exact hw1.apart b b' k1 k2 p p' i3 j3 h3 (by rw [i5]; exact fun e => by cases e) ⟨i6 hsep.l, j6 hsep.r, by rw [← i4, ← j4]; exact hsep.fz⟩ (hx _ _ h5) (hx _ _ h6)
theorem keptB_mate {s : St} {ps : List (Place × CX)} {own ks : List (List Bool)} {b : List Bool} {k : Blk} (hb : (heapL (keptB s.L ps own ks)).get b = some k) : k.mate = none := by
  obtain ⟨_, _, k0, _, _, h3⟩ := keptB_mem (heapL_get hb)
  have h3 : k = blank b ps k0 := h3
  rw [h3]; unfold blank; cases flatB k0 <;> rfl
/-- the temporaries that stay -/
theorem keepT_get : ∀ {ts : List Nat} {ps : List (Place × CX)} {T : Tr EV} {t : Nat} {v : EV}, (keepT ts ps T).get (key t) = some v → T.get (key t) = some v ∧ t ∈ ts ∧ isSlotTmp t ps = false
  | [], ps, T, t, v, h => by
    have h : (Tr.nil : Tr EV).get (key t) = some v := h
    rw [Tr.get_nil] at h; cases h
  | t0 :: ts, ps, T, t, v, h => by
    have h : (bR (isSlotTmp t0 ps) (keepT ts ps T) (Option.rec (motive := fun _ => Tr EV) (keepT ts ps T) (fun v => Tr.set (some v) (key t0) (keepT ts ps T)) (T.get (key t0)))).get (key t) = some v := h
    have tail : (keepT ts ps T).get (key t) = some v → T.get (key t) = some v ∧ t ∈ t0 :: ts ∧ isSlotTmp t ps = false := fun h => by
      obtain ⟨h1, h2, h3⟩ := keepT_get h
      exact ⟨h1, List.mem_cons_of_mem _ h2, h3⟩
    cases hs : isSlotTmp t0 ps with
    | true => rw [hs, bR_true] at h; exact tail h
    | false =>
      rw [hs, bR_false] at h
      cases hg : T.get (key t0) with
      | none => rw [hg] at h; exact tail h
      | some u =>
        rw [hg] at h
        have h : (Tr.set (some u) (key t0) (keepT ts ps T)).get (key t) = some v := h
        rw [Tr.get_set] at h
        split at h
        · rename_i e; cases h
          have := key_inj e; subst this
          exact ⟨hg, List.mem_cons_self, hs⟩
        · exact tail h
theorem keepsT_ok {ps : List (Place × CX)} {T T' : Tr EV} : ∀ {ts : List Nat}, keepsT ts ps T T' = true → ∀ t v, t ∈ ts → isSlotTmp t ps = false → T.get (key t) = some v → T'.get (key t) = some v
  | [], _, t, v, ht, _, _ => by cases ht
  | t0 :: ts, h, t, v, ht, hsl, hv => by
    have h : bR (isSlotTmp t0 ps) (keepsT ts ps T T') (Option.rec (motive := fun _ => Bool) (keepsT ts ps T T') (fun v => Option.rec (motive := fun _ => Bool) false (fun u => bR (evSame 6 v u) (keepsT ts ps T T') false) (T'.get (key t0))) (T.get (key t0))) = true := h
    have both : (isSlotTmp t0 ps = false → ∀ v, T.get (key t0) = some v → T'.get (key t0) = some v) ∧ keepsT ts ps T T' = true := by
      cases hs : isSlotTmp t0 ps with
      | true => rw [hs, bR_true] at h; exact ⟨(fun e => by cases e), h⟩
      | false =>
        rw [hs, bR_false] at h
        cases hg : T.get (key t0) with
        | none => rw [hg] at h; exact ⟨fun _ v hv => (by cases hv), h⟩
        | some u =>
          rw [hg] at h
          have h : Option.rec (motive := fun _ => Bool) false (fun w => bR (evSame 6 u w) (keepsT ts ps T T') false) (T'.get (key t0)) = true := h
          cases hg' : T'.get (key t0) with
          | none => rw [hg'] at h; exact absurd (show false = true from h) (by decide)
          | some u' =>
            rw [hg'] at h
            obtain ⟨h1, h2⟩ := bR_and (show bR (evSame 6 u u') (keepsT ts ps T T') false = true from h)
            exact ⟨fun _ v hv => by cases hv; rw [evSame_ok _ _ _ h1], h2⟩
    rcases List.mem_cons.1 ht with rfl | ht
    · exact both.1 hsl v hv
    · exact keepsT_ok both.2 t v ht hsl hv
theorem copyK_key {k : List Bool} {T T' : Tr EV} {t : Nat} (hk : ∀ n, key n ≠ k) : (copyK k T T').get (key t) = T'.get (key t) := by
  unfold copyK
  cases T.get k with
  | none => rfl
  | some v => show (Tr.set (some v) k T').get (key t) = _; rw [Tr.get_set, if_neg (fun e => hk t e.symm)]
theorem keepT_other : ∀ {ts : List Nat} {ps : List (Place × CX)} {T : Tr EV} {q : List Bool}, (∀ n, key n ≠ q) → (keepT ts ps T).get q = none
  | [], ps, T, q, h => Tr.get_nil q
  | t0 :: ts, ps, T, q, h => by
    show (bR (isSlotTmp t0 ps) (keepT ts ps T) (Option.rec (motive := fun _ => Tr EV) (keepT ts ps T) (fun v => Tr.set (some v) (key t0) (keepT ts ps T)) (T.get (key t0)))).get q = none
    cases isSlotTmp t0 ps with
    | true => exact keepT_other h
    | false =>
      rw [bR_false]
      cases T.get (key t0) with
      | none => exact keepT_other h
      | some u => show (Tr.set (some u) (key t0) (keepT ts ps T)).get q = none; rw [Tr.get_set, if_neg (h t0)]; exact keepT_other h
theorem headT_rk {ts : List Nat} {ps : List (Place × CX)} {T : Tr EV} : (headT ts ps T).get rk = T.get rk := by
  unfold headT copyK
  cases T.get rk with
  | none => exact keepT_other key_ne_rk
  | some v => exact Tr.get_set_self _ _ _
theorem headT_dk {ts : List Nat} {ps : List (Place × CX)} {T : Tr EV} : (headT ts ps T).get dk = none := by
  unfold headT copyK
  cases T.get rk with
  | none => exact keepT_other key_ne_dk
  | some v => show (Tr.set (some v) rk (keepT ts ps T)).get dk = none; rw [Tr.get_set, if_neg (by decide)]; exact keepT_other key_ne_dk
theorem kept_AR {φ φ1 : Phi} {nt : Nat} {ro : Option Nat} {T T' : Tr EV} {a a1 : Act} {ts : List Nat} {ps : List (Place × CX)} (hx : Ext2 φ φ1) (h0 : AR φ nt ro T a) (h1 : AR φ1 nt ro T' a1) (hd : T'.get dk = none)
    (hk : ∀ t v, t ∈ ts → isSlotTmp t ps = false → T.get (key t) = some v → T'.get (key t) = some v) : AR φ nt ro (headT ts ps T) a1 := by
  refine ⟨⟨h1.tr.1, fun t => ?_⟩, ?_, ?_⟩
  · unfold getT headT
    rw [copyK_key key_ne_rk]
    cases hg : (keepT ts ps T).get (key t) with
    | none => exact .any _
    | some v =>
      obtain ⟨g1, g2, g3⟩ := keepT_get hg
      have e1 := h1.tr.2 t
      have e0 := h0.tr.2 t
      unfold getT at e0 e1
      rw [hk t v g2 g3 g1] at e1
      rw [g1] at e0
      exact VR.rekey hx e0 e1
  · have e1 := h1.dr
    unfold defersOf at e1 ⊢
    rw [hd] at e1
    rw [headT_dk]
    have e1 : DRs φ1 [] a1.defers := e1
    show DRs φ [] a1.defers
    generalize a1.defers = l at e1
    cases e1; exact .nil
  · unfold RO; rw [headT_rk]; exact h0.ro
end Go.Ev
