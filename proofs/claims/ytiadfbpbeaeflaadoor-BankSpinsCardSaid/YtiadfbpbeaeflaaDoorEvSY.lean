/- Laws: what their arguments are; what a function that always returns true gives. -/
import Derived.Test.YtiadfbpbeaeflaaDoorEvSX
import Derived.OpenShut
import Derived.WideShapes
import Derived.ChangeSame
import Derived.Carry
namespace Go.Ev
open Go.RowKit Go.ChangeShapes Go.WideShapes
theorem bR_same (x : Bool) : bR x x (bR x false true) = true := by cases x <;> rfl
theorem dec_same {α : Type} (x : α) : dec (x = x) = true := dec_iff.2 rfl
theorem wrap_i8 (n : Int) : IntKind.wrap .i8 n = (n + 128) % 256 - 128 := by
  show (if (true && decide (n % 256 ≥ 128)) = true then n % 256 - 256 else n % 256) = _
  rw [Bool.true_and]
  split <;> rename_i h <;> simp only [decide_eq_true_eq] at h <;> omega
theorem wrap_i16 (n : Int) : IntKind.wrap .i16 n = (n + 32768) % 65536 - 32768 := by
  show (if (true && decide (n % 65536 ≥ 32768)) = true then n % 65536 - 65536 else n % 65536) = _
  rw [Bool.true_and]
  split <;> rename_i h <;> simp only [decide_eq_true_eq] at h <;> omega
theorem wrap_i32 (n : Int) : IntKind.wrap .i32 n = (n + 2147483648) % 4294967296 - 2147483648 := by
  show (if (true && decide (n % 4294967296 ≥ 2147483648)) = true then n % 4294967296 - 4294967296 else n % 4294967296) = _
  rw [Bool.true_and]
  split <;> rename_i h <;> simp only [decide_eq_true_eq] at h <;> omega
theorem wrap_i64 (n : Int) : IntKind.wrap .i64 n = (n + 9223372036854775808) % 18446744073709551616 - 9223372036854775808 := by
  show (if (true && decide (n % 18446744073709551616 ≥ 9223372036854775808)) = true then n % 18446744073709551616 - 18446744073709551616 else n % 18446744073709551616) = _
  rw [Bool.true_and]
  split <;> rename_i h <;> simp only [decide_eq_true_eq] at h <;> omega
theorem wrap_u8 (n : Int) : IntKind.wrap .u8 n = n % 256 := by
  simp only [IntKind.wrap, IntKind.bits, IntKind.signed, Bool.false_and]
  rfl
theorem wrap_u16 (n : Int) : IntKind.wrap .u16 n = n % 65536 := by
  simp only [IntKind.wrap, IntKind.bits, IntKind.signed, Bool.false_and]
  rfl
theorem wrap_u32 (n : Int) : IntKind.wrap .u32 n = n % 4294967296 := by
  simp only [IntKind.wrap, IntKind.bits, IntKind.signed, Bool.false_and]
  rfl
theorem wrap_u64 (n : Int) : IntKind.wrap .u64 n = n % 18446744073709551616 := by
  simp only [IntKind.wrap, IntKind.bits, IntKind.signed, Bool.false_and]
  rfl
/-- a cell of a kind's values -/
inductive CF : List CK → List Value → Prop
  | nil : CF [] []
  | int {ks : List CK} {vs : List Value} (k : IntKind) (n : Int) (hw : (Lit.int k n).wf = true) (h : CF ks vs) : CF (.i k k.min k.max :: ks) (.int k n :: vs)
  | bool {ks : List CK} {vs : List Value} (b : Bool) (h : CF ks vs) : CF (.b :: ks) (.bool b :: vs)
theorem CF.length {ks : List CK} {vs : List Value} (h : CF ks vs) : vs.length = ks.length := by
  induction h with
  | nil => rfl
  | int _ _ _ _ ih => simp [ih]
  | bool _ _ ih => simp [ih]
theorem CF.append {a b : List CK} {x y : List Value} (h : CF a x) (k : CF b y) : CF (a ++ b) (x ++ y) := by
  induction h with
  | nil => exact k
  | int k n hw _ ih => exact .int k n hw ih
  | bool b _ ih => exact .bool b ih
def fieldsC (K : TypeId → Option (List CK)) (P : Program) : List Field → Nat → Option (List CK)
  | [], _ => some []
  | f :: fs, o => match K f.type, fieldsC K P fs (o + P.cellsOf f.type) with
    | some a, some b => if f.offset = o ∧ a.length = P.cellsOf f.type then some (a ++ b) else none
    | _, _ => none
def elemsC (a : List CK) : Nat → List CK
  | 0 => []
  | n + 1 => a ++ elemsC a n
def cellsC (P : Program) : Nat → TypeId → Option (List CK)
  | 0, _ => none
  | n + 1, t => match P.underlying t with
    | some (.int k) => some [.i k k.min k.max]
    | some .bool => some [.b]
    | some (.struct fs) => match fieldsC (cellsC P n) P fs.toList 0 with
      | some ks => if ks.length = P.cellsOf t then some ks else none
      | none => none
    | _ => none
section
variable {H : Type} {enc : TypeId × Value → H} {P : Program} {w : World} {base : Nat} {spare : Nat → Bool} {held : Bool}
theorem fieldsC_ok {K : TypeId → Option (List CK)} {m : Nat} {cs : List Value} (hK : ∀ t ks, K t = some ks → ∀ cs x, DataW.trod enc P w base spare held m t cs = some x → CF ks cs) :
    ∀ (fs : List Field) (o : Nat) (ks : List CK) (xs : List (DataW H × List MemPlace)), fieldsC K P fs o = some ks → xs.length = fs.length →
      (∀ (i : Nat) (f : Field), fs[i]? = some f → DataW.trod enc P w base spare held m f.type ((cs.drop f.offset).take (P.cellsOf f.type)) = xs[i]?) →
      CF ks ((cs.drop o).take ks.length)
  | [], o, ks, xs, h, hl, _ => by
    simp [fieldsC] at h; subst h
    simpa using CF.nil
  | f :: fs, o, ks, xs, h, hl, hf => by
    unfold fieldsC at h
    split at h
    · rename_i a b h1 h2
      split at h
      · rename_i hc
        obtain ⟨c1, c2⟩ := hc
        cases h
        obtain ⟨y, ys, rfl⟩ : ∃ y ys, xs = y :: ys := by
          cases xs with
          | nil => simp at hl
          | cons y ys => exact ⟨y, ys, rfl⟩
        have hy := hf 0 f rfl
        have g1 := hK _ _ h1 _ _ (show _ = some y from hy)
        have i1 := fieldsC_ok hK fs (o + P.cellsOf f.type) b ys h2 (by simpa using hl) (fun i g hg => by simpa using hf (i + 1) g (by simpa using hg))
        rw [List.length_append, List.take_add, List.drop_drop, c2]
        rw [← c1] at i1 ⊢
        exact g1.append i1
      · cases h
    · cases h
theorem cellsC_ok : ∀ (n : Nat) (t : TypeId) (ks : List CK), cellsC P n t = some ks → ∀ (fuel : Nat) (cs : List Value) (x : DataW H × List MemPlace), DataW.trod enc P w base spare held fuel t cs = some x → CF ks cs
  | 0, t, ks, h => by simp [cellsC] at h
  | n + 1, t, ks, h => by
    intro fuel cs x hx
    unfold cellsC at h
    split at h
    · rename_i k ht
      cases h
      obtain ⟨m, rfl, rfl, hw⟩ := DataW.trod_int ht hx
      exact .int k m hw .nil
    · rename_i ht
      cases h
      obtain ⟨b, rfl, rfl⟩ := DataW.trod_bool ht hx
      exact .bool b .nil
    · rename_i fs ht
      split at h
      · rename_i ks' hk
        split at h
        · rename_i hc
          cases h
          obtain ⟨xs, m, rfl, rfl, hl, hlen, hf⟩ := DataW.trod_struct ht hx
          have g1 := fieldsC_ok (enc := enc) (w := w) (base := base) (spare := spare) (held := held) (m := m) (cs := cs) (fun t ks hk cs x hx => cellsC_ok n t ks hk m cs x hx) fs.toList 0 ks xs hk (by simpa using hlen) (fun i f hi => hf i f (by simpa using hi))
          have : (cs.drop 0).take ks.length = cs := by
            rw [List.drop_zero, hc, ← hl]; exact List.take_length
          rw [this] at g1
          exact g1
        · cases h
      · cases h
    · cases h
end
def CK.cx : CK → CX
  | .i k lo hi => .i k lo hi
  | .b => .b
def argK (P : Program) (n : Nat) (t : TypeId) : Option VK := match P.underlying t with
  | some (.int k) => some (.one (.i k k.min k.max))
  | some .bool => some (.one .b)
  | some (.slice e) => match cellsC P n e with
    | some (c :: cs) => if (c :: cs).length = P.cellsOf e then some (.one (.l (c :: cs) maxLen)) else none
    | _ => none
  | some (.struct _) => (cellsC P n t).map fun cs => .agg (cs.map CK.cx)
  | _ => none
theorem wf_in {k : IntKind} {n : Int} (h : (Lit.int k n).wf = true) : k.min ≤ n ∧ n ≤ k.max := by
  simp only [Lit.wf, Bool.and_eq_true, decide_eq_true_eq] at h
  exact h
theorem CF.args {w : World} {cs : List CK} {vs : List Value} (h : CF cs vs) : ∃ ds, ShapeCs (cs.map CK.cx) ds ∧ ArgCs w (cs.map CK.cx) ds vs := by
  induction h with
  | nil => exact ⟨[], .nil, .nil⟩
  | int k n hw _ ih =>
    obtain ⟨ds, h1, h2⟩ := ih
    obtain ⟨b1, b2⟩ := wf_in hw
    exact ⟨[.n n] :: ds, .cons ⟨n, rfl, b1, b2⟩ (by simp [CK.cx]) h1, .cons ⟨n, rfl, rfl, b1, b2⟩ h2⟩
  | bool b _ ih =>
    obtain ⟨ds, h1, h2⟩ := ih
    exact ⟨[.b b] :: ds, .cons ⟨b, rfl⟩ (by simp [CK.cx]) h1, .cons ⟨b, rfl, rfl⟩ h2⟩
/-- rows of cells, as columns -/
theorem rows_cols : ∀ {cs : List CK} {rows : List (List Value)} (_ : ∀ r ∈ rows, CF cs r), ∃ cols d, Tmpl cs cols d ∧ (∀ c ∈ cols, c.len = rows.length ∧ c.bnd) ∧
    ∀ {arr : Array Value} {δ sz c0 : Nat}, (∀ i r, rows[i]? = some r → ∀ m v, r[m]? = some v → arr[δ + (i * sz + (c0 + m))]? = some v) → ∀ j c, cols[j]? = some c → CR arr δ (rows.length * sz) sz (c0 + j) c
  | [], rows, _ => ⟨[], [], .nil, (fun c hc => by cases hc), fun _ j c hj => by simp at hj⟩
  | .i k lo hi :: cs, rows, h => by
    obtain ⟨cols, d, h1, h2, h3⟩ := rows_cols (cs := cs) (rows := rows.map List.tail) fun r hr => by
      obtain ⟨r0, hr0, rfl⟩ := List.mem_map.1 hr
      cases h r0 hr0 with
      | int k n hw h => exact h
    let f : List Value → Int := fun r => match r with | .int _ x :: _ => x | _ => 0
    have hrow : ∀ r ∈ rows, r = .int k (f r) :: r.tail ∧ lo ≤ f r ∧ f r ≤ hi := fun r hr => by
      have := h r hr
      cases this with
      | int k n hw h => exact ⟨rfl, wf_in hw⟩
    refine ⟨.i k lo hi (rows.map f) :: cols, .l (rows.map f) :: d, .i h1, fun c hc => ?_, fun {arr δ sz c0} hA j c hj => ?_⟩
    · rcases List.mem_cons.1 hc with rfl | hc
      · refine ⟨by simp [Col.len], fun y hy => ?_⟩
        obtain ⟨r, hr, rfl⟩ := List.mem_map.1 hy
        exact (hrow r hr).2
      · have := h2 c hc
        rw [List.length_map] at this
        exact this
    · cases j with
      | zero =>
        simp at hj; subst hj
        refine ⟨by simp, fun i x hx => ?_⟩
        rw [List.getElem?_map, Option.map_eq_some_iff] at hx
        obtain ⟨r, hr, rfl⟩ := hx
        have hm := List.mem_of_getElem? hr
        obtain ⟨e, b⟩ := hrow r hm
        refine ⟨?_, b⟩
        have := hA i r hr 0 (.int k (f r)) (by rw [e]; rfl)
        exact this
      | succ j =>
        have := h3 (arr := arr) (δ := δ) (sz := sz) (c0 := c0 + 1) (fun i r hr m v hv => by
          rw [List.getElem?_map, Option.map_eq_some_iff] at hr
          obtain ⟨r0, hr0, rfl⟩ := hr
          have := hA i r0 hr0 (m + 1) v (by rw [← List.getElem?_tail]; exact hv)
          rw [show c0 + 1 + m = c0 + (m + 1) by omega]; exact this) j c (by simpa using hj)
        rw [List.length_map, show c0 + 1 + j = c0 + (j + 1) by omega] at this
        exact this
  | .b :: cs, rows, h => by
    obtain ⟨cols, d, h1, h2, h3⟩ := rows_cols (cs := cs) (rows := rows.map List.tail) fun r hr => by
      obtain ⟨r0, hr0, rfl⟩ := List.mem_map.1 hr
      cases h r0 hr0 with
      | bool b h => exact h
    let f : List Value → Bool := fun r => match r with | .bool x :: _ => x | _ => false
    have hrow : ∀ r ∈ rows, r = .bool (f r) :: r.tail := fun r hr => by
      have := h r hr
      cases this with
      | bool b h => rfl
    refine ⟨.b (rows.map f) :: cols, .lb (rows.map f) :: d, .b h1, fun c hc => ?_, fun {arr δ sz c0} hA j c hj => ?_⟩
    · rcases List.mem_cons.1 hc with rfl | hc
      · exact ⟨by simp [Col.len], trivial⟩
      · have := h2 c hc
        rw [List.length_map] at this
        exact this
    · cases j with
      | zero =>
        simp at hj; subst hj
        refine ⟨by simp, fun i x hx => ?_⟩
        rw [List.getElem?_map, Option.map_eq_some_iff] at hx
        obtain ⟨r, hr, rfl⟩ := hx
        have hm := List.mem_of_getElem? hr
        have e := hrow r hm
        exact hA i r hr 0 (.bool (f r)) (by rw [e]; rfl)
      | succ j =>
        have := h3 (arr := arr) (δ := δ) (sz := sz) (c0 := c0 + 1) (fun i r hr m v hv => by
          rw [List.getElem?_map, Option.map_eq_some_iff] at hr
          obtain ⟨r0, hr0, rfl⟩ := hr
          have := hA i r0 hr0 (m + 1) v (by rw [← List.getElem?_tail]; exact hv)
          rw [show c0 + 1 + m = c0 + (m + 1) by omega]; exact this) j c (by simpa using hj)
        rw [List.length_map, show c0 + 1 + j = c0 + (j + 1) by omega] at this
        exact this
section
variable {H : Type} {enc : TypeId × Value → H} {P : Program} {w : World}
/-- a slice that can be read -/
theorem open_rows {n : Nat} {t e : TypeId} {c0 : CK} {cs0 : List CK} {v : Value} {d : DataW H} {ps : List MemPlace} {r : Reach} {b0 : Nat} (ht : P.underlying t = some (.slice e)) (hc : cellsC P n e = some (c0 :: cs0)) (hz : (c0 :: cs0).length = P.cellsOf e)
    (hval : Value.okWide P w r b0 t v) (hd : DataW.Trod enc P w 0 (fun _ => true) true t v d ps) : ∃ dv, ShapeC (.l (c0 :: cs0) maxLen) dv ∧ ArgV w (.l (c0 :: cs0) maxLen) dv v := by
  generalize hcs : c0 :: cs0 = cs at hc hz
  have hne : cs ≠ [] := by rw [← hcs]; simp
  obtain ⟨a, len, cap, rfl⟩ := okWide_slice ht hval
  obtain ⟨fuel, hf⟩ := hd
  have hfin : ∀ {rows : List (List Value)}, (∀ r ∈ rows, CF cs r) → rows.length ≤ maxLen → (∀ {cols : List Col}, (∀ c ∈ cols, c.len = rows.length ∧ c.bnd) → (∀ {arr : Array Value} {δ sz c0 : Nat}, (∀ i r, rows[i]? = some r → ∀ m v, r[m]? = some v → arr[δ + (i * sz + (c0 + m))]? = some v) → ∀ j c, cols[j]? = some c → CR arr δ (rows.length * sz) sz (c0 + j) c) → SliceIn w (.slice a len cap) rows.length cs.length cols) →
      ∃ dv, ShapeC (.l cs maxLen) dv ∧ ArgV w (.l cs maxLen) dv (.slice a len cap) := fun {rows} h1 h2 h3 => by
    obtain ⟨cols, d, g1, g2, g3⟩ := rows_cols h1
    exact ⟨d, ⟨cols, rows.length, g1, hne, h2, g2⟩, cols, rows.length, g1, hne, h2, g2, h3 g2 g3⟩
  rcases DataW.trod_slice ht hf with ⟨e1, _⟩ | ⟨a', len', cap', elems, rest, m, rfl, e1, hx, _, hlc, hmx, hlen, hel, hsp, _⟩
  · have e1 : [Value.slice a len cap] = [.slice none 0 0] := by simpa [Value.cells] using e1
    cases e1
    exact hfin (rows := []) (fun r hr => by cases hr) (Nat.zero_le _) fun _ _ => .inl ⟨rfl, _, rfl⟩
  · have e1 : [Value.slice a len cap] = [.slice (some a') len' cap'] := by simpa [Value.cells] using e1
    cases e1
    obtain ⟨hrl, hrest⟩ := hsp rfl
    have hz1 : 1 ≤ P.cellsOf e := by rw [← hz, ← hcs]; simp
    have hcell : ∀ i, i < cap → ∃ row y, w.cells? 0 (a'.add (i * P.cellsOf e)) (P.cellsOf e) = some row ∧ DataW.trod enc P w 0 (fun _ => true) true m e row = some y := fun i hi => by
      have : ∃ y, (w.cells? 0 (a'.add (i * P.cellsOf e)) (P.cellsOf e)).bind (DataW.trod enc P w 0 (fun _ => true) true m e) = some y := by
        by_cases h : i < len
        · rw [hel i h, List.getElem?_eq_getElem (by omega)]; exact ⟨_, rfl⟩
        · have := hrest (i - len) (by omega)
          rw [show len + (i - len) = i by omega] at this
          rw [this, List.getElem?_eq_getElem (by omega)]; exact ⟨_, rfl⟩
      obtain ⟨y, hy⟩ := this
      obtain ⟨row, hr, hy⟩ := Option.bind_eq_some_iff.1 hy
      exact ⟨row, y, hr, hy⟩
    by_cases hc0 : cap = 0
    · subst hc0
      obtain rfl : len = 0 := by omega
      exact hfin (rows := []) (fun r hr => by cases hr) (Nat.zero_le _) fun _ _ => .inl ⟨rfl, _, rfl⟩
    · let row : Nat → List Value := fun i => (w.cells? 0 (a'.add (i * P.cellsOf e)) (P.cellsOf e)).getD []
      have hrow : ∀ i, i < cap → w.cells? 0 (a'.add (i * P.cellsOf e)) (P.cellsOf e) = some (row i) ∧ CF cs (row i) := fun i hi => by
        obtain ⟨r, y, h1, h2⟩ := hcell i hi
        have er : row i = r := by show (w.cells? 0 (a'.add (i * P.cellsOf e)) (P.cellsOf e)).getD [] = r; rw [h1]; rfl
        rw [er]
        exact ⟨h1, cellsC_ok n e cs hc m r y h2⟩
      have hat : ∀ i, i < cap → ∀ j v, (row i)[j]? = some v → w.cell? (a'.add (i * P.cellsOf e + j)) = some v := fun i hi j v hv => by
        obtain ⟨_, h2, h3⟩ := World.cells?_some (hrow i hi).1
        have hj : j < P.cellsOf e := by rw [← h2]; exact (List.getElem?_eq_some_iff.1 hv).1
        have := h3 j hj
        have ea : ∀ (x : Addr) (m n : Nat), (x.add m).add n = x.add (m + n) := fun x m n => by
          unfold Addr.add
          by_cases h1 : m = 0 <;> by_cases h2 : n = 0 <;> simp [h1, h2]
          omega
        rw [ea] at this
        rw [this, hv]
      have hpos : 0 < (row 0).length := by
        have := (hrow 0 (by omega)).2.length
        rw [this, hz]; omega
      obtain ⟨v0, hv0⟩ : ∃ v, (row 0)[0]? = some v := ⟨_, List.getElem?_eq_getElem hpos⟩
      have h00 := hat 0 (by omega) 0 v0 hv0
      have h00 : w.cell? a' = some v0 := by simpa [Addr.add] using h00
      have hspot := World.cell?_spot h00
      obtain ⟨rb, q, sp⟩ := a'
      have hspot : sp = none := hspot
      subst hspot
      obtain ⟨arr, ty, fz, harr⟩ : ∃ arr ty fz, w.heap[rb]? = some (.cells arr ty fz) := by
        unfold World.cell? at h00
        split at h00
        · rename_i c t f hh
          exact ⟨c, t, f, hh⟩
        · cases h00
      have harrcell : ∀ i, i < cap → ∀ j v, (row i)[j]? = some v → arr[q + (i * P.cellsOf e + j)]? = some v := fun i hi j v hv => by
        have := hat i hi j v hv
        rw [addr_add'] at this
        simpa [World.cell?, harr] using this
      refine hfin (rows := (List.range len).map row) (fun r hr => ?_) (by simp; omega) fun {cols} g2 g3 => .inr ⟨rb, q, cap, arr, ty, fz, ?_, ?_, harr, ?_, fun j c hj => ?_⟩
      · obtain ⟨i, hi, rfl⟩ := List.mem_map.1 hr
        exact (hrow i (by have := List.mem_range.1 hi; omega)).2
      · simp
      · simpa using hlc
      · have hl := (hrow (cap - 1) (by omega)).2.length
        obtain ⟨v1, hv1⟩ : ∃ v, (row (cap - 1))[P.cellsOf e - 1]? = some v := ⟨_, List.getElem?_eq_getElem (by rw [hl, hz]; omega)⟩
        have := harrcell (cap - 1) (by omega) _ _ hv1
        have hlt := (Array.getElem?_eq_some_iff.1 this).1
        rw [hz]
        have e2 : (cap - 1) * P.cellsOf e + P.cellsOf e = cap * P.cellsOf e := by
          obtain ⟨k, rfl⟩ : ∃ k, cap = k + 1 := ⟨cap - 1, by omega⟩
          simp [Nat.succ_mul]
        omega
      · have := g3 (arr := arr) (δ := q) (sz := cs.length) (c0 := 0) (fun i r hr m v hv => by
          rw [List.getElem?_map, Option.map_eq_some_iff] at hr
          obtain ⟨i', hi', rfl⟩ := hr
          rw [List.getElem?_eq_some_iff] at hi'
          obtain ⟨hi1, hi2⟩ := hi'
          simp at hi1 hi2
          subst hi2
          rw [hz, Nat.zero_add]
          exact harrcell i (by omega) m v hv) j c hj
        rw [Nat.zero_add] at this
        exact this
theorem open_arg {n : Nat} {t : TypeId} {k : VK} {v : Value} {d : DataW H} {ps : List MemPlace} {r : Reach} {b0 : Nat} (hk : argK P n t = some k) (hval : Value.okWide P w r b0 t v) (hd : DataW.Trod enc P w 0 (fun _ => true) true t v d ps) : ∃ dv, ShapeVK k dv ∧ ArgVK w k dv v := by
  unfold argK at hk
  split at hk
  · rename_i kd ht
    cases hk
    obtain ⟨x, rfl, rfl, rfl, hw⟩ := open_int ht hval hd
    obtain ⟨b1, b2⟩ := wf_in hw
    exact ⟨[.n x], ⟨⟨x, rfl, b1, b2⟩, by simp⟩, x, rfl, rfl, b1, b2⟩
  · rename_i ht
    cases hk
    obtain ⟨fuel, hf⟩ := hd
    obtain ⟨b, hb⟩ := okWide_bool ht hval
    subst hb
    exact ⟨[.b b], ⟨⟨b, rfl⟩, by simp⟩, b, rfl, rfl⟩
  · rename_i e ht
    split at hk
    · rename_i c cs hc
      split at hk
      · rename_i hz
        cases hk
        obtain ⟨dv, h1, h2⟩ := open_rows ht hc hz hval hd
        exact ⟨dv, ⟨h1, by simp⟩, h2⟩
      · cases hk
    · cases hk
  · rename_i fs ht
    rw [Option.map_eq_some_iff] at hk
    obtain ⟨cs, hc, rfl⟩ := hk
    obtain ⟨vs, rfl, _⟩ := okWide_struct ht hval
    obtain ⟨fuel, hf⟩ := hd
    have := cellsC_ok n t cs hc fuel _ _ hf
    have this : CF cs vs.toList := by simpa [Value.cells] using this
    obtain ⟨ds, h1, h2⟩ := this.args (w := w)
    exact ⟨flatD ds, ⟨ds, rfl, h1⟩, ds, vs.toList, rfl, by simp, h2⟩
  · cases hk
theorem open_args {n : Nat} {r : Reach} {b0 : Nat} : ∀ {ts : List TypeId} {ks : List VK} {vs : List Value} {ds : List (DataW H)} {ps : List MemPlace}, ts.mapM (argK P n) = some ks → (∀ (j : Nat) t v, ts[j]? = some t → vs[j]? = some v → Value.okWide P w r b0 t v) →
    DataW.TrodAll enc P w 0 (fun _ => true) true ts vs ds ps → ∃ dss, ShapeVKs ks dss ∧ ArgVKs w ks dss vs
  | [], ks, vs, ds, ps, hk, hv, hd => by
    obtain ⟨rfl, rfl, rfl⟩ := trodAll_nil hd
    simp at hk; subst hk
    exact ⟨[], .nil, .nil⟩
  | t :: ts, ks, vs, ds, ps, hk, hv, hd => by
    obtain ⟨v, vs, d, ds, p, q, rfl, rfl, rfl, h0, r0⟩ := trodAll_cons hd
    rw [List.mapM_cons] at hk
    cases h1 : argK P n t with
    | none => rw [h1] at hk; cases hk
    | some k =>
      rw [h1] at hk
      cases h2 : ts.mapM (argK P n) with
      | none => rw [h2] at hk; cases hk
      | some ks' =>
        rw [h2] at hk
        have hk : k :: ks' = ks := by simpa using hk
        subst hk
        obtain ⟨dv, g1, g2⟩ := open_arg h1 (hv 0 t v rfl rfl) h0
        obtain ⟨dss, g3, g4⟩ := open_args h2 (fun j t v hj hv' => hv (j + 1) t v (by simpa using hj) (by simpa using hv')) r0
        exact ⟨dv :: dss, .cons g1 g3, .cons g2 g4⟩
/-- the arguments, read again -/
theorem shut_args (hl : laidOutB P = true) {w' : World} (hb : Below w.heap.size w w') {sp : Nat → Bool} : ∀ {ts : List TypeId} {vs : List Value} {ds : List (DataW H)} {ps : List MemPlace}, ts.all (fun t => P.readableRec t && decide (t < P.types.size)) = true → DataW.TrodAll enc P w 0 (fun _ => true) true ts vs ds ps →
    (∀ x ∈ ps, x.block < w.heap.size) → (∀ p ∈ ps, sp p.block = true) → DataW.TrodAll enc P w' 0 sp true ts vs ds ps
  | [], vs, ds, ps, _, hd, _, _ => by
    obtain ⟨rfl, rfl, rfl⟩ := trodAll_nil hd
    exact trodAll_mk0
  | t :: ts, vs, ds, ps, ha, hd, hlt, hsp => by
    obtain ⟨v, vs, d, ds, p, q, rfl, rfl, rfl, h0, r0⟩ := trodAll_cons hd
    rw [List.all_cons, Bool.and_eq_true, Bool.and_eq_true] at ha
    obtain ⟨⟨a1, a2⟩, a3⟩ := ha
    exact trodAll_cons_mk (WideElems.Trod_stays hl a1 (of_decide_eq_true a2) h0 (fun x hx => hb.same (hlt x (List.mem_append_left _ hx))) fun x hx => hsp x (List.mem_append_left _ hx))
      (shut_args hl hb a3 r0 (fun x hx => hlt x (List.mem_append_right _ hx)) fun x hx => hsp x (List.mem_append_right _ hx))
end
/-- a function that returns true -/
theorem true_calls {P : Program} {f : Nat} {ks : List VK} {gl : List (Nat × List EV)} (hN : namesB P = true) {fn : Func} (hf : P.funcs[f]? = some fn) (hb : fn.body.isSome = true) (hF : FnOk P f ⟨ks, [.one .b], fun _ => True, fun _ rs => rs = [.b true]⟩ gl)
    {w : World} {vs : List Value} {dss : List (List DV)} (hl : Laid gl w) (hs : ShapeVKs ks dss) (ha : ArgVKs w ks dss vs) : Calls P f vs.toArray w fun e w' => e = .returned (.bool true) ∧ Below w.heap.size w w' := by
  obtain ⟨cs, rss, _, hsh, hpost, hrun⟩ := hF dss hs trivial
  have this := hrun w vs hl ha
  rw [callFunc_enter (P := P) (namesOk_of hN) (f := f) (by simp [hasBody, hf, hb]) vs.toArray w] at this
  have this : CallsIn (Wd none) 0 P f vs.toArray w fun e w'' => ∃ u, e = .returned u ∧ ∃ us es locs, ValOf us u ∧ GroupV [.one .b] cs us es ∧ ResCs w w'' cs rss es locs ∧ Apart3 locs ∧ Below w.heap.size w w'' := this
  refine (callsIn_wide.1 this).mono fun e w' ⟨u, he, us, es, locs, huv, hG, hR, _, hbl⟩ => ⟨?_, hbl⟩
  subst he
  cases hG with
  | one hG =>
    cases hG
    cases hR with
    | cons h1 h2 =>
      cases h2
      have hpost := hpost
      simp only [flatD, appN_eq, List.append_nil] at hpost
      have := h1.1 true hpost
      subst this
      unfold ValOf at huv
      subst huv
      rfl
end Go.Ev
