/- Arguments of plain types: numbers, bools, and structs of them. -/
import Derived.Test.YtcddopooofdgcaaEvT
import Derived.OpenShut
import Derived.WideShapes
import Derived.ChangeSame
namespace Go.Ev
open Go.RowKit Go.ChangeShapes Go.WideShapes
inductive CF : List PK → List Value → Prop
  | nil : CF [] []
  | int {ks : List PK} {vs : List Value} (k : IntKind) (n : Int) (hw : (Lit.int k n).wf = true) (h : CF ks vs) : CF (.int k :: ks) (.int k n :: vs)
  | bool {ks : List PK} {vs : List Value} (b : Bool) (h : CF ks vs) : CF (.bool :: ks) (.bool b :: vs)
theorem CF.length {ks : List PK} {vs : List Value} (h : CF ks vs) : vs.length = ks.length := by
  induction h with
  | nil => rfl
  | int _ _ _ _ ih => simp [ih]
  | bool _ _ ih => simp [ih]
theorem CF.append {a b : List PK} {x y : List Value} (h : CF a x) (k : CF b y) : CF (a ++ b) (x ++ y) := by
  induction h with
  | nil => exact k
  | int k n hw _ ih => exact .int k n hw ih
  | bool b _ ih => exact .bool b ih
theorem CF.int_inv {k : IntKind} {ks : List PK} {vs : List Value} (h : CF (.int k :: ks) vs) : ∃ n tl, vs = .int k n :: tl ∧ (Lit.int k n).wf = true ∧ CF ks tl := by
  cases h with
  | int _ n hw h => exact ⟨n, _, rfl, hw, h⟩
theorem CF.bool_inv {ks : List PK} {vs : List Value} (h : CF (.bool :: ks) vs) : ∃ b tl, vs = .bool b :: tl ∧ CF ks tl := by
  cases h with
  | bool b h => exact ⟨b, _, rfl, h⟩
theorem CF.nil_inv {vs : List Value} (h : CF [] vs) : vs = [] := by cases h; rfl
def fieldsK (K : TypeId → Option (List PK)) (P : Program) : List Field → Nat → Option (List PK)
  | [], _ => some []
  | f :: fs, o => match K f.type, fieldsK K P fs (o + P.cellsOf f.type) with
    | some a, some b => if f.offset = o ∧ a.length = P.cellsOf f.type then some (a ++ b) else none
    | _, _ => none
def plainK (P : Program) : Nat → TypeId → Option (List PK)
  | 0, _ => none
  | n + 1, t => match P.underlying t with
    | some (.int k) => some [.int k]
    | some .bool => some [.bool]
    | some (.struct fs) => match fieldsK (plainK P n) P fs.toList 0 with
      | some ks => if ks.length = P.cellsOf t then some ks else none
      | none => none
    | _ => none
section
variable {H : Type} {enc : TypeId × Value → H} {P : Program} {w : World} {base : Nat} {spare : Nat → Bool} {held : Bool}
theorem fields_ok {K : TypeId → Option (List PK)} {m : Nat} {cs : List Value} (hK : ∀ t ks, K t = some ks → ∀ cs x, DataW.trod enc P w base spare held m t cs = some x → CF ks cs ∧ x.2 = [] ∧
      ∀ (w' : World) (base' : Nat) (spare' : Nat → Bool) (held' : Bool), DataW.trod enc P w' base' spare' held' m t cs = some x) :
    ∀ (fs : List Field) (o : Nat) (ks : List PK) (xs : List (DataW H × List MemPlace)), fieldsK K P fs o = some ks → xs.length = fs.length →
      (∀ (i : Nat) (f : Field), fs[i]? = some f → DataW.trod enc P w base spare held m f.type ((cs.drop f.offset).take (P.cellsOf f.type)) = xs[i]?) →
      CF ks ((cs.drop o).take ks.length) ∧ xs.flatMap (·.2) = [] ∧
        ∀ (w' : World) (base' : Nat) (spare' : Nat → Bool) (held' : Bool), fs.mapM (fun f => DataW.trod enc P w' base' spare' held' m f.type ((cs.drop f.offset).take (P.cellsOf f.type))) = some xs
  | [], o, ks, xs, h, hl, _ => by
    simp [fieldsK] at h; subst h
    have : xs = [] := by simpa using hl
    subst this
    exact ⟨by simpa using CF.nil, rfl, fun _ _ _ _ => rfl⟩
  | f :: fs, o, ks, xs, h, hl, hf => by
    unfold fieldsK at h
    split at h
    · rename_i a b h1 h2
      split at h
      · rename_i hc
        obtain ⟨c1, c2⟩ := hc
        cases h
        obtain ⟨y, ys, rfl⟩ : ∃ y ys, xs = y :: ys := by
          cases xs with
          | nil => simp at hl
          | cons y ys => exact ⟨y, ys, rfl⟩
        have hy := hf 0 f rfl
        obtain ⟨g1, g2, g3⟩ := hK _ _ h1 _ _ (show _ = some y from hy)
        obtain ⟨i1, i2, i3⟩ := fields_ok hK fs (o + P.cellsOf f.type) b ys h2 (by simpa using hl) (fun i g hg => by simpa using hf (i + 1) g (by simpa using hg))
        refine ⟨?_, ?_, fun w' base' spare' held' => ?_⟩
        · rw [List.length_append, List.take_add, List.drop_drop, c2]
          rw [← c1] at i1 ⊢
          exact g1.append i1
        · simp [g2, i2]
        · rw [List.mapM_cons, g3 w' base' spare' held', i3 w' base' spare' held']; rfl
      · cases h
    · cases h
theorem plain_ok : ∀ (n : Nat) (t : TypeId) (ks : List PK), plainK P n t = some ks → ∀ (fuel : Nat) (cs : List Value) (x : DataW H × List MemPlace), DataW.trod enc P w base spare held fuel t cs = some x →
    CF ks cs ∧ x.2 = [] ∧ ∀ (w' : World) (base' : Nat) (spare' : Nat → Bool) (held' : Bool), DataW.trod enc P w' base' spare' held' fuel t cs = some x
  | 0, t, ks, h => by simp [plainK] at h
  | n + 1, t, ks, h => by
    intro fuel cs x hx
    unfold plainK at h
    split at h
    · rename_i k ht
      cases h
      obtain ⟨m, rfl, rfl, hw⟩ := DataW.trod_int ht hx
      refine ⟨.int k m hw .nil, rfl, fun w' base' spare' held' => ?_⟩
      cases fuel with
      | zero => simp [DataW.trod] at hx
      | succ fuel => simp [DataW.trod, ht, hw]
    · rename_i ht
      cases h
      obtain ⟨b, rfl, rfl⟩ := DataW.trod_bool ht hx
      refine ⟨.bool b .nil, rfl, fun w' base' spare' held' => ?_⟩
      cases fuel with
      | zero => simp [DataW.trod] at hx
      | succ fuel => simp [DataW.trod, ht]
    · rename_i fs ht
      split at h
      · rename_i ks' hk
        split at h
        · rename_i hc
          cases h
          obtain ⟨xs, m, rfl, rfl, hl, hlen, hf⟩ := DataW.trod_struct ht hx
          obtain ⟨g1, g2, g3⟩ := fields_ok (enc := enc) (w := w) (base := base) (spare := spare) (held := held) (m := m) (cs := cs) (fun t ks hk cs x hx => plain_ok n t ks hk m cs x hx) fs.toList 0 ks xs hk (by simpa using hlen) (fun i f hi => hf i f (by simpa using hi))
          refine ⟨?_, g2, fun w' base' spare' held' => trod_struct_mk ht hl (g3 w' base' spare' held')⟩
          have : (cs.drop 0).take ks.length = cs := by
            rw [List.drop_zero, hc, ← hl]; exact List.take_length
          rw [this] at g1
          exact g1
        · cases h
      · cases h
    · cases h
/-- an argument of a struct's type, opened; and shut again in any world -/
theorem open_plain {r : Reach} {b0 n : Nat} {t : TypeId} {fs : Array Field} {ks : List PK} {v : Value} {d : DataW H} {ps : List MemPlace} (ht : P.underlying t = some (.struct fs)) (hk : plainK P n t = some ks) (hval : Value.okWide P w r b0 t v) (hd : DataW.Trod enc P w base spare held t v d ps) :
    ∃ cs : List Value, v = .agg cs.toArray ∧ CF ks cs ∧ ps = [] ∧ ∀ (w' : World) (base' : Nat) (spare' : Nat → Bool) (held' : Bool), DataW.Trod enc P w' base' spare' held' t (.agg cs.toArray) d [] := by
  obtain ⟨cs, rfl, _⟩ := okWide_struct ht hval
  obtain ⟨l⟩ := cs
  obtain ⟨fuel, hf⟩ := hd
  obtain ⟨g1, g2, g3⟩ := plain_ok n t ks hk fuel _ _ hf
  simp only at g2
  subst g2
  refine ⟨l, rfl, by simpa [Value.cells] using g1, rfl, fun w' base' spare' held' => ⟨fuel, g3 w' base' spare' held'⟩⟩
end
theorem num_vr [FactsC] [Env] (k : IntKind) (i : Nat) {a : Int} (h : a = Env.val.n i) (wa : (Lit.int k a).wf = true) (φ : Phi) : VR φ (.sym k (.var i) k.min k.max) (.int k a) := by
  have : k.min ≤ a ∧ a ≤ k.max := by
    simp only [Lit.wf, Bool.and_eq_true, decide_eq_true_eq] at wa
    exact wa
  exact .sym _ _ _ _ h this.1 this.2
end Go.Ev
