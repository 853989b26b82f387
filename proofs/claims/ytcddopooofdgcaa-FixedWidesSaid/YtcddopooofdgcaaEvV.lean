/- Functions of plain values: what they return, by a tree of cases. -/
import Derived.Test.YtcddopooofdgcaaEvU
namespace Go.Ev
set_option linter.unusedSectionVars false
open Go.RowKit (Below)
/-- the names of functions: 32 for each -/
def tabF (Fs : List (List Int → List Int)) : Nat → Int × List Int → Int × List Int → Int × List Int := fun f x _ => (((Fs.getD ((f - 32) / 32) (fun _ => [])) x.2).getD ((f - 32) % 32) 0, [])
/-- the arguments by number -/
def valC (Fs : List (List Int → List Int)) (ns : List Int) : VAL := ⟨fun i => ns.getD i 0, fun _ => [], tabF Fs⟩
theorem conOk_none [FactsC] [Env] {P : Program} {ext : List (Nat × Ext)} (h : (ext.all fun p => match p.2 with | .con _ => false | _ => true) = true) : ConOk P ext := by
  intro f b hl
  exfalso
  induction ext with
  | nil => simp at hl
  | cons p l ih =>
    obtain ⟨g, e⟩ := p
    simp only [List.all_cons, Bool.and_eq_true] at h
    rw [List.lookup_cons] at hl
    split at hl
    · cases hl; simp at h
    · exact ih h.2 hl
theorem conOk_cons [FactsC] [Env] {P : Program} {ext : List (Nat × Ext)} {f : Nat} {c : Con} {F : List Int → List Int} (h1 : 1 ≤ cellsN c.res) (hn : Named c F) (h : conN P f c F) (hs : ConOk P ext) : ConOk P ((f, .con c) :: ext) := by
  intro g d hl
  rw [List.lookup_cons] at hl
  split at hl
  · rename_i hg
    cases hl
    have : g = f := by simpa using hg
    subst this
    exact ⟨F, h1, hn, h⟩
  · exact hs g d hl
theorem conOk_skip [FactsC] [Env] {P : Program} {ext : List (Nat × Ext)} {f : Nat} {e : Ext} (he : ∀ c, e ≠ .con c) (hs : ConOk P ext) : ConOk P ((f, e) :: ext) := by
  intro g d hl
  rw [List.lookup_cons] at hl
  split at hl
  · cases hl; exact absurd rfl (he d)
  · exact hs g d hl
theorem knownOk_skip {P : Program} {ext : List (Nat × Ext)} {f : Nat} {e : Ext} (he : ∀ b, e ≠ .known b) (hs : KnownOk P ext) : KnownOk P ((f, e) :: ext) := by
  intro g d hl
  rw [List.lookup_cons] at hl
  split at hl
  · cases hl; exact absurd rfl (he d)
  · exact hs g d hl
theorem named_tab [FactsC] [Env] {Fs : List (List Int → List Int)} {c : Con} {F : List Int → List Int} {k : Nat} (hv : Env.val.f = tabF Fs) (hk : Fs[k]? = some F) (hc : c.fid = 32 + 32 * k) (h32 : cellsN c.res ≤ 32) : Named c F := by
  intro i hi n xs y
  obtain ⟨m, hm⟩ : ∃ m, c.fid + i = m + 3 := ⟨c.fid + i - 3, by omega⟩
  have e : appF Env.val (c.fid + i) (n, xs) y = Env.val.f (c.fid + i) (n, xs) y := by rw [hm]; rfl
  rw [e, hv]
  have e1 : (c.fid + i - 32) / 32 = k := by omega
  have e2 : (c.fid + i - 32) % 32 = i := by omega
  simp only [tabF, e1, e2, List.getD_eq_getElem?_getD, hk, Option.getD_some]
/-- the bounds of the arguments' kinds -/
def rangeC (k : PK) (j : Nat) : List Fact := match k with
  | .int k => [⟨.var j, k.max, true⟩, ⟨.var j, k.min - 1, false⟩]
  | .bool => [⟨.var j, 1, true⟩, ⟨.var j, -1, false⟩]
def rangeCs : List PK → Nat → List Fact
  | [], _ => []
  | k :: ks, j => rangeC k j ++ rangeCs ks (j + 1)
def rangesF : List AK → Nat → List Fact
  | [], _ => []
  | .one k :: l, j => rangeC k j ++ rangesF l (j + 1)
  | .agg ks :: l, j => rangeCs ks j ++ rangesF l (j + ks.length)
theorem rangeC_ok {v : VAL} {k : PK} {j : Nat} {x : Value} (h : k.val (v.n j) x) : ∀ f ∈ rangeC k j, f.holds v := by
  cases k with
  | int k =>
    obtain ⟨_, h1, h2⟩ := h
    intro f hf
    simp only [rangeC, List.mem_cons, List.not_mem_nil, or_false] at hf
    rcases hf with rfl | rfl
    · exact h2
    · show k.min - 1 < v.n j; omega
  | bool =>
    obtain ⟨b, _, h1⟩ := h
    intro f hf
    simp only [rangeC, List.mem_cons, List.not_mem_nil, or_false] at hf
    have : v.n j = 0 ∨ v.n j = 1 := by cases b; exact .inl h1; exact .inr h1
    rcases hf with rfl | rfl
    · show v.n j ≤ 1; omega
    · show -1 < v.n j; omega
theorem rangeCs_ok {v : VAL} : ∀ {ks : List PK} {j : Nat} {ns : List Int} {vs : List Value}, (∀ i, i < ns.length → v.n (j + i) = ns.getD i 0) → CellsV ks ns vs → ∀ f ∈ rangeCs ks j, f.holds v
  | [], j, ns, vs, _, _, f, hf => by cases hf
  | k :: ks, j, ns, vs, hn, h, f, hf => by
    cases h with
    | @cons _ n x _ ns vs g gs =>
      rcases List.mem_append.1 hf with hf | hf
      · have := hn 0 (by simp)
        rw [Nat.add_zero] at this
        have e : v.n j = n := this
        exact rangeC_ok (x := x) (by rw [e]; exact g) f hf
      · refine rangeCs_ok (fun i hi => ?_) gs f hf
        have := hn (i + 1) (by simp; omega)
        rw [show j + (i + 1) = j + 1 + i from by omega] at this
        exact this
theorem rangesF_ok {v : VAL} : ∀ {l : List AK} {j : Nat} {ns : List Int} {vs : List Value}, (∀ i, i < ns.length → v.n (j + i) = ns.getD i 0) → ArgsV l ns vs → ∀ f ∈ rangesF l j, f.holds v
  | [], j, ns, vs, _, _, f, hf => by cases hf
  | .one k :: l, j, ns, vs, hn, h, f, hf => by
    cases h with
    | @one _ n x _ ns vs g gs =>
      rcases List.mem_append.1 hf with hf | hf
      · have := hn 0 (by simp)
        rw [Nat.add_zero] at this
        have e : v.n j = n := this
        exact rangeC_ok (x := x) (by rw [e]; exact g) f hf
      · refine rangesF_ok (fun i hi => ?_) gs f hf
        have := hn (i + 1) (by simp; omega)
        rw [show j + (i + 1) = j + 1 + i from by omega] at this
        exact this
  | .agg ks :: l, j, ns, vs, hn, h, f, hf => by
    cases h with
    | @agg _ ms cs _ ns vs g gs =>
      have hl := g.length
      rcases List.mem_append.1 hf with hf | hf
      · refine rangeCs_ok (ns := ms) (fun i hi => ?_) g f hf
        rw [hn i (by simp; omega), List.getD_eq_getElem?_getD, List.getD_eq_getElem?_getD, List.getElem?_append_left (by omega)]
      · refine rangesF_ok (fun i hi => ?_) gs f hf
        have := hn (ks.length + i) (by simp; omega)
        rw [show j + (ks.length + i) = j + ks.length + i from by omega] at this
        rw [this, List.getD_eq_getElem?_getD, List.getD_eq_getElem?_getD, List.getElem?_append_right (by omega), hl]
        congr 2; omega
/-- in each leaf: no error, or nothing else -/
def isZero (e : SE) : Bool := match e with | .lit 0 => true | _ => false
def ezL (N : Nat) (rs : List SE) : Bool := rs.length == N && (isZero (rs.getD (N - 1) (.lit 1)) || (rs.take (N - 1)).all isZero)
def ezT (N : Nat) : RTree → Bool
  | .leaf rs => ezL N rs
  | .split _ _ l r => ezT N l && ezT N r
theorem isZero_ok {e : SE} (h : isZero e = true) : e = .lit 0 := by
  unfold isZero at h
  split at h
  · rfl
  · cases h
theorem ezT_ok {N : Nat} (v : VAL) : ∀ {t : RTree}, ezT N t = true → (t.ev v).getD (N - 1) 0 ≠ 0 → ∀ i, i + 1 < N → (t.ev v).getD i 0 = 0
  | .split e c l r, h, hne, i, hi => by
    simp only [ezT, Bool.and_eq_true] at h
    unfold RTree.ev at hne ⊢
    split at hne
    · rw [if_pos ‹_›]; exact ezT_ok v h.1 hne i hi
    · rw [if_neg ‹_›]; exact ezT_ok v h.2 hne i hi
  | .leaf rs, h, hne, i, hi => by
    simp only [ezT, ezL, Bool.and_eq_true, Bool.or_eq_true, beq_iff_eq] at h
    obtain ⟨hl, h⟩ := h
    have hm : ∀ (i : Nat), i < rs.length → ((RTree.leaf rs).ev v).getD i 0 = (rs.getD i (.lit 1)).ev v := by
      intro i hi
      show (rs.map (·.ev v)).getD i 0 = _
      rw [List.getD_eq_getElem?_getD, List.getElem?_map, List.getD_eq_getElem?_getD, List.getElem?_eq_getElem hi]; rfl
    rcases h with h | h
    · exfalso; apply hne
      rw [hm _ (by omega), isZero_ok h]; rfl
    · rw [hm i (by omega)]
      have : rs.getD i (.lit 1) ∈ rs.take (N - 1) := by
        rw [List.mem_take_iff_getElem]
        refine ⟨i, by omega, ?_⟩
        rw [List.getD_eq_getElem?_getD, List.getElem?_eq_getElem (by omega)]; rfl
      rw [isZero_ok (List.all_eq_true.1 h _ this)]; rfl
/-- a function's results by a tree of cases -/
theorem con_tree {P : Program} {ext : List (Nat × Ext)} {n f : Nat} {c : Con} {t : RTree} {tree : STree} {deads : List (List Fact)} {F0 : List Fact} (Fs : List (List Int → List Int)) (hm : P.follows .mixedOrders = true) (hE : ∀ p ∈ ext, ExtRow P p.1 p.2) (hKn : KnownOk P ext)
    (hCn : ∀ (F : List Fact) (E : @Env ⟨F⟩), (@Env.val ⟨F⟩ E).f = tabF Fs → @ConOk ⟨F⟩ E P ext) (hN : namesB P = true) {fn : Func} (hf : P.funcs[f]? = some fn) (hb : fn.body.isSome = true)
    (hrun : checkT (fun F => @runC ⟨F⟩ P ext [] n f c.args (@isRT ⟨F⟩ c.res t)) deads tree F0 = true) (hd : ∀ v : VAL, ∀ cl ∈ deads, ¬ ∀ f ∈ cl, f.holds v) (h0 : allF F0 (rangesF c.args 0) = true) (hez : (!c.ez || ezT (cellsN c.res) t) = true) :
    conN P f c fun ns => t.ev (valC Fs ns) := by
  intro w ns vs ha
  have hr : ∀ f ∈ rangesF c.args 0, f.holds (valC Fs ns) := rangesF_ok (fun i _ => by rw [Nat.zero_add]; rfl) ha
  refine checkT_ok (v := valC Fs ns) (fun F h hF => ?_) (hd _) hrun fun f hf => hr f (allF_ok h0 f hf)
  letI : FactsC := ⟨F⟩
  letI : Env := ⟨valC Fs ns, hF⟩
  refine (runC_sound hm hE hKn (hCn F _ rfl) hN hf hb h w (fun p hp => by cases hp) (fun i _ => rfl) ha).mono fun e w' ⟨⟨v, φ, u, h1, h2, h3⟩, hbl⟩ => ?_
  obtain ⟨rs, rfl, h5⟩ := isRT_ok h1 φ u h2
  refine ⟨rs, h5, fun hz => ?_, h3, hbl⟩
  rw [hz] at hez
  exact ezT_ok _ (by simpa using hez)
end Go.Ev
