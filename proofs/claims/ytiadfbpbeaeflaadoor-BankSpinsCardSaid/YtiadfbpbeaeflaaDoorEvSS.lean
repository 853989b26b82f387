/- A function's contract out of several, by its arguments' bounds. -/
import Derived.Test.YtiadfbpbeaeflaaDoorEvSX
namespace Go.Ev
def sxC : CX → CX → Prop
  | .i k _ _, .i k' _ _ => k = k'
  | .b, .b => True
  | .l cs mx, .l cs' mx' => cs = cs' ∧ mx = mx'
  | _, _ => False
def sxCs : List CX → List CX → Prop
  | [], [] => True
  | a :: l, bb :: m => sxC a bb ∧ sxCs l m
  | _, _ => False
def sxV : VK → VK → Prop
  | .one a, .one bb => sxC a bb
  | .agg l, .agg m => sxCs l m
  | _, _ => False
def sxVs : List VK → List VK → Prop
  | [], [] => True
  | a :: l, bb :: m => sxV a bb ∧ sxVs l m
  | _, _ => False
theorem arg_same {w : World} {a bb : CX} {d : List DV} {v : Value} (hs : sxC a bb) (h : ShapeC a d) (g : ArgV w bb d v) : ArgV w a d v := by
  cases a <;> cases bb <;> simp only [sxC] at hs
  · subst hs
    obtain ⟨x, rfl, h1, h2⟩ := h
    obtain ⟨y, e, g1, _⟩ := g
    cases e
    exact ⟨x, rfl, g1, h1, h2⟩
  · exact g
  · obtain ⟨rfl, rfl⟩ := hs; exact g
theorem shape_len : ∀ {c : CX} {w : World} {d d' : List DV} {v : Value}, ShapeC c d → ArgV w c d' v → d.length = d'.length := by
  intro c w d d' v h g
  have tl : ∀ {cs : List CK} {cols : List Col} {d : List DV}, Tmpl cs cols d → d.length = cs.length := by
    intro cs cols d h
    induction h with
    | nil => rfl
    | i _ ih => simp [ih]
    | b _ ih => simp [ih]
  cases c with
  | i k lo hi => obtain ⟨x, rfl, _⟩ := h; obtain ⟨y, rfl, _⟩ := g; rfl
  | b => obtain ⟨x, rfl⟩ := h; obtain ⟨y, rfl, _⟩ := g; rfl
  | l cs mx => obtain ⟨_, _, t, _⟩ := h; obtain ⟨_, _, t', _⟩ := g; rw [tl t, tl t']
  | w => cases g
theorem args_same {w : World} : ∀ {a bb : List CX} {ds ds' : List (List DV)} {vs : List Value}, sxCs a bb → ShapeCs a ds → ArgCs w bb ds' vs → flatD ds = flatD ds' → ArgCs w a ds vs
  | [], [], _, _, _, _, h, g, _ => by cases h; cases g; exact .nil
  | [], _ :: _, _, _, _, hs, _, _, _ => hs.elim
  | _ :: _, [], _, _, _, hs, _, _, _ => hs.elim
  | a :: l, b' :: m, _, _, _, hs, h, g, e => by
    cases h with
    | cons h1 h2 h3 =>
      rename_i d ds
      cases g with
      | cons g1 g2 =>
        rename_i d' ds' v' vs'
        have e : appN d (flatD ds) = appN d' (flatD ds') := e
        rw [appN_eq, appN_eq] at e
        have hl : d.length = d'.length := by
          have e2 := hs.1
          cases a <;> cases b' <;> simp only [sxC] at e2
          · obtain ⟨x, rfl, _⟩ := h1; obtain ⟨y, rfl, _⟩ := g1; rfl
          · exact shape_len h1 g1
          · obtain ⟨rfl, rfl⟩ := e2; exact shape_len h1 g1
        obtain ⟨e1, e2⟩ := List.append_inj e hl
        subst e1
        exact .cons (arg_same hs.1 h1 g1) (args_same hs.2 h3 g2 e2)
theorem argVK_same {w : World} {a bb : VK} {d : List DV} {v : Value} (hs : sxV a bb) (h : ShapeVK a d) (g : ArgVK w bb d v) : ArgVK w a d v := by
  cases a <;> cases bb <;> simp only [sxV] at hs
  · exact arg_same hs h.1 g
  · obtain ⟨ds, rfl, hd⟩ := h
    obtain ⟨ds', vs', e, rfl, ha⟩ := g
    exact ⟨ds, vs', rfl, rfl, args_same hs hd ha e⟩
theorem argVKs_same {w : World} : ∀ {a bb : List VK} {ds : List (List DV)} {vs : List Value}, sxVs a bb → ShapeVKs a ds → ArgVKs w bb ds vs → ArgVKs w a ds vs
  | [], [], _, _, _, h, g => by cases h; cases g; exact .nil
  | [], _ :: _, _, _, hs, _, _ => hs.elim
  | _ :: _, [], _, _, hs, _, _ => hs.elim
  | a :: l, bb :: m, _, _, hs, h, g => by
    cases h with
    | cons h1 h2 =>
      cases g with
      | cons g1 g2 => exact .cons (argVK_same hs.1 h1 g1) (argVKs_same hs.2 h2 g2)
/-- one of several contracts fits -/
theorem fn_join {P : Program} {f : Nat} {g : Sig} {gl : List (Nat × List EV)} (h : ∀ dss, ShapeVKs g.args dss → g.pre (flatD dss) →
    ∃ g' : Sig, FnOk P f g' gl ∧ g'.res = g.res ∧ sxVs g'.args g.args ∧ ShapeVKs g'.args dss ∧ g'.pre (flatD dss) ∧ ∀ rs, g'.post (flatD dss) rs → g.post (flatD dss) rs) : FnOk P f g gl := by
  intro dss hs hp
  obtain ⟨g', hF, hr, hv, hs', hp', hq⟩ := h dss hs hp
  obtain ⟨cs, rss, h1, h2, h3, h4⟩ := hF dss hs' hp'
  rw [hr] at h1 h4
  exact ⟨cs, rss, h1, h2, hq _ h3, fun w args' hl ha => h4 w args' hl (argVKs_same hv hs' ha)⟩
end Go.Ev
namespace Go.Ev
theorem sxC_refl : ∀ {c : CX} {d : List DV}, ShapeC c d → c ≠ .w → sxC c c
  | .i .., _, _, _ => rfl
  | .b, _, _, _ => trivial
  | .l .., _, _, _ => ⟨rfl, rfl⟩
  | .w, _, _, h => absurd rfl h
theorem sxCs_refl {cs : List CX} {ds : List (List DV)} (h : ShapeCs cs ds) : sxCs cs cs := by
  induction h with
  | nil => trivial
  | cons h hw _ ih => exact ⟨sxC_refl h hw, ih⟩
theorem sxVs_refl {ks : List VK} {ds : List (List DV)} (h : ShapeVKs ks ds) : sxVs ks ks := by
  induction h with
  | nil => trivial
  | cons h _ ih =>
    rename_i k ks d ds _
    refine ⟨?_, ih⟩
    cases k with
    | one c => exact sxC_refl h.1 h.2
    | agg cs => obtain ⟨_, _, h⟩ := h; exact sxCs_refl h
/-- a contract out of two, by the first argument -/
theorem fn_split1 {P : Program} {f : Nat} {gl : List (Nat × List EV)} {k : IntKind} {lo hi m m' : Int} {rest res : List VK} {pre : List DV → Prop} {post : List DV → List DV → Prop} (hm : m' + 1 = m)
    (F1 : FnOk P f ⟨.one (.i k m hi) :: rest, res, pre, post⟩ gl) (F2 : FnOk P f ⟨.one (.i k lo m') :: rest, res, pre, post⟩ gl) : FnOk P f ⟨.one (.i k lo hi) :: rest, res, pre, post⟩ gl := fn_join fun dss hs hp => by
  have hs : ShapeVKs (.one (.i k lo hi) :: rest) dss := hs
  cases hs with
  | cons h1 h2 =>
    obtain ⟨⟨x, rfl, b1, b2⟩, h3⟩ := h1
    rcases Int.lt_or_le x m with hx | hx
    · exact ⟨_, F2, rfl, ⟨rfl, sxVs_refl h2⟩, .cons ⟨⟨x, rfl, b1, by omega⟩, by simp⟩ h2, hp, fun _ h => h⟩
    · exact ⟨_, F1, rfl, ⟨rfl, sxVs_refl h2⟩, .cons ⟨⟨x, rfl, hx, b2⟩, by simp⟩ h2, hp, fun _ h => h⟩
end Go.Ev
