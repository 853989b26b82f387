/- Contracts: what is said of a function's call. -/
import Derived.Test.YtiadfbpbeaeflaaDoorEvF
namespace Go.Ev
open Go.RowKit (Below)
/-- a slice in memory -/
def SliceIn (w : World) (v' : Value) (len z : Nat) (cols : List Col) : Prop :=
  (len = 0 ∧ ∃ a, v' = .slice a 0 0) ∨ ∃ rb q cap cs ty fz, v' = .slice (some ⟨rb, q, none⟩) len cap ∧ len ≤ cap ∧ w.heap[rb]? = some (.cells cs ty fz) ∧ q + cap * z ≤ cs.size ∧ ∀ (j : Nat) (c : Col), cols[j]? = some c → CR cs q (len * z) z j c
/-- a value has these data -/
def ArgV (w : World) (c : CX) (d : List DV) (v' : Value) : Prop := match c with
  | .i k lo hi => ∃ x, d = [.n x] ∧ v' = .int k x ∧ lo ≤ x ∧ x ≤ hi
  | .b => ∃ x, d = [.b x] ∧ v' = .bool x
  | .l cs mx => ∃ cols len, Tmpl cs cols d ∧ cs ≠ [] ∧ len ≤ mx ∧ (∀ c ∈ cols, c.len = len ∧ c.bnd) ∧ SliceIn w v' len cs.length cols
  | .w => False
inductive ArgCs (w : World) : List CX → List (List DV) → List Value → Prop
  | nil : ArgCs w [] [] []
  | cons {c : CX} {cs : List CX} {d : List DV} {ds : List (List DV)} {v' : Value} {vs' : List Value} (h : ArgV w c d v') (hs : ArgCs w cs ds vs') : ArgCs w (c :: cs) (d :: ds) (v' :: vs')
def ArgVK (w : World) (k : VK) (d : List DV) (v' : Value) : Prop := match k with
  | .one c => ArgV w c d v'
  | .agg cs => ∃ ds vs', d = flatD ds ∧ v' = .agg vs'.toArray ∧ ArgCs w cs ds vs'
inductive ArgVKs (w : World) : List VK → List (List DV) → List Value → Prop
  | nil : ArgVKs w [] [] []
  | cons {c : VK} {cs : List VK} {d : List DV} {ds : List (List DV)} {v' : Value} {vs' : List Value} (h : ArgVK w c d v') (hs : ArgVKs w cs ds vs') : ArgVKs w (c :: cs) (d :: ds) (v' :: vs')
/-- data of a kind, without a world -/
inductive ShapeCs : List CX → List (List DV) → Prop
  | nil : ShapeCs [] []
  | cons {c : CX} {cs : List CX} {d : List DV} {ds : List (List DV)} (h : ShapeC c d) (hw : c ≠ .w) (hs : ShapeCs cs ds) : ShapeCs (c :: cs) (d :: ds)
def ShapeVK (k : VK) (d : List DV) : Prop := match k with
  | .one c => ShapeC c d ∧ c ≠ .w
  | .agg cs => ∃ ds, d = flatD ds ∧ ShapeCs cs ds
inductive ShapeVKs : List VK → List (List DV) → Prop
  | nil : ShapeVKs [] []
  | cons {c : VK} {cs : List VK} {d : List DV} {ds : List (List DV)} (h : ShapeVK c d) (hs : ShapeVKs cs ds) : ShapeVKs (c :: cs) (d :: ds)
/-! reading arguments -/
theorem read_ok {cs : List CK} {mx : Nat} {v : EV} {s : St} {K : List DV → Ans} (h : exC (.l cs mx) v s K = true) (hzv : ∀ b o l z, (v = .slice b o l z ∨ ∃ m, v = .aslice b o l z m) → z = cs.length) : ∃ d, K d = true ∧ ShapeC (.l cs mx) d ∧
    ∀ {w0 : World} {φ : Phi} {w : World}, (∀ b, keyOf v = some b → ∃ k, s.L.get b = some k ∨ ∃ hp ∈ s.R, hp.get b = some k) → WR w0 φ s w → ∀ v', VR φ v v' → ArgV w (.l cs mx) d v' := by
  obtain ⟨hnil, h⟩ := guard_ok (show guardB (notB (nilB cs)) (contentQ s (lenN cs) v (K (emptyD cs)) fun len cols => reqB (len ≤ mx) (colsD len cs cols K)) = true from h)
  have hne := nilB_f (notB_ok hnil)
  have hz : 1 ≤ cs.length := List.length_pos_iff.2 hne
  rw [lenN_eq] at h
  obtain ⟨ecols, het, hez⟩ := emptyD_ok cs
  have block : ∀ {w0 : World} {φ : Phi} {w : World} {b : List Bool} {rb δ S : Nat}, (∃ k, s.L.get b = some k ∨ ∃ hp ∈ s.R, hp.get b = some k) → WR w0 φ s w → φ b = some (rb, δ, S) →
      S = 0 ∨ ∃ cs' ty fz, w.heap[rb]? = some (.cells cs' ty fz) ∧ cs'.size = S := fun {w0 φ w b rb δ S} ⟨k, hk⟩ hw hφ => by
    by_cases hg : Gone φ b k
    · obtain ⟨_, p, e1, e2⟩ := hg
      rw [hφ] at e1; cases e1; exact .inl e2
    · obtain ⟨p, fz, hp, cs', ty, q1, q2, _⟩ := hw.blk hk hg
      rw [hφ] at hp; cases hp
      exact .inr ⟨cs', ty, fz, q1, q2⟩
  have zcap : ∀ {cap : Nat}, cap * cs.length ≤ 0 → cap = 0 := fun {cap} h => by
    rcases Nat.mul_eq_zero.1 (Nat.le_zero.1 h) with h | h <;> omega
  have place : ∀ {φ : Phi} {v' : Value}, VR φ v v' → (∃ a, v' = .slice a 0 0) ∨ ∃ b rb δ S q len cap, keyOf v = some b ∧ v' = .slice (some ⟨rb, q, none⟩) len cap ∧ φ b = some (rb, δ, S) ∧ q + cap * cs.length ≤ S := fun {φ v'} hv => by
    rcases asSl2_ok (show asSl2 v _ _ _ = true from h) with ⟨rfl, _⟩ | ⟨b, o, l, z, rfl, _⟩ | ⟨b, o, l, z, m, rfl, _⟩
    · cases hv; exact .inl ⟨_, rfl⟩
    · have e := hzv b o l z (.inl rfl)
      subst e
      cases hv with
      | slice0 a hφ => exact .inl ⟨_, rfl⟩
      | slice hφ g1 g2 => exact .inr ⟨b, _, _, _, _, _, _, rfl, rfl, hφ, g2⟩
    · have e := hzv b o l z (.inr ⟨m, rfl⟩)
      subst e
      cases hv with
      | aslice0 a hφ => exact .inl ⟨_, rfl⟩
      | aslice hφ g1 g2 g3 => exact .inr ⟨b, _, _, _, _, _, _, rfl, rfl, hφ, by omega⟩
  rcases contentQ_ok h hz with ⟨hk, hem⟩ | ⟨m, cols0, h1, h2, h3⟩
  · refine ⟨_, hk, ⟨ecols, 0, het, hne, Nat.zero_le _, fun c hc => ⟨hez c hc, bnd_empty (hez c hc)⟩⟩, fun {w0 φ w} hin hw v' hv => ⟨ecols, 0, het, hne, Nat.zero_le _, fun c hc => ⟨hez c hc, bnd_empty (hez c hc)⟩, ?_⟩⟩
    rcases place hv with ⟨a, rfl⟩ | ⟨b, rb, δ, S, q, len, cap, hb, rfl, hφ, hS⟩
    · exact .inl ⟨rfl, a, rfl⟩
    · have e0 : len = 0 := by
        rcases hem φ _ hv with e | ⟨a, c, e⟩
        · cases e
        · cases e; rfl
      subst e0
      rcases block (hin b hb) hw hφ with e | ⟨cs', ty, fz, r3, r4⟩
      · have := zcap (cap := cap) (by omega)
        subst this
        exact .inl ⟨rfl, _, rfl⟩
      · refine .inr ⟨rb, q, cap, cs', ty, fz, rfl, Nat.zero_le _, r3, by omega, fun j cc hj => ?_⟩
        have := hez cc (List.mem_of_getElem? hj)
        cases cc with
        | i k lo hi l => have this : l.length = 0 := this; exact ⟨by simp [this], fun i x hx => by have := lt_len hx; omega⟩
        | b l => have this : l.length = 0 := this; exact ⟨by simp [this], fun i x hx => by have := (List.getElem?_eq_some_iff.1 hx).1; omega⟩
  · obtain ⟨hm, h1⟩ := reqB_ok h1
    obtain ⟨d, cols, h4, h5, h6, h60, h7⟩ := colsD_ok h1
    refine ⟨d, h4, ⟨cols, m, h5, hne, hm, h60⟩, fun {w0 φ w} hin hw v' hv => ⟨cols, m, h5, hne, hm, h60, ?_⟩⟩
    obtain ⟨ys, hR⟩ := h3 hw v' hv
    obtain ⟨a, cap, rfl, hle, hcell, hne2⟩ := hR.at_
    rcases place hv with ⟨a', e⟩ | ⟨b, rb, δ, S, q, len, cap', hb, e, hφ, hS⟩
    · cases e; exact .inl ⟨rfl, _, rfl⟩
    · cases e
      rcases block (hin b hb) hw hφ with e | ⟨cs', ty, fz, r3, r4⟩
      · have := zcap (cap := cap) (by omega)
        subst this
        have e0 : m = 0 := by omega
        subst e0
        exact .inl ⟨rfl, _, rfl⟩
      · refine .inr ⟨rb, q, cap, cs', ty, fz, rfl, hle, r3, by omega, fun j c hj => ?_⟩
        obtain ⟨c0, g1, g2⟩ := h7 j c hj
        have := hR.crs j c0 g1
        rw [Nat.zero_add] at this
        refine (g2.2 this).move fun i u hu => ?_
        have hu : ys[i]? = some u := by simpa using hu
        have := hcell _ rfl i u hu
        rw [addr_add] at this
        simpa [World.cell?, r3] using this
theorem exA_ok {c : CX} {v : EV} {s : St} {K : List DV → Ans} (h : exA c v s K = true) : ∃ d, K d = true ∧ ShapeC c d ∧ c ≠ .w ∧ ∀ {w0 : World} {φ : Phi} {w : World}, WR w0 φ s w → ∀ v', VR φ v v' → ArgV w c d v' := by
  cases c with
  | w => exact absurd (show false = true from h) (by decide)
  | i k lo hi =>
    obtain ⟨d, h1, h2, h3⟩ := exC_ok (show exC (.i k lo hi) v s K = true from h)
    obtain ⟨x, rfl, e1, e2⟩ := h2
    refine ⟨_, h1, ⟨x, rfl, e1, e2⟩, by simp, fun {w0 φ w} hw v' hv => ?_⟩
    obtain ⟨loc, g1, _⟩ := h3 (fun b hb => by cases hb) hw v' hv
    exact ⟨x, rfl, g1.1 x rfl, e1, e2⟩
  | b =>
    obtain ⟨d, h1, h2, h3⟩ := exC_ok (show exC .b v s K = true from h)
    obtain ⟨x, rfl⟩ := h2
    refine ⟨_, h1, ⟨x, rfl⟩, by simp, fun {w0 φ w} hw v' hv => ?_⟩
    obtain ⟨loc, g1, _⟩ := h3 (fun b hb => by cases hb) hw v' hv
    exact ⟨x, rfl, g1.1 x rfl⟩
  | l cs mx =>
    have h : asSl2 v (exC (.l cs mx) v s K) (fun b _ _ z => guardB (Nat.beq z (lenN cs)) (look s b fun _ => exC (.l cs mx) v s K)) (fun b _ _ z _ => guardB (Nat.beq z (lenN cs)) (look s b fun _ => exC (.l cs mx) v s K)) = true := h
    have fin : exC (.l cs mx) v s K = true → (∀ b o l z, (v = .slice b o l z ∨ ∃ m, v = .aslice b o l z m) → z = cs.length) → (∀ b, keyOf v = some b → ∃ k, s.L.get b = some k ∨ ∃ hp ∈ s.R, hp.get b = some k) → ∃ d, K d = true ∧ ShapeC (.l cs mx) d ∧ CX.l cs mx ≠ .w ∧ ∀ {w0 : World} {φ : Phi} {w : World}, WR w0 φ s w → ∀ v', VR φ v v' → ArgV w (.l cs mx) d v' := fun h hz hin => by
      obtain ⟨d, h1, h2, h3⟩ := read_ok h hz
      exact ⟨d, h1, h2, by simp, fun {w0 φ w} hw v' hv => h3 hin hw v' hv⟩
    rcases asSl2_ok h with ⟨rfl, h1⟩ | ⟨b, o, l, z, rfl, h1⟩ | ⟨b, o, l, z, m, rfl, h1⟩
    · exact fin h1 (fun b o l z e => by rcases e with e | ⟨m, e⟩ <;> cases e) (fun b hb => by cases hb)
    · obtain ⟨hz, h2⟩ := guard_ok h1
      obtain ⟨k, h3, hk⟩ := look_ok h2
      have hz := Nat.eq_of_beq_eq_true hz
      rw [lenN_eq] at hz
      exact fin h3 (fun b' o' l' z' e => by rcases e with e | ⟨m, e⟩ <;> cases e; exact hz) (fun b' hb => by cases hb; exact ⟨k, hk⟩)
    · obtain ⟨hz, h2⟩ := guard_ok h1
      obtain ⟨k, h3, hk⟩ := look_ok h2
      have hz := Nat.eq_of_beq_eq_true hz
      rw [lenN_eq] at hz
      exact fin h3 (fun b' o' l' z' e => by rcases e with e | ⟨m, e⟩ <;> cases e; exact hz) (fun b' hb => by cases hb; exact ⟨k, hk⟩)
theorem exAs_ok {s : St} : ∀ {cs : List CX} {vs : List EV} {K : List DV → Ans}, exAs cs vs s K = true → ∃ ds, K (flatD ds) = true ∧ ShapeCs cs ds ∧ ∀ {w0 : World} {φ : Phi} {w : World}, WR w0 φ s w → ∀ vs', VRs φ vs vs' → ArgCs w cs ds vs'
  | [], vs, K, h => by
    obtain ⟨rfl, h⟩ := nilL_ok (show nilL vs (K []) = true from h)
    exact ⟨[], h, .nil, fun _ vs' hv => by cases hv; exact .nil⟩
  | c :: cs, [], K, h => absurd (show false = true from h) (by decide)
  | c :: cs, v :: vs, K, h => by
    obtain ⟨d, h1, h2, h20, h3⟩ := exA_ok (show exA c v s (fun d => exAs cs vs s fun ds => K (appN d ds)) = true from h)
    obtain ⟨ds, h4, h5, h6⟩ := exAs_ok h1
    exact ⟨d :: ds, h4, .cons h2 h20 h5, fun hw vs' hv => by cases hv with | cons g1 g2 => exact .cons (h3 hw _ g1) (h6 hw _ g2)⟩
theorem exVK_ok {k : VK} {v : EV} {s : St} {K : List DV → Ans} (h : exVK k v s K = true) : ∃ d, K d = true ∧ ShapeVK k d ∧ ∀ {w0 : World} {φ : Phi} {w : World}, WR w0 φ s w → ∀ v', VR φ v v' → ArgVK w k d v' := by
  cases k with
  | one c =>
    obtain ⟨d, h1, h2, h20, h3⟩ := exA_ok (show exA c v s K = true from h)
    exact ⟨d, h1, ⟨h2, h20⟩, h3⟩
  | agg cs =>
    obtain ⟨vs, rfl, h1⟩ := asAgg_ok (show asAgg v (fun vs => exAs cs vs s K) = true from h)
    obtain ⟨ds, h2, h3, h4⟩ := exAs_ok h1
    exact ⟨_, h2, ⟨ds, rfl, h3⟩, fun hw v' hv => by cases hv with | agg hv => exact ⟨ds, _, rfl, rfl, h4 hw _ hv⟩⟩
theorem exVKs_ok {s : St} : ∀ {ks : List VK} {vs : List EV} {K : List DV → Ans}, exVKs ks vs s K = true → ∃ ds, K (flatD ds) = true ∧ ShapeVKs ks ds ∧ ∀ {w0 : World} {φ : Phi} {w : World}, WR w0 φ s w → ∀ vs', VRs φ vs vs' → ArgVKs w ks ds vs'
  | [], vs, K, h => by
    obtain ⟨rfl, h⟩ := nilL_ok (show nilL vs (K []) = true from h)
    exact ⟨[], h, .nil, fun _ vs' hv => by cases hv; exact .nil⟩
  | c :: cs, [], K, h => absurd (show false = true from h) (by decide)
  | c :: cs, v :: vs, K, h => by
    obtain ⟨d, h1, h2, h3⟩ := exVK_ok (show exVK c v s (fun d => exVKs cs vs s fun ds => K (appN d ds)) = true from h)
    obtain ⟨ds, h4, h5, h6⟩ := exVKs_ok h1
    exact ⟨d :: ds, h4, .cons h2 h5, fun hw vs' hv => by cases hv with | cons g1 g2 => exact .cons (h3 hw _ g1) (h6 hw _ g2)⟩
/-! results -/
/-- a result: slices are new -/
def ResV (w w' : World) (c : CX) (d : List DV) (v' : Value) (loc : Option Nat) : Prop := HoldsV w (fun _ => none) w' c .any d v' loc
inductive ResCs (w w' : World) : List CX → List (List DV) → List Value → List (Option Nat) → Prop
  | nil : ResCs w w' [] [] [] []
  | cons {c : CX} {cs : List CX} {d : List DV} {ds : List (List DV)} {v' : Value} {vs' : List Value} {loc : Option Nat} {locs : List (Option Nat)} (h : ResV w w' c d v' loc) (hs : ResCs w w' cs ds vs' locs) : ResCs w w' (c :: cs) (d :: ds) (v' :: vs') (loc :: locs)
/-- several cells, in their structs -/
inductive Group (φ : Phi) : List VK → List CX → List EV → List EV → Prop
  | nil : Group φ [] [] [] []
  | one {c : CX} {v : EV} {ks : List VK} {cs : List CX} {us es : List EV} (h : Group φ ks cs us es) : Group φ (.one c :: ks) (c :: cs) (v :: us) (v :: es)
  | agg {cs0 : List CX} {l : List EV} {ks : List VK} {cs : List CX} {us es : List EV} (hl : cs0.length = l.length) (h : Group φ ks cs us es) : Group φ (.agg cs0 :: ks) (cs0 ++ cs) (.agg l :: us) (l ++ es)
/-- the same of values -/
inductive GroupV : List VK → List CX → List Value → List Value → Prop
  | nil : GroupV [] [] [] []
  | one {c : CX} {v : Value} {ks : List VK} {cs : List CX} {us es : List Value} (h : GroupV ks cs us es) : GroupV (.one c :: ks) (c :: cs) (v :: us) (v :: es)
  | agg {cs0 : List CX} {l : List Value} {ks : List VK} {cs : List CX} {us es : List Value} (hl : cs0.length = l.length) (h : GroupV ks cs us es) : GroupV (.agg cs0 :: ks) (cs0 ++ cs) (.agg l.toArray :: us) (l ++ es)
/-- what a call's value is -/
def ValOf (us : List Value) (u : Value) : Prop := u = (if h : us.toArray.size = 1 then us.toArray[0] else .tuple us.toArray)
/-- what is said of a function holds -/
def FnOk (P : Program) (f : Nat) (g : Sig) (gl : List (Nat × List EV)) : Prop := ∀ dss, ShapeVKs g.args dss → g.pre (flatD dss) → ∃ (cs : List CX) (rss : List (List DV)), (∃ us es, GroupV g.res cs us es) ∧ ShapeCs cs rss ∧ g.post (flatD dss) (flatD rss) ∧
  ∀ (w : World) (args' : List Value), Laid gl w → ArgVKs w g.args dss args' → NextRun P ((callFunc f args'.toArray).run P w) fun u w' => ∃ us es locs, ValOf us u ∧ GroupV g.res cs us es ∧ ResCs w w' cs rss es locs ∧ Apart3 locs ∧ Below w.heap.size w w'
end Go.Ev
