/- Loops by invariants: all slots. -/
import Derived.Test.YtiadfbpbeaeflaaDoorEvSP
namespace Go.Ev
open Go.RowKit (Below)
noncomputable def flatD (l : List (List DV)) : List DV := match l with
  | [] => []
  | d :: l => appN d (flatD l)
inductive Shapes : List (Place × CX) → List (List DV) → Prop
  | nil : Shapes [] []
  | cons {p : Place} {c : CX} {ps : List (Place × CX)} {d : List DV} {ds : List (List DV)} (h : ShapeC c d) (hs : Shapes ps ds) : Shapes ((p, c) :: ps) (d :: ds)
inductive HoldsPs (w0 : World) (φ : Phi) (w : World) (a : Act) : List (Place × CX) → List EV → List (List DV) → List (Option Nat) → Prop
  | nil : HoldsPs w0 φ w a [] [] [] []
  | cons {p : Place} {c : CX} {v : EV} {d : List DV} {loc : Option Nat} {ps : List (Place × CX)} {vs : List EV} {ds : List (List DV)} {locs : List (Option Nat)} (h : HoldsP w0 φ w a p c v d loc) (hs : HoldsPs w0 φ w a ps vs ds locs) :
      HoldsPs w0 φ w a ((p, c) :: ps) (v :: vs) (d :: ds) (loc :: locs)
theorem HoldsPs.mono {w0 : World} {φ φ' : Phi} {w : World} {a : Act} (hx : Ext2 φ φ') {ps : List (Place × CX)} {vs : List EV} {ds : List (List DV)} {locs : List (Option Nat)} (h : HoldsPs w0 φ w a ps vs ds locs) : HoldsPs w0 φ' w a ps vs ds locs := by
  induction h with
  | nil => exact .nil
  | cons h _ ih => exact .cons (h.mono hx) ih
/-- places that are not the same -/
def Apart3 (locs : List (Option Nat)) : Prop := locs.Pairwise fun x y => ∀ r r', x = some r → y = some r' → r ≠ r'
theorem headPs_ok {nt : Nat} {ps : List (Place × CX)} {dss : List (List DV)} (hs : Shapes ps dss) : ∀ {vs : List EV} {T : Tr EV} {s : St} {K : List DV → Tr EV → St → Ans}, headPs nt ps vs T s K = true →
    ∃ TH sH, K (flatD dss) TH sH = true ∧ val s.c ≤ val sH.c ∧ sH.R = s.R ∧ sH.J = s.J ∧ ∀ {w0 : World} {φ : Phi} {w : World} {a : Act} {ro : Option Nat} {locs : List (Option Nat)}, HoldsPs w0 φ w a ps vs dss locs → Apart3 locs →
      (∀ r, some r ∈ locs → Off φ s.L r) → (∀ b, val s.c ≤ val b → val b < val sH.c → φ b = none) → NoMate s.L → WR w0 φ s w → AR φ nt ro T a → ∃ φH, Step φ φH s.c sH.c ∧ WR w0 φH sH w ∧ AR φH nt ro TH a := by
  induction hs with
  | nil =>
    intro vs T s K h
    exact ⟨T, s, h, Nat.le_refl _, rfl, rfl, fun {w0 φ w a ro locs} _ _ _ _ _ hw ha => ⟨φ, Step.refl _ _, hw, ha⟩⟩
  | cons hd hs ih =>
    rename_i p c ps d ds
    intro vs T s K h
    cases vs with
    | nil => exact absurd (show false = true from h) (by decide)
    | cons v vs =>
      obtain ⟨T1, s1, g1, g2, g3, g4, g5, g6⟩ := headP_ok (show headP nt p c v T s (fun d T s => headPs nt ps vs T s fun ds T s => K (appN d ds) T s) = true from h) hd
      obtain ⟨TH, sH, r1, r2, r3, r4, r5⟩ := ih g1
      refine ⟨TH, sH, r1, by omega, r3.trans g3, r4.trans g4, fun {w0 φ w a ro locs} hP hap hoff hfr hm hw ha => ?_⟩
      cases hP with
      | cons h1 h2 =>
        rename_i loc locs
        cases hap with
        | cons ha1 ha2 =>
        obtain ⟨φ1, q1, q2, q3, q4⟩ := g6 h1 (fun r hr => by
          have := hoff r (by rw [hr]; exact List.mem_cons_self)
          cases p with
          | blk b =>
            intro b' k' p' hb hre hp
            rw [Tr.get_set] at hb
            split at hb
            · cases hb
            · exact this b' k' p' hb hre hp
          | _ => exact this) (fun b e1 e2 => hfr b e1 (by omega)) hm hw ha
        obtain ⟨φH, t1, t2, t3⟩ := r5 (h2.mono q1.ext) ha2 (fun r hr => q4 r (fun e => ha1 (some r) hr r r e rfl rfl) (hoff r (List.mem_cons_of_mem _ hr))) (fun b e1 e2 => (q1.out b (.inr e1)).trans (hfr b (by omega) e2)) (g5 hm) q2 q3
        exact ⟨φH, q1.trans t1 g2 r2, t2, t3⟩
/-! reading the slots -/
/-- a slot's own block -/
noncomputable def cKey (v : EV) : CX → Option (List Bool)
  | .l _ _ => keyOf v
  | _ => none
noncomputable def slotKey (p : Place) (c : CX) (v : EV) : Option (List Bool) := match isBlk p with
  | some b => some b
  | none => cKey v c
theorem ownKeys_cons {p : Place} {c : CX} {ps : List (Place × CX)} {v : EV} {vs : List EV} : ownKeys ((p, c) :: ps) (v :: vs) = (match slotKey p c v with | some b => b :: ownKeys ps vs | none => ownKeys ps vs) := by
  show Option.rec (motive := fun _ => List (List Bool)) (cxR c (ownKeys ps vs) (Option.rec (motive := fun _ => List (List Bool)) (ownKeys ps vs) (fun b => b :: ownKeys ps vs) (keyOf v)) (ownKeys ps vs)) (fun b => b :: ownKeys ps vs) (isBlk p) = _
  unfold slotKey
  cases isBlk p with
  | some b => rfl
  | none =>
    cases c with
    | l cs mx => show Option.rec (motive := fun _ => List (List Bool)) (ownKeys ps vs) (fun b => b :: ownKeys ps vs) (keyOf v) = (match cKey v (CX.l cs mx) with | some b => b :: ownKeys ps vs | none => ownKeys ps vs); show _ = (match keyOf v with | some b => b :: ownKeys ps vs | none => ownKeys ps vs); cases keyOf v <;> rfl
    | _ => rfl
/-- where a place comes from -/
def From (φ : Phi) (s : St) (κ : Option (List Bool)) (loc : Option Nat) : Prop := ∀ r, loc = some r → ∃ b k δ S, κ = some b ∧ s.L.get b = some k ∧ Real φ b k ∧ φ b = some (r, δ, S)
/-- the value that was read -/
def Seen (φ : Phi) (w : World) (a : Act) (p : Place) (v : EV) : Prop := (∃ v', PlaceVal φ w a v' p ∧ VR φ v v') ∨ ∃ b q, p = .blk b ∧ φ b = some q
theorem exC_ok {c : CX} {v : EV} {s : St} {K : List DV → Ans} (h : exC c v s K = true) : ∃ d, K d = true ∧ ShapeC c d ∧ ∀ {w0 : World} {φ : Phi} {w : World}, (∀ b, (cKey v c) = some b → ∃ k, s.L.get b = some k ∧ k.fz = false) → WR w0 φ s w → ∀ v', VR φ v v' →
    ∃ loc, HoldsV w0 φ w c v d v' loc ∧ From φ s (cKey v c) loc := by
  cases c with
  | i k lo hi =>
    have h : asNum2 v (fun k' n => guardB (kindEq k k') (guardB (andB (leI lo n) (leI n hi)) (K [.n n]))) (fun k' n l h => guardB (kindEq k k') (reqB (lo ≤ n) (reqB (n ≤ hi) (K [.n n])))) = true := h
    rcases asNum2_ok h with ⟨k', n, rfl, h1⟩ | ⟨k', n, a, b, h1, h2⟩
    · obtain ⟨hk, h1⟩ := guard_ok h1
      obtain ⟨hb, h1⟩ := guard_ok h1
      obtain ⟨b1, b2⟩ := andB_ok hb
      obtain rfl := kindEq_ok hk
      exact ⟨_, by assumption, ⟨n, rfl, leI_t b1, leI_t b2⟩, fun {w0 φ w} _ _ v' hv => ⟨none, ⟨fun x hx => by cases hx; cases hv; rfl, rfl⟩, fun r hr => by cases hr⟩⟩
    · obtain ⟨hk, h3⟩ := guard_ok h1
      obtain ⟨b1, h3⟩ := reqB_ok h3
      obtain ⟨b2, h3⟩ := reqB_ok h3
      obtain rfl := kindEq_ok hk
      exact ⟨_, h3, ⟨n, rfl, b1, b2⟩, fun {w0 φ w} _ _ v' hv => ⟨none, ⟨fun x hx => by cases hx; exact (h2 φ v' hv).1, rfl⟩, fun r hr => by cases hr⟩⟩
  | b =>
    obtain ⟨b, rfl, h1⟩ := asBool_ok (show asBool v (fun b => K [.b b]) = true from h)
    exact ⟨_, h1, ⟨b, rfl⟩, fun {w0 φ w} _ _ v' hv => ⟨none, ⟨fun x hx => by cases hx; cases hv; rfl, rfl⟩, fun r hr => by cases hr⟩⟩
  | w =>
    rcases asSl2_ok (show asSl2 v false (fun _ _ _ _ => false) (fun _ o len _ _ => K [.w o len]) = true from h) with ⟨_, h⟩ | ⟨_, _, _, _, _, h⟩ | ⟨b, o, len, z, mx, rfl, h⟩
    · exact absurd h (by decide)
    · exact absurd h (by decide)
    exact ⟨_, h, ⟨o, len, rfl⟩, fun {w0 φ w} _ _ v' hv => ⟨none, ⟨fun b' o0 l0 z' mx' o' len' e1 e2 => by cases e1; cases e2; exact hv, rfl⟩, fun r hr => by cases hr⟩⟩
  | l cs mx =>
    obtain ⟨d, cols, len, h1, h2, h3, h4, h5, h6⟩ := own_ok h
    refine ⟨d, h1, ⟨cols, len, h2, h3, h4, h5⟩, fun {w0 φ w} hown hw v' hv => ?_⟩
    obtain ⟨loc, hO⟩ := h6 hown hw v' hv
    refine ⟨loc, ⟨cols, len, h2, fun c hc => (h5 c hc).1, hO.toW⟩, fun r hr => ?_⟩
    rcases hO with ⟨_, _, _, e⟩ | ⟨b', rb, q, cap, δ, S, arr, ty, k, e1, e2, e3, e4, e5, e6, e7, e8, e9, e10, e11, e12⟩
    · rw [hr] at e; cases e
    · rw [hr] at e12; cases e12
      exact ⟨b', k, δ, S, e1, e4, e5, e6⟩
theorem loadB1_ok {s : St} {b : List Bool} {o : Nat} {K : EV → Ans} (h : loadB s b o 1 (fun l => oneV l K) = true) : ∃ v, K v = true ∧ ∀ {w0 : World} {φ : Phi} {w : World} {a : Act}, WR w0 φ s w → ∃ v', PlaceVal φ w a v' (.cell b o) ∧ VR φ v v' := by
  obtain ⟨k, h1, hk⟩ := look_ok (show look s b (fun k => guardB (flatB k) (fN o fun o => guardB (Nat.ble (Nat.add o 1) k.n) (readN k.cells 1 o fun l => oneV l K))) = true from h)
  obtain ⟨hfl, h1⟩ := guard_ok h1
  obtain ⟨l, h2, h3, h4⟩ := loadB_ok h
  obtain ⟨v, rfl⟩ : ∃ v, l = [v] := by
    cases l with
    | nil => simp at h3
    | cons v l => cases l with | nil => exact ⟨v, rfl⟩ | cons _ _ => simp at h3
  refine ⟨v, h2, fun {w0 φ w a} hw => ?_⟩
  obtain ⟨p, fz, hp, _⟩ := hw.at (flatB_ok hfl) hk
  obtain ⟨rb, δ, S⟩ := p
  obtain ⟨l', e1, e2⟩ := h4 hw hp
  cases e1 with
  | cons g1 g2 =>
    cases g2
    have := e2 0 _ rfl
    exact ⟨_, ⟨rb, δ, S, hp, by simpa using this⟩, g1⟩
theorem lenCols_eq {cs : List Col} : lenCols cs = (match cs with | [] => 0 | c :: _ => c.len) := by
  cases cs with
  | nil => rfl
  | cons c cs => cases c <;> rfl
theorem exP_ok {T : Tr EV} {s : St} {p : Place} {c : CX} {K : EV → List DV → Ans} (h : exP T s p c K = true) : ∃ v d, K v d = true ∧ ShapeC c d ∧ ∀ {w0 : World} {φ : Phi} {w : World} {a : Act} {nt : Nat} {ro : Option Nat},
    (∀ b, slotKey p c v = some b → ∃ k, s.L.get b = some k ∧ k.fz = false) → WR w0 φ s w → AR φ nt ro T a → ∃ loc, HoldsP w0 φ w a p c v d loc ∧ From φ s (slotKey p c v) loc ∧ Seen φ w a p v := by
  cases p with
  | cell b o =>
    obtain ⟨v, h1, h2⟩ := loadB1_ok (show loadB s b o 1 (fun l => oneV l fun v => exC c v s fun d => K v d) = true from h)
    obtain ⟨d, h3, h4, h5⟩ := exC_ok h1
    refine ⟨v, d, h3, h4, fun {w0 φ w a nt ro} hown hw ha => ?_⟩
    obtain ⟨v', e1, e2⟩ := h2 (a := a) hw
    obtain ⟨loc, g1, g2⟩ := h5 hown hw v' e2
    exact ⟨loc, .inl ⟨v', e1, g1⟩, g2, .inl ⟨v', e1, e2⟩⟩
  | tmp t =>
    obtain ⟨d, h3, h4, h5⟩ := exC_ok (show exC c (getT (key t) T) s (fun d => K (getT (key t) T) d) = true from h)
    refine ⟨_, d, h3, h4, fun {w0 φ w a nt ro} hown hw ha => ?_⟩
    obtain ⟨loc, g1, g2⟩ := h5 hown hw _ (ha.tr.2 t)
    exact ⟨loc, .inl ⟨_, rfl, g1⟩, g2, .inl ⟨_, rfl, ha.tr.2 t⟩⟩
  | blk b =>
    cases c with
    | i k lo hi => exact absurd (show false = true from h) (by decide)
    | b => exact absurd (show false = true from h) (by decide)
    | w => exact absurd (show false = true from h) (by decide)
    | l cs mx =>
      obtain ⟨hnil, h⟩ := guard_ok (show guardB (notB (nilB cs)) (oR (s.L.get b) fun k => guardB (notB k.fz) (absB k (lenN cs) fun cols => reqB (lenCols cols ≤ mx) (colsD (lenCols cols) cs cols fun d => K .any d))) = true from h)
      have hne := nilB_f (notB_ok hnil)
      obtain ⟨k, hk, h⟩ := oR_ok h
      obtain ⟨hfz, h⟩ := guard_ok h
      obtain ⟨cols0, h1, h2, h3, h4⟩ := absB_ok h
      obtain ⟨hmx, h1⟩ := reqB_ok h1
      obtain ⟨d, cols, h5, h6, h7, h8, h9⟩ := colsD_ok h1
      rw [lenN_eq] at h2 h4
      refine ⟨.any, d, h5, ⟨cols, _, h6, hne, hmx, h8⟩, fun {w0 φ w a nt ro} hown hw ha => ?_⟩
      have hz : 1 ≤ cs.length := List.length_pos_iff.2 hne
      have hcl := h6.length
      have hc0 : ∃ c0, cols0[0]? = some c0 ∧ lenCols cols0 = c0.len := by
        cases hcc : cols0 with
        | nil => rw [hcc] at h2; simp at h2; omega
        | cons c0 r => exact ⟨c0, rfl, by rw [lenCols_eq]⟩
      obtain ⟨c0, hc0, hlen0⟩ := hc0
      by_cases hg : Gone φ b k
      · obtain ⟨hv, q, e1, e2⟩ := hg
        have hzero : lenCols cols0 = 0 := by
          rw [h3 hv.1] at hc0 hlen0 ⊢
          rw [hlen0]
          exact hv.2.2 c0 (List.mem_of_getElem? hc0)
        refine ⟨none, .inr ⟨b, cs, mx, rfl, rfl, cols, _, q, h6, fun c hc => (h8 c hc).1, e1, .inl ⟨hzero, e2, rfl⟩⟩, (fun r hr => by cases hr), .inr ⟨b, q, rfl, e1⟩⟩
      · obtain ⟨q, fz, ⟨hq, arr, ty, q1, q2, q3⟩, q4, q5⟩ := (hw.loc b k hk).real hg
        rw [q4 (notB_ok hfz)] at q1
        have hcrs := h4 q3
        have hn : lenCols cols0 * cs.length = k.n := by
          rw [hlen0]; exact (hcrs 0 c0 hc0).len
        refine ⟨some q.1, .inr ⟨b, cs, mx, rfl, rfl, cols, _, q, h6, fun c hc => (h8 c hc).1, hq, .inr ⟨arr, ty, q1, q2, q5, by rw [hn]; exact q3.fits, fun j c hj => ?_, rfl⟩⟩, fun r hr => ?_, .inr ⟨b, q, rfl, hq⟩⟩
        · obtain ⟨c', e1, e2⟩ := h9 j c hj
          have := hcrs j c' e1
          rw [Nat.zero_add] at this
          rw [hn]; exact e2.2 this
        · cases hr
          exact ⟨b, k, q.2.1, q.2.2, rfl, hk, hg, hq⟩
inductive Froms (φ : Phi) (s : St) : List (Option (List Bool)) → List (Option Nat) → Prop
  | nil : Froms φ s [] []
  | cons {κ : Option (List Bool)} {loc : Option Nat} {κs : List (Option (List Bool))} {locs : List (Option Nat)} (h : From φ s κ loc) (hs : Froms φ s κs locs) : Froms φ s (κ :: κs) (loc :: locs)
inductive Seens (φ : Phi) (w : World) (a : Act) : List (Place × CX) → List EV → Prop
  | nil : Seens φ w a [] []
  | cons {p : Place} {c : CX} {v : EV} {ps : List (Place × CX)} {vs : List EV} (h : Seen φ w a p v) (hs : Seens φ w a ps vs) : Seens φ w a ((p, c) :: ps) (v :: vs)
/-- the slots' own blocks -/
inductive Keys : List (Place × CX) → List EV → List (Option (List Bool)) → Prop
  | nil : Keys [] [] []
  | cons {p : Place} {c : CX} {v : EV} {ps : List (Place × CX)} {vs : List EV} {κs : List (Option (List Bool))} (hs : Keys ps vs κs) : Keys ((p, c) :: ps) (v :: vs) (slotKey p c v :: κs)
theorem Keys.own {ps : List (Place × CX)} {vs : List EV} {κs : List (Option (List Bool))} (h : Keys ps vs κs) : ownKeys ps vs = κs.filterMap id := by
  induction h with
  | nil => rfl
  | cons _ ih =>
    rw [ownKeys_cons]
    rename_i p c v ps vs κs _
    cases hk : slotKey p c v with
    | none => simp [ih]
    | some b => simp [ih]
theorem exPs_ok {T : Tr EV} {s : St} : ∀ {ps : List (Place × CX)} {K : List EV → List DV → Ans}, exPs T s ps K = true → ∃ vs dss κs, K vs (flatD dss) = true ∧ Shapes ps dss ∧ Keys ps vs κs ∧ ∀ {w0 : World} {φ : Phi} {w : World} {a : Act} {nt : Nat} {ro : Option Nat},
    (∀ b ∈ ownKeys ps vs, ∃ k, s.L.get b = some k ∧ k.fz = false) → WR w0 φ s w → AR φ nt ro T a → ∃ locs, HoldsPs w0 φ w a ps vs dss locs ∧ Froms φ s κs locs ∧ Seens φ w a ps vs
  | [], K, h => ⟨[], [], [], h, .nil, .nil, fun _ _ _ => ⟨[], .nil, .nil, .nil⟩⟩
  | (p, c) :: ps, K, h => by
    obtain ⟨v, d, h1, h2, h3⟩ := exP_ok (show exP T s p c (fun v d => exPs T s ps fun vs ds => K (v :: vs) (appN d ds)) = true from h)
    obtain ⟨vs, dss, κs, h4, h5, h6, h7⟩ := exPs_ok h1
    refine ⟨v :: vs, d :: dss, _, h4, .cons h2 h5, .cons h6, fun {w0 φ w a nt ro} hown hw ha => ?_⟩
    rw [ownKeys_cons] at hown
    obtain ⟨loc, g1, g2, g3⟩ := h3 (fun b hb => by rw [hb] at hown; exact hown b List.mem_cons_self) hw ha
    obtain ⟨locs, r1, r2, r3⟩ := h7 (fun b hb => hown b (by cases slotKey p c v <;> first | exact hb | exact List.mem_cons_of_mem _ hb)) hw ha
    exact ⟨loc :: locs, .cons g1 r1, .cons g2 r2, .cons g3 r3⟩
/-- own blocks lie apart from each other -/
theorem Froms.apartM {M : List (List Bool)} {w0 : World} {φ : Phi} {s : St} {w : World} (hw : WR w0 φ s w) {κs : List (Option (List Bool))} {locs : List (Option Nat)} (h : Froms φ s κs locs) (hd : (κs.filterMap id).Pairwise (· ≠ ·)) (hM : ∀ b ∈ κs.filterMap id, b ∈ M) (ho : ∀ b ∈ κs.filterMap id, ∃ k, s.L.get b = some k ∧ k.fz = false ∧ ∀ x ∈ M, k.mate ≠ some x) : Apart3 locs := by
  have out : ∀ {κs : List (Option (List Bool))} {locs : List (Option Nat)}, Froms φ s κs locs → ∀ r, some r ∈ locs → ∃ b ∈ κs.filterMap id, ∃ k δ S, s.L.get b = some k ∧ Real φ b k ∧ φ b = some (r, δ, S) := by
    intro κs locs h
    induction h with
    | nil => intro r hr; cases hr
    | cons h _ ih =>
      rename_i κ loc κs locs _
      intro r hr
      rcases List.mem_cons.1 hr with e | hr
      · obtain ⟨b, k, δ, S, e1, e2, e3, e4⟩ := h r e.symm
        subst e1
        exact ⟨b, by simp, k, δ, S, e2, e3, e4⟩
      · obtain ⟨b, hb, rest⟩ := ih r hr
        exact ⟨b, by
          obtain ⟨x, hx, he⟩ := List.mem_filterMap.1 hb
          exact List.mem_filterMap.2 ⟨x, List.mem_cons_of_mem _ hx, he⟩, rest⟩
  induction h with
  | nil => exact .nil
  | cons h hs ih =>
    rename_i κ loc κs locs
    have tl : (κs.filterMap id).Pairwise (· ≠ ·) ∧ ∀ b ∈ κs.filterMap id, b ∈ (κ :: κs).filterMap id := by
      cases κ with
      | none => exact ⟨by simpa using hd, fun b hb => by simpa using hb⟩
      | some b0 =>
        have ee : ((some b0 :: κs).filterMap id) = b0 :: κs.filterMap id := by simp
        rw [ee] at hd ⊢
        cases hd with
        | cons _ hd => exact ⟨hd, fun b hb => List.mem_cons_of_mem _ hb⟩
    refine .cons (fun y hy r r' e1 e2 => ?_) (ih tl.1 (fun b hb => hM b (tl.2 b hb)) fun b hb => ho b (tl.2 b hb))
    obtain ⟨b, k, δ, S, g1, g2, g3, g4⟩ := h r e1
    subst e2; subst g1
    obtain ⟨b', hb', k', δ', S', q1, q2, q3⟩ := out hs r' hy
    have hne : b ≠ b' := by
      have ee : ((some b :: κs).filterMap id) = b :: κs.filterMap id := by simp
      rw [ee] at hd
      cases hd with
      | cons hd _ => exact hd b' hb'
    obtain ⟨kk, f1, f2, f3⟩ := ho b (by simp)
    rw [g2] at f1; cases f1
    exact hw.apart b b' k k' _ _ g2 q1 hne (f3 b' (hM b' (tl.2 b' hb'))) ⟨g3, q2, by rw [f2]; exact fun e => by cases e⟩ g4 q3
theorem Froms.apart {w0 : World} {φ : Phi} {s : St} {w : World} (hw : WR w0 φ s w) {κs : List (Option (List Bool))} {locs : List (Option Nat)} (h : Froms φ s κs locs) (hd : (κs.filterMap id).Pairwise (· ≠ ·)) (ho : ∀ b ∈ κs.filterMap id, ∃ k, s.L.get b = some k ∧ k.fz = false ∧ k.mate = none) : Apart3 locs :=
  h.apartM (M := κs.filterMap id) hw hd (fun b hb => hb) fun b hb => let ⟨k, e1, e2, e3⟩ := ho b hb; ⟨k, e1, e2, fun x _ e => by rw [e3] at e; cases e⟩
theorem Froms.mem {φ : Phi} {s : St} {κs : List (Option (List Bool))} {locs : List (Option Nat)} (h : Froms φ s κs locs) : ∀ r, some r ∈ locs → ∃ b ∈ κs.filterMap id, ∃ k δ S, s.L.get b = some k ∧ Real φ b k ∧ φ b = some (r, δ, S) := by
  induction h with
  | nil => intro r hr; cases hr
  | cons h _ ih =>
    rename_i κ loc κs locs _
    intro r hr
    rcases List.mem_cons.1 hr with e | hr
    · obtain ⟨b, k, δ, S, e1, e2, e3, e4⟩ := h r e.symm
      subst e1
      exact ⟨b, by simp, k, δ, S, e2, e3, e4⟩
    · obtain ⟨b, hb, rest⟩ := ih r hr
      exact ⟨b, by
        obtain ⟨x, hx, he⟩ := List.mem_filterMap.1 hb
        exact List.mem_filterMap.2 ⟨x, List.mem_cons_of_mem _ hx, he⟩, rest⟩
/-! seen as at the entry -/
theorem PlaceVal.rekey {φ φ1 : Phi} (hx : Ext2 φ φ1) {w w1 : World} {a a1 : Act} {p : Place} {v' v1 : Value} (h0 : PlaceVal φ w a v' p) (h1 : PlaceVal φ1 w1 a1 v1 p) : PlaceVal φ w1 a1 v1 p := by
  cases p with
  | cell b o =>
    obtain ⟨rb, δ, S, e1, _⟩ := h0
    obtain ⟨rb', δ', S', e2, e3⟩ := h1
    exact ⟨rb', δ', S', key_same hx e1 e2, e3⟩
  | tmp t => exact h1
  | blk b => exact h1
theorem sameWin_cons {p : Place} {c : CX} {ps : List (Place × CX)} {v v' : EV} {vs vs' : List EV} (h : sameWin ((p, c) :: ps) (v :: vs) (v' :: vs') = true) : sameWin ps vs vs' = true ∧ (c = .w → ∀ b o l z m, v = .aslice b o l z m → ∃ o' l', v' = .aslice b o' l' z m) := by
  have h : cxR c (sameWin ps vs vs') (sameWin ps vs vs') (bR (asSl2 v false (fun _ _ _ _ => false) fun kb _ _ z m => asSl2 v' false (fun _ _ _ _ => false) fun kb' _ _ z' m' => andB (beqL kb kb') (andB (Nat.beq z z') (Nat.beq m m'))) (sameWin ps vs vs') false) = true := h
  cases c with
  | w =>
    obtain ⟨h1, h2⟩ := bR_and (show bR (asSl2 v false (fun _ _ _ _ => false) fun kb _ _ z m => asSl2 v' false (fun _ _ _ _ => false) fun kb' _ _ z' m' => andB (beqL kb kb') (andB (Nat.beq z z') (Nat.beq m m'))) (sameWin ps vs vs') false = true from h)
    refine ⟨h2, fun _ b o l z m e => ?_⟩
    subst e
    have h1 : asSl2 v' false (fun _ _ _ _ => false) (fun kb' _ _ z' m' => andB (beqL b kb') (andB (Nat.beq z z') (Nat.beq m m'))) = true := h1
    rcases asSl2_ok h1 with ⟨_, hh⟩ | ⟨_, _, _, _, _, hh⟩ | ⟨b', o', l', z', m', ev, hh⟩
    · exact absurd hh (by decide)
    · exact absurd hh (by decide)
    · subst ev
      obtain ⟨g1, g2⟩ := andB_ok hh
      obtain ⟨g2, g3⟩ := andB_ok g2
      rw [beqL_ok g1, Nat.eq_of_beq_eq_true g2, Nat.eq_of_beq_eq_true g3]
      exact ⟨o', l', rfl⟩
  | i k lo hi => exact ⟨h, fun e => by cases e⟩
  | b => exact ⟨h, fun e => by cases e⟩
  | l cs mx => exact ⟨h, fun e => by cases e⟩
theorem HoldsPs.rekey {w0 : World} {φ φ1 : Phi} (hx : Ext2 φ φ1) {w w1 : World} {a a1 : Act} {ps : List (Place × CX)} {vs1 : List EV} {dss : List (List DV)} {locs : List (Option Nat)} (h1 : HoldsPs w0 φ1 w1 a1 ps vs1 dss locs) :
    ∀ {vs : List EV}, Seens φ w a ps vs → sameWin ps vs vs1 = true → HoldsPs w0 φ w1 a1 ps vs dss locs := by
  induction h1 with
  | nil => intro vs h0 _; cases h0; exact .nil
  | cons h _ ih =>
    intro vs h0 hs
    rename_i p c v1 d loc ps vs1 ds locs _
    cases h0 with
    | cons g0 gs =>
      rename_i v vs
      obtain ⟨s1, s2⟩ := sameWin_cons hs
      refine .cons ?_ (ih gs s1)
      rcases g0 with ⟨v', e1, e2⟩ | ⟨b, q, rfl, e2⟩
      · rcases h with ⟨v1', f1, f2⟩ | ⟨b, cs, mx, rfl, _, _⟩
        · refine .inl ⟨v1', e1.rekey hx f1, ?_⟩
          cases c with
          | i k lo hi => exact f2
          | b => exact f2
          | l cs mx => exact f2
          | w =>
            refine ⟨fun b o0 l0 z mx o len ev ed => ?_, f2.2⟩
            obtain ⟨o', l', ev'⟩ := s2 rfl b o0 l0 z mx ev
            have hv1 := f2.1 b o' l' z mx o len ev' ed
            rw [ev] at e2
            obtain ⟨q, hq⟩ : ∃ q, φ b = some q := by
              cases e2 with
              | aslice h _ _ _ => exact ⟨_, h⟩
              | aslice0 _ h => exact ⟨_, h⟩
            cases hv1 with
            | aslice h h1 h2 h3 => exact .aslice (key_same hx hq h) h1 h2 h3
            | aslice0 a' h => exact .aslice0 a' (key_same hx hq h)
        · exact e1.elim
      · rcases h with ⟨v1', f1, f2⟩ | ⟨b', cs, mx, e, ec, cols, len, q1, g1, g2, g3, g4⟩
        · exact f1.elim
        · cases e
          exact .inr ⟨b, cs, mx, rfl, ec, cols, len, q1, g1, g2, key_same hx e2 g3, g4⟩
theorem valL_eq : ∀ b : List Bool, valL b = val b
  | [] => rfl
  | true :: b => by show Nat.succ (Nat.mul 2 (valL b)) = (if true = true then 1 else 0) + 2 * val b; rw [valL_eq b]; simp; omega
  | false :: b => by show Nat.mul 2 (valL b) = (if false = true then 1 else 0) + 2 * val b; rw [valL_eq b]; simp
theorem kept_WR0 {w0 : World} {φ : Phi} {w : World} {s : St} {ps : List (Place × CX)} {own ks : List (List Bool)} (hw : WR w0 φ s w) : WR w0 φ ⟨s.c, heapL (keptB s.L ps own ks), s.R, s.J⟩ w := by
  have info : ∀ b k, (heapL (keptB s.L ps own ks)).get b = some k → LocOk w0 φ w b k ∧ k.mate = none ∧ ∃ k0, s.L.get b = some k0 ∧ k0.mate = none ∧ k.fz = k0.fz ∧ (Real φ b k → Real φ b k0) := fun b k hb => by
    have hm := heapL_get hb
    obtain ⟨_, _, k0, h1, h2, h3⟩ := keptB_mem hm
    have h3 : k = blank b ps k0 := h3
    subst h3
    cases hfl : flatB k0 with
    | true =>
      have hc := flatB_ok hfl
      have eb : blank b ps k0 = ⟨blankC b ps k0.n k0.cells 0, k0.n, none, [], k0.fz⟩ := by unfold blank; rw [hfl, bR_true]
      rw [eb]
      refine ⟨?_, rfl, k0, h1, h2, rfl, fun _ => real_flat hc⟩
      obtain ⟨p, fz, ⟨hp, cs, ty, q1, q2, q3⟩, q4, q5⟩ := (hw.loc b k0 h1).real (real_flat hc)
      exact .inr ⟨p, fz, ⟨hp, cs, ty, q1, q2, q3.fits, fun i v hi hv => q3.cells i v hi (blankC_get hv), fun j c hj => by cases hj⟩, q4, q5⟩
    | false =>
      have eb : blank b ps k0 = ⟨.nil, k0.n, none, k0.cols, k0.fz⟩ := by unfold blank; rw [hfl, bR_false]
      rw [eb]
      refine ⟨?_, rfl, k0, h1, h2, rfl, fun hr hg => hr ⟨hg.1, hg.2⟩⟩
      rcases hw.loc b k0 h1 with hg | ⟨p, fz, ⟨hp, cs, ty, q1, q2, q3⟩, q4, q5⟩
      · exact .inl ⟨hg.1, hg.2⟩
      · refine .inr ⟨p, fz, ⟨hp, cs, ty, q1, q2, q3.fits, fun i v hi hv => ?_, fun j c hj => q3.cols j c hj⟩, q4, q5⟩
        have hv : (Tr.nil : Tr EV).get (key i) = some v := hv
        rw [Tr.get_nil] at hv; cases hv
  refine ⟨hw.below, hw.ro, fun b k hb => (info b k hb).1, fun b b' k k' p p' h1 h2 h3 h4 hsep h5 h6 => ?_, hw.loops⟩
  obtain ⟨_, _, k1, i3, i5, i4, i6⟩ := info b k h1
  obtain ⟨_, _, k2, j3, j5, j4, j6⟩ := info b' k' h2
  exact hw.apart b b' k1 k2 p p' i3 j3 h3 (by rw [i5]; exact fun e => by cases e) ⟨i6 hsep.l, j6 hsep.r, by rw [← i4, ← j4]; exact hsep.fz⟩ h5 h6
/-- the blocks that stay lie apart from own ones -/
theorem kept_off {w0 : World} {φ φ1 : Phi} {w w1 : World} {s s1 : St} {ps : List (Place × CX)} {own ks own1 : List (List Bool)} (hx : Ext2 φ φ1) (hw : WR w0 φ s w) (hw1 : WR w0 φ1 s1 w1) (hk : ∀ p ∈ keptB s.L ps own ks, ∃ k, s1.L.get p.1 = some k ∧ sameBlk p.2 k = true)
    (hn : ∀ b ∈ own1, ∀ x ∈ keysOf (keptB s.L ps own ks), x ≠ b) (ho : ∀ b ∈ own1, ∃ k, s1.L.get b = some k ∧ k.fz = false ∧ k.mate = none) {r : Nat} (hr : ∃ b ∈ own1, ∃ k δ S, s1.L.get b = some k ∧ Real φ1 b k ∧ φ1 b = some (r, δ, S)) : Off φ (heapL (keptB s.L ps own ks)) r := by
  intro b k p hb hre hp
  have hm := heapL_get hb
  obtain ⟨_, _, k0, h1, h2, h3⟩ := keptB_mem hm
  obtain ⟨k', h4, h5⟩ := hk _ hm
  have h3 : k = blank b ps k0 := h3
  subst h3
  obtain ⟨g1, g2, g3, g4, g5⟩ := kept_loc (ps := ps) hx hw hw1 h1 h4 h5
  obtain ⟨b', hb', k2, δ, S, q1, q2, q3⟩ := hr
  have hne := hn b' hb' b (keysOf_mem hm)
  obtain ⟨k3, t1, t2, t3⟩ := ho b' hb'
  rw [q1] at t1; cases t1
  exact hw1.apart b b' k' k2 p _ h4 q1 hne (by rw [g4]; exact fun e => by cases e) ⟨g5 hre, q2, fun _ => t2⟩ (hx _ _ hp) q3
end Go.Ev
