/- Loops by invariants: the slots. -/
import Derived.Test.YtiadfbpbeaeflaaDoorEvSI
namespace Go.Ev
open Go.RowKit (Below)
/-- where a slice's rows lie -/
def OwnW (w0 w : World) (v' : Value) (len z : Nat) (cols : List Col) (loc : Option Nat) : Prop :=
  (len = 0 ∧ (∃ a, v' = .slice a 0 0) ∧ (∀ c ∈ cols, c.len = 0) ∧ loc = none) ∨
  ∃ rb q cap S cs ty, v' = .slice (some ⟨rb, q, none⟩) len cap ∧ len ≤ cap ∧ w.heap[rb]? = some (.cells cs ty (0, 0)) ∧ cs.size = S ∧ w0.heap.size ≤ rb ∧ q + cap * z ≤ S ∧
    (∀ (j : Nat) (c : Col), cols[j]? = some c → CR cs q (len * z) z j c) ∧ loc = some rb
theorem OwnAt.toW {w0 : World} {φ : Phi} {s : St} {w : World} {b : Option (List Bool)} {v' : Value} {len z : Nat} {cols : List Col} {loc : Option Nat} (h : OwnAt w0 φ s w b v' len z cols loc) : OwnW w0 w v' len z cols loc := by
  rcases h with h | ⟨b', rb, q, cap, δ, S, cs, ty, k, h1, h2, h3, h4, h5, h6, h7, h8, h9, h10, h11, h12⟩
  · exact .inl h
  · exact .inr ⟨rb, q, cap, S, cs, ty, h2, h3, h7, h8, h9, h10, h11, h12⟩
/-- data of a kind -/
def ShapeC : CX → List DV → Prop
  | .i _ lo hi, d => ∃ x, d = [.n x] ∧ lo ≤ x ∧ x ≤ hi
  | .b, d => ∃ x, d = [.b x]
  | .l cs mx, d => ∃ cols len, Tmpl cs cols d ∧ cs ≠ [] ∧ len ≤ mx ∧ ∀ c ∈ cols, c.len = len ∧ c.bnd
  | .w, d => ∃ o len, d = [.w o len]
/-- a value has these data -/
def HoldsV (w0 : World) (φ : Phi) (w : World) (c : CX) (v0 : EV) (d : List DV) (v' : Value) (loc : Option Nat) : Prop := match c with
  | .i k _ _ => (∀ x, d = [.n x] → v' = .int k x) ∧ loc = none
  | .b => (∀ x, d = [.b x] → v' = .bool x) ∧ loc = none
  | .l cs _ => ∃ cols len, Tmpl cs cols d ∧ (∀ c ∈ cols, c.len = len) ∧ OwnW w0 w v' len cs.length cols loc
  | .w => (∀ b o0 l0 z mx o len, v0 = .aslice b o0 l0 z mx → d = [.w o len] → VR φ (.aslice b o len z mx) v') ∧ loc = none
def PlaceVal (φ : Phi) (w : World) (a : Act) (v' : Value) : Place → Prop
  | .cell b o => ∃ rb δ S, φ b = some (rb, δ, S) ∧ w.cell? ⟨rb, δ + o, none⟩ = some v'
  | .tmp t => v' = a.tmps.getD t undef
  | .blk _ => False
/-- a block has these data -/
def HoldsB (w0 : World) (φ : Phi) (w : World) (b : List Bool) (cs : List CK) (d : List DV) (loc : Option Nat) : Prop :=
  ∃ cols len p, Tmpl cs cols d ∧ (∀ c ∈ cols, c.len = len) ∧ φ b = some p ∧ ((len = 0 ∧ p.2.2 = 0 ∧ loc = none) ∨
    ∃ arr ty, w.heap[p.1]? = some (.cells arr ty (0, 0)) ∧ arr.size = p.2.2 ∧ w0.heap.size ≤ p.1 ∧ p.2.1 + len * cs.length ≤ arr.size ∧ (∀ (j : Nat) (c : Col), cols[j]? = some c → CR arr p.2.1 (len * cs.length) cs.length j c) ∧ loc = some p.1)
def HoldsP (w0 : World) (φ : Phi) (w : World) (a : Act) (p : Place) (c : CX) (v0 : EV) (d : List DV) (loc : Option Nat) : Prop :=
  (∃ v', PlaceVal φ w a v' p ∧ HoldsV w0 φ w c v0 d v' loc) ∨ ∃ b cs mx, p = .blk b ∧ c = .l cs mx ∧ HoldsB w0 φ w b cs d loc
theorem PlaceVal.mono {φ φ' : Phi} {w : World} {a : Act} {v' : Value} {p : Place} (h : PlaceVal φ w a v' p) (hx : Ext2 φ φ') : PlaceVal φ' w a v' p := by
  cases p with
  | cell b o => obtain ⟨rb, δ, S, h1, h2⟩ := h; exact ⟨rb, δ, S, hx _ _ h1, h2⟩
  | tmp t => exact h
  | blk b => exact h
theorem HoldsV.mono {w0 : World} {φ φ' : Phi} {w : World} {c : CX} {v0 : EV} {d : List DV} {v' : Value} {loc : Option Nat} (h : HoldsV w0 φ w c v0 d v' loc) (hx : Ext2 φ φ') : HoldsV w0 φ' w c v0 d v' loc := by
  cases c with
  | i k lo hi => exact h
  | b => exact h
  | l cs mx => exact h
  | w => exact ⟨fun b o0 l0 z mx o len e1 e2 => (h.1 b o0 l0 z mx o len e1 e2).mono hx, h.2⟩
theorem HoldsP.mono {w0 : World} {φ φ' : Phi} {w : World} {a : Act} {p : Place} {c : CX} {v0 : EV} {d : List DV} {loc : Option Nat} (h : HoldsP w0 φ w a p c v0 d loc) (hx : Ext2 φ φ') : HoldsP w0 φ' w a p c v0 d loc := by
  rcases h with ⟨v', h1, h2⟩ | ⟨b, cs, mx, h1, h2, cols, len, q, h3, h4, h5, h6⟩
  · exact .inl ⟨v', h1.mono hx, h2.mono hx⟩
  · exact .inr ⟨b, cs, mx, h1, h2, cols, len, q, h3, h4, hx _ _ h5, h6⟩
theorem Tmpl.fun {cs : List CK} {cols : List Col} {d : List DV} (h : Tmpl cs cols d) : ∀ {cols' : List Col}, Tmpl cs cols' d → cols' = cols := by
  induction h with
  | nil => intro cols' h; cases h; rfl
  | i _ ih => intro cols' h; cases h with | i h => rw [ih h]
  | b _ ih => intro cols' h; cases h with | b h => rw [ih h]
/-! blocks apart from a place -/
def Off (φ : Phi) (L : Heap) (r : Nat) : Prop := ∀ b k p, L.get b = some k → Real φ b k → φ b = some p → p.1 ≠ r
def NoMate (L : Heap) : Prop := ∀ b k, L.get b = some k → k.mate = none
theorem AR.setT {φ : Phi} {nt : Nat} {ro : Option Nat} {T : Tr EV} {a : Act} {t : Nat} {v : EV} (h : AR φ nt ro T a) (hv : VR φ v (a.tmps.getD t undef)) : AR φ nt ro (Tr.set (some v) (key t) T) a :=
  ⟨⟨h.tr.1, fun t' => by rw [getT_set]; split; · rename_i e; subst e; exact hv
                         · exact h.tr.2 t'⟩, by rw [defersOf_set]; exact h.dr, h.ro.set⟩
theorem WR.setcell {w0 : World} {φ : Phi} {s : St} {w : World} {b : List Bool} {k : Blk} {o rb δ S : Nat} {v : EV} {v' : Value} (hw : WR w0 φ s w) (hk : s.L.get b = some k) (hc : k.cols = []) (hm : k.mate = none) (hφ : φ b = some (rb, δ, S))
    (hv' : w.cell? ⟨rb, δ + o, none⟩ = some v') (hv : VR φ v v') : WR w0 φ ⟨s.c, Tr.set (some ⟨Tr.set (some v) (key o) k.cells, k.n, none, [], k.fz⟩) b s.L, s.R, s.J⟩ w := by
  have old : ∀ b' k', (Tr.set (some ⟨Tr.set (some v) (key o) k.cells, k.n, none, [], k.fz⟩) b s.L).get b' = some k' → (b' = b ∧ k' = ⟨Tr.set (some v) (key o) k.cells, k.n, none, [], k.fz⟩) ∨ (b' ≠ b ∧ s.L.get b' = some k') := fun b' k' h => by
    rw [Tr.get_set] at h
    split at h
    · rename_i e; cases h; exact .inl ⟨e.symm, rfl⟩
    · rename_i e; exact .inr ⟨fun g => e g.symm, h⟩
  refine ⟨hw.below, hw.ro, fun b' k' h => ?_, fun b1 b2 k1 k2 p1 p2 h1 h2 h3 h4 hs h5 h6 => ?_, hw.loops⟩
  · rcases old b' k' h with ⟨rfl, rfl⟩ | ⟨_, h⟩
    · obtain ⟨p, fz, ⟨hp, cs, ty, q1, q2, q3⟩, q4, q5⟩ := (hw.loc b' k hk).real (real_flat hc)
      rw [hφ] at hp; cases hp
      refine .inr ⟨_, fz, ⟨hφ, cs, ty, q1, q2, q3.fits, fun i u hi hu => ?_, fun j c hj => by cases hj⟩, q4, q5⟩
      have hu : (Tr.set (some v) (key o) k.cells).get (key i) = some u := hu
      rw [Tr.get_set] at hu
      split at hu
      · rename_i e; cases hu
        have := key_inj e; subst this
        refine ⟨v', ?_, hv⟩
        simp only [World.cell?, q1] at hv'
        simpa using hv'
      · exact q3.cells i u hi hu
    · exact hw.loc b' k' h
  · have fl : ∀ {b'}, Real φ b' ⟨Tr.set (some v) (key o) k.cells, k.n, none, [], k.fz⟩ := fun {b'} => real_flat rfl
    rcases old b1 k1 h1 with ⟨rfl, rfl⟩ | ⟨e1, g1⟩ <;> rcases old b2 k2 h2 with ⟨rfl, rfl⟩ | ⟨e2, g2⟩
    · exact absurd rfl h3
    · exact hw.apart b1 b2 k k2 p1 p2 hk g2 h3 (by rw [hm]; exact fun e => by cases e) ⟨real_flat hc, hs.r, hs.fz⟩ h5 h6
    · exact hw.apart b1 b2 k1 k p1 p2 g1 hk h3 h4 ⟨hs.l, real_flat hc, hs.fz⟩ h5 h6
    · exact hw.apart b1 b2 k1 k2 p1 p2 g1 g2 h3 h4 hs h5 h6
theorem putP_ok {p : Place} {v : EV} {T : Tr EV} {s : St} {K : Tr EV → St → Ans} (h : putP p v T s K = true) : ∃ T1 s1, K T1 s1 = true ∧ s1.c = s.c ∧ s1.R = s.R ∧ s1.J = s.J ∧ (NoMate s.L → NoMate s1.L) ∧
    ∀ {w0 : World} {φ : Phi} {w : World} {a : Act} {nt : Nat} {ro : Option Nat} {v' : Value}, PlaceVal φ w a v' p → VR φ v v' → NoMate s.L → WR w0 φ s w → AR φ nt ro T a → WR w0 φ s1 w ∧ AR φ nt ro T1 a ∧ ∀ r, Off φ s.L r → Off φ s1.L r := by
  cases p with
  | cell b o =>
    obtain ⟨k, hk, h1⟩ := oR_ok (show oR (s.L.get b) _ = true from h)
    obtain ⟨hf, h1⟩ := guard_ok h1
    obtain ⟨_, h1⟩ := guard_ok h1
    have hc := flatB_ok hf
    refine ⟨T, _, h1, rfl, rfl, rfl, fun hm b' k' hb => ?_, fun {w0 φ w a nt ro v'} ⟨rb, δ, S, hφ, hv'⟩ hv hm hw ha => ⟨hw.setcell hk hc (hm b k hk) hφ hv' hv, ha, fun r hr b' k' p' hb hre hp => ?_⟩⟩
    · have hb : (Tr.set (some ⟨Tr.set (some v) (key o) k.cells, k.n, none, [], k.fz⟩) b s.L).get b' = some k' := hb
      rw [Tr.get_set] at hb
      split at hb
      · cases hb; rfl
      · exact hm b' k' hb
    · have hb : (Tr.set (some ⟨Tr.set (some v) (key o) k.cells, k.n, none, [], k.fz⟩) b s.L).get b' = some k' := hb
      rw [Tr.get_set] at hb
      split at hb
      · rename_i e; subst e; exact hr b k p' hk (real_flat hc) hp
      · exact hr b' k' p' hb hre hp
  | tmp t => exact ⟨_, s, h, rfl, rfl, rfl, id, fun {w0 φ w a nt ro v'} hp hv hm hw ha => ⟨hw, ha.setT (by have hp : v' = _ := hp; rw [← hp]; exact hv), fun r hr => hr⟩⟩
  | blk b => exact absurd (show false = true from h) (by decide)
/-- a block that lies in the world already -/
theorem WR.addOwn {w0 : World} {φ φ' : Phi} {s : St} {w : World} {b : List Bool} {c : List Bool} {nk : Blk} (hw : WR w0 φ s w) (hm : NoMate s.L) (hx : Ext2 φ φ') (hd : ∀ b', b' ≠ b → φ' b' = φ b') (hnm : nk.mate = none) (hnf : nk.fz = false)
    (hl : LocOk w0 φ' w b nk) (hap : Real φ' b nk → ∀ p, φ' b = some p → Off φ s.L p.1 ∨ ∀ b' k' p', b' ≠ b → s.L.get b' = some k' → Real φ b' k' → φ b' = some p' → p'.1 ≠ p.1) : WR w0 φ' ⟨c, Tr.set (some nk) b s.L, s.R, s.J⟩ w := by
  have old : ∀ b' k', (Tr.set (some nk) b s.L).get b' = some k' → (b' = b ∧ k' = nk) ∨ (b' ≠ b ∧ s.L.get b' = some k') := fun b' k' h => by
    rw [Tr.get_set] at h
    split at h
    · rename_i e; cases h; exact .inl ⟨e.symm, rfl⟩
    · rename_i e; exact .inr ⟨fun g => e g.symm, h⟩
  have off : Real φ' b nk → ∀ p, φ' b = some p → ∀ b' k' p', b' ≠ b → s.L.get b' = some k' → Real φ b' k' → φ b' = some p' → p'.1 ≠ p.1 := fun hr p hp b' k' p' e h1 h2 h3 => by
    rcases hap hr p hp with h | h
    · exact h b' k' p' h1 h2 h3
    · exact h b' k' p' e h1 h2 h3
  refine ⟨hw.below, fun h hh b' k' hb => (hw.ro h hh b' k' hb).mono hx, fun b' k' h => ?_, fun b1 b2 k1 k2 p1 p2 h1 h2 h3 h4 hs h5 h6 => ?_, hw.loops.step hx (Others.refl _)⟩
  · rcases old b' k' h with ⟨rfl, rfl⟩ | ⟨_, h⟩
    · exact hl
    · exact (hw.loc b' k' h).mono hx
  · rcases old b1 k1 h1 with ⟨rfl, rfl⟩ | ⟨e1, g1⟩ <;> rcases old b2 k2 h2 with ⟨rfl, rfl⟩ | ⟨e2, g2⟩
    · exact absurd rfl h3
    · rw [hd b2 e2] at h6
      exact (off hs.l p1 h5 b2 k2 p2 e2 g2 (hs.r.back hx) h6).symm
    · rw [hd b1 e1] at h5
      exact off hs.r p2 h6 b1 k1 p1 e1 g1 (hs.l.back hx) h5
    · rw [hd b1 e1] at h5; rw [hd b2 e2] at h6
      exact hw.apart b1 b2 k1 k2 p1 p2 g1 g2 h3 h4 (hs.back hx) h5 h6
theorem cr_void {z : Nat} {cols : List Col} (hne : cols ≠ []) (h : ∀ c ∈ cols, c.len = 0) : Blk.void ⟨.nil, Nat.mul 0 z, none, cols, false⟩ := ⟨hne, by show 0 * z = 0; omega, h⟩
theorem headP_ok {nt : Nat} {p : Place} {c : CX} {v0 : EV} {T : Tr EV} {s : St} {K : List DV → Tr EV → St → Ans} {d : List DV} (h : headP nt p c v0 T s K = true) (hd : ShapeC c d) :
    ∃ T1 s1, K d T1 s1 = true ∧ val s.c ≤ val s1.c ∧ s1.R = s.R ∧ s1.J = s.J ∧ (NoMate s.L → NoMate s1.L) ∧
    ∀ {w0 : World} {φ : Phi} {w : World} {a : Act} {ro : Option Nat} {loc : Option Nat}, HoldsP w0 φ w a p c v0 d loc → (∀ r, loc = some r → (match p with | .blk b => Off φ (Tr.set none b s.L) r | _ => Off φ s.L r)) → (∀ b, val s.c ≤ val b → val b < val s1.c → φ b = none) → NoMate s.L → WR w0 φ s w → AR φ nt ro T a →
      ∃ φ1, Step φ φ1 s.c s1.c ∧ WR w0 φ1 s1 w ∧ AR φ1 nt ro T1 a ∧ ∀ r, loc ≠ some r → Off φ s.L r → Off φ1 s1.L r := by
  cases c with
  | i k lo hi =>
    obtain ⟨x, rfl, h1, h2⟩ := hd
    have h := allB_ok (show allB (fun x : Int => impB (lo ≤ x) (impB (x ≤ hi) (putP p (.sym k x lo hi) T s fun T s => K [.n x] T s))) = true from h) x
    have h := impB_ok (impB_ok h h1) h2
    obtain ⟨T1, s1, g1, g2, g3, g4, g5, g6⟩ := putP_ok h
    refine ⟨T1, s1, g1, by rw [g2]; omega, g3, g4, g5, fun {w0 φ w a ro loc} hP _ _ hm hw ha => ?_⟩
    rcases hP with ⟨v', hp, hv⟩ | ⟨b, cs, mx, _, e, _⟩
    · rw [hv.1 x rfl] at hp
      obtain ⟨r1, r2, r3⟩ := g6 hp (.sym k x lo hi h1 h2) hm hw ha
      exact ⟨φ, by rw [g2]; exact Step.refl _ _, r1, r2, fun r _ hr => r3 r hr⟩
    · cases e
  | b =>
    obtain ⟨x, rfl⟩ := hd
    have h := allB_ok (show allB (fun b : Bool => putP p (.bool b) T s fun T s => K [.b b] T s) = true from h) x
    obtain ⟨T1, s1, g1, g2, g3, g4, g5, g6⟩ := putP_ok h
    refine ⟨T1, s1, g1, by rw [g2]; omega, g3, g4, g5, fun {w0 φ w a ro loc} hP _ _ hm hw ha => ?_⟩
    rcases hP with ⟨v', hp, hv⟩ | ⟨b, cs, mx, _, e, _⟩
    · rw [hv.1 x rfl] at hp
      obtain ⟨r1, r2, r3⟩ := g6 hp (.bool x) hm hw ha
      exact ⟨φ, by rw [g2]; exact Step.refl _ _, r1, r2, fun r _ hr => r3 r hr⟩
    · cases e
  | w =>
    obtain ⟨o, len, rfl⟩ := hd
    rcases asSl2_ok (show asSl2 v0 false (fun _ _ _ _ => false) (fun b _ _ z mx => allB fun o : Nat => allB fun len : Nat => putP p (.aslice b o len z mx) T s fun T s => K [.w o len] T s) = true from h) with ⟨_, h⟩ | ⟨_, _, _, _, _, h⟩ | ⟨b, o0, l0, z, mx, rfl, h⟩
    · exact absurd h (by decide)
    · exact absurd h (by decide)
    have h := allB_ok (allB_ok h o) len
    obtain ⟨T1, s1, g1, g2, g3, g4, g5, g6⟩ := putP_ok h
    refine ⟨T1, s1, g1, by rw [g2]; omega, g3, g4, g5, fun {w0 φ w a ro loc} hP _ _ hm hw ha => ?_⟩
    rcases hP with ⟨v', hp, hv⟩ | ⟨b, cs, mx, _, e, _⟩
    · obtain ⟨r1, r2, r3⟩ := g6 hp (hv.1 b o0 l0 z mx o len rfl rfl) hm hw ha
      exact ⟨φ, by rw [g2]; exact Step.refl _ _, r1, r2, fun r _ hr => r3 r hr⟩
    · cases e
  | l cs mx =>
    obtain ⟨cols, len, ht, hne, hlen, hcols⟩ := hd
    have hz : 1 ≤ cs.length := List.length_pos_iff.2 hne
    have hcl := ht.length
    have hcne : cols ≠ [] := fun e => by rw [e] at hcl; simp at hcl; omega
    have h : allRows cs mx (fun len cols d => Option.rec (motive := fun _ => Ans)
      (putP p (.aslice s.c 0 len (lenN cs) mx) T ⟨inc s.c, Tr.set (some ⟨.nil, Nat.mul len (lenN cs), none, cols, false⟩) s.c s.L, s.R, s.J⟩ fun T s => K d T s)
      (fun b => K d T ⟨s.c, Tr.set (some ⟨.nil, Nat.mul len (lenN cs), none, cols, false⟩) b s.L, s.R, s.J⟩) (isBlk p)) = true := h
    have h := allRows_ok ht hcols hlen hne h
    rw [lenN_eq] at h
    cases hb : isBlk p with
    | none =>
      rw [hb] at h
      obtain ⟨T1, s1, g1, g2, g3, g4, g5, g6⟩ := putP_ok (show putP p (.aslice s.c 0 len cs.length mx) T ⟨inc s.c, Tr.set (some ⟨.nil, Nat.mul len cs.length, none, cols, false⟩) s.c s.L, s.R, s.J⟩ (fun T s => K d T s) = true from h)
      have nm : NoMate s.L → NoMate (Tr.set (some ⟨.nil, Nat.mul len cs.length, none, cols, false⟩) s.c s.L) := fun hm b k hbk => by
        rw [Tr.get_set] at hbk
        split at hbk
        · cases hbk; rfl
        · exact hm b k hbk
      refine ⟨T1, s1, g1, by rw [g2]; show val s.c ≤ val (inc s.c); rw [val_inc]; omega, g3, g4, fun hm => g5 (nm hm), fun {w0 φ w a ro loc} hP hoff hfr hm hw ha => ?_⟩
      have hoff : ∀ r, loc = some r → Off φ s.L r := fun r hr => by
        have := hoff r hr
        cases p with
        | blk b => cases hb
        | _ => exact this
      rcases hP with ⟨v', hp, cols', len', ht', hl', hO⟩ | ⟨b, cs', mx', e, _, _⟩
      rotate_left
      · subst e; cases hb
      have e1 := ht.fun ht'
      subst e1
      have elen : len' = len := by
        obtain ⟨c0, hc0⟩ := List.exists_mem_of_ne_nil _ hcne
        rw [← hl' c0 hc0]; exact (hcols c0 hc0).1
      subst elen
      have hfree : φ s.c = none := hfr s.c (Nat.le_refl _) (by rw [g2]; show val s.c < val (inc s.c); rw [val_inc]; omega)
      have fin : ∀ q : Nat × Nat × Nat, LocOk w0 (φ.put s.c q) w s.c ⟨.nil, Nat.mul len' cs.length, none, cols', false⟩ → VR (φ.put s.c q) (.aslice s.c 0 len' cs.length mx) v' → (Real (φ.put s.c q) s.c ⟨.nil, Nat.mul len' cs.length, none, cols', false⟩ → loc = some q.1) →
          ∃ φ1, Step φ φ1 s.c s1.c ∧ WR w0 φ1 s1 w ∧ AR φ1 nt ro T1 a ∧ ∀ r, loc ≠ some r → Off φ s.L r → Off φ1 s1.L r := fun q hl hv hq => by
        have hst := Step.put (φ := φ) q hfree
        have hself : (φ.put s.c q) s.c = some q := by simp [Phi.put]
        have hdif : ∀ b', b' ≠ s.c → (φ.put s.c q) b' = φ b' := fun b' e => by simp [Phi.put, e]
        have hw1 := hw.addOwn (c := inc s.c) hm hst.ext hdif rfl rfl hl fun hr p' hp' => by
          rw [hself] at hp'; cases hp'
          exact .inl (hoff _ (hq hr))
        obtain ⟨r1, r2, r3⟩ := g6 (hp.mono hst.ext) hv (nm hm) hw1 (ha.mono hst.ext)
        refine ⟨φ.put s.c q, by rw [g2]; exact hst, r1, r2, fun r hr ho => r3 r fun b k p' hbk hre hp' => ?_⟩
        have hbk : (Tr.set (some ⟨.nil, Nat.mul len' cs.length, none, cols', false⟩) s.c s.L).get b = some k := hbk
        rw [Tr.get_set] at hbk
        split at hbk
        · rename_i e; cases hbk; subst e
          rw [hself] at hp'; cases hp'
          have := hq hre
          intro e; exact hr (by rw [this, e])
        · rename_i e
          rw [hdif b (fun g => e g.symm)] at hp'
          exact ho b k p' hbk (hre.back hst.ext) hp'
      rcases hO with ⟨rfl, ⟨a', rfl⟩, hv0, rfl⟩ | ⟨rb, q, cap, S, arr, ty, rfl, hle, hheap, hsz, hlo, hS, hcr, rfl⟩
      · exact fin (0, 0, 0) (.inl ⟨cr_void hcne hv0, (0, 0, 0), by simp [Phi.put], rfl⟩) (.aslice0 (p := (0, 0, 0)) a' (by simp [Phi.put])) fun hr => absurd ⟨cr_void hcne hv0, (0, 0, 0), by simp [Phi.put], rfl⟩ hr
      · refine fin (rb, q, S) (.inr ⟨(rb, q, S), (0, 0), ⟨by simp [Phi.put], arr, ty, hheap, hsz, ?_, fun i u hi hu => ?_, fun j col hj => ?_⟩, fun _ => rfl, hlo⟩) ?_ fun _ => rfl
        · show q + len' * cs.length ≤ arr.size
          have := Nat.mul_le_mul_right cs.length hle
          omega
        · have hu : (Tr.nil : Tr EV).get (key i) = some u := hu
          rw [Tr.get_nil] at hu; cases hu
        · show CR arr q (len' * cs.length) cols'.length j col
          rw [hcl]; exact hcr j col hj
        · have := VR.aslice (φ := φ.put s.c (rb, q, S)) (b := s.c) (o := 0) (len := len') (sz := cs.length) (mx := mx) (rb := rb) (δ := q) (S := S) (cap := cap) (by simp [Phi.put]) hle (by omega) hlen
          simpa using this
    | some b =>
      rw [hb] at h
      have hpb : p = .blk b := by cases p <;> first | (cases hb; rfl) | cases hb
      subst hpb
      refine ⟨_, _, (show K d T ⟨s.c, Tr.set (some ⟨.nil, Nat.mul len cs.length, none, cols, false⟩) b s.L, s.R, s.J⟩ = true from h), Nat.le_refl _, rfl, rfl, fun hm b' k' hbk => ?_, fun {w0 φ w a ro loc} hP hoff hfr hm hw ha => ?_⟩
      · have hbk : (Tr.set (some ⟨.nil, Nat.mul len cs.length, none, cols, false⟩) b s.L).get b' = some k' := hbk
        rw [Tr.get_set] at hbk
        split at hbk
        · cases hbk; rfl
        · exact hm b' k' hbk
      · rcases hP with ⟨v', hp, _⟩ | ⟨b', cs', mx', e, e2, cols', len', q, ht', hl', hφ, hO⟩
        · exact hp.elim
        cases e; cases e2
        have e1 := ht.fun ht'
        subst e1
        have elen : len' = len := by
          obtain ⟨c0, hc0⟩ := List.exists_mem_of_ne_nil _ hcne
          rw [← hl' c0 hc0]; exact (hcols c0 hc0).1
        subst elen
        have hloc : LocOk w0 φ w b ⟨.nil, Nat.mul len' cs.length, none, cols', false⟩ ∧ (Real φ b ⟨.nil, Nat.mul len' cs.length, none, cols', false⟩ → loc = some q.1) := by
          rcases hO with ⟨e, hq0, rfl⟩ | ⟨arr, ty, hheap, hsz, hlo, hfit, hcr, rfl⟩
          · subst e
            have hg : Gone φ b ⟨.nil, Nat.mul 0 cs.length, none, cols', false⟩ := ⟨cr_void hcne hl', q, hφ, hq0⟩
            exact ⟨.inl hg, fun hr => absurd hg hr⟩
          · refine ⟨.inr ⟨q, (0, 0), ⟨hφ, arr, ty, hheap, hsz, hfit, fun i u hi hu => ?_, fun j col hj => ?_⟩, fun _ => rfl, hlo⟩, fun _ => rfl⟩
            · have hu : (Tr.nil : Tr EV).get (key i) = some u := hu
              rw [Tr.get_nil] at hu; cases hu
            · show CR arr q.2.1 (len' * cs.length) cols'.length j col
              rw [hcl]; exact hcr j col hj
        have off2 : ∀ r, Off φ (Tr.set none b s.L) r → ∀ b' k' p', b' ≠ b → s.L.get b' = some k' → Real φ b' k' → φ b' = some p' → p'.1 ≠ r := fun r ho b' k' p' e h1 h2 h3 => ho b' k' p' (by rw [Tr.get_set, if_neg (fun g => e g.symm)]; exact h1) h2 h3
        refine ⟨φ, Step.refl _ _, hw.addOwn (c := s.c) hm (Ext2.refl _) (fun _ _ => rfl) rfl rfl hloc.1 fun hr p' hp' => ?_, ha, fun r hr ho b' k' p' hbk hre hp' => ?_⟩
        · rw [hφ] at hp'; cases hp'
          exact .inr (off2 _ (hoff _ (hloc.2 hr)))
        · have hbk : (Tr.set (some ⟨.nil, Nat.mul len' cs.length, none, cols', false⟩) b s.L).get b' = some k' := hbk
          rw [Tr.get_set] at hbk
          split at hbk
          · rename_i e; cases hbk; subst e
            rw [hφ] at hp'; cases hp'
            have := hloc.2 hre
            intro e; exact hr (by rw [this, e])
          · exact ho b' k' p' hbk hre hp'
end Go.Ev
