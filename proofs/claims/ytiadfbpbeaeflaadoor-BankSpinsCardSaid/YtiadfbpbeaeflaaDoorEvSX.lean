/- Contracts: what is said of a function's calls serves in its stead. -/
import Derived.Test.YtiadfbpbeaeflaaDoorEvSW
namespace Go.Ev
open Go.RowKit (Below)
theorem WR.later {w0 : World} {φ : Phi} {s : St} {w w' : World} (h : WR w0 φ s w) (hb : Below w.heap.size w w') : WR w0 φ s w' :=
  ⟨h.below.trans (hb.mono h.below.size), h.ro, fun b k hk => (h.loc b k hk).world fun p _ hp => hb.block _ hp, h.apart, h.loops.step (Ext2.refl _) (Others.of_lt fun i hi => hb.block i hi)⟩
theorem WR.addNew {w0 : World} {φ φ' : Phi} {s : St} {w : World} {b : List Bool} {c : List Bool} {nk : Blk} (hw : WR w0 φ s w) (hx : Ext2 φ φ') (hd : ∀ b', b' ≠ b → φ' b' = φ b') (hnm : nk.mate = none) (hnf : nk.fz = false)
    (hl : LocOk w0 φ' w b nk) (hap : Real φ' b nk → ∀ p, φ' b = some p → Off φ s.L p.1) : WR w0 φ' ⟨c, Tr.set (some nk) b s.L, s.R, s.J⟩ w := by
  have old : ∀ b' k', (Tr.set (some nk) b s.L).get b' = some k' → (b' = b ∧ k' = nk) ∨ (b' ≠ b ∧ s.L.get b' = some k') := fun b' k' h => by
    rw [Tr.get_set] at h
    split at h
    · rename_i e; cases h; exact .inl ⟨e.symm, rfl⟩
    · rename_i e; exact .inr ⟨fun g => e g.symm, h⟩
  refine ⟨hw.below, fun h hh b' k' hb => (hw.ro h hh b' k' hb).mono hx, fun b' k' h => ?_, fun b1 b2 k1 k2 p1 p2 h1 h2 h3 h4 hs h5 h6 => ?_, hw.loops.step hx (Others.refl _)⟩
  · rcases old b' k' h with ⟨rfl, rfl⟩ | ⟨_, h⟩
    · exact hl
    · exact (hw.loc b' k' h).mono hx
  · rcases old b1 k1 h1 with ⟨rfl, rfl⟩ | ⟨e1, g1⟩ <;> rcases old b2 k2 h2 with ⟨rfl, rfl⟩ | ⟨e2, g2⟩
    · exact absurd rfl h3
    · rw [hd b2 e2] at h6
      exact (hap hs.l p1 h5 b2 k2 p2 g2 (hs.r.back hx) h6).symm
    · rw [hd b1 e1] at h5
      exact hap hs.r p2 h6 b1 k1 p1 g1 (hs.l.back hx) h5
    · rw [hd b1 e1] at h5; rw [hd b2 e2] at h6
      exact hw.apart b1 b2 k1 k2 p1 p2 g1 g2 h3 h4 (hs.back hx) h5 h6
def MkOk (s s' : St) (φ φ' : Phi) (w0 w' : World) : Prop := Step φ φ' s.c s'.c ∧ WR w0 φ' s' w'
theorem mkC_ok {c : CX} {s : St} {K : EV → List DV → St → Ans} (hh : mkC c s K = true) {d : List DV} (hs : ShapeC c d) (hw : c ≠ .w) : ∃ v s', K v d s' = true ∧ val s.c ≤ val s'.c ∧ s'.R = s.R ∧ s'.J = s.J ∧
    ∀ {w0 w w' : World} {φ : Phi} {v' : Value} {loc : Option Nat}, (∀ b, val s.c ≤ val b → val b < val s'.c → φ b = none) → ResV w w' c d v' loc → w0.heap.size ≤ w.heap.size → (∀ r, loc = some r → Off φ s.L r) → WR w0 φ s w' →
      ∃ φ', Step φ φ' s.c s'.c ∧ VR φ' v v' ∧ WR w0 φ' s' w' ∧ ∀ r, loc ≠ some r → Off φ s.L r → Off φ' s'.L r := by
  cases c with
  | w => exact absurd rfl hw
  | i kd lo hi =>
    obtain ⟨x, rfl, h1, h2⟩ := hs
    have g := impB_ok (impB_ok (allB_ok (show allB (fun x : Int => impB (lo ≤ x) (impB (x ≤ hi) (K (.sym kd x lo hi) [.n x] s))) = true from hh) x) h1) h2
    refine ⟨_, s, g, Nat.le_refl _, rfl, rfl, fun {w0 w w' φ v' loc} _ hr _ _ hW => ⟨φ, Step.refl _ _, ?_, hW, fun r _ h => h⟩⟩
    rw [hr.1 x rfl]
    exact .sym kd x lo hi h1 h2
  | b =>
    obtain ⟨x, rfl⟩ := hs
    have g := allB_ok (show allB (fun b : Bool => K (.bool b) [.b b] s) = true from hh) x
    refine ⟨_, s, g, Nat.le_refl _, rfl, rfl, fun {w0 w w' φ v' loc} _ hr _ _ hW => ⟨φ, Step.refl _ _, ?_, hW, fun r _ h => h⟩⟩
    rw [hr.1 x rfl]
    exact .bool x
  | l cs mx =>
    obtain ⟨cols, len, ht, hne, hlen, hcols⟩ := hs
    have hz : 1 ≤ cs.length := List.length_pos_iff.2 hne
    have hcl := ht.length
    have hcne : cols ≠ [] := fun e => by rw [e] at hcl; simp at hcl; omega
    have g := allRows_ok ht hcols hlen hne (show allRows cs mx (fun len cols d => Tr.setC (some ⟨.nil, Nat.mul len (lenN cs), none, cols, false⟩) s.c s.L fun L => incC s.c fun c => K (.aslice s.c 0 len (lenN cs) mx) d ⟨c, L, s.R, s.J⟩) = true from hh)
    rw [Tr.setC_eq, incC_eq, lenN_eq] at g
    refine ⟨_, _, g, by show val s.c ≤ val (inc s.c); rw [val_inc]; omega, rfl, rfl, fun {w0 w w' φ v' loc} hf hr hsz hoff hW => ?_⟩
    have hfree := hf s.c (Nat.le_refl _) (by show val s.c < val (inc s.c); rw [val_inc]; omega)
    obtain ⟨cols', len', ht', hl', hO⟩ := hr
    have e1 := ht.fun ht'
    subst e1
    have elen : len' = len := by
      obtain ⟨c0, hc0⟩ := List.exists_mem_of_ne_nil _ hcne
      rw [← hl' c0 hc0]; exact (hcols c0 hc0).1
    subst elen
    have fin : ∀ q : Nat × Nat × Nat, LocOk w0 (φ.put s.c q) w' s.c ⟨.nil, Nat.mul len' cs.length, none, cols', false⟩ → VR (φ.put s.c q) (.aslice s.c 0 len' cs.length mx) v' → (Real (φ.put s.c q) s.c ⟨.nil, Nat.mul len' cs.length, none, cols', false⟩ → loc = some q.1) →
        ∃ φ', Step φ φ' s.c (inc s.c) ∧ VR φ' (.aslice s.c 0 len' cs.length mx) v' ∧ WR w0 φ' ⟨inc s.c, Tr.set (some ⟨.nil, Nat.mul len' cs.length, none, cols', false⟩) s.c s.L, s.R, s.J⟩ w' ∧
          ∀ r, loc ≠ some r → Off φ s.L r → Off φ' (Tr.set (some ⟨.nil, Nat.mul len' cs.length, none, cols', false⟩) s.c s.L) r := fun q hl hv hq => by
      have hst := Step.put (φ := φ) q hfree
      have hself : (φ.put s.c q) s.c = some q := by simp [Phi.put]
      have hdif : ∀ b', b' ≠ s.c → (φ.put s.c q) b' = φ b' := fun b' e => by simp [Phi.put, e]
      refine ⟨_, hst, hv, hW.addNew (c := inc s.c) hst.ext hdif rfl rfl hl fun hr p' hp' => ?_, fun r hr ho b k p' hbk hre hp' => ?_⟩
      · rw [hself] at hp'; cases hp'
        exact hoff _ (hq hr)
      · rw [Tr.get_set] at hbk
        split at hbk
        · rename_i e; cases hbk; subst e
          rw [hself] at hp'; cases hp'
          have := hq hre
          intro e; exact hr (by rw [this, e])
        · rename_i e
          rw [hdif b (fun g => e g.symm)] at hp'
          exact ho b k p' hbk (hre.back hst.ext) hp'
    rcases hO with ⟨rfl, ⟨a', rfl⟩, hv0, rfl⟩ | ⟨rb, q, cap, S, arr, ty, rfl, hle, hheap, hs', hlo, hS, hcr, rfl⟩
    · exact fin (0, 0, 0) (.inl ⟨cr_void hcne hv0, (0, 0, 0), by simp [Phi.put], rfl⟩) (.aslice0 (p := (0, 0, 0)) a' (by simp [Phi.put])) fun hr => absurd ⟨cr_void hcne hv0, (0, 0, 0), by simp [Phi.put], rfl⟩ hr
    · refine fin (rb, q, S) (.inr ⟨(rb, q, S), (0, 0), ⟨by simp [Phi.put], arr, ty, hheap, hs', ?_, fun i u hi hu => ?_, fun j col hj => ?_⟩, fun _ => rfl, Nat.le_trans hsz hlo⟩) ?_ fun _ => rfl
      · show q + len' * cs.length ≤ arr.size
        have := Nat.mul_le_mul_right cs.length hle
        omega
      · have hu : (Tr.nil : Tr EV).get (key i) = some u := hu
        rw [Tr.get_nil] at hu; cases hu
      · show CR arr q (len' * cs.length) cols'.length j col
        rw [hcl]; exact hcr j col hj
      · have := VR.aslice (φ := φ.put s.c (rb, q, S)) (b := s.c) (o := 0) (len := len') (sz := cs.length) (mx := mx) (rb := rb) (δ := q) (S := S) (cap := cap) (by simp [Phi.put]) hle (by omega) hlen
        rw [Nat.zero_mul] at this
        exact this
theorem mkCs_ok : ∀ {cs : List CX} {s : St} {K : List EV → List DV → St → Ans} (_ : mkCs cs s K = true) {rss : List (List DV)} (_ : ShapeCs cs rss), ∃ vs s', K vs (flatD rss) s' = true ∧ val s.c ≤ val s'.c ∧ s'.R = s.R ∧ s'.J = s.J ∧
    ∀ {w0 w w' : World} {φ : Phi} {es : List Value} {locs : List (Option Nat)}, (∀ b, val s.c ≤ val b → val b < val s'.c → φ b = none) → ResCs w w' cs rss es locs → Apart3 locs → w0.heap.size ≤ w.heap.size → (∀ r, some r ∈ locs → Off φ s.L r) → WR w0 φ s w' →
      ∃ φ', Step φ φ' s.c s'.c ∧ VRs φ' vs es ∧ WR w0 φ' s' w' ∧ ∀ r, some r ∉ locs → Off φ s.L r → Off φ' s'.L r
  | [], s, K, hh, rss, hs => by
    cases hs
    exact ⟨[], s, hh, Nat.le_refl _, rfl, rfl, fun {w0 w w' φ es locs} _ hr _ _ _ hW => by cases hr; exact ⟨φ, Step.refl _ _, .nil, hW, fun r _ h => h⟩⟩
  | c :: cs, s, K, hh, rss, hs => by
    cases hs with
    | cons h1 h2 h3 =>
      obtain ⟨v, s1, g1, g2, g3, g4, g5⟩ := mkC_ok (show mkC c s (fun v d s => mkCs cs s fun vs ds s => K (v :: vs) (appN d ds) s) = true from hh) h1 h2
      obtain ⟨vs, s2, r1, r2, r3, r4, r5⟩ := mkCs_ok g1 h3
      refine ⟨v :: vs, s2, r1, by omega, r3.trans g3, r4.trans g4, fun {w0 w w' φ es locs} hf hr hap hsz hoff hW => ?_⟩
      cases hr with
      | cons a1 a2 =>
        rename_i v' vs' loc locs
        cases hap with
        | cons ha1 ha2 =>
        obtain ⟨φ1, s1', s2', s3', s4'⟩ := g5 (fun b b1 b2 => hf b b1 (by omega)) a1 hsz (fun r hr => hoff r (by rw [hr]; exact List.mem_cons_self)) hW
        obtain ⟨φ2, t1, t2, t3, t4⟩ := r5 (fun b b1 b2 => by rw [s1'.out b (.inr b1)]; exact hf b (by omega) b2) a2 ha2 hsz (fun r hr => s4' r (fun e => ha1 (some r) hr r r e rfl rfl) (hoff r (List.mem_cons_of_mem _ hr))) s3'
        exact ⟨φ2, s1'.trans t1 g2 r2, .cons (s2'.mono t1.ext) t2, t3, fun r hr ho => t4 r (fun h => hr (List.mem_cons_of_mem _ h)) (s4' r (fun e => hr (by rw [e]; exact List.mem_cons_self)) ho)⟩
theorem ShapeCs.length {cs : List CX} {rss : List (List DV)} (h : ShapeCs cs rss) : rss.length = cs.length := by
  induction h with
  | nil => rfl
  | cons _ _ _ ih => simp [ih]
theorem ShapeCs.split : ∀ {a b : List CX} {rss : List (List DV)}, ShapeCs (a ++ b) rss → ∃ x y, rss = x ++ y ∧ ShapeCs a x ∧ ShapeCs b y
  | [], b, rss, h => ⟨[], rss, rfl, .nil, h⟩
  | c :: a, b, rss, h => by
    cases h with
    | cons h1 h2 h3 =>
      obtain ⟨x, y, rfl, g1, g2⟩ := ShapeCs.split h3
      exact ⟨_ :: x, y, rfl, .cons h1 h2 g1, g2⟩
theorem ResCs.split {w w' : World} : ∀ {a b : List CX} {x y : List (List DV)} {l es : List Value} {locs : List (Option Nat)}, ResCs w w' (a ++ b) (x ++ y) (l ++ es) locs → x.length = a.length → l.length = a.length → ∃ m n, locs = m ++ n ∧ ResCs w w' a x l m ∧ ResCs w w' b y es n
  | [], b, x, y, l, es, locs, h, hx, hl => by
    have := List.length_eq_zero_iff.1 hx; subst this
    have := List.length_eq_zero_iff.1 hl; subst this
    exact ⟨[], locs, rfl, .nil, h⟩
  | c :: a, b, x, y, l, es, locs, h, hx, hl => by
    obtain ⟨x0, x, rfl⟩ : ∃ x0 x1, x = x0 :: x1 := by cases x with | nil => simp at hx | cons p q => exact ⟨p, q, rfl⟩
    obtain ⟨l0, l, rfl⟩ : ∃ x0 x1, l = x0 :: x1 := by cases l with | nil => simp at hl | cons p q => exact ⟨p, q, rfl⟩
    cases h with
    | cons h1 h2 =>
      obtain ⟨m, n, rfl, g1, g2⟩ := ResCs.split h2 (by simpa using hx) (by simpa using hl)
      exact ⟨_ :: m, n, rfl, .cons h1 g1, g2⟩
theorem flatD_append : ∀ {x y : List (List DV)}, flatD (x ++ y) = flatD x ++ flatD y
  | [], y => rfl
  | d :: x, y => by
    show appN d (flatD (x ++ y)) = appN d (flatD x) ++ flatD y
    rw [flatD_append, appN_eq, appN_eq, List.append_assoc]
theorem apart3_split {m n : List (Option Nat)} (h : Apart3 (m ++ n)) : Apart3 m ∧ Apart3 n ∧ ∀ r, some r ∈ n → some r ∉ m := by
  obtain ⟨h1, h2, h3⟩ := List.pairwise_append.1 h
  exact ⟨h1, h2, fun r hn hm => h3 _ hm _ hn r r rfl rfl rfl⟩
theorem mkVKs_ok : ∀ {ks : List VK} {cs : List CX} {u0 e0 : List Value} (_ : GroupV ks cs u0 e0) {s : St} {K : List EV → List DV → St → Ans} (_ : mkVKs ks s K = true) {rss : List (List DV)} (_ : ShapeCs cs rss), ∃ vs s', K vs (flatD rss) s' = true ∧ vs.length = ks.length ∧ val s.c ≤ val s'.c ∧ s'.R = s.R ∧ s'.J = s.J ∧
    ∀ {w0 w w' : World} {φ : Phi} {us es : List Value} {locs : List (Option Nat)}, (∀ b, val s.c ≤ val b → val b < val s'.c → φ b = none) → GroupV ks cs us es → ResCs w w' cs rss es locs → Apart3 locs → w0.heap.size ≤ w.heap.size → (∀ r, some r ∈ locs → Off φ s.L r) → WR w0 φ s w' →
      ∃ φ', Step φ φ' s.c s'.c ∧ VRs φ' vs us ∧ WR w0 φ' s' w' ∧ ∀ r, some r ∉ locs → Off φ s.L r → Off φ' s'.L r := by
  intro ks cs u0 e0 hg
  induction hg with
  | nil =>
    intro s K hh rss hs
    cases hs
    exact ⟨[], s, hh, rfl, Nat.le_refl _, rfl, rfl, fun {w0 w w' φ us es locs} _ hG hr _ _ _ hW => by cases hG; cases hr; exact ⟨φ, Step.refl _ _, .nil, hW, fun r _ h => h⟩⟩
  | one hg ih =>
    rename_i c v ks cs us0 es0
    intro s K hh rss hs
    cases hs with
    | cons h1 h2 h3 =>
      obtain ⟨v, s1, g1, g2, g3, g4, g5⟩ := mkC_ok (show mkC c s (fun v d s => mkVKs ks s fun vs ds s => K (v :: vs) (appN d ds) s) = true from hh) h1 h2
      obtain ⟨vs, s2, r1, r0, r2, r3, r4, r5⟩ := ih g1 h3
      refine ⟨v :: vs, s2, r1, by simp [r0], by omega, r3.trans g3, r4.trans g4, fun {w0 w w' φ us es locs} hf hG hr hap hsz hoff hW => ?_⟩
      cases hG with
      | one hG =>
      cases hr with
      | cons a1 a2 =>
        rename_i loc locs
        cases hap with
        | cons ha1 ha2 =>
        obtain ⟨φ1, s1', s2', s3', s4'⟩ := g5 (fun b b1 b2 => hf b b1 (by omega)) a1 hsz (fun r hr => hoff r (by rw [hr]; exact List.mem_cons_self)) hW
        obtain ⟨φ2, t1, t2, t3, t4⟩ := r5 (fun b b1 b2 => by rw [s1'.out b (.inr b1)]; exact hf b (by omega) b2) hG a2 ha2 hsz (fun r hr => s4' r (fun e => ha1 (some r) hr r r e rfl rfl) (hoff r (List.mem_cons_of_mem _ hr))) s3'
        exact ⟨φ2, s1'.trans t1 g2 r2, .cons (s2'.mono t1.ext) t2, t3, fun r hr ho => t4 r (fun h => hr (List.mem_cons_of_mem _ h)) (s4' r (fun e => hr (by rw [e]; exact List.mem_cons_self)) ho)⟩
  | agg hl0 hg ih =>
    rename_i cs0 l0 ks cs us0 es0
    intro s K hh rss hs
    obtain ⟨x, y, rfl, hx, hy⟩ := hs.split
    obtain ⟨vs0, s1, g1, g2, g3, g4, g5⟩ := mkCs_ok (show mkCs cs0 s (fun vs0 d s => mkVKs ks s fun vs ds s => K (.agg vs0 :: vs) (appN d ds) s) = true from hh) hx
    obtain ⟨vs, s2, r1, r0, r2, r3, r4, r5⟩ := ih g1 hy
    rw [appN_eq, ← flatD_append] at r1
    refine ⟨.agg vs0 :: vs, s2, r1, by simp [r0], by omega, r3.trans g3, r4.trans g4, fun {w0 w w' φ us es locs} hf hG hr hap hsz hoff hW => ?_⟩
    generalize hcc : cs0 ++ cs = cc at hr
    generalize hkk : VK.agg cs0 = kk at hG
    rw [hcc] at hG
    cases hG with
    | one hG => cases hkk
    | agg hl hG =>
      rename_i cs1 l cs2 us es
      cases hkk
      have := List.append_cancel_left hcc
      subst this
      obtain ⟨m, n, rfl, a1, a2⟩ := hr.split hx.length hl.symm
      obtain ⟨ap1, ap2, ap3⟩ := apart3_split hap
      obtain ⟨φ1, s1', s2', s3', s4'⟩ := g5 (fun b b1 b2 => hf b b1 (by omega)) a1 ap1 hsz (fun r hr => hoff r (List.mem_append_left _ hr)) hW
      obtain ⟨φ2, t1, t2, t3, t4⟩ := r5 (fun b b1 b2 => by rw [s1'.out b (.inr b1)]; exact hf b (by omega) b2) hG a2 ap2 hsz (fun r hr => s4' r (ap3 r hr) (hoff r (List.mem_append_right _ hr))) s3'
      exact ⟨φ2, s1'.trans t1 g2 r2, .cons (.agg (s2'.mono t1.ext)) t2, t3, fun r hr ho => t4 r (fun h => hr (List.mem_append_right _ h)) (s4' r (fun h => hr (List.mem_append_left _ h)) ho)⟩
theorem ctr_ok' {P : Program} {f : Nat} {g : Sig} {gl : List (Nat × List EV)} (hF : FnOk P f g gl) {args : List EV} {s : St} {K : EV → St → Ans} (hgl : ∀ {w0 : World} {φ : Phi} {w : World}, GR φ → WR w0 φ s w → Laid gl w) (h : ctOf g args s K = true) :
    ∃ v s', K v s' = true ∧ val s.c ≤ val s'.c ∧ ∀ {w0 : World} {φ : Phi} {w : World} {args' : List Value}, Fresh φ s.c s'.c → WR w0 φ s w → VRs φ args args' → NextRun P ((callFunc f args'.toArray).run P w) (Snd s s' φ w0 v) := by
  obtain ⟨dss, h1, h2, h3⟩ := exVKs_ok (show exVKs g.args args s (fun ds => reqB (g.pre ds) (mkVKs g.res s fun vs rs s => impB (g.post ds rs) (K (tup vs) s))) = true from h)
  obtain ⟨hpre, h1⟩ := reqB_ok h1
  obtain ⟨cs, rss, ⟨u0, e0, hg⟩, hsh, hpost, hrun⟩ := hF dss h2 hpre
  obtain ⟨vs, s', h4, _, h5, h6, h7, h8⟩ := mkVKs_ok hg h1 hsh
  refine ⟨_, s', impB_ok h4 hpost, h5, fun {w0 φ w args'} hf hw hv => ?_⟩
  refine (hrun w args' (hgl hf.1 hw) (h3 hw args' hv)).mono fun u w' ⟨us, es, locs, huv, hG, hR, hap, hb⟩ => ?_
  have hoff : ∀ r, some r ∈ locs → Off φ s.L r := fun r hr b k p hbk hre hp => by
    have hge : w.heap.size ≤ r := by
      have key : ∀ {cs : List CX} {rss : List (List DV)} {es : List Value} {locs : List (Option Nat)}, ResCs w w' cs rss es locs → some r ∈ locs → w.heap.size ≤ r := by
        intro cs rss es locs h
        induction h with
        | nil => intro hr; cases hr
        | cons h _ ih =>
          rename_i c cs d ds v' vs' loc locs _
          intro hr
          rcases List.mem_cons.1 hr with e | hr
          · subst e
            cases c with
            | i k lo hi => cases h.2
            | b => cases h.2
            | w => cases h.2
            | l ck mx =>
              obtain ⟨_, _, _, _, hO⟩ := h
              rcases hO with ⟨_, _, _, e⟩ | ⟨_, _, _, _, _, _, _, _, _, _, hlo, _, _, e⟩
              · cases e
              · cases e; exact hlo
          · exact ih hr
      exact key hR hr
    obtain ⟨p', fz, ⟨hp', hat⟩, _⟩ := (hw.loc b k hbk).real hre
    rw [hp] at hp'; cases hp'
    have := At.lt (φ := φ) (b := b) (k := k) (w := w) (p := p) (fz := fz) ⟨hp, hat⟩
    omega
  obtain ⟨φ', t1, t2, t3, _⟩ := h8 hf.2 hG hR hap hw.below.size hoff (hw.later hb)
  exact ⟨φ', t1, by unfold ValOf at huv; subst huv; exact tup_ok t2, t3⟩
theorem ctr_ok {P : Program} {f : Nat} {g : Sig} (hF : FnOk P f g []) : CtOk P f (ctOf g) := fun args s K h => ctr_ok' hF (fun _ _ p hp => by cases hp) h
theorem ctsOk_of {P : Program} {ext : List (Nat × Ext)} {cs : List (Nat × Sig)} (hc : ∀ p ∈ cs, FnOk P p.1 p.2 []) (he : ∀ f c, ext.lookup f = some (.ctr c) → ∃ g, (f, g) ∈ cs ∧ c = ctOf g) : CtsOk P ext := fun f c h => by
  obtain ⟨g, h1, rfl⟩ := he f c h
  exact ctr_ok (hc _ h1)
end Go.Ev
