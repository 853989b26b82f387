/- Calls with arguments, symbolic ones among them: the paths of a tree of cases. -/
import Derived.Test.YtcddopooofdgcaaEvF
namespace Go.Ev
set_option linter.unusedSectionVars false
variable [FactsC]
open Go.RowKit (Below)
open Go.ChangeShapes Go.WideShapes
noncomputable section
/-- a call's run; K looks at what it returns -/
def runS (P : Program) (ext : List (Nat × Ext)) (gl : List (Nat × List EV)) (n f : Nat) (args : List EV) (K : EV → Ans) : Ans :=
  refAs args fun args => evCall (cFun P ext) (cRnd P) n (.fn f) args ⟨[true], .nil, [heapOf gl], []⟩ fun v _ => K v
end
theorem refV_ok [Env] {v : EV} {K : EV → Ans} (h : refV v K = true) : ∃ u, K u = true ∧ ∀ φ v', VR φ v v' → VR φ u v' := by
  unfold refV at h
  split at h
  · obtain ⟨u, h1, h2⟩ := mkN_ok h
    refine ⟨u, h1, fun φ v' hv => ?_⟩
    cases hv with
    | sym k e lo hi hn g1 g2 => subst hn; exact h2 ⟨g1, g2⟩ φ
  · exact ⟨_, h, fun _ _ h => h⟩
theorem refL_ok [Env] : ∀ {l : List EV} {K : List EV → Ans}, refL l K = true → ∃ l2, K l2 = true ∧ ∀ φ l', VRs φ l l' → VRs φ l2 l'
  | [], K, h => ⟨[], h, fun _ _ h => h⟩
  | v :: l, K, h => by
    obtain ⟨u, h1, h2⟩ := refV_ok (show refV v (fun v => refL l fun l => K (v :: l)) = true from h)
    obtain ⟨l2, h3, h4⟩ := refL_ok h1
    refine ⟨u :: l2, h3, fun φ l' hv => ?_⟩
    cases hv with
    | cons g gs => exact .cons (h2 _ _ g) (h4 _ _ gs)
theorem refA_ok [Env] {v : EV} {K : EV → Ans} (h : refA v K = true) : ∃ u, K u = true ∧ ∀ φ v', VR φ v v' → VR φ u v' := by
  unfold refA at h
  split at h
  · obtain ⟨u, h1, h2⟩ := refL_ok h
    refine ⟨_, h1, fun φ v' hv => ?_⟩
    cases hv with
    | agg hv => exact .agg (h2 _ _ hv)
  · exact refV_ok h
theorem refAs_ok [Env] : ∀ {l : List EV} {K : List EV → Ans}, refAs l K = true → ∃ l2, K l2 = true ∧ ∀ φ l', VRs φ l l' → VRs φ l2 l'
  | [], K, h => ⟨[], h, fun _ _ h => h⟩
  | v :: l, K, h => by
    obtain ⟨u, h1, h2⟩ := refA_ok (show refA v (fun v => refAs l fun l => K (v :: l)) = true from h)
    obtain ⟨l2, h3, h4⟩ := refAs_ok h1
    refine ⟨u :: l2, h3, fun φ l' hv => ?_⟩
    cases hv with
    | cons g gs => exact .cons (h2 _ _ g) (h4 _ _ gs)
theorem evCall_run [Env] {P : Program} {ext : List (Nat × Ext)} {gl : List (Nat × List EV)} {n f : Nat} {args : List EV} {args' : List Value} {K : EV → Ans} (hm : P.follows .mixedOrders = true) (hE : ∀ p ∈ ext, ExtRow P p.1 p.2) (hKn : KnownOk P ext) (hCn : ConOk P ext) (hN : namesB P = true) {fn : Func} (hf : P.funcs[f]? = some fn) (hb : fn.body.isSome = true)
    (h : evCall (cFun P ext) (cRnd P) n (.fn f) args ⟨[true], .nil, [heapOf gl], []⟩ (fun v _ => K v) = true) (w : World) (hl : Laid gl w) (ha : ∀ φ, VRs φ args args') : Calls P f args'.toArray w fun e w' => (∃ v φ u, K v = true ∧ VR φ v u ∧ e = .returned u) ∧ Below w.heap.size w w' := by
  obtain ⟨v, s', h1, h2, h3⟩ := (call_sound hm (extOk_of hE) hKn hCn (namesOk_of hN) n).fn f args ⟨[true], .nil, [heapOf gl], []⟩ (fun v _ => K v) h
  let sz : Nat → Nat := fun g => match w.heap[g]? with | some (.cells cs _ _) => cs.size | _ => 0
  have hw : WR w (phiG sz) ⟨[true], .nil, [heapOf gl], []⟩ w := by
    refine ⟨Below.refl _ _, fun h hh b k hb => ?_, fun b k hb => by simp [Tr.get_nil] at hb, (fun b b' k k' p p' hb => by simp [Tr.get_nil] at hb), JOk.nil⟩
    have e : h = heapOf gl := by simpa using hh
    subst e
    obtain ⟨p, hp, rfl, rfl⟩ := heapOf_get hb
    obtain ⟨cs, ty, k1, k2⟩ := hl p hp
    have e : sz p.1 = cs.size := by show (match w.heap[p.1]? with | some (.cells cs _ _) => cs.size | _ => 0) = _; rw [k1]
    have hlen := (k2 (phiG sz)).length
    refine ⟨(p.1, 0, sz p.1), (0, 0), phiG_at sz p.1, cs, ty, k1, e.symm, ?_, fun i v hi hv => ?_⟩
    · show 0 + lenN p.2 ≤ cs.size
      rw [lenN_eq, hlen]; simp
    · rw [get_writeN] at hv
      have hi : i < lenN p.2 := hi
      rw [lenN_eq] at hi
      rw [if_pos (by omega)] at hv
      obtain ⟨v', e1, e2⟩ := (k2 (phiG sz)).get hv
      exact ⟨v', by simpa using e1, e2⟩
  have hfr : Fresh (phiG sz) [true] s'.c := ⟨fun g => ⟨_, phiG_at sz g⟩, fun b h4 _ => by
    unfold phiG
    refine dif_neg fun ⟨g, hg⟩ => ?_
    subst hg
    rw [val_gkey] at h4
    exact absurd h4 (by decide)⟩
  have := h3 (w0 := w) (w := w) (args' := args') hfr hw (ha _)
  have hcf := callFunc_enter (P := P) (namesOk_of hN) (f := f) (by simp [hasBody, hf, hb]) args'.toArray w
  rw [hcf] at this
  have this : CallsIn (Wd none) 0 P f args'.toArray w fun e w'' => ∃ u, e = .returned u ∧ Snd ⟨[true], .nil, [heapOf gl], []⟩ s' (phiG sz) w v u w'' := this
  have this : Calls P f args'.toArray w fun e w'' => ∃ u, e = .returned u ∧ Snd ⟨[true], .nil, [heapOf gl], []⟩ s' (phiG sz) w v u w'' := callsIn_wide.1 this
  exact this.mono fun e w' ⟨u, he, φ', _, hv, hw'⟩ => ⟨⟨v, φ', u, h1, hv, he⟩, hw'.below⟩
theorem runS_sound [Env] {P : Program} {ext : List (Nat × Ext)} {gl : List (Nat × List EV)} {n f : Nat} {args : List EV} {args' : List Value} {K : EV → Ans} (hm : P.follows .mixedOrders = true) (hE : ∀ p ∈ ext, ExtRow P p.1 p.2) (hKn : KnownOk P ext) (hCn : ConOk P ext) (hN : namesB P = true) {fn : Func} (hf : P.funcs[f]? = some fn) (hb : fn.body.isSome = true)
    (h : runS P ext gl n f args K = true) (w : World) (hl : Laid gl w) (ha : ∀ φ, VRs φ args args') : Calls P f args'.toArray w fun e w' => (∃ v φ u, K v = true ∧ VR φ v u ∧ e = .returned u) ∧ Below w.heap.size w w' := by
  obtain ⟨args0, h, hargs⟩ := refAs_ok h
  exact evCall_run hm hE hKn hCn hN hf hb h w hl fun φ => hargs _ _ (ha φ)
/-! symbolic arguments -/
theorem symC_ok [Env] {k : PK} {j : Nat} {K : EV → Ans} (h : symC k j K = true) : ∃ v, K v = true ∧ ∀ φ v', k.val (Env.val.n j) v' → VR φ v v' := by
  cases k with
  | int k =>
    obtain ⟨v, h1, h2⟩ := mkN_ok (show mkN k (.var j) k.min k.max K = true from h)
    exact ⟨v, h1, fun φ v' ⟨hv, g1, g2⟩ => by subst hv; exact h2 ⟨g1, g2⟩ φ⟩
  | bool => exact boolC_ok (show boolC (.var j) K = true from h)
theorem symCs_ok [Env] : ∀ {ks : List PK} {j : Nat} {K : List EV → Nat → Ans}, symCs ks j K = true → ∃ l, K l (j + ks.length) = true ∧
    ∀ φ (ns : List Int) (vs : List Value), (∀ i, i < ns.length → Env.val.n (j + i) = ns.getD i 0) → CellsV ks ns vs → VRs φ l vs
  | [], j, K, h => ⟨[], h, fun φ ns vs _ hr => by cases hr; exact .nil⟩
  | k :: ks, j, K, h => by
    obtain ⟨v, h1, h2⟩ := symC_ok (show symC k j (fun v => fN (Nat.succ j) fun j => symCs ks j fun l j => K (v :: l) j) = true from h)
    rw [fN_eq] at h1
    obtain ⟨l, h3, h4⟩ := symCs_ok h1
    refine ⟨v :: l, ?_, fun φ ns vs hn hr => ?_⟩
    · rw [List.length_cons, show j + (ks.length + 1) = Nat.succ j + ks.length from by omega]
      exact h3
    · cases hr with
      | cons g gs =>
        refine .cons (h2 φ _ ?_) (h4 φ _ _ (fun i hi => ?_) gs)
        · have := hn 0 (by simp)
          rw [Nat.add_zero] at this
          rw [this]; exact g
        · have := hn (i + 1) (by simp; omega)
          rw [show j + (i + 1) = Nat.succ j + i from by omega] at this
          rw [this]; rfl
theorem symAs_ok [Env] : ∀ {l : List AK} {j : Nat} {K : List EV → Ans}, symAs l j K = true → ∃ args, K args = true ∧
    ∀ φ (ns : List Int) (vs : List Value), (∀ i, i < ns.length → Env.val.n (j + i) = ns.getD i 0) → ArgsV l ns vs → VRs φ args vs
  | [], j, K, h => ⟨[], h, fun φ ns vs _ hr => by cases hr; exact .nil⟩
  | a :: l, j, K, h => by
    have h : symA a j (fun v j => symAs l j fun l => K (v :: l)) = true := h
    cases a with
    | one k =>
      obtain ⟨v, h1, h2⟩ := symC_ok (show symC k j (fun v => fN (Nat.succ j) fun j => symAs l j fun l => K (v :: l)) = true from h)
      rw [fN_eq] at h1
      obtain ⟨m, h3, h4⟩ := symAs_ok h1
      refine ⟨v :: m, h3, fun φ ns vs hn hr => ?_⟩
      cases hr with
      | one g gs =>
        refine .cons (h2 φ _ ?_) (h4 φ _ _ (fun i hi => ?_) gs)
        · have := hn 0 (by simp)
          rw [Nat.add_zero] at this
          rw [this]; exact g
        · have := hn (i + 1) (by simp; omega)
          rw [show j + (i + 1) = Nat.succ j + i from by omega] at this
          rw [this]; rfl
    | agg ks =>
      obtain ⟨m, h1, h2⟩ := symCs_ok (show symCs ks j (fun m j => symAs l j fun r => K (.agg m :: r)) = true from h)
      obtain ⟨r, h3, h4⟩ := symAs_ok h1
      refine ⟨_, h3, fun φ ns vs hn hr => ?_⟩
      cases hr with
      | @agg _ ms ws _ ns vs g gs =>
        have hl := g.length
        refine .cons (.agg (h2 φ ms _ (fun i hi => ?_) g)) (h4 φ _ _ (fun i hi => ?_) gs)
        · rw [hn i (by simp; omega), List.getD_eq_getElem?_getD, List.getD_eq_getElem?_getD, List.getElem?_append_left (by omega)]
        · have := hn (ks.length + i) (by simp; omega)
          rw [show j + (ks.length + i) = j + ks.length + i from by omega] at this
          rw [this, List.getD_eq_getElem?_getD, List.getD_eq_getElem?_getD, List.getElem?_append_right (by omega), hl]
          congr 2; omega
theorem runC_sound [Env] {P : Program} {ext : List (Nat × Ext)} {gl : List (Nat × List EV)} {n f : Nat} {l : List AK} {ns : List Int} {vs : List Value} {K : EV → Ans} (hm : P.follows .mixedOrders = true) (hE : ∀ p ∈ ext, ExtRow P p.1 p.2) (hKn : KnownOk P ext) (hCn : ConOk P ext) (hN : namesB P = true) {fn : Func} (hf : P.funcs[f]? = some fn) (hb : fn.body.isSome = true)
    (h : runC P ext gl n f l K = true) (w : World) (hl : Laid gl w) (hv : ∀ i, i < ns.length → Env.val.n i = ns.getD i 0) (ha : ArgsV l ns vs) : Calls P f vs.toArray w fun e w' => (∃ v φ u, K v = true ∧ VR φ v u ∧ e = .returned u) ∧ Below w.heap.size w w' := by
  obtain ⟨args, h1, h2⟩ := symAs_ok h
  exact evCall_run hm hE hKn hCn hN hf hb h1 w hl fun φ => h2 φ ns vs (fun i hi => by rw [Nat.zero_add]; exact hv i hi) ha
omit [FactsC]
/-! ### trees of cases -/
inductive STree where
  | leaf
  | split (e : SE) (c : Int) (l r : STree)
  | dead (i : Nat)
noncomputable section
def hasF (f : Fact) (F : List Fact) : Bool := List.rec (motive := fun _ => Bool) false (fun g _ ih => bR (andB (beqB f.le g.le) (andB (eqI f.c g.c) (SE.beq f.e g.e))) true ih) F
def allF (cl F : List Fact) : Bool := List.rec (motive := fun _ => Bool) true (fun f _ ih => andB (hasF f F) ih) cl
def checkT (run : List Fact → Bool) (deads : List (List Fact)) (t : STree) : List Fact → Bool :=
  STree.rec (motive := fun _ => List Fact → Bool) (fun F => run F) (fun e c _ _ hl hr F => andB (hl (⟨e, c, true⟩ :: F)) (hr (⟨e, c, false⟩ :: F)))
    (fun i F => Option.rec (motive := fun _ => Bool) false (fun cl => allF cl F) (nthN i deads)) t
end
theorem checkT_split (run : List Fact → Bool) (deads : List (List Fact)) (e : SE) (c : Int) (l r : STree) (F : List Fact) : checkT run deads (.split e c l r) F = andB (checkT run deads l (⟨e, c, true⟩ :: F)) (checkT run deads r (⟨e, c, false⟩ :: F)) := rfl
theorem andB_mk {a b : Bool} (h1 : a = true) (h2 : b = true) : andB a b = true := by subst h1; exact h2
theorem hasF_ok {f : Fact} : ∀ {F : List Fact}, hasF f F = true → f ∈ F
  | [], h => absurd (show false = true from h) (by decide)
  | g :: F, h => by
    have h : bR (andB (beqB f.le g.le) (andB (eqI f.c g.c) (SE.beq f.e g.e))) true (hasF f F) = true := h
    cases hb : andB (beqB f.le g.le) (andB (eqI f.c g.c) (SE.beq f.e g.e)) with
    | false => rw [hb] at h; exact List.mem_cons_of_mem _ (hasF_ok h)
    | true =>
      obtain ⟨h1, h2⟩ := andB_ok hb
      obtain ⟨h2, h3⟩ := andB_ok h2
      have e1 : f.le = g.le := by revert h1; cases f.le <;> cases g.le <;> simp [beqB, bR]
      have e2 := eqI_iff h2
      have e3 := SE.beq_ok h3
      have : f = g := by cases f; cases g; simp_all
      rw [this]; exact List.mem_cons_self
theorem allF_ok : ∀ {cl F : List Fact}, allF cl F = true → ∀ f ∈ cl, f ∈ F
  | [], _, _, f, hf => by cases hf
  | g :: cl, F, h, f, hf => by
    obtain ⟨h1, h2⟩ := andB_ok (show andB (hasF g F) (allF cl F) = true from h)
    rcases List.mem_cons.1 hf with rfl | hf
    · exact hasF_ok h1
    · exact allF_ok h2 f hf
theorem nthN_mem {α : Type} : ∀ {n : Nat} {l : List α} {x : α}, nthN n l = some x → x ∈ l
  | 0, [], _, h => by cases h
  | 0, y :: l, x, h => by cases h; exact List.mem_cons_self
  | n + 1, [], _, h => by cases h
  | n + 1, y :: l, x, h => List.mem_cons_of_mem _ (nthN_mem (show nthN n l = some x from h))
theorem checkT_ok {run : List Fact → Bool} {deads : List (List Fact)} {v : VAL} {Q : Prop} (hr : ∀ F, run F = true → (∀ f ∈ F, f.holds v) → Q)
    (hd : ∀ cl ∈ deads, ¬ ∀ f ∈ cl, f.holds v) : ∀ {t : STree} {F : List Fact}, checkT run deads t F = true → (∀ f ∈ F, f.holds v) → Q
  | .leaf, F, h, hF => hr F h hF
  | .dead i, F, h, hF => by
    have h : Option.rec (motive := fun _ => Bool) false (fun cl => allF cl F) (nthN i deads) = true := h
    cases hn : nthN i deads with
    | none => rw [hn] at h; exact absurd (show false = true from h) (by decide)
    | some cl =>
      rw [hn] at h
      exact absurd (fun f hf => hF f (allF_ok h f hf)) (hd cl (nthN_mem hn))
  | .split e c l r, F, h, hF => by
    obtain ⟨h1, h2⟩ := andB_ok (show andB (checkT run deads l (⟨e, c, true⟩ :: F)) (checkT run deads r (⟨e, c, false⟩ :: F)) = true from h)
    by_cases hc : e.ev v ≤ c
    · exact checkT_ok hr hd h1 fun f hf => by
        rcases List.mem_cons.1 hf with rfl | hf
        · exact hc
        · exact hF f hf
    · exact checkT_ok hr hd h2 fun f hf => by
        rcases List.mem_cons.1 hf with rfl | hf
        · show c < e.ev v; omega
        · exact hF f hf
/-! ### functions taken as known -/
theorem knownOk_none {P : Program} {ext : List (Nat × Ext)} (h : (ext.all fun p => match p.2 with | .known _ => false | _ => true) = true) : KnownOk P ext := by
  intro f b hl w
  exfalso
  induction ext with
  | nil => simp at hl
  | cons p l ih =>
    obtain ⟨g, e⟩ := p
    simp only [List.all_cons, Bool.and_eq_true] at h
    rw [List.lookup_cons] at hl
    split at hl
    · cases hl; simp at h
    · exact ih h.2 hl
theorem knownOk_cons {P : Program} {ext : List (Nat × Ext)} {f : Nat} {b : Bool} (h : ∀ w : World, Calls P f #[] w fun e w' => e = .returned (.bool b) ∧ Below w.heap.size w w') (hs : KnownOk P ext) : KnownOk P ((f, .known b) :: ext) := by
  intro g c hl w
  rw [List.lookup_cons] at hl
  split at hl
  · rename_i hg
    cases hl
    have : g = f := by simpa using hg
    subst this
    exact h w
  · exact hs g c hl w
/-! ### what a contradiction needs -/
theorem w_i64 (n : Int) : IntKind.wrap .i64 n = (n + 9223372036854775808) % 18446744073709551616 - 9223372036854775808 := by
  unfold IntKind.wrap; simp [IntKind.signed, IntKind.bits]; try omega
theorem w_i32 (n : Int) : IntKind.wrap .i32 n = (n + 2147483648) % 4294967296 - 2147483648 := by
  unfold IntKind.wrap; simp [IntKind.signed, IntKind.bits]; try omega
theorem w_u64 (n : Int) : IntKind.wrap .u64 n = n % 18446744073709551616 := by
  unfold IntKind.wrap; simp [IntKind.signed, IntKind.bits]
theorem w_u32 (n : Int) : IntKind.wrap .u32 n = n % 4294967296 := by
  unfold IntKind.wrap; simp [IntKind.signed, IntKind.bits]
theorem w_u8 (n : Int) : IntKind.wrap .u8 n = n % 256 := by
  unfold IntKind.wrap; simp [IntKind.signed, IntKind.bits]
theorem tdiv_e (a c : Int) : Int.tdiv a c = if 0 ≤ a then a / c else -((-a) / c) := by
  split
  · exact Int.tdiv_eq_ediv_of_nonneg ‹_›
  · have := Int.neg_tdiv (-a) c
    rw [Int.neg_neg] at this
    rw [this, Int.tdiv_eq_ediv_of_nonneg (by omega)]
theorem tmod_e (a c : Int) : Int.tmod a c = if 0 ≤ a then a % c else -((-a) % c) := by
  split
  · exact Int.tmod_eq_emod_of_nonneg ‹_›
  · have := Int.neg_tmod (-a) c
    rw [Int.neg_neg] at this
    rw [this, Int.tmod_eq_emod_of_nonneg (by omega)]
theorem wf_rng {k : IntKind} {a : Int} (wa : (Lit.int k a).wf = true) : k.min ≤ a ∧ a ≤ k.max := by
  simp only [Lit.wf, Bool.and_eq_true, decide_eq_true_eq] at wa
  exact wa
theorem tmod_lo (a b : Int) (h : 0 < b) : -b < Int.tmod a b := by
  rw [tmod_e]
  split
  · have := Int.emod_nonneg a (show b ≠ 0 by omega); omega
  · have := Int.emod_lt_of_pos (-a) h; omega
theorem fdiv_e (a c : Int) (h : 0 ≤ c) : Int.fdiv a c = a / c := Int.fdiv_eq_ediv_of_nonneg a h
theorem int_vr [FactsC] [Env] (i : Nat) {a : Int} (h : a = Env.val.n i) (wa : (Lit.int .i64 a).wf = true) (φ : Phi) : VR φ (.sym .i64 (.var i) (-9223372036854775808) 9223372036854775807) (.int .i64 a) := by
  simp only [Lit.wf, Bool.and_eq_true, decide_eq_true_eq] at wa
  exact .sym _ _ _ _ h wa.1 wa.2
end Go.Ev
