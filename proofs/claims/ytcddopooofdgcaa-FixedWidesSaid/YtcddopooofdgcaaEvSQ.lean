/- Functions of plain values whose results have names; what results are, by cases. -/
import Derived.Test.YtcddopooofdgcaaEvSZ
namespace Go.Ev
set_option linter.unusedSectionVars false
theorem lenN_len {α : Type} : ∀ l : List α, lenN l = l.length
  | [] => rfl
  | _ :: l => congrArg Nat.succ (lenN_len l)
theorem cellsN_one (c : RC) (l : List RK) : cellsN (.one c :: l) = cellsN l + 1 := rfl
theorem cellsN_agg (cs : List RC) (l : List RK) : cellsN (.agg cs :: l) = cellsN l + cs.length := by
  show cellsN l + lenN cs = _
  rw [lenN_len]
/-- a cell's number -/
def PK.val : PK → Int → Value → Prop
  | .int k, n, v => v = .int k n ∧ k.min ≤ n ∧ n ≤ k.max
  | .bool, n, v => ∃ b, v = .bool b ∧ n = bR b 1 0
inductive CellsV : List PK → List Int → List Value → Prop
  | nil : CellsV [] [] []
  | cons {k : PK} {n : Int} {v : Value} {ks : List PK} {ns : List Int} {vs : List Value} (h : k.val n v) (hs : CellsV ks ns vs) : CellsV (k :: ks) (n :: ns) (v :: vs)
inductive ArgsV : List AK → List Int → List Value → Prop
  | nil : ArgsV [] [] []
  | one {k : PK} {n : Int} {v : Value} {l : List AK} {ns : List Int} {vs : List Value} (h : k.val n v) (hs : ArgsV l ns vs) : ArgsV (.one k :: l) (n :: ns) (v :: vs)
  | agg {ks : List PK} {ms : List Int} {cs : List Value} {l : List AK} {ns : List Int} {vs : List Value} (h : CellsV ks ms cs) (hs : ArgsV l ns vs) : ArgsV (.agg ks :: l) (ms ++ ns) (.agg cs.toArray :: vs)
/-- a result's cell -/
def RC.val (c : RC) (n : Int) (v : Value) : Prop := match c.k with
  | .int k => v = .int k n ∧ c.lo ≤ n ∧ n ≤ c.hi
  | .bool => ∃ b, v = .bool b ∧ n = bR b 1 0
inductive RCs : List RC → List Int → List Value → Prop
  | nil : RCs [] [] []
  | cons {c : RC} {n : Int} {v : Value} {ks : List RC} {ns : List Int} {vs : List Value} (h : c.val n v) (hs : RCs ks ns vs) : RCs (c :: ks) (n :: ns) (v :: vs)
inductive ResV : List RK → List Int → List Value → Prop
  | nil : ResV [] [] []
  | one {c : RC} {n : Int} {v : Value} {l : List RK} {ns : List Int} {vs : List Value} (h : c.val n v) (hs : ResV l ns vs) : ResV (.one c :: l) (n :: ns) (v :: vs)
  | agg {ks : List RC} {ms : List Int} {cs : List Value} {l : List RK} {ns : List Int} {vs : List Value} (h : RCs ks ms cs) (hs : ResV l ns vs) : ResV (.agg ks :: l) (ms ++ ns) (.agg cs.toArray :: vs)
theorem CellsV.length {ks : List PK} {ns : List Int} {vs : List Value} (h : CellsV ks ns vs) : ns.length = ks.length := by
  induction h with
  | nil => rfl
  | cons _ _ ih => simp [ih]
theorem RCs.length {cs : List RC} {ns : List Int} {vs : List Value} (h : RCs cs ns vs) : ns.length = cs.length := by
  induction h with
  | nil => rfl
  | cons _ _ ih => simp [ih]
theorem ResV.length {rs : List RK} {ns : List Int} {vs : List Value} (h : ResV rs ns vs) : ns.length = cellsN rs := by
  induction h with
  | nil => rfl
  | one _ _ ih => rw [cellsN_one, List.length_cons, ih]
  | agg h _ ih => rw [cellsN_agg, List.length_append, ih, h.length]; omega
/-- one result, or a tuple -/
def resVal (l : List Value) : Value := if h : l.toArray.size = 1 then l.toArray[0] else .tuple l.toArray
variable [FactsC] [Env]
theorem cellA_ok {k : PK} {v : EV} {K : SE → Ans} (h : cellA k v K = true) : ∃ e, K e = true ∧ ∀ φ v', VR φ v v' → k.val e.eval v' := by
  cases k with
  | int k =>
    obtain ⟨k', e, lo, hi, g0, he⟩ := asNum_ok (show asNum v (fun k' e lo hi => guardB (kindEq k k') (guardB (inK k lo hi) (K e))) = true from h)
    obtain ⟨h1, g1⟩ := guard_ok g0
    obtain ⟨h2, g2⟩ := guard_ok g1
    obtain ⟨h2, h3⟩ := andB_ok h2
    have hk := kindEq_ok h1
    refine ⟨e, g2, fun φ v' hv => ?_⟩
    obtain ⟨rfl, r1, r2⟩ := he φ v' hv
    exact ⟨by rw [hk], by have := leI_t h2; omega, by have := leI_t h3; omega⟩
  | bool =>
    obtain ⟨b, rfl, h⟩ := asBool_ok (show asBool v (fun b => K (.lit (bR b 1 0))) = true from h)
    exact ⟨_, h, fun φ v' hv => by cases hv; exact ⟨b, rfl, rfl⟩⟩
theorem cellsA_ok : ∀ {ks : List PK} {vs : List EV} {K : List SE → Ans}, cellsA ks vs K = true → ∃ es, K es = true ∧ ∀ φ vs', VRs φ vs vs' → CellsV ks (es.map SE.eval) vs'
  | [], [], K, h => ⟨[], h, fun φ vs' hv => by cases hv; exact .nil⟩
  | [], _ :: _, K, h => absurd (show false = true from h) (by decide)
  | _ :: _, [], K, h => absurd (show false = true from h) (by decide)
  | k :: ks, v :: vs, K, h => by
    obtain ⟨e, h1, h2⟩ := cellA_ok (show cellA k v (fun e => cellsA ks vs fun r => K (e :: r)) = true from h)
    obtain ⟨es, h3, h4⟩ := cellsA_ok h1
    exact ⟨e :: es, h3, fun φ vs' hv => by cases hv with | cons g gs => exact .cons (h2 φ _ g) (h4 φ _ gs)⟩
theorem argsA_ok : ∀ {l : List AK} {vs : List EV} {K : List SE → Ans}, argsA l vs K = true → ∃ es, K es = true ∧ ∀ φ vs', VRs φ vs vs' → ArgsV l (es.map SE.eval) vs'
  | [], [], K, h => ⟨[], h, fun φ vs' hv => by cases hv; exact .nil⟩
  | [], _ :: _, K, h => absurd (show false = true from h) (by decide)
  | _ :: _, [], K, h => absurd (show false = true from h) (by decide)
  | a :: l, v :: vs, K, h => by
    have h : argA a v (fun es => argsA l vs fun r => K (appN es r)) = true := h
    cases a with
    | one k =>
      obtain ⟨e, h1, h2⟩ := cellA_ok (show cellA k v (fun e => argsA l vs fun r => K (appN [e] r)) = true from h)
      obtain ⟨es, h3, h4⟩ := argsA_ok h1
      refine ⟨e :: es, ?_, fun φ vs' hv => by cases hv with | cons g gs => exact .one (h2 φ _ g) (h4 φ _ gs)⟩
      exact h3
    | agg ks =>
      obtain ⟨cs, rfl, h⟩ := asAgg_ok (show asAgg v (fun cs => cellsA ks cs fun es => argsA l vs fun r => K (appN es r)) = true from h)
      obtain ⟨ms, h1, h2⟩ := cellsA_ok h
      obtain ⟨es, h3, h4⟩ := argsA_ok h1
      rw [appN_eq] at h3
      refine ⟨ms ++ es, h3, fun φ vs' hv => ?_⟩
      cases hv with
      | cons g gs =>
        cases g with
        | agg g => rw [List.map_append]; exact .agg (h2 φ _ g) (h4 φ _ gs)
theorem consL_ev (v : VAL) : ∀ es : List SE, ((consL es).ev2 v).2 = es.map (·.ev v)
  | [] => rfl
  | e :: es => congrArg ((e.ev2 v).1 :: ·) (consL_ev v es)
theorem boolC_ok {e : SE} {K : EV → Ans} (h : boolC e K = true) : ∃ v, K v = true ∧ ∀ φ v', PK.val .bool e.eval v' → VR φ v v' := by
  unfold boolC at h
  obtain ⟨lo, hi, h1, h2⟩ := refineE_ok e 0 1 fun lo hi => bR (leI hi 0) (K (.bool false)) (bR (leI 1 lo) (K (.bool true)) (need e 0))
  rw [h1] at h
  have hin : ∀ b : Bool, e.eval = bR b 1 0 → lo ≤ e.eval ∧ e.eval ≤ hi := fun b hb => h2 (by
    cases b
    · have hb : e.eval = 0 := hb
      constructor <;> omega
    · have hb : e.eval = 1 := hb
      constructor <;> omega)
  cases hc : leI hi 0 with
  | true =>
    rw [hc] at h
    refine ⟨_, h, fun φ v' ⟨b, hv, hb⟩ => ?_⟩
    subst hv
    have := hin b hb
    have := leI_t hc
    cases b
    · exact .bool _
    · have hb : e.eval = 1 := hb
      omega
  | false =>
    rw [hc] at h
    cases hc2 : leI 1 lo with
    | true =>
      rw [hc2] at h
      refine ⟨_, h, fun φ v' ⟨b, hv, hb⟩ => ?_⟩
      subst hv
      have := hin b hb
      have := leI_t hc2
      cases b
      · have hb : e.eval = 0 := hb
        omega
      · exact .bool _
    | false => rw [hc2] at h; exact absurd (show false = true from h) (by decide)
theorem cellR_ok {c : RC} {e : SE} {K : EV → Ans} (h : cellR c e K = true) : ∃ v, K v = true ∧ ∀ φ v', c.val e.eval v' → VR φ v v' := by
  obtain ⟨k, lo, hi⟩ := c
  cases k with
  | int k =>
    obtain ⟨v, h1, h2⟩ := mkN_ok (show mkN k e lo hi K = true from h)
    exact ⟨v, h1, fun φ v' ⟨hv, g1, g2⟩ => by subst hv; exact h2 ⟨g1, g2⟩ φ⟩
  | bool => exact boolC_ok (show boolC e K = true from h)
theorem cellJ_ok {a : SE} {z : Bool} {last : Nat} {c : RC} {j : Nat} {K : EV → Ans} (h : cellJ a z last c j K = true) : ∃ v, K v = true ∧
    ∀ φ v' n, (SE.app j a (.lit 0)).eval = n → (z = true → j ≠ last → n = 0) → c.val n v' → VR φ v v' := by
  unfold cellJ at h
  cases hb : andB z (not (Nat.beq j last)) with
  | true =>
    rw [hb] at h
    obtain ⟨h1, h2⟩ := andB_ok hb
    have hj : j ≠ last := fun e => by
      subst e
      rw [Nat.beq_refl] at h2
      exact absurd h2 (by decide)
    obtain ⟨k, lo, hi⟩ := c
    cases k with
    | int k => exact ⟨_, h, fun φ v' n _ hz hv => by
        have := hz h1 hj
        subst this
        obtain ⟨hv, _⟩ := hv
        subst hv; exact .int k 0⟩
    | bool => exact ⟨_, h, fun φ v' n _ hz hv => by
        have := hz h1 hj
        subst this
        obtain ⟨b, hv, hb⟩ := hv
        subst hv
        cases b
        · exact .bool _
        · exact absurd hb (by show ¬ (0 : Int) = 1; decide)⟩
  | false =>
    rw [hb] at h
    obtain ⟨v, h1, h2⟩ := cellR_ok (show cellR c (.app j a (.lit 0)) K = true from h)
    exact ⟨v, h1, fun φ v' n hn _ hv => h2 φ v' (by rw [hn]; exact hv)⟩
/-- the names' numbers; z: all but the last are 0 -/
def NamesV (a : SE) (z : Bool) (last j m : Nat) (ns : List Int) : Prop := ∀ i, i < m → (SE.app (j + i) a (.lit 0)).eval = ns.getD i 0 ∧ (z = true → j + i ≠ last → ns.getD i 0 = 0)
theorem NamesV.tail {a : SE} {z : Bool} {last j m : Nat} {n : Int} {ns : List Int} (h : NamesV a z last j (m + 1) (n :: ns)) : NamesV a z last (Nat.succ j) m ns := fun i hi => by
  have := h (i + 1) (by omega)
  rw [show j + (i + 1) = Nat.succ j + i from by omega] at this
  exact this
theorem cellsR_ok {a : SE} {z : Bool} {last : Nat} : ∀ {cs : List RC} {j : Nat} {K : List EV → Nat → Ans}, cellsR a z last cs j K = true → ∃ l, K l (j + cs.length) = true ∧
    ∀ φ (ns : List Int) (vs : List Value), NamesV a z last j cs.length ns → RCs cs ns vs → VRs φ l vs
  | [], j, K, h => ⟨[], h, fun φ ns vs _ hr => by cases hr; exact .nil⟩
  | c :: cs, j, K, h => by
    obtain ⟨v, h1, h2⟩ := cellJ_ok (show cellJ a z last c j (fun v => fN (Nat.succ j) fun j => cellsR a z last cs j fun l j => K (v :: l) j) = true from h)
    rw [fN_eq] at h1
    obtain ⟨l, h3, h4⟩ := cellsR_ok h1
    refine ⟨v :: l, ?_, fun φ ns vs hn hr => ?_⟩
    · rw [List.length_cons]
      rw [show j + (cs.length + 1) = Nat.succ j + cs.length from by omega]
      exact h3
    · cases hr with
      | cons g gs =>
        have h0 := hn 0 (by simp)
        exact .cons (h2 φ _ _ h0.1 h0.2 g) (h4 φ _ _ hn.tail gs)
theorem ressR_ok {a : SE} {z : Bool} {last : Nat} : ∀ {rs : List RK} {j : Nat} {K : List EV → Ans}, ressR a z last rs j K = true → ∃ l, K l = true ∧
    ∀ φ (ns : List Int) (vs : List Value), NamesV a z last j (cellsN rs) ns → ResV rs ns vs → VRs φ l vs
  | [], j, K, h => ⟨[], h, fun φ ns vs _ hr => by cases hr; exact .nil⟩
  | r :: rs, j, K, h => by
    have h : resR a z last r j (fun v j => ressR a z last rs j fun l => K (v :: l)) = true := h
    cases r with
    | one c =>
      obtain ⟨v, h1, h2⟩ := cellJ_ok (show cellJ a z last c j (fun v => fN (Nat.succ j) fun j => ressR a z last rs j fun l => K (v :: l)) = true from h)
      rw [fN_eq] at h1
      obtain ⟨l, h3, h4⟩ := ressR_ok h1
      refine ⟨v :: l, h3, fun φ ns vs hn hr => ?_⟩
      cases hr with
      | one g gs =>
        rw [cellsN_one] at hn
        have h0 := hn 0 (by omega)
        exact .cons (h2 φ _ _ h0.1 h0.2 g) (h4 φ _ _ hn.tail gs)
    | agg cs =>
      obtain ⟨m, h1, h2⟩ := cellsR_ok (show cellsR a z last cs j (fun l j => ressR a z last rs j fun r => K (.agg l :: r)) = true from h)
      obtain ⟨l, h3, h4⟩ := ressR_ok h1
      refine ⟨_, h3, fun φ ns vs hn hr => ?_⟩
      rw [cellsN_agg] at hn
      cases hr with
      | @agg _ ms ws _ ns vs g gs =>
        have hl := g.length
        refine .cons (.agg (h2 φ ms _ (fun i hi => ?_) g)) (h4 φ _ _ (fun i hi => ?_) gs)
        · have := hn i (by omega)
          rw [List.getD_eq_getElem?_getD, List.getElem?_append_left (by omega), ← List.getD_eq_getElem?_getD] at this
          exact this
        · have := hn (cs.length + i) (by omega)
          rw [show j + (cs.length + i) = j + cs.length + i from by omega, List.getD_eq_getElem?_getD, List.getElem?_append_right (by omega), hl, show cs.length + i - cs.length = i from by omega, ← List.getD_eq_getElem?_getD] at this
          exact this
theorem tup_res {φ : Phi} {l : List EV} {l' : List Value} (h : VRs φ l l') : VR φ (tup l) (resVal l') := by
  unfold resVal
  cases h with
  | nil => exact VR.tuple (cs' := []) .nil
  | cons h1 h2 =>
    cases h2 with
    | nil => simpa [tup] using h1
    | cons h3 h4 =>
      rw [dif_neg (by simp)]
      exact VR.tuple (.cons h1 (.cons h3 h4))
theorem refineF_far {α : Type} {e : SE} : ∀ (fs : List Fact) (lo hi : Int) (K : Int → Int → α), (∀ f ∈ fs, f.holds Env.val) → ∃ lo' hi', refineF e fs lo hi K = K lo' hi' ∧ (lo' = lo ∨ lo' ≤ e.eval) ∧ (hi' = hi ∨ e.eval ≤ hi')
  | [], lo, hi, K, _ => ⟨lo, hi, rfl, .inl rfl, .inl rfl⟩
  | f :: fs, lo, hi, K, hf => by
    have hs := fun g hg => hf g (List.mem_cons_of_mem _ hg)
    have h0 := hf f List.mem_cons_self
    have e0 : refineF e (f :: fs) lo hi K = bR (SE.beq f.e e) (bR f.le (fI (minI hi f.c) fun hi => refineF e fs lo hi K) (fI (maxI lo (addI f.c 1)) fun lo => refineF e fs lo hi K)) (refineF e fs lo hi K) := rfl
    rw [e0]
    cases hb : SE.beq f.e e with
    | false => exact refineF_far fs lo hi K hs
    | true =>
      rw [bR_true]
      have he := SE.beq_ok hb
      unfold Fact.holds at h0
      cases hl : f.le with
      | true =>
        rw [bR_true, fI_eq, minI_eq]
        rw [hl] at h0
        have h0 : f.e.ev Env.val ≤ f.c := h0
        rw [he] at h0
        obtain ⟨lo', hi', h1, h2, h3⟩ := refineF_far fs lo (min hi f.c) K hs
        have h0 : e.eval ≤ f.c := h0
        exact ⟨lo', hi', h1, h2, by omega⟩
      | false =>
        rw [bR_false, fI_eq, maxI_eq, addI_eq]
        rw [hl] at h0
        have h0 : f.c < f.e.ev Env.val := h0
        rw [he] at h0
        obtain ⟨lo', hi', h1, h2, h3⟩ := refineF_far fs (max lo (f.c + 1)) hi K hs
        have h0 : f.c < e.eval := h0
        exact ⟨lo', hi', h1, by omega, h3⟩
theorem refineE_far {α : Type} (e : SE) (lo hi : Int) (K : Int → Int → α) : ∃ lo' hi', refineE e lo hi K = K lo' hi' ∧ (lo' = lo ∨ lo' ≤ e.eval) ∧ (hi' = hi ∨ e.eval ≤ hi') := by
  unfold refineE; rw [fI_eq, fI_eq]; exact refineF_far _ _ _ _ Env.ok
/-- where there is an error the other results are 0 -/
def EzOk (c : Con) (ns : List Int) : Prop := c.ez = true → ns.getD (cellsN c.res - 1) 0 ≠ 0 → ∀ i, i + 1 < cellsN c.res → ns.getD i 0 = 0
/-- the names of a function's results stand for them -/
def Named (c : Con) (F : List Int → List Int) : Prop := ∀ i, i < cellsN c.res → ∀ n xs y, (appF Env.val (c.fid + i) (n, xs) y).1 = (F xs).getD i 0
theorem xCon_ok {c : Con} {args : List EV} {K : EV → Ans} (h : xCon c args K = true) : ∃ v, K v = true ∧ ∃ es : List SE, ∀ φ, (∀ args', VRs φ args args' → ArgsV c.args (es.map SE.eval) args') ∧
    ∀ (ns : List Int) (vs : List Value), 1 ≤ cellsN c.res → (∀ i, i < cellsN c.res → (SE.app (c.fid + i) (consL es) (.lit 0)).eval = ns.getD i 0) → EzOk c ns → ResV c.res ns vs → VR φ v (resVal vs) := by
  obtain ⟨es, h1, h2⟩ := argsA_ok (show argsA c.args args (fun es => fN (Nat.pred (Nat.add c.fid (cellsN c.res))) fun last =>
    bR c.ez (refineE (.app last (consL es) (.lit 0)) 0 far fun lo hi => bR (leI hi 0) (ressR (consL es) false last c.res c.fid fun l => K (tup l)) (bR (leI 1 lo) (ressR (consL es) true last c.res c.fid fun l => K (tup l)) (need (.app last (consL es) (.lit 0)) 0)))
    (ressR (consL es) false last c.res c.fid fun l => K (tup l))) = true from h)
  rw [fN_eq] at h1
  have e0 : Nat.pred (Nat.add c.fid (cellsN c.res)) = c.fid + cellsN c.res - 1 := rfl
  rw [e0] at h1
  have plain : ressR (consL es) false (c.fid + cellsN c.res - 1) c.res c.fid (fun l => K (tup l)) = true → ∃ v, K v = true ∧ ∃ es : List SE, ∀ φ, (∀ args', VRs φ args args' → ArgsV c.args (es.map SE.eval) args') ∧
    ∀ (ns : List Int) (vs : List Value), 1 ≤ cellsN c.res → (∀ i, i < cellsN c.res → (SE.app (c.fid + i) (consL es) (.lit 0)).eval = ns.getD i 0) → EzOk c ns → ResV c.res ns vs → VR φ v (resVal vs) := fun h => by
    obtain ⟨l, h3, h4⟩ := ressR_ok h
    exact ⟨_, h3, es, fun φ => ⟨h2 φ, fun ns vs _ hn _ hr => tup_res (h4 φ ns vs (fun i hi => ⟨hn i hi, fun e => nomatch e⟩) hr)⟩⟩
  cases hz : c.ez with
  | false => rw [hz] at h1; exact plain h1
  | true =>
    rw [hz, bR_true] at h1
    obtain ⟨lo, hi, g1, g2, g3⟩ := refineE_far (.app (c.fid + cellsN c.res - 1) (consL es) (.lit 0)) 0 far fun lo hi => bR (leI hi 0) (ressR (consL es) false (c.fid + cellsN c.res - 1) c.res c.fid fun l => K (tup l)) (bR (leI 1 lo) (ressR (consL es) true (c.fid + cellsN c.res - 1) c.res c.fid fun l => K (tup l)) (need (.app (c.fid + cellsN c.res - 1) (consL es) (.lit 0)) 0))
    rw [g1] at h1
    cases hc : leI hi 0 with
    | true => rw [hc] at h1; exact plain h1
    | false =>
      rw [hc] at h1
      cases hc2 : leI 1 lo with
      | false => rw [hc2] at h1; exact absurd (show false = true from h1) (by decide)
      | true =>
        rw [hc2] at h1
        have hlo := leI_t hc2
        obtain ⟨l, h3, h4⟩ := ressR_ok (show ressR (consL es) true (c.fid + cellsN c.res - 1) c.res c.fid (fun l => K (tup l)) = true from h1)
        refine ⟨_, h3, es, fun φ => ⟨h2 φ, fun ns vs h0 hn hez hr => tup_res (h4 φ ns vs (fun i hi => ⟨hn i hi, fun _ hne => ?_⟩) hr)⟩⟩
        have hl := hn (cellsN c.res - 1) (by omega)
        rw [show c.fid + (cellsN c.res - 1) = c.fid + cellsN c.res - 1 from by omega] at hl
        refine hez hz ?_ i (by omega)
        rw [← hl]
        rcases g2 with g2 | g2 <;> omega
omit [FactsC] [Env] in
/-- what a function of plain values returns, in whatever world -/
def conN (P : Program) (f : Nat) (c : Con) (F : List Int → List Int) : Prop := ∀ (w : World) (ns : List Int) (vs : List Value), ArgsV c.args ns vs → Calls P f vs.toArray w fun e w' => ∃ rs, ResV c.res (F ns) rs ∧ EzOk c (F ns) ∧ e = .returned (resVal rs) ∧ Go.RowKit.Below w.heap.size w w'
/-- the functions whose results have names return what the names stand for -/
def ConOk (P : Program) (ext : List (Nat × Ext)) : Prop := ∀ (f : Nat) (c : Con), ext.lookup f = some (.con c) → ∃ F : List Int → List Int, 1 ≤ cellsN c.res ∧ Named c F ∧ conN P f c F
/-! ### results by cases -/
def RTree.ev (v : VAL) : RTree → List Int
  | .leaf rs => rs.map (·.ev v)
  | .split e c l r => if e.ev v ≤ c then l.ev v else r.ev v
theorem ltI_t {a b : Int} (h : ltI a b = true) : a < b := by rw [ltI_eq] at h; exact of_decide_eq_true h
theorem rtR_ok {K : List SE → Ans} : ∀ {t : RTree}, rtR t K = true → ∃ rs, K rs = true ∧ t.ev Env.val = rs.map SE.eval
  | .leaf rs, h => ⟨rs, h, rfl⟩
  | .split e c l r, h => by
    have h : refineE e (Int.neg far) far (fun lo hi => bR (andB (leI hi c) (ltI hi far)) (rtR l K) (bR (andB (ltI c lo) (ltI (Int.neg far) lo)) (rtR r K) (need e c))) = true := h
    obtain ⟨lo, hi, h1, h2, h3⟩ := refineE_far e (Int.neg far) far fun lo hi => bR (andB (leI hi c) (ltI hi far)) (rtR l K) (bR (andB (ltI c lo) (ltI (Int.neg far) lo)) (rtR r K) (need e c))
    rw [h1] at h
    cases hc : andB (leI hi c) (ltI hi far) with
    | true =>
      rw [hc] at h
      obtain ⟨g1, g2⟩ := andB_ok hc
      have g1 := leI_t g1
      have g2 := ltI_t g2
      obtain ⟨rs, k1, k2⟩ := rtR_ok (show rtR l K = true from h)
      refine ⟨rs, k1, ?_⟩
      have : e.ev Env.val ≤ c := by
        have h3 : hi = far ∨ e.ev Env.val ≤ hi := h3
        omega
      unfold RTree.ev
      rw [if_pos this]; exact k2
    | false =>
      rw [hc] at h
      cases hc2 : andB (ltI c lo) (ltI (Int.neg far) lo) with
      | true =>
        rw [hc2] at h
        obtain ⟨g1, g2⟩ := andB_ok hc2
        have g1 := ltI_t g1
        have g2 := ltI_t g2
        obtain ⟨rs, k1, k2⟩ := rtR_ok (show rtR r K = true from h)
        refine ⟨rs, k1, ?_⟩
        have : ¬ e.ev Env.val ≤ c := by
          have h2 : lo = Int.neg far ∨ lo ≤ e.ev Env.val := h2
          omega
        unfold RTree.ev
        rw [if_neg this]; exact k2
      | false => rw [hc2] at h; exact absurd (show false = true from h) (by decide)
theorem eqFar_ok {x : SE} {n : Int} {K : Ans} (h : eqFar x n K = true) : K = true ∧ x.eval = n := by
  unfold eqFar at h
  obtain ⟨lo, hi, h1, h2, h3⟩ := refineE_far x (Int.neg far) far fun lo hi => bR (andB (andB (eqI lo n) (eqI hi n)) (andB (ltI (Int.neg far) n) (ltI n far))) K (bR (orB (ltI hi n) (ltI n lo)) false (need x (bR (ltI lo n) (Int.sub n 1) n)))
  rw [h1] at h
  cases hc : andB (andB (eqI lo n) (eqI hi n)) (andB (ltI (Int.neg far) n) (ltI n far)) with
  | true =>
    rw [hc] at h
    obtain ⟨g1, g2⟩ := andB_ok hc
    obtain ⟨g3, g4⟩ := andB_ok g1
    obtain ⟨g5, g6⟩ := andB_ok g2
    have g3 := eqI_iff g3
    have g4 := eqI_iff g4
    have g5 := ltI_t g5
    have g6 := ltI_t g6
    exact ⟨h, by omega⟩
  | false =>
    rw [hc] at h
    have h : bR (orB (ltI hi n) (ltI n lo)) false (need x (bR (ltI lo n) (Int.sub n 1) n)) = true := h
    cases ho : orB (ltI hi n) (ltI n lo) <;> rw [ho] at h <;> exact absurd (show false = true from h) (by decide)
theorem eqT_ok {a e : SE} {K : Ans} (h : eqT a e K = true) : K = true ∧ a.eval = e.eval := by
  unfold eqT at h
  cases hb : SE.beq a e with
  | true => rw [hb] at h; exact ⟨h, by rw [SE.beq_ok hb]⟩
  | false =>
    rw [hb] at h
    have h : litR e (fun n => eqFar a n K) (litR a (fun n => eqFar e n K) (eqFar (.bin .sub a e) 0 K)) = true := h
    rcases litR_ok (e := e) (y := fun n => eqFar a n K) (n := litR a (fun n => eqFar e n K) (eqFar (.bin .sub a e) 0 K)) with ⟨c, rfl, h1⟩ | h1
    · rw [h1] at h
      exact eqFar_ok h
    · rw [h1] at h
      rcases litR_ok (e := a) (y := fun n => eqFar e n K) (n := eqFar (.bin .sub a e) 0 K) with ⟨c, rfl, h2⟩ | h2
      · rw [h2] at h
        obtain ⟨k1, k2⟩ := eqFar_ok h
        exact ⟨k1, k2.symm⟩
      · rw [h2] at h
        obtain ⟨k1, k2⟩ := eqFar_ok h
        have k2 : a.eval - e.eval = 0 := k2
        exact ⟨k1, by omega⟩
theorem cmpC_ok {c : RC} {v : EV} {e : SE} {K : Ans} (h : cmpC c v e K = true) : K = true ∧ ∀ φ v', VR φ v v' → c.val e.eval v' := by
  obtain ⟨k, lo, hi⟩ := c
  cases k with
  | int k =>
    obtain ⟨k', a, la, ha, g0, he⟩ := asNum_ok (show asNum v (fun k' a la ha => guardB (kindEq k k') (guardB (andB (leI lo la) (leI ha hi)) (eqT a e K))) = true from h)
    obtain ⟨h1, g1⟩ := guard_ok g0
    obtain ⟨h2, g2⟩ := guard_ok g1
    obtain ⟨h2, h3⟩ := andB_ok h2
    have hk := kindEq_ok h1
    obtain ⟨k1, k2⟩ := eqT_ok g2
    refine ⟨k1, fun φ v' hv => ?_⟩
    obtain ⟨rfl, r1, r2⟩ := he φ v' hv
    have := leI_t h2
    have := leI_t h3
    have e3 : a.eval = e.eval := k2
    exact ⟨by rw [hk, e3], by show lo ≤ e.eval; rw [← e3]; omega, by show e.eval ≤ hi; rw [← e3]; omega⟩
  | bool =>
    obtain ⟨b, rfl, h⟩ := asBool_ok (show asBool v (fun b => eqT (.lit (bR b 1 0)) e K) = true from h)
    obtain ⟨k1, k2⟩ := eqT_ok h
    exact ⟨k1, fun φ v' hv => by cases hv; exact ⟨b, rfl, k2.symm⟩⟩
theorem cmpCs_ok : ∀ {cs : List RC} {vs : List EV} {es : List SE} {K : List SE → Ans}, cmpCs cs vs es K = true → ∃ xs ys, es = xs ++ ys ∧ K ys = true ∧ ∀ φ vs', VRs φ vs vs' → RCs cs (xs.map SE.eval) vs'
  | [], [], es, K, h => ⟨[], es, rfl, h, fun φ vs' hv => by cases hv; exact .nil⟩
  | [], _ :: _, es, K, h => absurd (show false = true from h) (by decide)
  | _ :: _, [], es, K, h => absurd (show false = true from h) (by decide)
  | _ :: _, _ :: _, [], K, h => absurd (show false = true from h) (by decide)
  | c :: cs, v :: vs, e :: es, K, h => by
    obtain ⟨h1, h2⟩ := cmpC_ok (show cmpC c v e (cmpCs cs vs es K) = true from h)
    obtain ⟨xs, ys, rfl, h3, h4⟩ := cmpCs_ok h1
    exact ⟨e :: xs, ys, rfl, h3, fun φ vs' hv => by cases hv with | cons g gs => exact .cons (h2 φ _ g) (h4 φ _ gs)⟩
theorem cmpRs_ok : ∀ {rs : List RK} {vs : List EV} {es : List SE}, cmpRs rs vs es = true → ∀ φ vs', VRs φ vs vs' → ResV rs (es.map SE.eval) vs'
  | [], [], [], h => fun φ vs' hv => by cases hv; exact .nil
  | [], [], _ :: _, h => absurd (show false = true from h) (by decide)
  | [], _ :: _, es, h => absurd (show false = true from h) (by decide)
  | _ :: _, [], es, h => absurd (show false = true from h) (by decide)
  | r :: rs, v :: vs, es, h => by
    have h : cmpR r v es (fun es => cmpRs rs vs es) = true := h
    cases r with
    | one c =>
      cases es with
      | nil => exact absurd (show false = true from h) (by decide)
      | cons e es =>
        obtain ⟨h1, h2⟩ := cmpC_ok (show cmpC c v e (cmpRs rs vs es) = true from h)
        have h3 := cmpRs_ok h1
        exact fun φ vs' hv => by cases hv with | cons g gs => exact .one (h2 φ _ g) (h3 φ _ gs)
    | agg cs =>
      obtain ⟨us, rfl, h⟩ := asAgg_ok (show asAgg v (fun us => cmpCs cs us es fun es => cmpRs rs vs es) = true from h)
      obtain ⟨xs, ys, rfl, h1, h2⟩ := cmpCs_ok h
      have h3 := cmpRs_ok h1
      intro φ vs' hv
      cases hv with
      | cons g gs =>
        cases g with
        | agg g => rw [List.map_append]; exact .agg (h2 φ _ g) (h3 φ _ gs)
theorem isRT_ok {rs : List RK} {t : RTree} {v : EV} (h : isRT rs t v = true) : ∀ φ u, VR φ v u → ∃ vs, u = resVal vs ∧ ResV rs (t.ev Env.val) vs := by
  obtain ⟨es, h1, h2⟩ := rtR_ok (show rtR t (fun es => List.rec (motive := fun _ => Ans) false (fun _ r _ => List.rec (motive := fun _ => Ans) (cmpRs rs [v] es) (fun _ _ _ => asTuple v fun vs => cmpRs rs vs es) r) rs) = true from h)
  rw [h2]
  intro φ u hv
  match rs, h1 with
  | [], h1 => exact absurd (show false = true from h1) (by decide)
  | [r], h1 =>
    have := cmpRs_ok (show cmpRs [r] [v] es = true from h1) φ [u] (.cons hv .nil)
    exact ⟨[u], rfl, this⟩
  | r :: r2 :: rs, h1 =>
    obtain ⟨vs, rfl, h3⟩ := asTuple_ok (show asTuple v (fun vs => cmpRs (r :: r2 :: rs) vs es) = true from h1)
    cases hv with
    | tuple hv =>
      have := cmpRs_ok h3 φ _ hv
      refine ⟨_, ?_, this⟩
      generalize es.map SE.eval = ns at this
      cases this with
      | one _ h => cases h <;> rfl
      | agg _ h => cases h <;> rfl
end Go.Ev
