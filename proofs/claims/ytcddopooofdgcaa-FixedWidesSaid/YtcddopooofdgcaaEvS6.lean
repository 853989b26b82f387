/- append, copy, make, literals. -/
import Derived.Test.YtcddopooofdgcaaEvS5
namespace Go.Ev
set_option linter.unusedSectionVars false
variable [FactsC] [Env]
open Go.RowKit (Below)
section
variable {P : Program} {C : CallK}
theorem run_append_room' {w : World} (t ty e : TypeId) (i : TypeInfo) (ht : P.underlying t = some (.slice e)) (hi : P.info? e = some i)
    (g q sLen sCap : Nat) (cur : Array Value) (et : TypeId) (hg : w.heap[g]? = some (.cells cur et (0, 0)))
    (a : Addr) (m c : Nat) (news : List Value) (hl : news.length = m * i.size) (hnews : ∀ (j : Nat) (u : Value), news[j]? = some u → w.cell? (a.add j) = some u) (h1 : ∀ u ∈ news, u.oneCell' = true)
    (hroom : sLen + m ≤ sCap) (hfit : q + sLen * i.size + news.length ≤ cur.size) :
    (Builtin.append_ #[t, t] ty #[.slice (some ⟨g, q, none⟩) sLen sCap, .slice (some a) m c]).run P w =
      .ok (.slice (some ⟨g, q, none⟩) (sLen + m) sCap) (w.setRow g (cur.toList.take (q + sLen * i.size) ++ news ++ cur.toList.drop (q + sLen * i.size + news.length)).toArray) := by
  have hf := run_firstCells_some (P := P) w i.size m a m c news hl hnews
  have hst := run_storeCells_at P g (q + sLen * i.size) et news 0 cur w hg (by simpa using hfit) h1
  simp only [Nat.add_zero] at hst
  simp [Builtin.append_, run_underlying' ht, sizeOf, typeInfo, hi, Builtin.lenOf, hroom, hf, addr_add, hst]
theorem run_append_none {w : World} (t ty e : TypeId) (i : TypeInfo) (ht : P.underlying t = some (.slice e)) (hi : P.info? e = some i) (x y : Value)
    (hx : x = .slice none 0 0 ∨ ∃ a n c, x = .slice a n c ∧ n ≤ c) (hy : (∃ c, y = .slice none 0 c) ∨ ∃ a c, y = .slice (some a) 0 c) :
    (Builtin.append_ #[t, t] ty #[x, y]).run P w = .ok x w := by
  rcases hx with rfl | ⟨a, n, c, rfl, hc⟩ <;> rcases hy with ⟨d, rfl⟩ | ⟨b, d, rfl⟩
  · simp [Builtin.append_, run_underlying' ht, sizeOf, typeInfo, hi, Builtin.lenOf, Builtin.firstCells]
  · simp [Builtin.append_, run_underlying' ht, sizeOf, typeInfo, hi, Builtin.lenOf, Builtin.firstCells, loadCells, loadCellsFrom]
  · cases a <;> simp [Builtin.append_, run_underlying' ht, sizeOf, typeInfo, hi, Builtin.lenOf, Builtin.firstCells, hc, storeCells]
  · cases a <;> simp [Builtin.append_, run_underlying' ht, sizeOf, typeInfo, hi, Builtin.lenOf, Builtin.firstCells, loadCells, loadCellsFrom, hc, storeCells]

theorem append_sound (c : Call) (p q : Opd) (t e : TypeId) (i : TypeInfo) (z : List EV) (n : Nat) (hc : c.callee = .builtin .append) (ha : cOpds c.args.toList = some [p, q]) (hts : c.argTypes.toList = [t, t])
    (ht : P.underlying t = some (.slice e)) (hi : P.info? e = some i) (hz : zeroT P e = some z) (hzl : lenN z = i.size) (hby : i.bytes < 1000000) (hn : i.size = n + 1) : OpSound P C (.call c) (xAppend (n + 1) p q) := fun T s K h => by
  obtain ⟨i', zv, hi', hzv, hzs⟩ := zeroT_ok hz
  rw [hi] at hi'; cases hi'
  have hts' : c.argTypes = #[t, t] := by
    apply Array.ext'; simpa using hts
  -- nothing is appended
  have none_case : ∀ (hk : K (p.run T) s = true) (hxs : p.run T = .nils ∨ ∃ b o l z, p.run T = .slice b o l z) (hys : q.run T = .nils ∨ ∃ b o z, q.run T = .slice b o 0 z),
      ∃ v s', K v s' = true ∧ val s.c ≤ val s'.c ∧ ∀ {w0 : World} {φ : Phi} {w : World} {ρ : Operand → Value} (o : Oper), o.op = .call c → Fresh φ s.c s'.c → WR w0 φ s w →
      (∀ x ∈ (Op.call c).operands, ∀ p, cOpd x = some p → VR φ (p.run T) (ρ x)) → NextRun P ((execOp ρ o).run P w) (Snd s s' φ w0 v) := by
    intro hk hxs hys
    refine still hk fun w0 φ w ρ o' ho _ hρ => ?_
    obtain ⟨cs, hr⟩ := run_builtin (P := P) hc (ρ := ρ) ho (w := w)
    obtain ⟨a', b', e, h1, h2⟩ := two_args (call_args ha hρ)
    have h1 : VR φ (p.run T) a' := h1
    have h2 : VR φ (q.run T) b' := h2
    refine ⟨a', ?_, h1⟩
    rw [hr, e, hts']
    have hrun := run_append_none (P := P) (w := w) t o'.type _ i ht hi a' b' (by
      rcases hxs with hx | ⟨_, _, _, _, hx⟩ <;> rw [hx] at h1 <;> cases h1
      · exact .inl rfl
      · exact .inr ⟨_, _, _, rfl, by assumption⟩
      · exact .inr ⟨_, _, _, rfl, Nat.le_refl _⟩) (by
      rcases hys with hx | ⟨_, _, _, hx⟩ <;> rw [hx] at h2 <;> cases h2
      · exact .inl ⟨_, rfl⟩
      · exact .inr ⟨_, _, rfl⟩
      · exact .inr ⟨_, _, rfl⟩)
    simp only [builtin, Sem.run_bind, hrun, Result.andThen_ok, Sem.run_pure]
  unfold xAppend evAppend at h
  rcases asSlice_ok h with ⟨hy, h⟩ | ⟨b2, o2, m, z2, hy, h⟩
  · rcases asSlice_ok h with ⟨hx, h⟩ | ⟨_, _, _, _, hx, h⟩
    · exact none_case h (.inl hx) (.inl hy)
    · exact none_case h (.inr ⟨_, _, _, _, hx⟩) (.inl hy)
  obtain ⟨hz2, hB⟩ := guard_ok h
  have hz2' := Nat.eq_of_beq_eq_true hz2
  clear h hz2
  subst hz2'
  by_cases hm0 : m = 0
  · subst hm0
    rcases asSlice_ok (show asSlice (p.run T) (K (p.run T) s) (fun _ _ _ _ => K (p.run T) s) = true from hB) with ⟨hx, h⟩ | ⟨_, _, _, _, hx, h⟩
    · exact none_case h (.inl hx) (.inr ⟨_, _, _, hy⟩)
    · exact none_case h (.inr ⟨_, _, _, _, hx⟩) (.inr ⟨_, _, _, hy⟩)
  have h : loadB s b2 o2 (Nat.mul m (n + 1)) (fun ys => appendK (n + 1) (p.run T) m ys s K) = true := by
    have : Nat.beq m 0 = false := by rw [Bool.eq_false_iff]; intro hb; exact hm0 (Nat.eq_of_beq_eq_true hb)
    rw [this] at hB; exact hB
  clear hB
  obtain ⟨ys, h, hyl, hyr⟩ := loadB_ok h
  have hyl : ys.length = m * (n + 1) := hyl
  unfold appendK at h
  rcases asSlice_ok h with ⟨hx, h⟩ | ⟨b, o, len, z1, hx, h⟩
  · -- to a nil slice
    obtain ⟨hm, h⟩ := guard_ok h
    have hm := Nat.le_of_ble_eq_true hm
    obtain ⟨s', h1, h2, h3⟩ := newB_ok h
    refine ⟨_, s', h1, by rw [h2, val_inc]; omega, fun {w0 φ w ρ} o' ho hf hw hρ => ?_⟩
    obtain ⟨cs, hr⟩ := run_builtin (P := P) hc (ρ := ρ) ho (w := w)
    obtain ⟨a', b', e', g1, g2⟩ := two_args (call_args ha hρ)
    have g1 : VR φ (p.run T) a' := g1
    have g2 : VR φ (q.run T) b' := g2
    rw [hx] at g1; rw [hy] at g2
    cases g1
    cases g2 with
    | slice0 a hφ => exact absurd rfl hm0
    | slice hφ k1 k2 =>
      rename_i rb δ S cap
      obtain ⟨ys', e1, e2⟩ := hyr hw hφ
      have hrun := run_append_nil (P := P) w t o'.type e i zv ht hi hzv ⟨rb, δ + o2, none⟩ m cap ys' (by rw [← e1.length, hyl, hn]) (fun j v hj => by rw [addr_add]; exact e2 j v hj) (by omega) (by omega) (by
        have : m * i.bytes ≤ 1000000 * 1000000 := Nat.mul_le_mul hm (by omega)
        omega)
      have hfree : φ s.c = none := hf.2 s.c (Nat.le_refl _) (by rw [h2, val_inc]; omega)
      obtain ⟨f1, f2, f3⟩ := h3 e (Builtin.zeroCells zv.cells (grownCap w m 0 e - m)).toList hw.drew hfree e1
      have hrun' : (execOp ρ o').run P w = .ok (.value (.slice (some ⟨w.heap.size, 0, none⟩) m (grownCap w m 0 e))) (w.drew.alloc (.cells (ys' ++ (Builtin.zeroCells zv.cells (grownCap w m 0 e - m)).toList).toArray e)) := by
        rw [hr, e', hts']
        simp only [builtin, Sem.run_bind, hrun, Result.andThen_ok, Sem.run_pure]
        congr 3
        apply Array.ext'; simp
      rw [hrun']
      refine ⟨_, f2, ?_, f3⟩
      have hge := grownCap_ge w m 0 e
      have hzc : zv.cells.size = n + 1 := by
        have := (hzs φ).length; rw [lenN_eq, hn] at hzl; simp at this; omega
      refine VR.slice f1 hge ?_
      simp only [List.length_append, Array.length_toList, size_zeroCells, hzc, ← e1.length, hyl, ← Nat.add_mul]
      simp only [Nat.zero_add]
      exact Nat.mul_le_mul_right _ (by omega)
  · obtain ⟨hz1, hB⟩ := guard_ok h
    have hz1' := Nat.eq_of_beq_eq_true hz1
    clear h hz1
    subst hz1'
    obtain ⟨hlm, hB⟩ := guard_ok hB
    have hlm : len + m ≤ 1000000 := Nat.le_of_ble_eq_true hlm
    obtain ⟨hones, hB⟩ := guard_ok hB
    obtain ⟨k, hk, hB⟩ := oR_ok hB
    -- the new row's cells, as the evaluator knows them
    have key : ∃ (nk : Blk) (bk : Option Blk), K (.slice s.c 0 (len + m) (n + 1)) ⟨inc s.c, Tr.set (some nk) s.c (Tr.set bk b (kill k.mate s.L)), s.R, s.J⟩ = true ∧
        nk.n = len * (n + 1) + ys.length ∧ o + len * (n + 1) ≤ k.n ∧ (∀ k', bk = some k' → k'.mate = some s.c ∧ k'.cells = k.cells ∧ k'.n = k.n ∧ o = 0 ∧ k.n = len * (n + 1)) ∧ nk.mate = (bk.map fun _ => b) ∧
        (∀ j v, j < len * (n + 1) → nk.cells.get (Go.Ev.key j) = some v → k.cells.get (Go.Ev.key (o + j)) = some v) ∧
        (∀ j v, j < ys.length → nk.cells.get (Go.Ev.key (len * (n + 1) + j)) = some v → ys[j]? = some v) := by
      by_cases ho : o = 0
      · subst ho
        have hB : appZ (n + 1) m len b k ys s K = true := hB
        unfold appZ at hB
        rw [fN_eq] at hB
        obtain ⟨hkn, hB⟩ := guard_ok hB
        have hkn : len * (n + 1) ≤ k.n := Nat.le_of_ble_eq_true hkn
        rw [fN_eq, fN_eq, writeC_eq, Tr.setC_eq, Tr.setC_eq, incC_eq, lenN_eq] at hB
        refine ⟨_, _, hB, rfl, by omega, ?_, ?_, fun j v hj hv => ?_, fun j v hj hv => ?_⟩
        · intro k' hk'
          cases hbq : Nat.beq k.n (Nat.mul len (n + 1)) with
          | false => rw [hbq] at hk'; cases hk'
          | true => rw [hbq] at hk'; cases hk'; exact ⟨rfl, rfl, rfl, rfl, Nat.eq_of_beq_eq_true hbq⟩
        · cases Nat.beq k.n (Nat.mul len (n + 1)) <;> rfl
        · have hv : (writeN ys (len * (n + 1)) k.cells).get (Go.Ev.key j) = some v := hv
          rw [get_writeN, if_neg (by omega)] at hv
          rw [Nat.zero_add]; exact hv
        · have hv : (writeN ys (len * (n + 1)) k.cells).get (Go.Ev.key (len * (n + 1) + j)) = some v := hv
          rw [get_writeN, if_pos (by omega), Nat.add_sub_cancel_left] at hv
          exact hv
      · have hB : appO (n + 1) m o len b k ys s K = true := by
          have : Nat.beq o 0 = false := by rw [Bool.eq_false_iff]; intro hb; exact ho (Nat.eq_of_beq_eq_true hb)
          rw [this] at hB; exact hB
        unfold appO at hB
        rw [fN_eq] at hB
        obtain ⟨hkn, hB⟩ := guard_ok hB
        have hkn : o + len * (n + 1) ≤ k.n := Nat.le_of_ble_eq_true hkn
        obtain ⟨xs, hB, hxl, hxs⟩ := readN_ok hB
        have hxl : xs.length = len * (n + 1) := hxl
        rw [fN_eq, fN_eq, writeC_eq, Tr.setC_eq, Tr.setC_eq, incC_eq, lenN_eq, appN_eq] at hB
        refine ⟨_, none, hB, rfl, hkn, (fun k' hk' => by cases hk'), rfl, fun j v hj hv => ?_, fun j v hj hv => ?_⟩
        · have hv : (writeN (xs ++ ys) 0 .nil).get (Go.Ev.key j) = some v := hv
          rw [get_writeN, if_pos (by simp; omega), Nat.sub_zero, List.getElem?_append_left (by omega)] at hv
          obtain ⟨v', e1, e2⟩ := hxs j hj
          rw [hv] at e1; cases e1
          exact e2
        · have hv : (writeN (xs ++ ys) 0 .nil).get (Go.Ev.key (len * (n + 1) + j)) = some v := hv
          rw [get_writeN, if_pos (by simp; omega), Nat.sub_zero, List.getElem?_append_right (by omega)] at hv
          rw [← hv]; congr 1; omega
    obtain ⟨nk, bk, hK, hnk, hokn, hbk, hmate, hold, hnew⟩ := key
    refine ⟨_, _, hK, by show val s.c ≤ val (inc s.c); rw [val_inc]; omega, fun {w0 φ w ρ} o' ho hf hw hρ => ?_⟩
    have hfree : φ s.c = none := hf.2 s.c (Nat.le_refl _) (by show val s.c < val (inc s.c); rw [val_inc]; omega)
    obtain ⟨cs, hr⟩ := run_builtin (P := P) hc (ρ := ρ) ho (w := w)
    obtain ⟨a', b', e', g1, g2⟩ := two_args (call_args ha hρ)
    have g1 : VR φ (p.run T) a' := g1
    have g2 : VR φ (q.run T) b' := g2
    rw [hx] at g1; rw [hy] at g2
    have hzc : zv.cells.size = n + 1 := by
      have := (hzs φ).length; rw [lenN_eq, hn] at hzl; simp at this; omega
    cases g2 with
    | slice0 a hφ => exact absurd rfl hm0
    | slice hφ2 k1 k2 =>
    rename_i rb2 δ2 S2 cap2
    obtain ⟨ys', e1, e2⟩ := hyr hw hφ2
    have hys'l : ys'.length = m * (n + 1) := by rw [← e1.length, hyl]
    obtain ⟨pb, hAt, hlo⟩ := hw.loc b k hk
    have grow : ∀ (ad : Addr) (cap : Nat) (olds : List Value), cap < len + m → olds.length = len * (n + 1) → (∀ (j : Nat) (v : Value), olds[j]? = some v → w.cell? (ad.add j) = some v) →
        (∀ j v, j < len * (n + 1) → nk.cells.get (Go.Ev.key j) = some v → ∃ v', olds[j]? = some v' ∧ VR φ v v') → a' = .slice (some ad) len cap →
        NextRun P ((execOp ρ o').run P w) (Snd s ⟨inc s.c, Tr.set (some nk) s.c (Tr.set bk b (kill k.mate s.L)), s.R, s.J⟩ φ w0 (.slice s.c 0 (len + m) (n + 1))) := by
      intro ad cap olds hcap hol hor hov hea
      have hfit : Builtin.nextslicecap (len + m) cap * i.bytes ≤ 281474976710656 := growslice_fits hcap (by
        have : (len + m) * i.bytes ≤ 1000000 * 1000000 := Nat.mul_le_mul hlm (by omega)
        omega)
      have hrun := run_append_grow (P := P) w t o'.type e i zv ht hi hzv ad len cap olds (by rw [hol, hn]) hor ⟨rb2, δ2 + o2, none⟩ m cap2 ys' (by rw [hys'l, hn]) (fun j v hj => by rw [addr_add]; exact e2 j v hj) hcap (by omega) hfit
      have hrun' : (execOp ρ o').run P w = .ok (.value (.slice (some ⟨w.heap.size, 0, none⟩) (len + m) (grownCap w (len + m) cap e))) (w.drew.alloc (.cells (olds.toArray ++ ys'.toArray ++ Builtin.zeroCells zv.cells (grownCap w (len + m) cap e - (len + m))) e)) := by
        rw [hr, e', hts', hea]
        simp only [builtin, Sem.run_bind, hrun, Result.andThen_ok, Sem.run_pure]
      rw [hrun']
      have hge := grownCap_ge w (len + m) cap e
      generalize hcells : olds.toArray ++ ys'.toArray ++ Builtin.zeroCells zv.cells (grownCap w (len + m) cap e - (len + m)) = cells
      have hsz : cells.size = grownCap w (len + m) cap e * (n + 1) := by
        rw [← hcells]
        simp only [Array.size_append, List.size_toArray, size_zeroCells, hzc, hol, hys'l, ← Nat.add_mul]
        congr 1; omega
      have hget : ∀ j, cells[j]? = if j < len * (n + 1) then olds[j]? else if j < len * (n + 1) + ys'.length then ys'[j - len * (n + 1)]? else cells[j]? := by
        intro j
        split
        · rw [← hcells, Array.append_assoc, Array.getElem?_append_left (by simp; omega)]; simp
        · split
          · rw [← hcells, Array.getElem?_append_left (by simp; omega), Array.getElem?_append_right (by simp; omega)]; simp [hol]
          · rfl
      have hnewheap : (w.drew.alloc (.cells cells e)).heap[w.heap.size]? = some (.cells cells e) := by show (w.heap.push _)[w.heap.size]? = _; simp
      have hbl : Below w.heap.size w (w.drew.alloc (.cells cells e)) := ((Below.refl _ _).drew).alloc (Nat.le_refl _) _
      have hst := Step.put (φ := φ) (w.heap.size, 0, cells.size) hfree
      refine ⟨φ.put s.c (w.heap.size, 0, cells.size), hst, ?_, appendWR hw hk hfree hAt.1 (hbl.mono hw.below.size) hw.below.size ?_ (.inr (Nat.le_refl _)) ?_ ?_ ?_⟩
      · refine VR.slice (rb := w.heap.size) (δ := 0) (S := cells.size) (by simp [Phi.put]) hge ?_
        rw [hsz]; omega
      · intro φ' hx' hself
        refine ⟨hself, cells, e, hnewheap, rfl, ?_, fun j v hj hv => ?_⟩
        · show 0 + nk.n ≤ cells.size
          rw [hnk, hsz, hyl, ← Nat.add_mul]
          have := Nat.mul_le_mul_right (n + 1) hge
          omega
        · show ∃ v', cells[0 + j]? = some v' ∧ VR φ' v v'
          rw [Nat.zero_add, hget]
          rw [hnk] at hj
          by_cases hj1 : j < len * (n + 1)
          · rw [if_pos hj1]
            obtain ⟨v', q1, q2⟩ := hov j v hj1 hv
            exact ⟨v', q1, q2.mono hx'⟩
          · rw [if_neg hj1, if_pos (by rw [← e1.length]; omega)]
            obtain ⟨j', rfl⟩ : ∃ j', j = len * (n + 1) + j' := ⟨j - len * (n + 1), by omega⟩
            have hyv := hnew j' v (by omega) hv
            obtain ⟨v', q1, q2⟩ := e1.get hyv
            rw [Nat.add_sub_cancel_left]
            exact ⟨v', q1, q2.mono hx'⟩
      · intro k' hk'
        obtain ⟨q1, q2, q3, _, _⟩ := hbk k' hk'
        obtain ⟨q4, cs', ty', q5, q6, q7⟩ := hAt
        refine ⟨q1, q4, cs', ty', (hbl.block pb.1 (Array.getElem?_eq_some_iff.1 q5).1).trans q5, q6, ?_, fun j v hj hv => ?_⟩
        · rw [q3]; exact q7.1
        · rw [q2] at hv; rw [q3] at hj; exact q7.2 j v hj hv
      · intro b'' k'' p'' q1 _ _ q2
        obtain ⟨p3, q3, _⟩ := hw.loc b'' k'' q1
        have := q3.1; rw [q2] at this; cases this
        exact hbl.block _ q3.lt
      · exact Others.of_lt fun i hi => hbl.block i hi
    cases g1 with
    | slice0 a'' hφ =>
      exact grow a'' 0 [] (by omega) (by simp) (fun j v hj => by simp at hj) (fun j v hj => by omega) rfl
    | slice hφ k3 k4 =>
    rename_i rb δ S cap
    have hpb : pb = (rb, δ, S) := by have := hAt.1; rw [hφ] at this; cases this; rfl
    subst hpb
    obtain ⟨_, cs', ty', q5, q6, q7⟩ := hAt
    simp only at q5 q6 q7 hlo
    have hb1 := q7.1
    have hlc : (len + m) * (n + 1) = len * (n + 1) + m * (n + 1) := Nat.add_mul _ _ _
    by_cases hroom : len + m ≤ cap
    · have hcapm := Nat.mul_le_mul_right (n + 1) hroom
      have hfit : δ + o + len * (n + 1) + ys'.length ≤ cs'.size := by rw [hys'l]; omega
      have hrun := run_append_room' (P := P) (w := w) t o'.type e i ht hi rb (δ + o) len cap cs' ty' q5 ⟨rb2, δ2 + o2, none⟩ m cap2 ys' (by rw [hys'l, hn]) (fun j v hj => by rw [addr_add]; exact e2 j v hj) (e1.ones hones) hroom (by rw [hn]; exact hfit)
      rw [hn] at hrun
      generalize hcells : (cs'.toList.take (δ + o + len * (n + 1)) ++ ys' ++ cs'.toList.drop (δ + o + len * (n + 1) + ys'.length)).toArray = cells at hrun
      have hrun' : (execOp ρ o').run P w = .ok (.value (.slice (some ⟨rb, δ + o, none⟩) (len + m) cap)) (w.setRow rb cells) := by
        rw [hr, e', hts']
        simp only [builtin, Sem.run_bind, hrun, Result.andThen_ok, Sem.run_pure]
      rw [hrun']
      have hsz : cells.size = cs'.size := by rw [← hcells]; simp; omega
      have hget : ∀ j, cells[j]? = if δ + o + len * (n + 1) ≤ j ∧ j < δ + o + len * (n + 1) + ys'.length then ys'[j - (δ + o + len * (n + 1))]? else cs'[j]? := by
        intro j
        rw [← hcells, List.getElem?_toArray, getElem?_splice _ _ _ (by simp; omega)]
        split <;> simp
      have hnewheap := setRow_heap w rb cs' cells ty' (0, 0) q5
      have hst := Step.put (φ := φ) (rb, δ + o, S) hfree
      refine ⟨φ.put s.c (rb, δ + o, S), hst, VR.slice (rb := rb) (δ := δ + o) (S := S) (by simp [Phi.put]) hroom (by omega),
        appendWR hw hk hfree hφ (below_setRow (Below.refl _ _) hlo _) hlo ?_ (.inl ⟨rfl, hmate⟩) ?_ ?_ ?_⟩
      · intro φ' hx' hself
        refine ⟨hself, cells, ty', hnewheap, hsz.trans q6, ?_, fun j v hj hv => ?_⟩
        · show δ + o + nk.n ≤ cells.size
          rw [hnk, hsz, hyl]; omega
        · show ∃ v', cells[δ + o + j]? = some v' ∧ VR φ' v v'
          rw [hnk] at hj
          rw [hget]
          by_cases hj1 : j < len * (n + 1)
          · rw [if_neg (by omega)]
            obtain ⟨v', r1, r2⟩ := q7.2 (o + j) v (by omega) (hold j v hj1 hv)
            exact ⟨v', by rw [← r1]; congr 1; omega, r2.mono hx'⟩
          · obtain ⟨j', rfl⟩ : ∃ j', j = len * (n + 1) + j' := ⟨j - len * (n + 1), by omega⟩
            rw [if_pos (by rw [hys'l]; omega)]
            obtain ⟨v', r1, r2⟩ := e1.get (hnew j' v (by omega) hv)
            refine ⟨v', ?_, r2.mono hx'⟩
            rw [← r1]; congr 1; omega
      · intro k' hk'
        obtain ⟨r1, r2, r3, r4, r5⟩ := hbk k' hk'
        subst r4
        refine ⟨r1, hφ, cells, ty', hnewheap, hsz.trans q6, ?_, fun j v hj hv => ?_⟩
        · show δ + k'.n ≤ cells.size
          rw [r3, hsz]; exact hb1
        · rw [r2] at hv; rw [r3] at hj
          obtain ⟨v', t1, t2⟩ := q7.2 j v hj hv
          refine ⟨v', ?_, t2⟩
          show cells[δ + j]? = some v'
          rw [hget, if_neg (by omega)]; exact t1
      · intro b'' k'' p'' r1 r2 r3 r4
        refine setRow_other w rb p''.1 _ fun e => ?_
        exact hw.apart b b'' k k'' _ p'' hk r1 (fun e => r2 e.symm) r3 hφ r4 e.symm
      · exact Others.of_except q5 fun i hi _ => setRow_other w rb i _ hi
    · refine grow ⟨rb, δ + o, none⟩ cap ((cs'.toList.drop (δ + o)).take (len * (n + 1))) (by omega) (by simp; omega) (fun j v hj => ?_) (fun j v hj hv => ?_) rfl
      · rw [addr_add]
        have hj2 : j < len * (n + 1) := by
          have := (List.getElem?_eq_some_iff.1 hj).1
          simp at this; omega
        rw [List.getElem?_take, if_pos hj2, List.getElem?_drop] at hj
        simp only [World.cell?, q5]
        simpa using hj
      · obtain ⟨v', r1, r2⟩ := q7.2 (o + j) v (by omega) (hold j v hj hv)
        refine ⟨v', ?_, r2⟩
        rw [List.getElem?_take, if_pos hj, List.getElem?_drop, ← r1, Array.getElem?_toList]
        congr 1; omega
end
end Go.Ev
