/- append, copy, make, literals. -/
import Derived.Test.YtiadfbpbeaeflaaDoorEvS5
namespace Go.Ev
open Go.RowKit (Below)
section
variable {P : Program} {C : CallK}
theorem run_append_room' {w : World} (t ty e : TypeId) (i : TypeInfo) (ht : P.underlying t = some (.slice e)) (hi : P.info? e = some i)
    (g q sLen sCap : Nat) (cur : Array Value) (et : TypeId) (hg : w.heap[g]? = some (.cells cur et (0, 0)))
    (a : Addr) (m c : Nat) (news : List Value) (hl : news.length = m * i.size) (hnews : ∀ (j : Nat) (u : Value), news[j]? = some u → w.cell? (a.add j) = some u) (h1 : ∀ u ∈ news, u.oneCell' = true)
    (hroom : sLen + m ≤ sCap) (hfit : q + sLen * i.size + news.length ≤ cur.size) :
    (Builtin.append_ #[t, t] ty #[.slice (some ⟨g, q, none⟩) sLen sCap, .slice (some a) m c]).run P w =
      .ok (.slice (some ⟨g, q, none⟩) (sLen + m) sCap) (w.setRow g (cur.toList.take (q + sLen * i.size) ++ news ++ cur.toList.drop (q + sLen * i.size + news.length)).toArray) := by
  have hf := run_firstCells_some (P := P) w i.size m a m c news hl hnews
  have hst := run_storeCells_at P g (q + sLen * i.size) et news 0 cur w hg (by simpa using hfit) h1
  simp only [Nat.add_zero] at hst
  simp [Builtin.append_, run_underlying' ht, sizeOf, typeInfo, hi, Builtin.lenOf, hroom, hf, addr_add, hst]
theorem run_append_none {w : World} (t ty e : TypeId) (i : TypeInfo) (ht : P.underlying t = some (.slice e)) (hi : P.info? e = some i) (x y : Value)
    (hx : x = .slice none 0 0 ∨ ∃ a n c, x = .slice a n c ∧ n ≤ c) (hy : (∃ c, y = .slice none 0 c) ∨ ∃ a c, y = .slice (some a) 0 c) :
    (Builtin.append_ #[t, t] ty #[x, y]).run P w = .ok x w := by
  rcases hx with rfl | ⟨a, n, c, rfl, hc⟩ <;> rcases hy with ⟨d, rfl⟩ | ⟨b, d, rfl⟩
  · simp [Builtin.append_, run_underlying' ht, sizeOf, typeInfo, hi, Builtin.lenOf, Builtin.firstCells]
  · simp [Builtin.append_, run_underlying' ht, sizeOf, typeInfo, hi, Builtin.lenOf, Builtin.firstCells, loadCells, loadCellsFrom]
  · cases a <;> simp [Builtin.append_, run_underlying' ht, sizeOf, typeInfo, hi, Builtin.lenOf, Builtin.firstCells, hc, storeCells]
  · cases a <;> simp [Builtin.append_, run_underlying' ht, sizeOf, typeInfo, hi, Builtin.lenOf, Builtin.firstCells, loadCells, loadCellsFrom, hc, storeCells]

theorem append_con (c : Call) (p q : Opd) (t e : TypeId) (i : TypeInfo) (z : List EV) (n : Nat) (hc : c.callee = .builtin .append) (ha : cOpds c.args.toList = some [p, q]) (hts : c.argTypes.toList = [t, t])
    (ht : P.underlying t = some (.slice e)) (hi : P.info? e = some i) (hz : zeroT P e = some z) (hzl : lenN z = i.size) (hby : i.bytes < 1000000) (hn : i.size = n + 1) : OpSound P C (.call c) (fun _ T s K => evAppend (n + 1) (p.run T) (q.run T) s K) := fun T s K h => by
  obtain ⟨i', zv, hi', hzv, hzs⟩ := zeroT_ok hz
  rw [hi] at hi'; cases hi'
  have hts' : c.argTypes = #[t, t] := by
    apply Array.ext'; simpa using hts
  -- nothing is appended
  have none_case : ∀ (hk : K (p.run T) s = true) (hxs : p.run T = .nils ∨ ∃ b o l z, p.run T = .slice b o l z) (hys : q.run T = .nils ∨ ∃ b o z, q.run T = .slice b o 0 z),
      ∃ v s', K v s' = true ∧ val s.c ≤ val s'.c ∧ ∀ {w0 : World} {φ : Phi} {w : World} {ρ : Operand → Value} (o : Oper), o.op = .call c → Fresh φ s.c s'.c → WR w0 φ s w →
      (∀ x ∈ (Op.call c).operands, ∀ p, cOpd x = some p → VR φ (p.run T) (ρ x)) → NextRun P ((execOp ρ o).run P w) (Snd s s' φ w0 v) := by
    intro hk hxs hys
    refine still hk fun w0 φ w ρ o' ho _ hρ => ?_
    obtain ⟨cs, hr⟩ := run_builtin (P := P) hc (ρ := ρ) ho (w := w)
    obtain ⟨a', b', e, h1, h2⟩ := two_args (call_args ha hρ)
    have h1 : VR φ (p.run T) a' := h1
    have h2 : VR φ (q.run T) b' := h2
    refine ⟨a', ?_, h1⟩
    rw [hr, e, hts']
    have hrun := run_append_none (P := P) (w := w) t o'.type _ i ht hi a' b' (by
      rcases hxs with hx | ⟨_, _, _, _, hx⟩ <;> rw [hx] at h1 <;> cases h1
      · exact .inl rfl
      · exact .inr ⟨_, _, _, rfl, by assumption⟩
      · exact .inr ⟨_, _, _, rfl, Nat.le_refl _⟩) (by
      rcases hys with hx | ⟨_, _, _, hx⟩ <;> rw [hx] at h2 <;> cases h2
      · exact .inl ⟨_, rfl⟩
      · exact .inr ⟨_, _, rfl⟩
      · exact .inr ⟨_, _, rfl⟩)
    simp only [builtin, Sem.run_bind, hrun, Result.andThen_ok, Sem.run_pure]
  have h : evAppend (n + 1) (p.run T) (q.run T) s K = true := h
  unfold evAppend at h
  rcases asSlice_ok h with ⟨hy, h⟩ | ⟨b2, o2, m, z2, hy, h⟩
  · rcases asSlice_ok h with ⟨hx, h⟩ | ⟨_, _, _, _, hx, h⟩
    · exact none_case h (.inl hx) (.inl hy)
    · exact none_case h (.inr ⟨_, _, _, _, hx⟩) (.inl hy)
  obtain ⟨hz2, hB⟩ := guard_ok h
  have hz2' := Nat.eq_of_beq_eq_true hz2
  clear h hz2
  subst hz2'
  by_cases hm0 : m = 0
  · subst hm0
    rcases asSlice_ok (show asSlice (p.run T) (K (p.run T) s) (fun _ _ _ _ => K (p.run T) s) = true from hB) with ⟨hx, h⟩ | ⟨_, _, _, _, hx, h⟩
    · exact none_case h (.inl hx) (.inr ⟨_, _, _, hy⟩)
    · exact none_case h (.inr ⟨_, _, _, _, hx⟩) (.inr ⟨_, _, _, hy⟩)
  have h : loadB s b2 o2 (Nat.mul m (n + 1)) (fun ys => appendK (n + 1) (p.run T) m ys s K) = true := by
    have : Nat.beq m 0 = false := by rw [Bool.eq_false_iff]; intro hb; exact hm0 (Nat.eq_of_beq_eq_true hb)
    rw [this] at hB; exact hB
  clear hB
  obtain ⟨ys, h, hyl, hyr⟩ := loadB_ok h
  have hyl : ys.length = m * (n + 1) := hyl
  unfold appendK at h
  rcases asSlice_ok h with ⟨hx, h⟩ | ⟨b, o, len, z1, hx, h⟩
  · -- to a nil slice
    obtain ⟨hm, h⟩ := guard_ok h
    have hm := Nat.le_of_ble_eq_true hm
    obtain ⟨s', h1, h2, h3⟩ := newB_ok h
    refine ⟨_, s', h1, by rw [h2, val_inc]; omega, fun {w0 φ w ρ} o' ho hf hw hρ => ?_⟩
    obtain ⟨cs, hr⟩ := run_builtin (P := P) hc (ρ := ρ) ho (w := w)
    obtain ⟨a', b', e', g1, g2⟩ := two_args (call_args ha hρ)
    have g1 : VR φ (p.run T) a' := g1
    have g2 : VR φ (q.run T) b' := g2
    rw [hx] at g1; rw [hy] at g2
    cases g1
    cases g2 with
    | slice0 a hφ => exact absurd rfl hm0
    | slice hφ k1 k2 =>
      rename_i rb δ S cap
      obtain ⟨ys', e1, e2⟩ := hyr hw hφ
      have hrun := run_append_nil (P := P) w t o'.type e i zv ht hi hzv ⟨rb, δ + o2, none⟩ m cap ys' (by rw [← e1.length, hyl, hn]) (fun j v hj => by rw [addr_add]; exact e2 j v hj) (by omega) (by omega) (by
        have : m * i.bytes ≤ 1000000 * 1000000 := Nat.mul_le_mul hm (by omega)
        omega)
      have hfree : φ s.c = none := hf.2 s.c (Nat.le_refl _) (by rw [h2, val_inc]; omega)
      obtain ⟨f1, f2, f3⟩ := h3 e (Builtin.zeroCells zv.cells (grownCap w m 0 e - m)).toList hw.drew hfree e1
      have hrun' : (execOp ρ o').run P w = .ok (.value (.slice (some ⟨w.heap.size, 0, none⟩) m (grownCap w m 0 e))) (w.drew.alloc (.cells (ys' ++ (Builtin.zeroCells zv.cells (grownCap w m 0 e - m)).toList).toArray e)) := by
        rw [hr, e', hts']
        simp only [builtin, Sem.run_bind, hrun, Result.andThen_ok, Sem.run_pure]
        congr 3
        apply Array.ext'; simp
      rw [hrun']
      refine ⟨_, f2, ?_, f3⟩
      have hge := grownCap_ge w m 0 e
      have hzc : zv.cells.size = n + 1 := by
        have := (hzs φ).length; rw [lenN_eq, hn] at hzl; simp at this; omega
      refine VR.slice f1 hge ?_
      simp only [List.length_append, Array.length_toList, size_zeroCells, hzc, ← e1.length, hyl, ← Nat.add_mul]
      simp only [Nat.zero_add]
      exact Nat.mul_le_mul_right _ (by omega)
  · obtain ⟨hz1, hB⟩ := guard_ok h
    have hz1' := Nat.eq_of_beq_eq_true hz1
    clear h hz1
    subst hz1'
    obtain ⟨hlm, hB⟩ := guard_ok hB
    have hlm : len + m ≤ 1000000 := Nat.le_of_ble_eq_true hlm
    obtain ⟨hones, hB⟩ := guard_ok hB
    obtain ⟨k, hk, hB⟩ := oR_ok hB
    obtain ⟨hcon, hB⟩ := guard_ok hB
    obtain ⟨hcol, hkf⟩ := conB_ok hcon
    -- the new row's cells, as the evaluator knows them
    have key : ∃ (nk : Blk) (bk : Option Blk), K (.slice s.c 0 (len + m) (n + 1)) ⟨inc s.c, Tr.set (some nk) s.c (Tr.set bk b (kill k.mate s.L)), s.R, s.J⟩ = true ∧
        nk.n = len * (n + 1) + ys.length ∧ o + len * (n + 1) ≤ k.n ∧ nk.cols = [] ∧ (∀ k', bk = some k' → k'.mate = some s.c ∧ k'.cells = k.cells ∧ k'.n = k.n ∧ o = 0 ∧ k.n = len * (n + 1) ∧ k'.cols = []) ∧ nk.mate = (bk.map fun _ => b) ∧
        (∀ j v, j < len * (n + 1) → nk.cells.get (Go.Ev.key j) = some v → k.cells.get (Go.Ev.key (o + j)) = some v) ∧
        (∀ j v, j < ys.length → nk.cells.get (Go.Ev.key (len * (n + 1) + j)) = some v → ys[j]? = some v) := by
      by_cases ho : o = 0
      · subst ho
        have hB : appZ (n + 1) m len b k ys s K = true := hB
        unfold appZ at hB
        rw [fN_eq] at hB
        obtain ⟨hkn, hB⟩ := guard_ok hB
        have hkn : len * (n + 1) ≤ k.n := Nat.le_of_ble_eq_true hkn
        rw [fN_eq, fN_eq, writeC_eq, Tr.setC_eq, Tr.setC_eq, incC_eq, lenN_eq] at hB
        refine ⟨_, _, hB, rfl, by omega, rfl, ?_, ?_, fun j v hj hv => ?_, fun j v hj hv => ?_⟩
        · intro k' hk'
          cases hbq : Nat.beq k.n (Nat.mul len (n + 1)) with
          | false => rw [hbq] at hk'; cases hk'
          | true => rw [hbq] at hk'; cases hk'; exact ⟨rfl, rfl, rfl, rfl, Nat.eq_of_beq_eq_true hbq, rfl⟩
        · cases Nat.beq k.n (Nat.mul len (n + 1)) <;> rfl
        · have hv : (writeN ys (len * (n + 1)) k.cells).get (Go.Ev.key j) = some v := hv
          rw [get_writeN, if_neg (by omega)] at hv
          rw [Nat.zero_add]; exact hv
        · have hv : (writeN ys (len * (n + 1)) k.cells).get (Go.Ev.key (len * (n + 1) + j)) = some v := hv
          rw [get_writeN, if_pos (by omega), Nat.add_sub_cancel_left] at hv
          exact hv
      · have hB : appO (n + 1) m o len b k ys s K = true := by
          have : Nat.beq o 0 = false := by rw [Bool.eq_false_iff]; intro hb; exact ho (Nat.eq_of_beq_eq_true hb)
          rw [this] at hB; exact hB
        unfold appO at hB
        rw [fN_eq] at hB
        obtain ⟨hkn, hB⟩ := guard_ok hB
        have hkn : o + len * (n + 1) ≤ k.n := Nat.le_of_ble_eq_true hkn
        obtain ⟨xs, hB, hxl, hxs⟩ := readN_ok hB
        have hxl : xs.length = len * (n + 1) := hxl
        rw [fN_eq, fN_eq, writeC_eq, Tr.setC_eq, Tr.setC_eq, incC_eq, lenN_eq, appN_eq] at hB
        refine ⟨_, none, hB, rfl, hkn, rfl, (fun k' hk' => by cases hk'), rfl, fun j v hj hv => ?_, fun j v hj hv => ?_⟩
        · have hv : (writeN (xs ++ ys) 0 .nil).get (Go.Ev.key j) = some v := hv
          rw [get_writeN, if_pos (by simp; omega), Nat.sub_zero, List.getElem?_append_left (by omega)] at hv
          obtain ⟨v', e1, e2⟩ := hxs j hj
          rw [hv] at e1; cases e1
          exact e2
        · have hv : (writeN (xs ++ ys) 0 .nil).get (Go.Ev.key (len * (n + 1) + j)) = some v := hv
          rw [get_writeN, if_pos (by simp; omega), Nat.sub_zero, List.getElem?_append_right (by omega)] at hv
          rw [← hv]; congr 1; omega
    obtain ⟨nk, bk, hK, hnk, hokn, hnkc, hbk, hmate, hold, hnew⟩ := key
    refine ⟨_, _, hK, by show val s.c ≤ val (inc s.c); rw [val_inc]; omega, fun {w0 φ w ρ} o' ho hf hw hρ => ?_⟩
    have hfree : φ s.c = none := hf.2 s.c (Nat.le_refl _) (by show val s.c < val (inc s.c); rw [val_inc]; omega)
    obtain ⟨cs, hr⟩ := run_builtin (P := P) hc (ρ := ρ) ho (w := w)
    obtain ⟨a', b', e', g1, g2⟩ := two_args (call_args ha hρ)
    have g1 : VR φ (p.run T) a' := g1
    have g2 : VR φ (q.run T) b' := g2
    rw [hx] at g1; rw [hy] at g2
    have hzc : zv.cells.size = n + 1 := by
      have := (hzs φ).length; rw [lenN_eq, hn] at hzl; simp at this; omega
    cases g2 with
    | slice0 a hφ => exact absurd rfl hm0
    | slice hφ2 k1 k2 =>
    rename_i rb2 δ2 S2 cap2
    obtain ⟨ys', e1, e2⟩ := hyr hw hφ2
    have hys'l : ys'.length = m * (n + 1) := by rw [← e1.length, hyl]
    obtain ⟨pb, hAt, hlo⟩ := (hw.loc b k hk).con hcol hkf
    have grow : ∀ (ad : Addr) (cap : Nat) (olds : List Value), cap < len + m → olds.length = len * (n + 1) → (∀ (j : Nat) (v : Value), olds[j]? = some v → w.cell? (ad.add j) = some v) →
        (∀ j v, j < len * (n + 1) → nk.cells.get (Go.Ev.key j) = some v → ∃ v', olds[j]? = some v' ∧ VR φ v v') → a' = .slice (some ad) len cap →
        NextRun P ((execOp ρ o').run P w) (Snd s ⟨inc s.c, Tr.set (some nk) s.c (Tr.set bk b (kill k.mate s.L)), s.R, s.J⟩ φ w0 (.slice s.c 0 (len + m) (n + 1))) := by
      intro ad cap olds hcap hol hor hov hea
      have hfit : Builtin.nextslicecap (len + m) cap * i.bytes ≤ 281474976710656 := growslice_fits hcap (by
        have : (len + m) * i.bytes ≤ 1000000 * 1000000 := Nat.mul_le_mul hlm (by omega)
        omega)
      have hrun := run_append_grow (P := P) w t o'.type e i zv ht hi hzv ad len cap olds (by rw [hol, hn]) hor ⟨rb2, δ2 + o2, none⟩ m cap2 ys' (by rw [hys'l, hn]) (fun j v hj => by rw [addr_add]; exact e2 j v hj) hcap (by omega) hfit
      have hrun' : (execOp ρ o').run P w = .ok (.value (.slice (some ⟨w.heap.size, 0, none⟩) (len + m) (grownCap w (len + m) cap e))) (w.drew.alloc (.cells (olds.toArray ++ ys'.toArray ++ Builtin.zeroCells zv.cells (grownCap w (len + m) cap e - (len + m))) e)) := by
        rw [hr, e', hts', hea]
        simp only [builtin, Sem.run_bind, hrun, Result.andThen_ok, Sem.run_pure]
      rw [hrun']
      have hge := grownCap_ge w (len + m) cap e
      generalize hcells : olds.toArray ++ ys'.toArray ++ Builtin.zeroCells zv.cells (grownCap w (len + m) cap e - (len + m)) = cells
      have hsz : cells.size = grownCap w (len + m) cap e * (n + 1) := by
        rw [← hcells]
        simp only [Array.size_append, List.size_toArray, size_zeroCells, hzc, hol, hys'l, ← Nat.add_mul]
        congr 1; omega
      have hget : ∀ j, cells[j]? = if j < len * (n + 1) then olds[j]? else if j < len * (n + 1) + ys'.length then ys'[j - len * (n + 1)]? else cells[j]? := by
        intro j
        split
        · rw [← hcells, Array.append_assoc, Array.getElem?_append_left (by simp; omega)]; simp
        · split
          · rw [← hcells, Array.getElem?_append_left (by simp; omega), Array.getElem?_append_right (by simp; omega)]; simp [hol]
          · rfl
      have hnewheap : (w.drew.alloc (.cells cells e)).heap[w.heap.size]? = some (.cells cells e) := by show (w.heap.push _)[w.heap.size]? = _; simp
      have hbl : Below w.heap.size w (w.drew.alloc (.cells cells e)) := ((Below.refl _ _).drew).alloc (Nat.le_refl _) _
      have hst := Step.put (φ := φ) (w.heap.size, 0, cells.size) hfree
      refine ⟨φ.put s.c (w.heap.size, 0, cells.size), hst, ?_, appendWR hw hk (real_flat hcol) hkf hfree hAt.1 (hbl.mono hw.below.size) hw.below.size ?_ (.inr (Nat.le_refl _)) ?_ ?_ ?_⟩
      · refine VR.slice (rb := w.heap.size) (δ := 0) (S := cells.size) (by simp [Phi.put]) hge ?_
        rw [hsz]; omega
      · intro φ' hx' hself
        refine ⟨hself, cells, e, hnewheap, rfl, ?_, fun j v hj hv => ?_, fun j c hc' => by rw [hnkc] at hc'; cases hc'⟩
        · show 0 + nk.n ≤ cells.size
          rw [hnk, hsz, hyl, ← Nat.add_mul]
          have := Nat.mul_le_mul_right (n + 1) hge
          omega
        · show ∃ v', cells[0 + j]? = some v' ∧ VR φ' v v'
          rw [Nat.zero_add, hget]
          rw [hnk] at hj
          by_cases hj1 : j < len * (n + 1)
          · rw [if_pos hj1]
            obtain ⟨v', q1, q2⟩ := hov j v hj1 hv
            exact ⟨v', q1, q2.mono hx'⟩
          · rw [if_neg hj1, if_pos (by rw [← e1.length]; omega)]
            obtain ⟨j', rfl⟩ : ∃ j', j = len * (n + 1) + j' := ⟨j - len * (n + 1), by omega⟩
            have hyv := hnew j' v (by omega) hv
            obtain ⟨v', q1, q2⟩ := e1.get hyv
            rw [Nat.add_sub_cancel_left]
            exact ⟨v', q1, q2.mono hx'⟩
      · intro k' hk'
        obtain ⟨q1, q2, q3, _, _, q30⟩ := hbk k' hk'
        obtain ⟨q4, cs', ty', q5, q6, q7⟩ := hAt
        refine ⟨q1, q4, cs', ty', (hbl.block pb.1 (Array.getElem?_eq_some_iff.1 q5).1).trans q5, q6, ?_, fun j v hj hv => ?_, fun j c hc' => by rw [q30] at hc'; cases hc'⟩
        · rw [q3]; exact q7.1
        · rw [q2] at hv; rw [q3] at hj; exact q7.2 j v hj hv
      · intro b'' k'' p'' q1 qr _ _ q2
        obtain ⟨p3, _, q3, _⟩ := (hw.loc b'' k'' q1).real qr
        have := q3.1; rw [q2] at this; cases this
        exact hbl.block _ q3.lt
      · exact Others.of_lt fun i hi => hbl.block i hi
    cases g1 with
    | slice0 a'' hφ =>
      exact grow a'' 0 [] (by omega) (by simp) (fun j v hj => by simp at hj) (fun j v hj => by omega) rfl
    | slice hφ k3 k4 =>
    rename_i rb δ S cap
    have hpb : pb = (rb, δ, S) := by have := hAt.1; rw [hφ] at this; cases this; rfl
    subst hpb
    obtain ⟨_, cs', ty', q5, q6, q7⟩ := hAt
    simp only at q5 q6 q7 hlo
    have hb1 := q7.1
    have hlc : (len + m) * (n + 1) = len * (n + 1) + m * (n + 1) := Nat.add_mul _ _ _
    by_cases hroom : len + m ≤ cap
    · have hcapm := Nat.mul_le_mul_right (n + 1) hroom
      have hfit : δ + o + len * (n + 1) + ys'.length ≤ cs'.size := by rw [hys'l]; omega
      have hrun := run_append_room' (P := P) (w := w) t o'.type e i ht hi rb (δ + o) len cap cs' ty' q5 ⟨rb2, δ2 + o2, none⟩ m cap2 ys' (by rw [hys'l, hn]) (fun j v hj => by rw [addr_add]; exact e2 j v hj) (e1.ones hones) hroom (by rw [hn]; exact hfit)
      rw [hn] at hrun
      generalize hcells : (cs'.toList.take (δ + o + len * (n + 1)) ++ ys' ++ cs'.toList.drop (δ + o + len * (n + 1) + ys'.length)).toArray = cells at hrun
      have hrun' : (execOp ρ o').run P w = .ok (.value (.slice (some ⟨rb, δ + o, none⟩) (len + m) cap)) (w.setRow rb cells) := by
        rw [hr, e', hts']
        simp only [builtin, Sem.run_bind, hrun, Result.andThen_ok, Sem.run_pure]
      rw [hrun']
      have hsz : cells.size = cs'.size := by rw [← hcells]; simp; omega
      have hget : ∀ j, cells[j]? = if δ + o + len * (n + 1) ≤ j ∧ j < δ + o + len * (n + 1) + ys'.length then ys'[j - (δ + o + len * (n + 1))]? else cs'[j]? := by
        intro j
        rw [← hcells, List.getElem?_toArray, getElem?_splice _ _ _ (by simp; omega)]
        split <;> simp
      have hnewheap := setRow_heap w rb cs' cells ty' (0, 0) q5
      have hst := Step.put (φ := φ) (rb, δ + o, S) hfree
      refine ⟨φ.put s.c (rb, δ + o, S), hst, VR.slice (rb := rb) (δ := δ + o) (S := S) (by simp [Phi.put]) hroom (by omega),
        appendWR hw hk (real_flat hcol) hkf hfree hφ (below_setRow (Below.refl _ _) hlo _) hlo ?_ (.inl ⟨rfl, hmate⟩) ?_ ?_ ?_⟩
      · intro φ' hx' hself
        refine ⟨hself, cells, ty', hnewheap, hsz.trans q6, ?_, fun j v hj hv => ?_, fun j c hc' => by rw [hnkc] at hc'; cases hc'⟩
        · show δ + o + nk.n ≤ cells.size
          rw [hnk, hsz, hyl]; omega
        · show ∃ v', cells[δ + o + j]? = some v' ∧ VR φ' v v'
          rw [hnk] at hj
          rw [hget]
          by_cases hj1 : j < len * (n + 1)
          · rw [if_neg (by omega)]
            obtain ⟨v', r1, r2⟩ := q7.2 (o + j) v (by omega) (hold j v hj1 hv)
            exact ⟨v', by rw [← r1]; congr 1; omega, r2.mono hx'⟩
          · obtain ⟨j', rfl⟩ : ∃ j', j = len * (n + 1) + j' := ⟨j - len * (n + 1), by omega⟩
            rw [if_pos (by rw [hys'l]; omega)]
            obtain ⟨v', r1, r2⟩ := e1.get (hnew j' v (by omega) hv)
            refine ⟨v', ?_, r2.mono hx'⟩
            rw [← r1]; congr 1; omega
      · intro k' hk'
        obtain ⟨r1, r2, r3, r4, r5, r50⟩ := hbk k' hk'
        subst r4
        refine ⟨r1, hφ, cells, ty', hnewheap, hsz.trans q6, ?_, fun j v hj hv => ?_, fun j c hc' => by rw [r50] at hc'; cases hc'⟩
        · show δ + k'.n ≤ cells.size
          rw [r3, hsz]; exact hb1
        · rw [r2] at hv; rw [r3] at hj
          obtain ⟨v', t1, t2⟩ := q7.2 j v hj hv
          refine ⟨v', ?_, t2⟩
          show cells[δ + j]? = some v'
          rw [hget, if_neg (by omega)]; exact t1
      · intro b'' k'' p'' r1 rr r2 r3 r4
        refine setRow_other w rb p''.1 _ fun e => ?_
        exact hw.apart b b'' k k'' _ p'' hk r1 (fun e => r2 e.symm) r3 ⟨real_flat hcol, rr, fun e => by rw [hkf] at e; cases e⟩ hφ r4 e.symm
      · exact Others.of_except q5 fun i hi _ => setRow_other w rb i _ hi
    · refine grow ⟨rb, δ + o, none⟩ cap ((cs'.toList.drop (δ + o)).take (len * (n + 1))) (by omega) (by simp; omega) (fun j v hj => ?_) (fun j v hj hv => ?_) rfl
      · rw [addr_add]
        have hj2 : j < len * (n + 1) := by
          have := (List.getElem?_eq_some_iff.1 hj).1
          simp at this; omega
        rw [List.getElem?_take, if_pos hj2, List.getElem?_drop] at hj
        simp only [World.cell?, q5]
        simpa using hj
      · obtain ⟨v', r1, r2⟩ := q7.2 (o + j) v (by omega) (hold j v hj hv)
        refine ⟨v', ?_, r2⟩
        rw [List.getElem?_take, if_pos hj, List.getElem?_drop, ← r1, Array.getElem?_toList]
        congr 1; omega
/-! append of rows -/
theorem get_kill_del {m : Option (List Bool)} {b : List Bool} {L : Heap} {b' : List Bool} {k : Blk} (h : (Tr.set none b (kill m L)).get b' = some k) : L.get b' = some k := by
  rw [Tr.get_set] at h
  split at h
  · cases h
  · rw [get_kill] at h
    split at h
    · cases h
    · exact h
/-- the columns of rows that lie one behind the other -/
theorem crs_app {csa csb : List Value} {cs : Array Value} {δ na nb z : Nat} {cx cy cols : List Col} (h : ∀ (j : Nat) (c : Col), cols[j]? = some c → ∃ (x y : Col), cx[j]? = some x ∧ cy[j]? = some y ∧ AppRel x y c) (hcl : cx.length ≤ z) (hcl' : cy.length ≤ z)
    (ha : CRs csa.toArray 0 na z 0 cx) (hb : CRs csb.toArray 0 nb z 0 cy) (hal : csa.length = na) (h1 : ∀ i u, csa[i]? = some u → cs[δ + i]? = some u) (h2 : ∀ i u, csb[i]? = some u → cs[δ + na + i]? = some u) : ∀ j c, cols[j]? = some c → CR cs δ (na + nb) z j c := by
  intro j c hj
  obtain ⟨x, y, g1, g2, g3⟩ := h j c hj
  have e1 := ha j x g1
  have e2 := hb j y g2
  rw [Nat.zero_add] at e1 e2
  refine g3 e1 e2 (fun i u hi hu => h1 _ _ (by simpa using hu)) fun i u hi hu => h2 _ _ (by simpa using hu)
theorem newRows_eq {s : St} {rows z : Nat} {cols : List Col} {K : EV → St → Ans} (h : newRows s rows z cols K = true) : cols ≠ [] ∧ K (.aslice s.c 0 rows z 1000000) ⟨inc s.c, Tr.set (some ⟨.nil, Nat.mul rows z, none, cols, false⟩) s.c s.L, s.R, s.J⟩ = true := by
  obtain ⟨h1, h2⟩ := guard_ok h
  rw [Tr.setC_eq, incC_eq] at h2
  exact ⟨nilB_f (notB_ok h1), h2⟩
theorem growRows_eq {s : St} {b : List Bool} {m : Option (List Bool)} {rows z : Nat} {cols : List Col} {K : EV → St → Ans} (h : growRows s b m rows z cols K = true) :
    cols ≠ [] ∧ K (.aslice s.c 0 rows z 1000000) ⟨inc s.c, Tr.set (some ⟨.nil, Nat.mul rows z, none, cols, false⟩) s.c (Tr.set none b (kill m s.L)), s.R, s.J⟩ = true := by
  obtain ⟨h1, h2⟩ := guard_ok h
  rw [Tr.setC_eq, Tr.setC_eq, incC_eq] at h2
  exact ⟨nilB_f (notB_ok h1), h2⟩
theorem void_block {z : Nat} {cols : List Col} (hne : cols ≠ []) (h : ∀ j c, cols[j]? = some c → ∃ (cs : Array Value) (δ sz : Nat), 1 ≤ sz ∧ CR cs δ (0 * sz) sz j c) : Blk.void ⟨.nil, Nat.mul 0 z, none, cols, false⟩ := by
  refine ⟨hne, by show 0 * z = 0; omega, fun c hc => ?_⟩
  obtain ⟨j, hj⟩ := List.getElem?_of_mem hc
  obtain ⟨cs, δ, sz, h1, h2⟩ := h j c hj
  have := h2.len
  rw [Nat.zero_mul] at this
  rcases Nat.mul_eq_zero.1 this with h | h
  · exact h
  · omega
/-- the elder block lies somewhere and may be written -/
structure Place6 (w0 : World) (φ : Phi) (s : St) (w : World) (L' : Heap) (rb qq cap z : Nat) : Prop where
  ex : ∃ b k δ S cs ty, s.L.get b = some k ∧ k.fz = false ∧ Real φ b k ∧ φ b = some (rb, δ, S) ∧ w.heap[rb]? = some (.cells cs ty (0, 0)) ∧ cs.size = S ∧ w0.heap.size ≤ rb ∧ qq + cap * z ≤ S ∧ L' = Tr.set none b (kill k.mate s.L)
/-- what is appended to -/
def Olds (w0 : World) (φ : Phi) (s : St) (w : World) (L' : Heap) (a' : Value) (len z : Nat) (olds : List Value) : Prop :=
  (a' = .slice none 0 0 ∧ len = 0) ∨ ∃ ad cap, a' = .slice (some ad) len cap ∧ len ≤ cap ∧ (∀ (j : Nat) (u : Value), olds[j]? = some u → w.cell? (ad.add j) = some u) ∧
    (cap = 0 ∨ ∃ rb qq, ad = ⟨rb, qq, none⟩ ∧ Place6 w0 φ s w L' rb qq cap z)
/-- rows glued to rows -/
def Glue (olds ys : List Value) (na nb z : Nat) (cols : List Col) : Prop := ∀ (cs : Array Value) (δ : Nat), (∀ (i : Nat) (u : Value), olds[i]? = some u → cs[δ + i]? = some u) → (∀ (i : Nat) (u : Value), ys[i]? = some u → cs[δ + na + i]? = some u) →
  ∀ (j : Nat) (c : Col), cols[j]? = some c → CR cs δ (na + nb) z j c
theorem append_fin (c : Call) (p q : Opd) (t e : TypeId) (i : TypeInfo) (z : List EV) (n : Nat) (hc : c.callee = .builtin .append) (ha : cOpds c.args.toList = some [p, q]) (hts : c.argTypes.toList = [t, t])
    (ht : P.underlying t = some (.slice e)) (hi : P.info? e = some i) (hz : zeroT P e = some z) (hzl : lenN z = i.size) (hby : i.bytes < 1000000) (hn : i.size = n + 1)
    {T : Tr EV} {s : St} {K : EV → St → Ans} {m len : Nat} {cy cols : List Col} {L' : Heap} (hcyl : cy.length = n + 1) (hcl : cols.length = n + 1)
    (hcy : ∀ {w0 : World} {φ : Phi} {w : World}, WR w0 φ s w → ∀ v', VR φ (q.run T) v' → ∃ ys, Rows w v' m (n + 1) cy ys)
    (hK : K (.aslice s.c 0 (len + m) (n + 1) 1000000) ⟨inc s.c, Tr.set (some ⟨.nil, Nat.mul (len + m) (n + 1), none, cols, false⟩) s.c L', s.R, s.J⟩ = true)
    (hlm : len + m ≤ 1000000) (hsub : ∀ b k, L'.get b = some k → s.L.get b = some k)
    (hold : ∀ {w0 : World} {φ : Phi} {w : World}, WR w0 φ s w → ∀ a', VR φ (p.run T) a' → ∀ ys b', Rows w b' m (n + 1) cy ys → ∃ olds, olds.length = len * (n + 1) ∧ Olds w0 φ s w L' a' len (n + 1) olds ∧ Glue olds ys (len * (n + 1)) (m * (n + 1)) (n + 1) cols) :
    ∃ v s', K v s' = true ∧ val s.c ≤ val s'.c ∧ ∀ {w0 : World} {φ : Phi} {w : World} {ρ : Operand → Value} (o : Oper), o.op = .call c → Fresh φ s.c s'.c → WR w0 φ s w →
      (∀ x ∈ (Op.call c).operands, ∀ p, cOpd x = some p → VR φ (p.run T) (ρ x)) → NextRun P ((execOp ρ o).run P w) (Snd s s' φ w0 v) := by
  obtain ⟨i', zv, hi', hzv, hzs⟩ := zeroT_ok hz
  rw [hi] at hi'; cases hi'
  have hts' : c.argTypes = #[t, t] := by
    apply Array.ext'; simpa using hts
  have hzc : zv.cells.size = n + 1 := by
    have := (hzs (fun _ => none)).length; rw [lenN_eq, hn] at hzl; simp at this; omega
  have hcne : cols ≠ [] := fun e => by rw [e] at hcl; simp at hcl
  refine ⟨_, _, hK, by show val s.c ≤ val (inc s.c); rw [val_inc]; omega, fun {w0 φ w ρ} o' ho hf hw hρ => ?_⟩
  have hfree : φ s.c = none := hf.2 s.c (Nat.le_refl _) (by show val s.c < val (inc s.c); rw [val_inc]; omega)
  obtain ⟨cs, hr⟩ := run_builtin (P := P) hc (ρ := ρ) ho (w := w)
  obtain ⟨a', b', e', g1, g2⟩ := two_args (call_args ha hρ)
  have g1 : VR φ (p.run T) a' := g1
  have g2 : VR φ (q.run T) b' := g2
  obtain ⟨ys, hys⟩ := hcy hw b' g2
  obtain ⟨olds, hol, hO, hG⟩ := hold hw a' g1 ys b' hys
  obtain ⟨a2, cap2, rfl, hcap2, hya, hyn⟩ := hys.at_
  have hyl := hys.len
  have hone := hys.crs.ones hcyl hyl
  have hw' := hw.less (L := L') hsub
  have voidCols : ∀ j c, cols[j]? = some c → len + m = 0 → ∃ (cs : Array Value) (δ sz : Nat), 1 ≤ sz ∧ CR cs δ (0 * sz) sz j c := fun j c hj h0 => by
    have e1 : len = 0 := by omega
    have e2 : m = 0 := by omega
    refine ⟨#[], 0, n + 1, by omega, ?_⟩
    have := hG #[] 0 (fun i u hu => by have := (List.getElem?_eq_some_iff.1 hu).1; rw [hol, e1] at this; omega) (fun i u hu => by have := (List.getElem?_eq_some_iff.1 hu).1; rw [hyl, e2] at this; omega) j c hj
    rw [e1, e2] at this
    simpa using this
  -- a new block
  have fresh : ∀ {news : Nat} {cells : Array Value}, (execOp ρ o').run P w = .ok (.value (.slice (some ⟨w.heap.size, 0, none⟩) (len + m) news)) (w.drew.alloc (.cells cells e)) → len + m ≤ news → cells.size = news * (n + 1) →
      (∀ (i : Nat) (u : Value), olds[i]? = some u → cells[i]? = some u) → (∀ (i : Nat) (u : Value), ys[i]? = some u → cells[len * (n + 1) + i]? = some u) →
      NextRun P ((execOp ρ o').run P w) (Snd s ⟨inc s.c, Tr.set (some ⟨.nil, Nat.mul (len + m) (n + 1), none, cols, false⟩) s.c L', s.R, s.J⟩ φ w0 (.aslice s.c 0 (len + m) (n + 1) 1000000)) := by
    intro news cells hrun hge hsz h1 h2
    rw [hrun]
    have hnewheap : (w.drew.alloc (.cells cells e)).heap[w.heap.size]? = some (.cells cells e) := by show (w.heap.push _)[w.heap.size]? = _; simp
    have hbl : Below w.heap.size w (w.drew.alloc (.cells cells e)) := ((Below.refl _ _).drew).alloc (Nat.le_refl _) _
    have hst := Step.put (φ := φ) (w.heap.size, 0, cells.size) hfree
    have hmul := Nat.mul_le_mul_right (n + 1) hge
    refine ⟨φ.put s.c (w.heap.size, 0, cells.size), hst, ?_, addWR hw' hfree hbl (.inr ⟨Nat.le_refl _, ?_⟩)⟩
    · have := VR.aslice (φ := φ.put s.c (w.heap.size, 0, cells.size)) (b := s.c) (o := 0) (len := len + m) (sz := n + 1) (mx := 1000000) (rb := w.heap.size) (δ := 0) (S := cells.size) (cap := news) (by simp [Phi.put]) hge (by rw [hsz]; omega) hlm
      simpa using this
    · refine ⟨by simp [Phi.put], cells, e, hnewheap, rfl, ?_, fun i v hi hv => ?_, fun j col hj => ?_⟩
      · show 0 + (len + m) * (n + 1) ≤ cells.size
        rw [hsz]; omega
      · have : (Tr.nil : Tr EV).get (key i) = some v := hv
        rw [Tr.get_nil] at this; cases this
      · show CR cells 0 ((len + m) * (n + 1)) cols.length j col
        rw [hcl, Nat.add_mul]
        exact hG cells 0 (fun i u hu => by rw [Nat.zero_add]; exact h1 i u hu) (fun i u hu => by rw [Nat.zero_add]; exact h2 i u hu) j col hj
  by_cases hm0 : m = 0
  · -- nothing comes: the slice itself
    subst hm0
    have hrun0 := run_append_none (P := P) (w := w) t o'.type _ i ht hi a' (.slice a2 0 cap2) (by
      rcases hO with ⟨rfl, _⟩ | ⟨ad, cap, rfl, hle, _, _⟩
      · exact .inl rfl
      · exact .inr ⟨_, _, _, rfl, hle⟩) (by
      cases a2 with
      | none => exact .inl ⟨_, rfl⟩
      | some x => exact .inr ⟨_, _, rfl⟩)
    have hrun : (execOp ρ o').run P w = .ok (.value a') w := by
      rw [hr, e', hts']
      simp only [builtin, Sem.run_bind, hrun0, Result.andThen_ok, Sem.run_pure]
    have gone : len = 0 → (a' = .slice none 0 0 ∨ ∃ ad, a' = .slice (some ad) 0 0) → NextRun P ((execOp ρ o').run P w) (Snd s ⟨inc s.c, Tr.set (some ⟨.nil, Nat.mul (len + 0) (n + 1), none, cols, false⟩) s.c L', s.R, s.J⟩ φ w0 (.aslice s.c 0 (len + 0) (n + 1) 1000000)) := by
      intro e0 hea
      subst e0
      rw [hrun]
      have hst := Step.put (φ := φ) (0, 0, 0) hfree
      refine ⟨φ.put s.c (0, 0, 0), hst, ?_, addWR hw' hfree (Below.refl _ _) (.inl ⟨?_, rfl⟩)⟩
      · rcases hea with rfl | ⟨ad, rfl⟩
        · exact .aslice0 (p := (0, 0, 0)) none (by simp [Phi.put])
        · exact .aslice0 (p := (0, 0, 0)) (some ad) (by simp [Phi.put])
      · exact void_block (z := n + 1) hcne fun j c hj => voidCols j c hj rfl
    rcases hO with ⟨hea, e0⟩ | ⟨ad, cap, hea, hle, holdc, hcap⟩
    · exact gone e0 (.inl hea)
    · rcases hcap with hcap | ⟨rb, qq, rfl, ⟨b, k, δ, S, cs', ty', q1, q2, q3, q4, q5, q6, q7, q8, q9⟩⟩
      · have e0 : len = 0 := by omega
        refine gone e0 (.inr ⟨ad, by rw [hea, hcap, e0]⟩)
      · subst q9
        rw [hrun, hea]
        have hst := Step.put (φ := φ) (rb, qq, S) hfree
        refine ⟨φ.put s.c (rb, qq, S), hst, ?_, appendWR hw q1 q3 q2 hfree q4 (Below.refl _ _) q7 ?_ (.inl ⟨rfl, rfl⟩) (fun k' hk' => by cases hk') (fun b' k' p' _ _ _ _ _ => rfl) (Others.refl _)⟩
        · have := VR.aslice (φ := φ.put s.c (rb, qq, S)) (b := s.c) (o := 0) (len := len + 0) (sz := n + 1) (mx := 1000000) (rb := rb) (δ := qq) (S := S) (cap := cap) (by simp [Phi.put]) (by omega) (by omega) hlm
          simpa using this
        · intro φ' hx' hself
          refine ⟨hself, cs', ty', q5, q6, ?_, fun i v hi hv => ?_, fun j col hj => ?_⟩
          · show qq + (len + 0) * (n + 1) ≤ cs'.size
            have := Nat.mul_le_mul_right (n + 1) hle
            rw [q6, Nat.add_zero]; omega
          · have : (Tr.nil : Tr EV).get (key i) = some v := hv
            rw [Tr.get_nil] at this; cases this
          · show CR cs' qq ((len + 0) * (n + 1)) cols.length j col
            rw [hcl, Nat.add_mul]
            refine hG cs' qq (fun i u hu => ?_) (fun i u hu => by have := (List.getElem?_eq_some_iff.1 hu).1; rw [hyl] at this; omega) j col hj
            have := holdc i u hu
            rw [addr_add] at this
            simpa [World.cell?, q5] using this
  · obtain ⟨ad2, rfl⟩ : ∃ ad2, a2 = some ad2 := by
      cases a2 with
      | none => exact absurd rfl (hyn hm0)
      | some x => exact ⟨x, rfl⟩
    have hyc := hya ad2 rfl
    have grow : ∀ (ad : Addr) (cap : Nat), cap < len + m → (∀ (j : Nat) (v : Value), olds[j]? = some v → w.cell? (ad.add j) = some v) → a' = .slice (some ad) len cap →
        NextRun P ((execOp ρ o').run P w) (Snd s ⟨inc s.c, Tr.set (some ⟨.nil, Nat.mul (len + m) (n + 1), none, cols, false⟩) s.c L', s.R, s.J⟩ φ w0 (.aslice s.c 0 (len + m) (n + 1) 1000000)) := by
      intro ad cap hcap hor hea
      have hfit : Builtin.nextslicecap (len + m) cap * i.bytes ≤ 281474976710656 := growslice_fits hcap (by
        have : (len + m) * i.bytes ≤ 1000000 * 1000000 := Nat.mul_le_mul hlm (by omega)
        omega)
      have hrun := run_append_grow (P := P) w t o'.type e i zv ht hi hzv ad len cap olds (by rw [hol, hn]) hor ad2 m cap2 ys (by rw [hyl, hn]) hyc hcap (by omega) hfit
      have hge := grownCap_ge w (len + m) cap e
      refine fresh (news := grownCap w (len + m) cap e) (cells := olds.toArray ++ ys.toArray ++ Builtin.zeroCells zv.cells (grownCap w (len + m) cap e - (len + m))) ?_ hge ?_ (fun j u hu => ?_) (fun j u hu => ?_)
      · rw [hr, e', hts', hea]
        simp only [builtin, Sem.run_bind, hrun, Result.andThen_ok, Sem.run_pure]
      · simp only [Array.size_append, List.size_toArray, size_zeroCells, hzc, hol, hyl, ← Nat.add_mul]
        congr 1; omega
      · have hj := (List.getElem?_eq_some_iff.1 hu).1
        rw [Array.append_assoc, Array.getElem?_append_left (by simp; exact hj)]; simpa using hu
      · have hj := (List.getElem?_eq_some_iff.1 hu).1
        rw [Array.getElem?_append_left (by simp; omega), Array.getElem?_append_right (by simp; omega)]
        simp only [List.size_toArray, hol, Nat.add_sub_cancel_left, List.getElem?_toArray]; exact hu
    rcases hO with ⟨hea, e0⟩ | ⟨ad, cap, hea, hle, holdc, hcap⟩
    · -- to a nil slice
      subst e0
      have hrun := run_append_nil (P := P) w t o'.type e i zv ht hi hzv ad2 m cap2 ys (by rw [hyl, hn]) hyc (by omega) (by omega) (by
        have : m * i.bytes ≤ 1000000 * 1000000 := Nat.mul_le_mul (by omega) (by omega)
        omega)
      have hge := grownCap_ge w m 0 e
      refine fresh (news := grownCap w m 0 e) (cells := ys.toArray ++ Builtin.zeroCells zv.cells (grownCap w m 0 e - m)) ?_ (by rw [Nat.zero_add]; exact hge) ?_ (fun j u hu => ?_) (fun j u hu => ?_)
      · rw [hr, e', hts', hea]
        simp only [builtin, Sem.run_bind, hrun, Result.andThen_ok, Sem.run_pure, Nat.zero_add]
      · simp only [Array.size_append, List.size_toArray, size_zeroCells, hzc, hyl, ← Nat.add_mul]
        congr 1; omega
      · have hj := (List.getElem?_eq_some_iff.1 hu).1; rw [hol] at hj; omega
      · have hj := (List.getElem?_eq_some_iff.1 hu).1
        rw [Nat.zero_mul, Nat.zero_add, Array.getElem?_append_left (by simp; exact hj)]; simpa using hu
    · by_cases hroom : len + m ≤ cap
      · rcases hcap with hcap | ⟨rb, qq, rfl, ⟨b, k, δ, S, cs', ty', q1, q2, q3, q4, q5, q6, q7, q8, q9⟩⟩
        · omega
        subst q9
        have hcapm := Nat.mul_le_mul_right (n + 1) hroom
        have hlc : (len + m) * (n + 1) = len * (n + 1) + m * (n + 1) := Nat.add_mul _ _ _
        have hfit : qq + len * (n + 1) + ys.length ≤ cs'.size := by rw [hyl]; omega
        have hrun := run_append_room' (P := P) (w := w) t o'.type e i ht hi rb qq len cap cs' ty' q5 ad2 m cap2 ys (by rw [hyl, hn]) hyc hone hroom (by rw [hn]; exact hfit)
        rw [hn] at hrun
        generalize hcells : (cs'.toList.take (qq + len * (n + 1)) ++ ys ++ cs'.toList.drop (qq + len * (n + 1) + ys.length)).toArray = cells at hrun
        have hrun' : (execOp ρ o').run P w = .ok (.value (.slice (some ⟨rb, qq, none⟩) (len + m) cap)) (w.setRow rb cells) := by
          rw [hr, e', hts', hea]
          simp only [builtin, Sem.run_bind, hrun, Result.andThen_ok, Sem.run_pure]
        rw [hrun']
        have hsz : cells.size = cs'.size := by rw [← hcells]; simp; omega
        have hget : ∀ j, cells[j]? = if qq + len * (n + 1) ≤ j ∧ j < qq + len * (n + 1) + ys.length then ys[j - (qq + len * (n + 1))]? else cs'[j]? := by
          intro j
          rw [← hcells, List.getElem?_toArray, getElem?_splice _ _ _ (by simp; omega)]
          split <;> simp
        have hnewheap := setRow_heap w rb cs' cells ty' (0, 0) q5
        have hst := Step.put (φ := φ) (rb, qq, S) hfree
        refine ⟨φ.put s.c (rb, qq, S), hst, ?_, appendWR hw q1 q3 q2 hfree q4 (below_setRow (Below.refl _ _) q7 _) q7 ?_ (.inl ⟨rfl, rfl⟩) (fun k' hk' => by cases hk') ?_ ?_⟩
        · have := VR.aslice (φ := φ.put s.c (rb, qq, S)) (b := s.c) (o := 0) (len := len + m) (sz := n + 1) (mx := 1000000) (rb := rb) (δ := qq) (S := S) (cap := cap) (by simp [Phi.put]) hroom (by omega) hlm
          simpa using this
        · intro φ' hx' hself
          refine ⟨hself, cells, ty', hnewheap, hsz.trans q6, ?_, fun i v hi hv => ?_, fun j col hj => ?_⟩
          · show qq + (len + m) * (n + 1) ≤ cells.size
            rw [hsz, q6]; omega
          · have : (Tr.nil : Tr EV).get (key i) = some v := hv
            rw [Tr.get_nil] at this; cases this
          · show CR cells qq ((len + m) * (n + 1)) cols.length j col
            rw [hcl, Nat.add_mul]
            refine hG cells qq (fun i u hu => ?_) (fun i u hu => ?_) j col hj
            · have hi := (List.getElem?_eq_some_iff.1 hu).1
              rw [hget, if_neg (by omega)]
              have := holdc i u hu
              rw [addr_add] at this
              simpa [World.cell?, q5] using this
            · have hi := (List.getElem?_eq_some_iff.1 hu).1
              rw [hget, if_pos (by omega), Nat.add_sub_cancel_left]; exact hu
        · intro b'' k'' p'' r1 rr r2 r3 r4
          refine setRow_other w rb p''.1 _ fun e => ?_
          exact hw.apart b b'' k k'' _ p'' q1 r1 (fun e => r2 e.symm) r3 ⟨q3, rr, fun e => by rw [q2] at e; cases e⟩ q4 r4 e.symm
        · exact Others.of_except q5 fun i hi _ => setRow_other w rb i _ hi
      · exact grow ad cap (by omega) holdc hea
theorem glue_app {olds ys : List Value} {na nb z : Nat} {cx cy cols : List Col} (h : ∀ (j : Nat) (c : Col), cols[j]? = some c → ∃ (x y : Col), cx[j]? = some x ∧ cy[j]? = some y ∧ AppRel x y c)
    (ha : CRs olds.toArray 0 na z 0 cx) (hb : CRs ys.toArray 0 nb z 0 cy) : Glue olds ys na nb z cols := by
  intro cs δ h1 h2 j c hj
  obtain ⟨x, y, g1, g2, g3⟩ := h j c hj
  have e1 := ha j x g1
  have e2 := hb j y g2
  rw [Nat.zero_add] at e1 e2
  refine g3 e1 e2 (fun i u hi hu => h1 _ _ (by simpa using hu)) fun i u hi hu => h2 _ _ (by simpa using hu)
theorem CR.move {cs cs' : Array Value} {δ δ' n sz j : Nat} {c : Col} (h : CR cs δ n sz j c) (hm : ∀ (i : Nat) (u : Value), cs[δ + i]? = some u → cs'[δ' + i]? = some u) : CR cs' δ' n sz j c := by
  cases c with
  | i k lo hi l => exact ⟨h.1, fun i x hx => ⟨hm _ _ (h.2 i x hx).1, (h.2 i x hx).2⟩⟩
  | b l => exact ⟨h.1, fun i x hx => hm _ _ (h.2 i x hx)⟩
theorem glue_wide {ys : List Value} {nb z : Nat} {cy cols : List Col} (h : ∀ (j : Nat) (c' : Col), cols[j]? = some c' → ∃ c : Col, cy[j]? = some c ∧ ∀ {cs : Array Value} {δ n sz j : Nat}, CR cs δ n sz j c → CR cs δ n sz j c')
    (hb : CRs ys.toArray 0 nb z 0 cy) : Glue [] ys (0 * z) nb z cols := by
  intro cs δ h1 h2 j c hj
  obtain ⟨d, g1, g2⟩ := h j c hj
  have e2 := hb j d g1
  rw [Nat.zero_add] at e2
  rw [Nat.zero_mul, Nat.zero_add]
  exact (g2 e2).move fun i u hu => by have := h2 i u (by simpa using hu); rwa [Nat.zero_mul, Nat.add_zero] at this
theorem append_abs (c : Call) (p q : Opd) (t e : TypeId) (i : TypeInfo) (z : List EV) (n : Nat) (hc : c.callee = .builtin .append) (ha : cOpds c.args.toList = some [p, q]) (hts : c.argTypes.toList = [t, t])
    (ht : P.underlying t = some (.slice e)) (hi : P.info? e = some i) (hz : zeroT P e = some z) (hzl : lenN z = i.size) (hby : i.bytes < 1000000) (hn : i.size = n + 1) : OpSound P C (.call c) (fun _ T s K => evAppendA (n + 1) (p.run T) (q.run T) s K) := fun T s K h => by
  have hts' : c.argTypes = #[t, t] := by
    apply Array.ext'; simpa using hts
  rcases contentQ_ok (show contentQ s (n + 1) (q.run T) (asSl2 (p.run T) (K (p.run T) s) (fun _ _ _ _ => K (p.run T) s) fun _ _ _ _ _ => K (p.run T) s) (fun m cy => appA (n + 1) (p.run T) m cy s K) = true from h) (by omega) with ⟨hk, hempty⟩ | ⟨m, cy, h1, hcyl, hcy⟩
  · -- nothing is appended
    have hk2 : K (p.run T) s = true ∧ ∀ φ a', VR φ (p.run T) a' → a' = .slice none 0 0 ∨ ∃ a n c, a' = .slice a n c ∧ n ≤ c := by
      rcases asSl2_ok hk with ⟨hx, hk⟩ | ⟨_, _, _, _, hx, hk⟩ | ⟨_, _, _, _, _, hx, hk⟩
      · exact ⟨hk, fun φ a' hv => by rw [hx] at hv; cases hv; exact .inl rfl⟩
      · refine ⟨hk, fun φ a' hv => ?_⟩
        rw [hx] at hv
        cases hv with
        | slice _ h1 _ => exact .inr ⟨_, _, _, rfl, h1⟩
        | slice0 => exact .inr ⟨_, _, _, rfl, Nat.le_refl _⟩
      · refine ⟨hk, fun φ a' hv => ?_⟩
        rw [hx] at hv
        cases hv with
        | aslice _ h1 _ _ => exact .inr ⟨_, _, _, rfl, h1⟩
        | aslice0 => exact .inr ⟨_, _, _, rfl, Nat.le_refl _⟩
    refine still hk2.1 fun w0 φ w ρ o' ho _ hρ => ?_
    obtain ⟨cs, hr⟩ := run_builtin (P := P) hc (ρ := ρ) ho (w := w)
    obtain ⟨a', b', e', h1, h2⟩ := two_args (call_args ha hρ)
    have h1 : VR φ (p.run T) a' := h1
    have h2 : VR φ (q.run T) b' := h2
    refine ⟨a', ?_, h1⟩
    rw [hr, e', hts']
    have hrun := run_append_none (P := P) (w := w) t o'.type _ i ht hi a' b' (hk2.2 φ a' h1) (by
      rcases hempty φ b' h2 with rfl | ⟨a, c, rfl⟩
      · exact .inl ⟨_, rfl⟩
      · exact .inr ⟨_, _, rfl⟩)
    simp only [builtin, Sem.run_bind, hrun, Result.andThen_ok, Sem.run_pure]
  · unfold appA at h1
    rcases asSl2_ok h1 with ⟨hx, h1⟩ | ⟨b, o, len, z1, hx, h1⟩ | ⟨b, o, len, z1, mx, hx, h1⟩
    · obtain ⟨hm, h1⟩ := reqB_ok h1
      obtain ⟨cols, h1, hcl, hwid⟩ := widen_ok h1
      obtain ⟨_, hK⟩ := newRows_eq h1
      refine append_fin c p q t e i z n hc ha hts ht hi hz hzl hby hn (len := 0) hcyl (by rw [hcl, hcyl]) hcy (by rw [Nat.zero_add]; exact hK) (by omega) (fun b k h => h) fun {w0 φ w} hw a' hv ys b' hR => ?_
      rw [hx] at hv
      cases hv
      exact ⟨[], by simp, .inl ⟨rfl, rfl⟩, glue_wide hwid hR.crs⟩
    · obtain ⟨hz1, h1'⟩ := guard_ok h1
      clear h1 h
      have hz1 := Nat.eq_of_beq_eq_true hz1
      subst hz1
      obtain ⟨hlm, h1⟩ := reqB_ok h1'
      obtain ⟨k, hk, h1⟩ := oR_ok h1
      obtain ⟨hcon, h1⟩ := guard_ok h1
      obtain ⟨hcol, hkf⟩ := conB_ok hcon
      have place : ∀ {w0 : World} {φ : Phi} {w : World} {rb δ S cap : Nat}, WR w0 φ s w → φ b = some (rb, δ, S) → δ + o + cap * (n + 1) ≤ S → Place6 w0 φ s w (Tr.set none b (kill k.mate s.L)) rb (δ + o) cap (n + 1) := fun {w0 φ w rb δ S cap} hw hφ hS => by
        obtain ⟨pb, ⟨hp, cs, ty, q5, q6, _⟩, hlo⟩ := (hw.loc b k hk).con hcol hkf
        rw [hφ] at hp; cases hp
        exact ⟨b, k, δ, S, cs, ty, hk, hkf, real_flat hcol, hφ, q5, q6, hlo, hS, rfl⟩
      cases hb : Nat.beq len 0 with
      | true =>
        rw [hb, bR_true] at h1
        obtain ⟨cols, h2, hcl, hwid⟩ := widen_ok h1
        obtain ⟨_, hK⟩ := growRows_eq h2
        have e0 := Nat.eq_of_beq_eq_true hb
        subst e0
        refine append_fin c p q t e i z n hc ha hts ht hi hz hzl hby hn (len := 0) hcyl (by rw [hcl, hcyl]) hcy (by rw [Nat.zero_add]; exact hK) (by omega) (fun b' k' h => get_kill_del h) fun {w0 φ w} hw a' hv ys b' hR => ?_
        rw [hx] at hv
        cases hv with
        | slice hφ g1 g2 => exact ⟨[], by simp, .inr ⟨_, _, rfl, g1, fun j u hu => by simp at hu, .inr ⟨_, _, rfl, place hw hφ g2⟩⟩, glue_wide hwid hR.crs⟩
        | slice0 a hφ => exact ⟨[], by simp, .inr ⟨_, _, rfl, Nat.le_refl _, fun j u hu => by simp at hu, .inl rfl⟩, glue_wide hwid hR.crs⟩
      | false =>
        rw [hb, bR_false] at h1
        have hne : len ≠ 0 := fun e => by subst e; cases hb
        obtain ⟨hfit, h1⟩ := guard_ok h1
        have hfit : o + len * (n + 1) ≤ k.n := Nat.le_of_ble_eq_true hfit
        obtain ⟨cells, h2, h3, h4⟩ := readN_ok h1
        have h3 : cells.length = len * (n + 1) := h3
        obtain ⟨cx, h5, h6, h7⟩ := rowsOf_ok h2
        obtain ⟨cols, h8, hcl, hcl2, happ⟩ := appCols_ok h5
        obtain ⟨_, hK⟩ := growRows_eq h8
        refine append_fin c p q t e i z n hc ha hts ht hi hz hzl hby hn (len := len) hcyl (by rw [hcl, h6]) hcy hK hlm (fun b' k' h => get_kill_del h) fun {w0 φ w} hw a' hv ys b' hR => ?_
        rw [hx] at hv
        cases hv with
        | slice0 a hφ => exact absurd rfl hne
        | slice hφ g1 g2 =>
          rename_i rb δ S cap
          obtain ⟨pb, ⟨hp, cs, ty, q5, q6, q7⟩, hlo⟩ := (hw.loc b k hk).con hcol hkf
          rw [hφ] at hp; cases hp
          have hb1 := q7.1
          simp only at q5 q6 q7 hb1
          refine ⟨(cs.toList.drop (δ + o)).take (len * (n + 1)), by simp; omega, .inr ⟨_, _, rfl, g1, fun j u hu => ?_, .inr ⟨_, _, rfl, place hw hφ g2⟩⟩, glue_app happ ?_ hR.crs⟩
          · have hj2 : j < len * (n + 1) := by
              have := (List.getElem?_eq_some_iff.1 hu).1
              simp at this; omega
            rw [addr_add, ← hu, List.getElem?_take, if_pos hj2, List.getElem?_drop]
            simp [World.cell?, q5]
          · intro j col hj
            obtain ⟨vs, r1, r2, r3⟩ := h7 j col hj
            refine CR_of (cells := cells) r1 r2 r3 (φ := φ) fun i v hi => ?_
            have hi2 : i < len * (n + 1) := by rw [← h3]; exact (List.getElem?_eq_some_iff.1 hi).1
            obtain ⟨v1, e1, e2⟩ := h4 i hi2
            rw [hi] at e1; cases e1
            obtain ⟨v', t1, t2⟩ := q7.2 (o + i) v (by omega) e2
            refine ⟨v', ?_, t2⟩
            rw [Nat.zero_add, List.getElem?_toArray, List.getElem?_take, if_pos hi2, List.getElem?_drop, Array.getElem?_toList, ← t1]
            congr 1; omega
    · obtain ⟨hz1, h1'⟩ := guard_ok h1
      clear h1 h
      have hz1 := Nat.eq_of_beq_eq_true hz1
      subst hz1
      obtain ⟨hlm, h1⟩ := reqB_ok h1'
      obtain ⟨k, hk, h1⟩ := oR_ok h1
      obtain ⟨hkf, h1⟩ := guard_ok h1
      have hkf := notB_ok hkf
      obtain ⟨_, h1⟩ := guard_ok h1
      obtain ⟨hcl0, h1⟩ := guard_ok h1
      have hcl0 := Nat.eq_of_beq_eq_true hcl0
      rw [lenN_eq] at hcl0
      obtain ⟨hfit, h1⟩ := reqB_ok h1
      obtain ⟨cols, h8, hcl, hcl2, happ⟩ := appCols_ok h1
      obtain ⟨_, hK⟩ := growRows_eq h8
      refine append_fin c p q t e i z n hc ha hts ht hi hz hzl hby hn (len := len) hcyl (by rw [hcl, subCols_length, hcl0]) hcy hK hlm (fun b' k' h => get_kill_del h) fun {w0 φ w} hw a' hv ys b' hR => ?_
      rw [hx] at hv
      have zero : len = 0 → CRs ([] : List Value).toArray 0 (len * (n + 1)) (n + 1) 0 (subCols o len k.cols) := fun e j c hj => by
        obtain ⟨d, _, rfl⟩ := subCols_get hj
        subst e; exact sub_zero_CR
      cases hv with
      | aslice0 a hφ =>
        refine ⟨[], by simp, ?_, glue_app happ (zero rfl) hR.crs⟩
        cases a with
        | none => exact .inl ⟨rfl, rfl⟩
        | some ad => exact .inr ⟨_, _, rfl, Nat.le_refl _, fun j u hu => by simp at hu, .inl rfl⟩
      | aslice hφ g1 g2 g3 =>
        rename_i rb δ S cap
        by_cases hg : Gone φ b k
        · have e0 : len = 0 := by
            have := hg.1.2.1
            rw [this] at hfit
            rcases Nat.mul_eq_zero.1 (Nat.le_zero.1 hfit) with h | h
            · omega
            · omega
          have ec : cap = 0 := by
            obtain ⟨_, p, e1, e2⟩ := hg
            rw [hφ] at e1; cases e1
            simp only at e2
            rcases Nat.mul_eq_zero.1 (show cap * (n + 1) = 0 by omega) with h | h <;> omega
          exact ⟨[], by rw [e0]; simp, .inr ⟨_, _, rfl, g1, fun j u hu => by simp at hu, .inl ec⟩, glue_app happ (zero e0) hR.crs⟩
        · obtain ⟨pb, fz', ⟨hp, cs, ty, q5, q6, q7⟩, hfz0, hlo⟩ := (hw.loc b k hk).real hg
          obtain rfl := hfz0 hkf
          rw [hφ] at hp; cases hp
          have hb1 := q7.1
          simp only at q5 q6 q7 hb1 hlo
          have hfit' : o * (n + 1) + len * (n + 1) ≤ k.n := by rw [← Nat.add_mul]; exact hfit
          refine ⟨(cs.toList.drop (δ + o * (n + 1))).take (len * (n + 1)), by simp; omega, .inr ⟨_, _, rfl, g1, fun j u hu => ?_, .inr ⟨_, _, rfl, ⟨b, k, δ, S, cs, ty, hk, hkf, hg, hφ, q5, q6, hlo, by omega, rfl⟩⟩⟩, glue_app happ ?_ hR.crs⟩
          · have hj2 : j < len * (n + 1) := by
              have := (List.getElem?_eq_some_iff.1 hu).1
              simp at this; omega
            rw [addr_add, ← hu, List.getElem?_take, if_pos hj2, List.getElem?_drop]
            simp [World.cell?, q5]
          · intro j col hj
            obtain ⟨d, hd, rfl⟩ := subCols_get hj
            have hcd := q7.cols j d hd
            rw [hcl0] at hcd
            have hcr := Col.sub_ok hcd (by omega) hfit
            have hjz : j < n + 1 := by
              have := (List.getElem?_eq_some_iff.1 hj).1
              rw [subCols_length, hcl0] at this; exact this
            have hclen : (d.sub o len).len = len := Nat.eq_of_mul_eq_mul_right (by omega) hcr.len
            generalize d.sub o len = c at hcr hclen
            have hsame : ∀ i, i < len → ((cs.toList.drop (δ + o * (n + 1))).take (len * (n + 1))).toArray[0 + (i * (n + 1) + (0 + j))]? = cs[δ + o * (n + 1) + (i * (n + 1) + j)]? := fun i hi => by
              have : i * (n + 1) + j < len * (n + 1) := by
                have := Nat.mul_le_mul_right (n + 1) (show i + 1 ≤ len from hi)
                rw [Nat.succ_mul] at this; omega
              rw [Nat.zero_add, Nat.zero_add]
              simp only [List.getElem?_toArray]
              rw [List.getElem?_take, if_pos this, List.getElem?_drop, Array.getElem?_toList]
            cases c with
            | i k lo hi l =>
              have hclen : l.length = len := hclen
              exact ⟨hcr.1, fun i x hx => by rw [hsame i (by have := lt_len hx; omega)]; exact hcr.2 i x hx⟩
            | b l =>
              have hclen : l.length = len := hclen
              exact ⟨hcr.1, fun i x hx => by rw [hsame i (by have := (List.getElem?_eq_some_iff.1 hx).1; omega)]; exact hcr.2 i x hx⟩
theorem append_sound (c : Call) (p q : Opd) (t e : TypeId) (i : TypeInfo) (z : List EV) (n : Nat) (hc : c.callee = .builtin .append) (ha : cOpds c.args.toList = some [p, q]) (hts : c.argTypes.toList = [t, t])
    (ht : P.underlying t = some (.slice e)) (hi : P.info? e = some i) (hz : zeroT P e = some z) (hzl : lenN z = i.size) (hby : i.bytes < 1000000) (hn : i.size = n + 1) : OpSound P C (.call c) (xAppend (n + 1) p q) := fun T s K h => by
  have h : bR (bR (isAbs (p.run T)) true (isAbs (q.run T))) (evAppendA (n + 1) (p.run T) (q.run T) s K) (evAppend (n + 1) (p.run T) (q.run T) s K) = true := h
  cases hb : bR (isAbs (p.run T)) true (isAbs (q.run T)) with
  | true => rw [hb, bR_true] at h; exact append_abs (C := C) c p q t e i z n hc ha hts ht hi hz hzl hby hn T s K h
  | false => rw [hb, bR_false] at h; exact append_con (C := C) c p q t e i z n hc ha hts ht hi hz hzl hby hn T s K h
end
end Go.Ev
