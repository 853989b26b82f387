/- Literals, make, copy, calls; all operations. -/
import Derived.Test.YtiadfbpbeaeflaaDoorEvS6
import Derived.Laws.MakeOwn
namespace Go.Ev
open Go.RowKit (Below)
section
variable {P : Program} {C : CallK}

theorem putGo_ok : ∀ {vs l : List EV} {K : List EV → Ans}, putGo vs l K = true → vs.length ≤ l.length ∧ K (vs ++ l.drop vs.length) = true
  | [], l, K, h => ⟨Nat.zero_le _, h⟩
  | v :: vs, [], K, h => absurd (show false = true from h) (by decide)
  | v :: vs, x :: l, K, h => by
    obtain ⟨h1, h2⟩ := putGo_ok (show putGo vs l (fun r => K (v :: r)) = true from h)
    exact ⟨by simp; omega, h2⟩
theorem putAt_ok : ∀ {n : Nat} {vs l : List EV} {K : List EV → Ans}, putAt n vs l K = true → n + vs.length ≤ l.length ∧ K (l.take n ++ vs ++ l.drop (n + vs.length)) = true
  | 0, vs, l, K, h => by
    obtain ⟨h1, h2⟩ := putGo_ok (show putGo vs l K = true from h)
    exact ⟨by omega, by simpa using h2⟩
  | n + 1, vs, [], K, h => absurd (show false = true from h) (by decide)
  | n + 1, vs, x :: l, K, h => by
    obtain ⟨h1, h2⟩ := putAt_ok (show putAt n vs l (fun r => K (x :: r)) = true from h)
    refine ⟨by simp; omega, ?_⟩
    have : n + 1 + vs.length = (n + vs.length) + 1 := by omega
    rw [this]; exact h2
theorem foldl_set (off : Nat) : ∀ (vs : List Value) (k : Nat) (cs : Array Value), off + k + vs.length ≤ cs.size →
    ((vs.zipIdx k).foldl (fun cs (x : Value × Nat) => cs.setIfInBounds (off + x.2) x.1) cs).toList = cs.toList.take (off + k) ++ vs ++ cs.toList.drop (off + k + vs.length)
  | [], k, cs, _ => by simp
  | v :: vs, k, cs, h => by
    simp only [List.length_cons] at h
    simp only [List.zipIdx_cons, List.foldl_cons]
    rw [foldl_set off vs (k + 1) (cs.setIfInBounds (off + k) v) (by simp; omega)]
    have := list_seg_step cs.toList (off + k) v vs (by simp; omega)
    simpa [Nat.add_assoc] using this
theorem fill_ok {T : Tr EV} {place : Nat → Option (Nat × Nat)} : ∀ {parts : List (Nat × Operand)} {ps : List (Nat × Nat × Opd)} {z : List EV} {K : List EV → Ans}, cParts place parts = some ps → fillE T ps z K = true →
    ∃ cs, K cs = true ∧ ∀ {φ : Phi} {ρ : Operand → Value} {z' : List Value}, VRs φ z z' → (∀ x ∈ parts, ∀ p, cOpd x.2 = some p → VR φ (p.run T) (ρ x.2)) →
      ∃ cs' : List Value, Instr.fill place z'.toArray (parts.map fun x => (x.1, ρ x.2)) = some cs'.toArray ∧ VRs φ cs cs'
  | [], ps, z, K, hp, h => by
    cases hp
    exact ⟨z, h, fun hz _ => ⟨_, rfl, hz⟩⟩
  | (i, x) :: parts, ps, z, K, hp, h => by
    unfold cParts at hp
    split at hp
    · rename_i o n a r h1 h2 h3
      cases hp
      obtain ⟨hna, h⟩ := guard_ok (show guardB (notAny (a.run T)) (guardB (Nat.beq (lenN (a.run T).cells) n) (putAt o (a.run T).cells z fun r' => fillE T r r' K)) = true from h)
      obtain ⟨g1, g2⟩ := guard_ok h
      rw [lenN_eq] at g1
      have g1 := Nat.eq_of_beq_eq_true g1
      obtain ⟨g3, g4⟩ := putAt_ok g2
      obtain ⟨cs, g5, g6⟩ := fill_ok h3 g4
      refine ⟨cs, g5, fun {φ ρ z'} hz hρ => ?_⟩
      have hx := (hρ (i, x) List.mem_cons_self a h2).cells hna
      have hzl := hz.length
      have hxl := hx.length
      simp only [Array.length_toList] at hxl
      have hz2 : VRs φ (z.take o ++ (a.run T).cells ++ z.drop (o + (a.run T).cells.length)) (z'.take o ++ (ρ x).cells.toList ++ z'.drop (o + (ρ x).cells.size)) := by
        rw [← hxl]; exact ((hz.take o).append hx).append (hz.drop _)
      obtain ⟨cs', e1, e2⟩ := g6 hz2 fun y hy => hρ y (List.mem_cons_of_mem _ hy)
      refine ⟨cs', ?_, e2⟩
      rw [← e1]
      simp only [List.map_cons, Instr.fill, h1]
      rw [if_neg (by
        have e1 : (ρ x).cells.size = n := by omega
        simp [e1]; omega)]
      congr 1
      apply Array.ext'
      rw [← Array.foldl_toList, Array.toList_zipIdx]
      have := foldl_set o (ρ x).cells.toList 0 z'.toArray (by simp; omega)
      simpa using this
    · cases hp
theorem run_places {w : World} : ∀ (fs : List Field) {pl : List (Nat × Nat)}, cPlaces P fs = some pl → (fs.mapM fun f => do pure (f.offset, ← sizeOf f.type) : Sem (List (Nat × Nat))).run P w = .ok pl w
  | [], pl, h => by cases h; rfl
  | f :: fs, pl, h => by
    unfold cPlaces at h
    split at h
    · rename_i n r h1 h2
      cases h
      simp only [List.mapM_cons, Sem.run_bind, run_sizeOf h1, Result.andThen_ok, Sem.run_pure, run_places fs h2]
    · cases h
theorem build_sound (t : TypeId) (d : TypeDesc) (z : List EV) (parts : Array (Nat × Operand)) (hz : zeroT P t = some z) (hd : P.underlying t = some d) : OpSound P C (.build t parts) (cBuild P d z parts.toList).run := by
  obtain ⟨i, zv, h1, h2, h3⟩ := zeroT_ok hz
  have mem : ∀ x ∈ parts.toList, x.2 ∈ (Op.build t parts).operands := by
    intro x hx
    simp only [Op.operands, List.mem_toArray, List.mem_map]
    exact ⟨x, hx, rfl⟩
  have hmap : ∀ ρ : Operand → Value, (parts.map fun (i, x) => (i, ρ x)).toList = parts.toList.map fun x => (x.1, ρ x.2) := by intro ρ; simp
  unfold cBuild
  split
  · rename_i fs
    split
    · rename_i pl hpl
      split
      · rename_i ps hps
        intro T s K h
        obtain ⟨cs, g1, g2⟩ := fill_ok hps h
        refine still g1 fun w0 φ w ρ o ho _ hρ => ?_
        obtain ⟨dst, op, ty, pos, after, guard⟩ := o; simp only at ho; subst ho
        obtain ⟨cs', e1, e2⟩ := g2 (h3 φ) fun x hx => hρ x.2 (mem x hx)
        refine ⟨.agg cs'.toArray, ?_, .agg e2⟩
        have hp := run_places (P := P) (w := w) fs.toList hpl
        have e1' : Instr.fill (fun x => pl[x]?) zv.cells (parts.toList.map fun x => (x.1, ρ x.2)) = some cs'.toArray := by simpa using e1
        simp only [execOp, Instr.build, Sem.run_bind, run_zeroValue h1 h2, run_underlying' hd, Result.andThen_ok, Array.mapM_eq_mapM_toList, Sem.run_map, hp, hmap, List.getElem?_toArray, e1', Sem.run_pure]
      · exact bad_sound
    · exact bad_sound
  · rename_i len e
    split
    · rename_i n hn
      split
      · rename_i ps hps
        intro T s K h
        obtain ⟨cs, g1, g2⟩ := fill_ok hps h
        refine still g1 fun w0 φ w ρ o ho _ hρ => ?_
        obtain ⟨dst, op, ty, pos, after, guard⟩ := o; simp only at ho; subst ho
        obtain ⟨cs', e1, e2⟩ := g2 (h3 φ) fun x hx => hρ x.2 (mem x hx)
        refine ⟨.agg cs'.toArray, ?_, .agg e2⟩
        have e1' : Instr.fill (fun i => some (i * n, n)) zv.cells (parts.toList.map fun x => (x.1, ρ x.2)) = some cs'.toArray := by simpa using e1
        simp only [execOp, Instr.build, Sem.run_bind, run_zeroValue h1 h2, run_underlying' hd, Result.andThen_ok, run_sizeOf hn, hmap, e1', Sem.run_pure]
      · exact bad_sound
    · exact bad_sound
  · exact bad_sound
theorem replN_get (z : List EV) (n : Nat) (hz : z.length = n) (hn : 0 < n) : ∀ (len i : Nat), (replN z len)[i]? = if i < len * n then z[i % n]? else none
  | 0, i => by
    show ([] : List EV)[i]? = _
    simp
  | len + 1, i => by
    show (appN z (replN z len))[i]? = _
    rw [appN_eq]
    by_cases h : i < n
    · rw [List.getElem?_append_left (by omega), Nat.mod_eq_of_lt h, if_pos (by rw [Nat.add_mul]; omega)]
    · rw [List.getElem?_append_right (by omega), replN_get z n hz hn len]
      have e : (i - z.length) % n = i % n := by rw [hz]; exact (Nat.mod_eq_sub_mod (by omega)).symm
      rw [e, Nat.add_mul]
      by_cases h2 : i - z.length < len * n
      · rw [if_pos h2, if_pos (by omega)]
      · rw [if_neg h2, if_neg (by omega)]
theorem replN_ok {φ : Phi} {z : List EV} {zv : Array Value} {n len : Nat} (h : VRs φ z zv.toList) (hz : z.length = n) (hn : 0 < n) : VRs φ (replN z len) (madeCells zv (len * n)).toList := by
  have hzs : zv.size = n := by have := h.length; simp at this; omega
  have hlen : (replN z len).length = len * n := by
    have h1 := replN_get z n hz hn len (len * n)
    rw [if_neg (by omega)] at h1
    have h2 : (replN z len).length ≤ len * n := by simpa using h1
    by_cases h0 : len * n = 0
    · omega
    · have h3 := replN_get z n hz hn len (len * n - 1)
      rw [if_pos (by omega)] at h3
      have h4 : (len * n - 1) % n < z.length := by rw [hz]; exact Nat.mod_lt _ hn
      rw [List.getElem?_eq_getElem h4] at h3
      have := (List.getElem?_eq_some_iff.1 h3).1
      omega
  refine VRs.of_get (by rw [hlen]; simp [size_madeCells]) fun i v v' h1 h2 => ?_
  have hi : i < len * n := by rw [← hlen]; exact (List.getElem?_eq_some_iff.1 h1).1
  rw [replN_get z n hz hn, if_pos hi] at h1
  obtain ⟨u, e1, e2⟩ := h.get h1
  have : v' = u := by
    have hm : i % n < zv.size := by rw [hzs]; exact Nat.mod_lt _ hn
    simp only [madeCells, Array.toList_map, Array.toList_range, List.getElem?_map, List.getElem?_range hi, Option.map_some, Option.some.injEq] at h2
    rw [← h2, hzs]
    rw [Array.getElem?_toList] at e1
    simp [Array.getElem?_eq_getElem hm] at e1
    rw [getElem!_pos zv (i % n) hm, e1]
  rw [this]; exact e2
theorem buildSlice_sound (t e : TypeId) (len : Nat) (parts : Array (Nat × Operand)) (ht : P.underlying t = some (.slice e)) : OpSound P C (.buildSlice t len parts) (cBuildSlice P e len parts.toList).run := by
  have mem : ∀ x ∈ parts.toList, x.2 ∈ (Op.buildSlice t len parts).operands := by
    intro x hx
    simp only [Op.operands, List.mem_toArray, List.mem_map]
    exact ⟨x, hx, rfl⟩
  have hmap : ∀ ρ : Operand → Value, (parts.map fun (i, x) => (i, ρ x)).toList = parts.toList.map fun x => (x.1, ρ x.2) := by intro ρ; simp
  unfold cBuildSlice
  split
  · rename_i n z hn hz
    obtain ⟨i, zv, h1, h2, h3⟩ := zeroT_ok hz
    split
    · rename_i ps hps
      cases hg1 : Nat.ble (len * n) 16777216 with
      | false => exact bad_sound
      | true => cases hg2 : Nat.beq (lenN z) n with
        | false => exact bad_sound
        | true => cases hg3 : Nat.ble 1 n with
          | false => exact bad_sound
          | true =>
            intro T s K h
            have hl : len * n ≤ 16777216 := Nat.le_of_ble_eq_true hg1
            have hzl : z.length = n := by rw [← lenN_eq]; exact Nat.eq_of_beq_eq_true hg2
            have hn1 : 0 < n := Nat.le_of_ble_eq_true hg3
            obtain ⟨cs, g1, g2⟩ := fill_ok hps (show fillE T ps (replN z len) (fun cs => newB s cs fun b s => K (.slice b 0 len n) s) = true from h)
            refine made (f := fun b => .slice b 0 len n) g1 fun w0 φ w ρ o ho _ hρ => ?_
            obtain ⟨dst, op, ty, pos, after, guard⟩ := o; simp only at ho; subst ho
            obtain ⟨cs', e1, e2⟩ := g2 (replN_ok (len := len) (h3 φ) hzl hn1) fun x hx => hρ x.2 (mem x hx)
            have hcl : cs'.length = len * n := by
              have : cs'.toArray.size = (madeCells zv.cells (len * n)).size := by
                have hfs : ∀ (place : Nat → Option (Nat × Nat)) (ps : List (Nat × Value)) (c r : Array Value), Instr.fill place c ps = some r → r.size = c.size := by
                  intro place ps
                  induction ps with
                  | nil => intro c r h; cases h; rfl
                  | cons p ps ih =>
                    intro c r h
                    obtain ⟨i, v⟩ := p
                    simp only [Instr.fill] at h
                    split at h
                    · cases h
                    · split at h
                      · cases h
                      · rw [ih _ _ h]
                        rw [← Array.foldl_toList]
                        generalize v.cells.zipIdx.toList = l
                        have hf : ∀ (l : List (Value × Nat)) (c : Array Value) (f : Array Value → Value × Nat → Array Value), (∀ c x, (f c x).size = c.size) → (l.foldl f c).size = c.size := by
                          intro l
                          induction l with
                          | nil => intro c f hf; rfl
                          | cons x l ih2 => intro c f hf; rw [List.foldl_cons, ih2 _ _ hf, hf]
                        exact hf l c _ (fun c x => by simp)
                exact hfs _ _ _ _ (by simpa using e1)
              simpa [size_madeCells] using this
            refine ⟨.slice (some ⟨w.heap.size, 0, none⟩) len len, cs', [], e, ?_, e2, fun φ' hφ => ?_⟩
            · have e1' : Instr.fill (fun i => some (i * n, n)) (madeCells zv.cells (len * n)) (parts.toList.map fun x => (x.1, ρ x.2)) = some cs'.toArray := by simpa using e1
              by_cases h0 : len * n = 0
              · have e0 : madeCells zv.cells (len * n) = #[] := by rw [h0]; simp [madeCells]
                rw [e0] at e1'
                simp only [execOp, Instr.buildSlice, Sem.run_bind, run_underlying' ht, Result.andThen_ok, run_sizeOf hn, h0, List.append_nil]
                simp [hmap, e1', newRow, Array.range_zero']
              · have hl' : ¬ (16777216 < len * n) := by omega
                unfold madeCells at e1'
                simp only [execOp, Instr.buildSlice, Sem.run_bind, run_underlying' ht, Result.andThen_ok, run_sizeOf hn, List.append_nil]
                simp [h0, hl', hmap, e1', newRow, run_zeroValue h1 h2]
            · refine VR.slice (rb := w.heap.size) (δ := 0) (S := (cs' ++ []).length) hφ (Nat.le_refl _) ?_
              simp [hcl]
    · exact bad_sound
  · exact bad_sound
end
end Go.Ev
