/- A laid package variable that is an array of integers: what the row's condition says of its cells. -/
import Derived.Test.YtiadfbpbeaeflaaDoorEvF
import Derived.OpenShut
namespace Go.Ev
theorem laid_ints {P : Program} {name : String} {g n : Nat} {t e : TypeId} {k : IntKind} {ints : List Int} {w : World} (hL : laidMet P [(name, .agg (ints.map fun i => .lit (.int k i)))] w)
    (hn : P.globalNamed name = some g) (hty : (P.globals[g]?).map (·.type) = some t) (ht : P.underlying t = some (.array n e)) (he : P.underlying e = some (.int k)) (hce : P.cellsOf e = 1) (hct : P.cellsOf t = n) (hpos : 0 < n) :
    Laid [(g, ints.map (EV.int k))] w := by
  obtain ⟨ps, ⟨g', t', cs, fuel, p, q, h1, h2, h3, h4, _, h6⟩, _, hc0⟩ := hL
  obtain rfl := Option.some.inj (hn.symm.trans h1)
  obtain rfl := Option.some.inj (hty.symm.trans h2)
  obtain ⟨xs, m, rfl, hx, hl, hxl, hi⟩ := DataW.trod_array ht h4
  have hds : xs.map (·.1) = ints.map fun i => DataW.lit (.int k i) := by
    have := congrArg Prod.fst hx
    simp only at this
    injection this with this
    exact this.symm
  have hil : ints.length = n := by have := congrArg List.length hds; simp at this; omega
  have hcl : cs.toList.length = n := by rw [hl, hct]
  have hcs : cs.toList = ints.map (Value.int k) := by
    refine List.ext_getElem (by simp at hcl ⊢; omega) fun i h7 h8 => ?_
    have hin : i < n := by omega
    have h9 := hi i hin
    rw [hce, Nat.mul_one, List.drop_eq_getElem_cons h7] at h9
    simp only [List.take_succ_cons, List.take_zero] at h9
    rw [List.getElem?_eq_getElem (by omega)] at h9
    obtain ⟨z, e1, e2, _⟩ := DataW.trod_int he h9
    have e3 : (xs.map (·.1))[i]? = some (DataW.lit (.int k z)) := by
      rw [List.getElem?_map, List.getElem?_eq_getElem (by omega), e2]; rfl
    rw [hds, List.getElem?_map, List.getElem?_eq_getElem (by omega)] at e3
    simp at e3
    have e4 : cs.toList[i] = Value.int k z := by simpa using e1
    rw [e4, List.getElem_map, e3]
  have hvar : ∃ ty fz, w.heap[g]? = some (.cells cs ty fz) := by
    unfold World.var? at h3
    rw [hn, Option.bind_some] at h3
    split at h3
    · rename_i c ty fz hh
      cases h3; exact ⟨ty, fz, hh⟩
    · cases h3
  obtain ⟨ty, fz, hh⟩ := hvar
  have hmem : MemPlace.cell g 0 ∈ ps := by
    rw [h6]
    have hs : cs.size = n := by simpa using hcl
    obtain ⟨j, rfl⟩ : ∃ j, n = j + 1 := ⟨n - 1, by omega⟩
    refine List.mem_append_left _ (List.mem_append_left _ ?_)
    rw [hs]
    simp [MemPlace.row]
  obtain ⟨⟨c, t', h10⟩, _⟩ := hc0 g 0 hmem
  rw [hh] at h10
  cases h10
  refine laid_of fun q hq => ?_
  obtain rfl : q = (g, ints.map (EV.int k)) := by simpa using hq
  refine ⟨cs, _, hh, fun φ => ?_⟩
  rw [hcs]
  refine VRs.of_get (by simp) fun i v v' h11 h12 => ?_
  simp only [List.getElem?_map, Option.map_eq_some_iff] at h11 h12
  obtain ⟨a, a1, rfl⟩ := h11
  obtain ⟨b, b1, rfl⟩ := h12
  rw [a1] at b1; cases b1
  exact .int k a
end Go.Ev
