/- My own small kit: slices.SortFunc of a row of structs that a call owns: it holds the same ones, in order. -/
import Derived.Test.YtcanaadcjipfjaaKitRow
import Derived.Shelf.SlSortCmp.WholeK
import Derived.Shelf.SlSortCmp.NoneTotal
namespace Go.Proofs.Ytcanaadcjipfjaa
open Go.RowKit Go.Sort
set_option linter.unusedVariables false
set_option linter.unusedSimpArgs false

section
variable {α : Type} [Inhabited α] {te : TypeId} {z : Nat} {cs : α → List Value}
theorem flat_list (hz : ∀ x, (cs x).length = z) (hp : 0 < z) (l : List α) : (flatK cs z l.toArray).toList = l.flatMap cs := by
  apply List.ext_getElem?
  intro j
  by_cases hj : j < l.length * z
  · have hq : j / z < l.length := Nat.div_lt_of_lt_mul (by rw [Nat.mul_comm]; exact hj)
    have hr : j % z < z := Nat.mod_lt _ hp
    have he : j = j / z * z + j % z := by rw [Nat.mul_comm]; exact (Nat.div_add_mod j z).symm
    have h2 := flat_at hz l (j / z) (j % z) hq hr
    rw [← he] at h2
    have hR : (cs l[j / z])[j % z]? = some ((cs l[j / z])[j % z]'(by rw [hz]; exact hr)) := List.getElem?_eq_getElem _
    rw [h2, hR]
    have hs : j < (flatK cs z l.toArray).toList.length := by simpa using hj
    rw [List.getElem?_eq_getElem hs]
    have h3 := get_flatK cs z l.toArray j (by simpa using hj)
    rw [getElem!_pos _ j (by simpa using hj)] at h3
    rw [Array.getElem_toList, h3, getElem!_pos l.toArray (j / z) (by simpa using hq), getElem!_pos _ (j % z) (by rw [hz]; exact hr)]
    simp
  · rw [List.getElem?_eq_none (by simpa using Nat.not_lt.1 hj), List.getElem?_eq_none (by rw [flat_sz hz]; omega)]
theorem own_holds (hz : ∀ x, (cs x).length = z) (hp : 0 < z) {w : World} {B g n cap : Nat} {l : List α} (h : OwnR te z cs w B (.slice (some ⟨g, 0, none⟩) n cap) l) (hn : n = l.length) : HoldsK cs z w g 0 l.toArray := by
  subst hn
  have h' : w.ownsRow B te z (.slice (some ⟨g, 0, none⟩) l.length cap) l.length (l.flatMap cs) := h
  intro j hj
  have hj' : j < l.length * z := by simpa using hj
  rw [Nat.zero_add]
  refine ⟨?_, h'.frozenAt j⟩
  rw [h'.cellAt j hj', ← flat_list hz hp]
  have hs : j < (flatK cs z l.toArray).toList.length := by simpa using hj
  rw [List.getElem?_eq_getElem hs, Array.getElem_toList, getElem!_pos _ j hj]
  rfl
theorem sort_owns (hz : ∀ x, (cs x).length = z) (hp : 0 < z) {w : World} {B g n cap m : Nat} {l : List α} {os : Array Obj} {d : Array α} (h : OwnR te z cs w B (.slice (some ⟨g, 0, none⟩) n cap) l) (hn : n = l.length) (hd : d.size = l.length) :
    OwnR te z cs (sortWorldK cs z w g 0 m d os) B (.slice (some ⟨g, 0, none⟩) n cap) d.toList ∧ RowKit.Below B w (sortWorldK cs z w g 0 m d os) := by
  rcases h.2 with ⟨hq, -⟩ | ⟨g', cap', cur, hq, hB, hg, hc, hm, hs, ht⟩
  · cases hq
  simp only [Value.slice.injEq, Option.some.injEq, Addr.mk.injEq, and_true] at hq
  obtain ⟨rfl, -, rfl⟩ := hq
  have hlt : g < w.heap.size := (Array.getElem?_eq_some_iff.1 hg).1
  have hF : (flatK cs z d).size = l.length * z := by rw [size_flatK, hd]
  have hnz : l.length * z ≤ cap * z := Nat.mul_le_mul_right z hc
  have hblk : (sortWorldK cs z w g 0 m d os).heap[g]? = some (.cells (putCells id 0 (flatK cs z d) cur) te (0, 0)) := by
    show ((w.heap.modify g (onCells (putCells id 0 (flatK cs z d)))) ++ os)[g]? = _
    rw [Array.getElem?_append_left (by simpa using hlt), Array.getElem?_modify]
    simp [hg, onCells]
  have hsz : (putCells id 0 (flatK cs z d) cur).size = cur.size := by simp [putCells]
  refine ⟨?_, rfl, rfl, rfl, ?_, fun k hk => ?_⟩
  · refine ⟨by rw [flat_sz hz], .inr ⟨g, cap, _, by rw [hn, Array.length_toList (xs := d), hd], hB, hblk, by rw [Array.length_toList (xs := d), hd]; exact hc, hm, by rw [hsz, hs], ?_⟩⟩
    have hfl := flat_list hz hp d.toList
    rw [Array.toArray_toList] at hfl
    rw [← hfl, Array.length_toList (xs := d), hd]
    apply List.ext_getElem?
    intro j
    rw [List.getElem?_take]
    by_cases hj : j < l.length * z
    · rw [if_pos hj]
      have h1 : j < cur.size := by rw [hs]; omega
      have h2 : j < (flatK cs z d).size := by rw [hF]; exact hj
      rw [Array.getElem?_toList, Array.getElem?_toList, Array.getElem?_eq_getElem (by rw [hsz]; exact h1), Array.getElem?_eq_getElem h2]
      simp [putCells]
      rw [if_pos (by rw [hd]; exact hj), getElem!_pos _ j h2]
    · rw [if_neg hj, List.getElem?_eq_none (by rw [Array.length_toList, hF]; omega)]
  · show w.heap.size ≤ ((w.heap.modify g _) ++ os).size
    simp
  · show ((w.heap.modify g _) ++ os)[k]? = _
    rw [Array.getElem?_append_left (by simp; omega), Array.getElem?_modify, if_neg (by omega)]
end
end Go.Proofs.Ytcanaadcjipfjaa
