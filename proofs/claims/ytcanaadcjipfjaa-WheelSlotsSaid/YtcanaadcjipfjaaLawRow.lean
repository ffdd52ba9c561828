/- My own small kit: an argument that is a slice of structs reads as a row. -/
import Derived.Test.YtcanaadcjipfjaaLawOpenI
import Derived.Test.YtcanaadcjipfjaaKitRow
import Derived.Deep.Slices
import Derived.Deep.Strs
import Derived.ChangeMaps5
namespace Go.Proofs.Ytcanaadcjipfjaa
open Go.RowKit Go.ChangeShapes Go.WideShapes Go.ChangeAt Go.ChangeMaps Go.Joins
set_option linter.unusedVariables false
set_option linter.unusedSimpArgs false

theorem open_rows_of {H : Type} {enc : TypeId × Value → H} {α : Type} [Inhabited α] {te ts : TypeId} {z : Nat} {cs : α → List Value} {Q : α → Prop} {w : World} {v : Value} {fuel : Nat} {y : DataW H × List MemPlace}
    (hu : Try.prog.underlying ts = some (.slice te)) (hz : Try.prog.cellsOf te = z) (hpos : 0 < z) (hcs : ∀ x, (cs x).length = z)
    (one : ∀ (k : Nat) (l : List Value) (y : DataW H × List MemPlace), l.length = z → DataW.trod enc Try.prog w 0 (fun _ => true) true k te l = some y → ∃ x : α, l = cs x ∧ Q x)
    (h : DataW.trod enc Try.prog w 0 (fun _ => true) true fuel ts [v] = some y) : ∃ l : List α, IsR z cs w v l ∧ l.length ≤ maxLen ∧ ∀ x ∈ l, Q x := by
  rcases Go.Deep.open_slice hu h with ⟨hc, _⟩ | ⟨a, len, cap, m, n, D, Pl, hc, _, hl, hm, hmm, _, hx⟩
  · simp only [List.cons.injEq, and_true] at hc
    subst hc
    exact ⟨[], IsR.nil _ _ _, Nat.zero_le _, fun d hd => by cases hd⟩
  · simp only [List.cons.injEq, and_true] at hc
    subst hc
    simp only [if_true] at hmm
    rw [hz] at hx
    have each : ∀ i, i < len → ∃ x : α, (∀ c u, (cs x)[c]? = some u → w.cell? (a.add (i * z + c)) = some u) ∧ Q x := fun i hi => by
      obtain ⟨cs', h1, h2⟩ := hx i (by omega)
      obtain ⟨_, hlen, hat⟩ := World.cells?_some h1
      obtain ⟨x, hx1, hx2⟩ := one _ cs' _ hlen h2
      refine ⟨x, fun c u hu => ?_, hx2⟩
      have hcz : c < z := by
        have := (List.getElem?_eq_some_iff.1 hu).1
        rw [hcs] at this
        exact this
      have a0 := hat c (by omega)
      rw [Go.Deep.add_add] at a0
      rw [a0]
      subst hx1
      rw [← hu]
    obtain ⟨f, hf⟩ := Go.Deep.choose_lt (α := α) each
    refine ⟨(List.range len).map f, ⟨some a, cap, by simp, (fun e => by cases e), fun j hj => ?_⟩, by simp; omega, fun d hd => ?_⟩
    · simp only [List.length_map, List.length_range] at hj
      have h0 := (hf 0 (by omega)).1 0 _ (List.getElem?_eq_getElem (by rw [hcs]; exact hpos))
      obtain ⟨b, off, rfl, hp⟩ := addr_plain (u := (cs (f 0))[0]'(by rw [hcs]; exact hpos)) (by simpa using h0)
      refine ⟨b, off, rfl, fun c u hu => ?_⟩
      rw [Nat.add_assoc]
      exact hp _ _ ((hf j hj).1 c u (by simpa using hu))
    · obtain ⟨i, hi, rfl⟩ := List.mem_map.1 hd
      exact (hf i (List.mem_range.1 hi)).2
end Go.Proofs.Ytcanaadcjipfjaa
