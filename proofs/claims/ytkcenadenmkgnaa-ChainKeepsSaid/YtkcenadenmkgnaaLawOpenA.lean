/- My own small kit: an argument that is a row of deeds (three bytes each). -/
import Derived.Test.YtkcenadenmkgnaaLawOpenI
import Derived.Deep.Slices
namespace Go.Proofs.Ytkcenadenmkgnaa
open Go.RowKit Go.ChangeShapes Go.WideShapes Go.ChangeAt Go.ChangeMaps Go.Joins
set_option linter.unusedVariables false
set_option linter.unusedSimpArgs false

abbrev Deed := Int × Int × Int
def IsA (w : World) (v : Value) (l : List Deed) : Prop :=
  ∃ p cap, v = .slice p l.length cap ∧ ∀ j (h : j < l.length), ∃ b off, p = some ⟨b, off, none⟩ ∧
    w.cell? ⟨b, off + j * 3, none⟩ = some (.int .u8 l[j].1) ∧ w.cell? ⟨b, off + j * 3 + 1, none⟩ = some (.int .u8 l[j].2.1) ∧ w.cell? ⟨b, off + j * 3 + 2, none⟩ = some (.int .u8 l[j].2.2)
/-- a deed's numbers are bytes -/
def Byt (d : Deed) : Prop := (Lit.int .u8 d.1).wf = true ∧ (Lit.int .u8 d.2.1).wf = true ∧ (Lit.int .u8 d.2.2).wf = true
set_option maxRecDepth 100000 in
theorem open_deeds {H : Type} {enc : TypeId × Value → H} {w : World} {v : Value} {fuel : Nat} {y : DataW H × List MemPlace}
    (h : DataW.trod enc Try.prog w 0 (fun _ => true) true fuel 56 [v] = some y) : ∃ l : List Deed, IsA w v l ∧ l.length ≤ maxLen ∧ ∀ d ∈ l, Byt d := by
  rcases Go.Deep.open_slice Try.underlying56 h with ⟨hc, _⟩ | ⟨a, len, cap, m, n, D, Pl, hc, _, hl, hm, hmm, _, hx⟩
  · simp only [List.cons.injEq, and_true] at hc
    subst hc
    exact ⟨[], ⟨none, 0, rfl, fun j hj => by cases hj⟩, Nat.zero_le _, fun d hd => by cases hd⟩
  · simp only [List.cons.injEq, and_true] at hc
    subst hc
    simp only [if_true] at hmm
    have h3 : Try.prog.cellsOf 58 = 3 := by kernel_rfl
    rw [h3] at hx
    have each : ∀ i, i < len → ∃ c : Deed, w.cell? (a.add (i * 3)) = some (.int .u8 c.1) ∧ w.cell? (a.add (i * 3 + 1)) = some (.int .u8 c.2.1) ∧ w.cell? (a.add (i * 3 + 2)) = some (.int .u8 c.2.2) ∧ Byt c := fun i hi => by
      obtain ⟨cs', h1, h2⟩ := hx i (by omega)
      obtain ⟨_, hlen, hat⟩ := World.cells?_some h1
      obtain ⟨xs, k, _, _, _, hxs, hf⟩ := DataW.trod_struct Try.underlying58 h2
      match cs', hlen with
      | [c0, c1, c2], _ =>
        have f0 := hf 0 _ rfl
        have f1 := hf 1 _ rfl
        have f2 := hf 2 _ rfl
        have i1 : Try.prog.cellsOf 5 = 1 := by kernel_rfl
        have hxl : xs.length = 3 := hxs
        rw [List.getElem?_eq_getElem (by omega)] at f0 f1 f2
        replace f0 : DataW.trod enc Try.prog w 0 (fun _ => true) true k 5 (List.take (Try.prog.cellsOf 5) [c0, c1, c2]) = some xs[0] := f0
        replace f1 : DataW.trod enc Try.prog w 0 (fun _ => true) true k 5 (List.take (Try.prog.cellsOf 5) [c1, c2]) = some xs[1] := f1
        replace f2 : DataW.trod enc Try.prog w 0 (fun _ => true) true k 5 (List.take (Try.prog.cellsOf 5) [c2]) = some xs[2] := f2
        rw [i1] at f0 f1 f2
        obtain ⟨g, e0, _, b0⟩ := DataW.trod_int Try.underlying5 f0
        obtain ⟨b, e1, _, b1⟩ := DataW.trod_int Try.underlying5 f1
        obtain ⟨u, e2, _, b2⟩ := DataW.trod_int Try.underlying5 f2
        replace e0 : [c0] = [.int .u8 g] := e0
        replace e1 : [c1] = [.int .u8 b] := e1
        replace e2 : [c2] = [.int .u8 u] := e2
        obtain rfl := (List.cons.inj e0).1
        obtain rfl := (List.cons.inj e1).1
        obtain rfl := (List.cons.inj e2).1
        have a0 := hat 0 (by omega)
        have a1 := hat 1 (by omega)
        have a2 := hat 2 (by omega)
        rw [Go.Deep.add_add] at a0 a1 a2
        exact ⟨(g, b, u), a0, a1, a2, b0, b1, b2⟩
    obtain ⟨f, hf⟩ := Go.Deep.choose_lt (α := Deed) each
    refine ⟨(List.range len).map f, ⟨some a, cap, by simp, fun j hj => ?_⟩, by simp; omega, fun d hd => ?_⟩
    · simp only [List.length_map, List.length_range] at hj
      have hf0 := hf 0 (by omega)
      obtain ⟨b, off, rfl, hp⟩ := addr_plain (u := .int .u8 (f 0).1) (by have := hf0.1; simpa using this)
      obtain ⟨a0, a1, a2, -⟩ := hf j hj
      refine ⟨b, off, rfl, ?_, ?_, ?_⟩
      · rw [hp _ _ a0]; simp
      · rw [Nat.add_assoc, hp _ _ a1]; simp
      · rw [Nat.add_assoc, hp _ _ a2]; simp
    · obtain ⟨i, hi, rfl⟩ := List.mem_map.1 hd
      exact (hf i (List.mem_range.1 hi)).2.2.2
/-- an argument that is a row of deeds -/
theorem open_acts {H : Type} {enc : TypeId × Value → H} {w : World} {v : Value} {d : DataW H} {p : List MemPlace} {b0 : Nat}
    (hval : Value.okWide Try.prog w .any b0 56 v) (h : DataW.Trod enc Try.prog w 0 (fun _ => true) true 56 v d p) :
    ∃ l : List Deed, IsA w v l ∧ l.length ≤ maxLen ∧ ∀ x ∈ l, Byt x := by
  obtain ⟨a, n, c, rfl⟩ := okWide_slice Try.underlying56 hval
  obtain ⟨fuel, hf⟩ := h
  exact open_deeds hf
end Go.Proofs.Ytkcenadenmkgnaa
