/- My own small kit: an argument that is a state of lists, the document's; a pair of numbers. -/
import Derived.Test.YtkcenadenmkgnaaLawOpenI
import Derived.Test.YtkcenadenmkgnaaC4A
import Derived.Deep.Slices
namespace Go.Proofs.Ytkcenadenmkgnaa
open Go.RowKit Go.ChangeShapes Go.WideShapes Go.ChangeAt Go.ChangeMaps Go.Joins
set_option linter.unusedVariables false
set_option linter.unusedSimpArgs false

set_option maxRecDepth 100000 in
theorem open_nods {H : Type} {enc : TypeId × Value → H} {w : World} {v : Value} {fuel : Nat} {y : DataW H × List MemPlace}
    (h : DataW.trod enc Try.prog w 0 (fun _ => true) true fuel 22 [v] = some y) : ∃ l : List Nod, IsN w v l ∧ l.length ≤ maxLen := by
  rcases Go.Deep.open_slice Try.underlying22 h with ⟨hc, _⟩ | ⟨a, len, cap, m, n, D, Pl, hc, _, hl, hm, hmm, _, hx⟩
  · simp only [List.cons.injEq, and_true] at hc
    subst hc
    exact ⟨[], ⟨none, 0, rfl, fun j hj => by cases hj⟩, Nat.zero_le _⟩
  · simp only [List.cons.injEq, and_true] at hc
    subst hc
    simp only [if_true] at hmm
    have h3 : Try.prog.cellsOf 64 = 3 := by kernel_rfl
    rw [h3] at hx
    have each : ∀ i, i < len → ∃ c : Nod, w.cell? (a.add (i * 3)) = some (.int .i64 c.1) ∧ w.cell? (a.add (i * 3 + 1)) = some (.int .i64 c.2.1) ∧ w.cell? (a.add (i * 3 + 2)) = some (.int .i64 c.2.2) := fun i hi => by
      obtain ⟨cs', h1, h2⟩ := hx i (by omega)
      obtain ⟨_, hlen, hat⟩ := World.cells?_some h1
      obtain ⟨xs, k, _, _, _, hxs, hf⟩ := DataW.trod_struct Try.underlying64 h2
      match cs', hlen with
      | [c0, c1, c2], _ =>
        have f0 := hf 0 _ rfl
        have f1 := hf 1 _ rfl
        have f2 := hf 2 _ rfl
        have i1 : Try.prog.cellsOf 3 = 1 := by kernel_rfl
        have hxl : xs.length = 3 := hxs
        rw [List.getElem?_eq_getElem (by omega)] at f0 f1 f2
        replace f0 : DataW.trod enc Try.prog w 0 (fun _ => true) true k 3 (List.take (Try.prog.cellsOf 3) [c0, c1, c2]) = some xs[0] := f0
        replace f1 : DataW.trod enc Try.prog w 0 (fun _ => true) true k 3 (List.take (Try.prog.cellsOf 3) [c1, c2]) = some xs[1] := f1
        replace f2 : DataW.trod enc Try.prog w 0 (fun _ => true) true k 3 (List.take (Try.prog.cellsOf 3) [c2]) = some xs[2] := f2
        rw [i1] at f0 f1 f2
        obtain ⟨g, e0, _, _⟩ := DataW.trod_int Try.underlying3 f0
        obtain ⟨b, e1, _, _⟩ := DataW.trod_int Try.underlying3 f1
        obtain ⟨u, e2, _, _⟩ := DataW.trod_int Try.underlying3 f2
        replace e0 : [c0] = [.int .i64 g] := e0
        replace e1 : [c1] = [.int .i64 b] := e1
        replace e2 : [c2] = [.int .i64 u] := e2
        obtain rfl := (List.cons.inj e0).1
        obtain rfl := (List.cons.inj e1).1
        obtain rfl := (List.cons.inj e2).1
        have a0 := hat 0 (by omega)
        have a1 := hat 1 (by omega)
        have a2 := hat 2 (by omega)
        rw [Go.Deep.add_add] at a0 a1 a2
        exact ⟨(g, b, u), a0, a1, a2⟩
    obtain ⟨f, hf⟩ := Go.Deep.choose_lt (α := Nod) each
    refine ⟨(List.range len).map f, ⟨some a, cap, by simp, fun j hj => ?_⟩, by simp; omega⟩
    simp only [List.length_map, List.length_range] at hj
    have hf0 := hf 0 (by omega)
    obtain ⟨b, off, rfl, hp⟩ := addr_plain (u := .int .i64 (f 0).1) (by have := hf0.1; simpa using this)
    obtain ⟨a0, a1, a2⟩ := hf j hj
    refine ⟨b, off, rfl, ?_, ?_, ?_⟩
    · rw [hp _ _ a0]; simp
    · rw [Nat.add_assoc, hp _ _ a1]; simp
    · rw [Nat.add_assoc, hp _ _ a2]; simp
set_option maxRecDepth 100000 in
theorem open_ints_row {H : Type} {enc : TypeId × Value → H} {w : World} {v : Value} {fuel : Nat} {y : DataW H × List MemPlace}
    (h : DataW.trod enc Try.prog w 0 (fun _ => true) true fuel 23 [v] = some y) : ∃ l : List Int, IsI w v l ∧ l.length ≤ maxLen := by
  rcases Go.Deep.open_slice Try.underlying23 h with ⟨hc, _⟩ | ⟨a, len, cap, m, n, D, Pl, hc, _, hl, hm, hmm, _, hx⟩
  · simp only [List.cons.injEq, and_true] at hc
    subst hc
    exact ⟨[], ⟨none, 0, rfl, fun j hj => by cases hj⟩, Nat.zero_le _⟩
  · simp only [List.cons.injEq, and_true] at hc
    subst hc
    simp only [if_true] at hmm
    have h3 : Try.prog.cellsOf 3 = 1 := by kernel_rfl
    rw [h3] at hx
    have each : ∀ i, i < len → ∃ c : Int, w.cell? (a.add i) = some (.int .i64 c) := fun i hi => by
      obtain ⟨cs', h1, h2⟩ := hx i (by omega)
      obtain ⟨_, hlen, hat⟩ := World.cells?_some h1
      obtain ⟨g, e0, _, _⟩ := DataW.trod_int Try.underlying3 h2
      subst e0
      have a0 := hat 0 (by simp)
      rw [Go.Deep.add_add, Nat.add_zero, Nat.mul_one] at a0
      exact ⟨g, a0⟩
    obtain ⟨f, hf⟩ := Go.Deep.choose_lt (α := Int) each
    refine ⟨(List.range len).map f, ⟨some a, cap, by simp, fun j hj => ?_⟩, by simp; omega⟩
    simp only [List.length_map, List.length_range] at hj
    have hf0 := hf 0 (by omega)
    obtain ⟨b, off, rfl, hp⟩ := addr_plain (u := .int .i64 (f 0)) (by simpa using hf0)
    exact ⟨b, off, rfl, by rw [hp _ _ (hf j hj)]; simp⟩
/-- an argument that is a state of lists -/
theorem open_lists {H : Type} {enc : TypeId × Value → H} {w : World} {v : Value} {d : DataW H} {p : List MemPlace} {b0 : Nat}
    (hval : Value.okWide Try.prog w .any b0 25 v) (h : DataW.Trod enc Try.prog w 0 (fun _ => true) true 25 v d p) :
    ∃ vn vh vt st, v = .agg #[vn, vh, vt] ∧ IsLS w vn vh vt st ∧ st.1.length ≤ maxLen ∧ st.2.1.length ≤ maxLen ∧ st.2.2.length ≤ maxLen := by
  obtain ⟨v0, v1, v2, y0, y1, y2, n, rfl, _, _, h0, h1, h2⟩ := open_agg3 Try.underlying25 (by kernel_rfl) (by kernel_rfl) hval h
  obtain ⟨l, hl, hl2⟩ := open_nods h0
  obtain ⟨a, ha, ha2⟩ := open_ints_row h1
  obtain ⟨b, hb, hb2⟩ := open_ints_row h2
  exact ⟨v0, v1, v2, (l, a, b), rfl, ⟨hl, ha, hb⟩, hl2, ha2, hb2⟩
/-- an argument that is a pair of numbers -/
theorem open_pair {H : Type} {enc : TypeId × Value → H} {w : World} {v : Value} {d : DataW H} {p : List MemPlace} {b0 : Nat}
    (hval : Value.okWide Try.prog w .any b0 44 v) (h : DataW.Trod enc Try.prog w 0 (fun _ => true) true 44 v d p) :
    ∃ a b, v = .agg #[.int .i64 a, .int .i64 b] := by
  simp only [Value.okWide, Try.underlying44] at hval
  obtain ⟨cs, rfl, hsz, _⟩ := hval
  have h2 : Try.prog.cellsOf 44 = 2 := by kernel_rfl
  have h1 : Try.prog.cellsOf 3 = 1 := by kernel_rfl
  obtain ⟨c0, c1, rfl⟩ := array2 (hsz.trans h2)
  obtain ⟨fuel, hf⟩ := h
  obtain ⟨xs, m, _, _, hlen, hxl, hat⟩ := DataW.trod_array Try.underlying44 hf
  rw [h1] at hat
  have f0 := hat 0 (by omega)
  have f1 := hat 1 (by omega)
  rw [List.getElem?_eq_getElem (by omega)] at f0 f1
  obtain ⟨a, e0, _, _⟩ := DataW.trod_int Try.underlying3 f0
  obtain ⟨b, e1, _, _⟩ := DataW.trod_int Try.underlying3 f1
  simp [Value.cells] at e0 e1
  exact ⟨a, b, by rw [e0, e1]⟩
end Go.Proofs.Ytkcenadenmkgnaa
