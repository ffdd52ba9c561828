/- My own small kit: an argument that is a state of a pool's cells, the document's. -/
import Derived.Test.YtmnlpmfkoammhaaLawOpenI
import Derived.Test.YtmnlpmfkoammhaaP3E
import Derived.Deep.Slices
namespace Go.Proofs.Ytmnlpmfkoammhaa
open Go.RowKit Go.ChangeShapes Go.WideShapes Go.ChangeAt Go.ChangeMaps Go.Joins
set_option linter.unusedVariables false
set_option linter.unusedSimpArgs false

theorem open_cells {H : Type} {enc : TypeId × Value → H} {w : World} {v : Value} {fuel : Nat} {y : DataW H × List MemPlace}
    (h : DataW.trod enc Try.prog w 0 (fun _ => true) true fuel 22 [v] = some y) : ∃ l : List Cel, IsC w v l ∧ l.length ≤ maxLen := by
  rcases Go.Deep.open_slice Try.underlying22 h with ⟨hc, _⟩ | ⟨a, len, cap, m, n, D, Pl, hc, _, hl, hm, hmm, _, hx⟩
  · simp only [List.cons.injEq, and_true] at hc
    subst hc
    exact ⟨[], ⟨none, 0, rfl, fun j hj => by cases hj⟩, Nat.zero_le _⟩
  · simp only [List.cons.injEq, and_true] at hc
    subst hc
    simp only [if_true] at hmm
    have h3 : Try.prog.cellsOf 64 = 3 := by kernel_rfl
    rw [h3] at hx
    have each : ∀ i, i < len → ∃ c : Cel, w.cell? (a.add (i * 3)) = some (.int .i64 c.1) ∧ w.cell? (a.add (i * 3 + 1)) = some (.bool c.2.1) ∧ w.cell? (a.add (i * 3 + 2)) = some (.int .i64 c.2.2) := fun i hi => by
      obtain ⟨cs', h1, h2⟩ := hx i (by omega)
      obtain ⟨_, hlen, hat⟩ := World.cells?_some h1
      obtain ⟨xs, k, _, _, _, hxs, hf⟩ := DataW.trod_struct Try.underlying64 h2
      match cs', hlen with
      | [c0, c1, c2], _ =>
        have f0 := hf 0 _ rfl
        have f1 := hf 1 _ rfl
        have f2 := hf 2 _ rfl
        have i1 : Try.prog.cellsOf 3 = 1 := by kernel_rfl
        have i2 : Try.prog.cellsOf 4 = 1 := by kernel_rfl
        have hxl : xs.length = 3 := hxs
        rw [List.getElem?_eq_getElem (by omega)] at f0 f1 f2
        replace f0 : DataW.trod enc Try.prog w 0 (fun _ => true) true k 3 (List.take (Try.prog.cellsOf 3) [c0, c1, c2]) = some xs[0] := f0
        replace f1 : DataW.trod enc Try.prog w 0 (fun _ => true) true k 4 (List.take (Try.prog.cellsOf 4) [c1, c2]) = some xs[1] := f1
        replace f2 : DataW.trod enc Try.prog w 0 (fun _ => true) true k 3 (List.take (Try.prog.cellsOf 3) [c2]) = some xs[2] := f2
        rw [i1] at f0 f2
        rw [i2] at f1
        obtain ⟨g, e0, _, _⟩ := DataW.trod_int Try.underlying3 f0
        obtain ⟨b, e1, _⟩ := DataW.trod_bool Try.underlying4 f1
        obtain ⟨u, e2, _, _⟩ := DataW.trod_int Try.underlying3 f2
        replace e0 : [c0] = [.int .i64 g] := e0
        replace e1 : [c1] = [.bool b] := e1
        replace e2 : [c2] = [.int .i64 u] := e2
        obtain rfl := (List.cons.inj e0).1
        obtain rfl := (List.cons.inj e1).1
        obtain rfl := (List.cons.inj e2).1
        have a0 := hat 0 (by omega)
        have a1 := hat 1 (by omega)
        have a2 := hat 2 (by omega)
        rw [Go.Deep.add_add] at a0 a1 a2
        exact ⟨(g, b, u), a0, a1, a2⟩
    obtain ⟨f, hf⟩ := Go.Deep.choose_lt (α := Cel) each
    refine ⟨(List.range len).map f, ⟨some a, cap, by simp, fun j hj => ?_⟩, by simp; omega⟩
    simp only [List.length_map, List.length_range] at hj
    have hf0 := hf 0 (by omega)
    obtain ⟨b, off, rfl, hp⟩ := addr_plain (u := .int .i64 (f 0).1) (by have := hf0.1; simpa using this)
    obtain ⟨a0, a1, a2⟩ := hf j hj
    refine ⟨b, off, rfl, ?_, ?_, ?_⟩
    · rw [hp _ _ a0]; simp
    · rw [Nat.add_assoc, hp _ _ a1]; simp
    · rw [Nat.add_assoc, hp _ _ a2]; simp
theorem cap_field {w : World} {b0 : Nat} {v0 v1 : Value} (h : Value.okWide Try.prog w .any b0 25 (.agg #[v0, v1])) : CapOk v1 := by
  simp only [Value.okWide, Try.underlying25] at h
  obtain ⟨cs, e, _, ts, hts, _, hc⟩ := h
  cases e
  obtain ⟨u, hu, hk⟩ := hc 1 v1 rfl
  have ht : Try.prog.cellTypes Try.prog.depth 25 = some [22, 23] := by kernel_rfl
  rw [ht] at hts
  cases hts
  cases hu
  simp only [Cell.okWide, Try.underlying23] at hk
  cases v1 with
  | slice p n c =>
    cases p with
    | none =>
      simp only [Cell.ok, Try.underlying23] at hk
      cases n with
      | zero => cases c with
        | zero => exact ⟨none, 0, 0, rfl, Nat.le_refl _, fun _ => ⟨rfl, rfl⟩, fun a h => by cases h⟩
        | succ c => exact hk.elim
      | succ n => exact hk.elim
    | some a =>
      simp only [Cell.ok, Try.underlying23] at hk
      obtain ⟨h1, _, _, h2, _⟩ := hk
      obtain ⟨b, off, spot⟩ := a
      cases h2
      exact ⟨_, _, _, rfl, h1, (fun h => by cases h), fun a h => by cases h; exact ⟨_, _, rfl⟩⟩
  | _ => simp [Cell.ok, Try.underlying23] at hk
/-- an argument that is a state -/
theorem open_state {H : Type} {enc : TypeId × Value → H} {w : World} {v : Value} {d : DataW H} {p : List MemPlace} {b0 : Nat}
    (hval : Value.okWide Try.prog w .any b0 25 v) (h : DataW.Trod enc Try.prog w 0 (fun _ => true) true 25 v d p) :
    ∃ vc vf st, v = .agg #[vc, vf] ∧ IsSt w vc vf st ∧ CapOk vf ∧ st.1.length ≤ maxLen ∧ st.2.length ≤ maxLen := by
  obtain ⟨v0, v1, y0, y1, n, rfl, _, _, h0, h1⟩ := open_agg2 Try.underlying25 (by kernel_rfl) (by kernel_rfl) hval h
  have hcap := cap_field hval
  obtain ⟨l, hl, hl2⟩ := open_cells h0
  have hi : Value.okWide Try.prog w .any b0 23 v1 := by
    obtain ⟨p', n', c', rfl, _⟩ := hcap
    simp only [Value.okWide, Try.underlying25] at hval
    obtain ⟨cs, e, _, ts, hts, _, hc⟩ := hval
    cases e
    obtain ⟨u, hu, hk⟩ := hc 1 _ rfl
    have ht : Try.prog.cellTypes Try.prog.depth 25 = some [22, 23] := by kernel_rfl
    rw [ht] at hts
    cases hts
    cases hu
    simp only [Value.okWide, Try.underlying23]
    exact hk
  have ht : DataW.Trod enc Try.prog w 0 (fun _ => true) true 23 v1 y1.1 y1.2 := by
    obtain ⟨p', n', c', rfl, _⟩ := hcap
    exact ⟨n, by simpa [Value.cells] using h1⟩
  obtain ⟨f, hf, hf2, _⟩ := open_nums_k Try.underlying23 Try.underlying3 (by kernel_rfl) hi ht
  exact ⟨v0, v1, (l, f), rfl, ⟨hl, hf⟩, hcap, hl2, hf2⟩
end Go.Proofs.Ytmnlpmfkoammhaa
