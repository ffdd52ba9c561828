/- My own small kit: an argument that is a call (a byte and a number), or a row of them. -/
import Derived.Test.YtphgilgmoeliaaaLawOpenI
import Derived.Deep.Slices
namespace Go.Proofs.Ytphgilgmoeliaaa
open Go.RowKit Go.ChangeShapes Go.WideShapes Go.ChangeAt Go.ChangeMaps Go.Joins
set_option linter.unusedVariables false
set_option linter.unusedSimpArgs false

abbrev Cal := Int × Int
/-- its first number is a byte -/
def BytC (d : Cal) : Prop := 0 ≤ d.1 ∧ d.1 ≤ 255
def IsAc (w : World) (v : Value) (l : List Cal) : Prop :=
  ∃ p cap, v = .slice p l.length cap ∧ ∀ j (h : j < l.length), ∃ b off, p = some ⟨b, off, none⟩ ∧
    w.cell? ⟨b, off + j * 2, none⟩ = some (.int .u8 l[j].1) ∧ w.cell? ⟨b, off + j * 2 + 1, none⟩ = some (.int .i64 l[j].2)
theorem IsAc.call {W w1 : World} {v : Value} {l : List Cal} (h : IsAc W v l) (hb : Below W.heap.size W w1) : IsAc w1 v l := by
  obtain ⟨p, cap, rfl, h⟩ := h
  refine ⟨p, cap, rfl, fun j hj => ?_⟩
  obtain ⟨b, off, rfl, h0, h1⟩ := h j hj
  exact ⟨b, off, rfl, (hb.cell (p := ⟨b, off + j * 2, none⟩) (World.block_lt_of_cell? _ _ h0)).trans h0, (hb.cell (p := ⟨b, off + j * 2 + 1, none⟩) (World.block_lt_of_cell? _ _ h1)).trans h1⟩
theorem open_cal {H : Type} {enc : TypeId × Value → H} {w : World} {v : Value} {d : DataW H} {p : List MemPlace} {b0 : Nat}
    (hval : Value.okWide Try.prog w .any b0 36 v) (h : DataW.Trod enc Try.prog w 0 (fun _ => true) true 36 v d p) :
    ∃ k n, v = .agg #[.int .u8 k, .int .i64 n] ∧ 0 ≤ k ∧ k ≤ 255 := by
  obtain ⟨v0, v1, y0, y1, n, rfl, _, _, h0, h1⟩ := open_agg2 Try.underlying36 (by kernel_rfl) (by kernel_rfl) hval h
  obtain ⟨k, e0, _, b0⟩ := DataW.trod_int Try.underlying5 h0
  obtain ⟨m, e1, _, _⟩ := DataW.trod_int Try.underlying3 h1
  cases e0
  cases e1
  have := bounds_u8 b0
  exact ⟨k, m, rfl, this.1, this.2⟩
set_option maxRecDepth 100000 in
theorem open_cal_row {H : Type} {enc : TypeId × Value → H} {w : World} {v : Value} {fuel : Nat} {y : DataW H × List MemPlace}
    (h : DataW.trod enc Try.prog w 0 (fun _ => true) true fuel 22 [v] = some y) : ∃ l : List Cal, IsAc w v l ∧ l.length ≤ maxLen ∧ ∀ d ∈ l, BytC d := by
  rcases Go.Deep.open_slice Try.underlying22 h with ⟨hc, _⟩ | ⟨a, len, cap, m, n, D, Pl, hc, _, hl, hm, hmm, _, hx⟩
  · simp only [List.cons.injEq, and_true] at hc
    subst hc
    exact ⟨[], ⟨none, 0, rfl, fun j hj => by cases hj⟩, Nat.zero_le _, fun d hd => by cases hd⟩
  · simp only [List.cons.injEq, and_true] at hc
    subst hc
    simp only [if_true] at hmm
    have h3 : Try.prog.cellsOf 36 = 2 := by kernel_rfl
    rw [h3] at hx
    have each : ∀ i, i < len → ∃ c : Cal, w.cell? (a.add (i * 2)) = some (.int .u8 c.1) ∧ w.cell? (a.add (i * 2 + 1)) = some (.int .i64 c.2) ∧ BytC c := fun i hi => by
      obtain ⟨cs', h1, h2⟩ := hx i (by omega)
      obtain ⟨_, hlen, hat⟩ := World.cells?_some h1
      obtain ⟨xs, k, _, _, _, hxs, hf⟩ := DataW.trod_struct Try.underlying36 h2
      match cs', hlen with
      | [c0, c1], _ =>
        have f0 := hf 0 _ rfl
        have f1 := hf 1 _ rfl
        have i1 : Try.prog.cellsOf 5 = 1 := by kernel_rfl
        have i2 : Try.prog.cellsOf 3 = 1 := by kernel_rfl
        have hxl : xs.length = 2 := hxs
        rw [List.getElem?_eq_getElem (by omega)] at f0 f1
        replace f0 : DataW.trod enc Try.prog w 0 (fun _ => true) true k 5 (List.take (Try.prog.cellsOf 5) [c0, c1]) = some xs[0] := f0
        replace f1 : DataW.trod enc Try.prog w 0 (fun _ => true) true k 3 (List.take (Try.prog.cellsOf 3) [c1]) = some xs[1] := f1
        rw [i1] at f0
        rw [i2] at f1
        obtain ⟨g, e0, _, b0⟩ := DataW.trod_int Try.underlying5 f0
        obtain ⟨b, e1, _, b1⟩ := DataW.trod_int Try.underlying3 f1
        replace e0 : [c0] = [.int .u8 g] := e0
        replace e1 : [c1] = [.int .i64 b] := e1
        obtain rfl := (List.cons.inj e0).1
        obtain rfl := (List.cons.inj e1).1
        have a0 := hat 0 (by omega)
        have a1 := hat 1 (by omega)
        rw [Go.Deep.add_add] at a0 a1
        exact ⟨(g, b), a0, a1, bounds_u8 b0⟩
    obtain ⟨f, hf⟩ := Go.Deep.choose_lt (α := Cal) each
    refine ⟨(List.range len).map f, ⟨some a, cap, by simp, fun j hj => ?_⟩, by simp; omega, fun d hd => ?_⟩
    · simp only [List.length_map, List.length_range] at hj
      have hf0 := hf 0 (by omega)
      obtain ⟨b, off, rfl, hp⟩ := addr_plain (u := .int .u8 (f 0).1) (by have := hf0.1; simpa using this)
      obtain ⟨a0, a1, -⟩ := hf j hj
      refine ⟨b, off, rfl, ?_, ?_⟩
      · rw [hp _ _ a0]; simp
      · rw [Nat.add_assoc, hp _ _ a1]; simp
    · obtain ⟨i, hi, rfl⟩ := List.mem_map.1 hd
      exact (hf i (List.mem_range.1 hi)).2.2
theorem open_cals {H : Type} {enc : TypeId × Value → H} {w : World} {v : Value} {d : DataW H} {p : List MemPlace} {b0 : Nat}
    (hval : Value.okWide Try.prog w .any b0 22 v) (h : DataW.Trod enc Try.prog w 0 (fun _ => true) true 22 v d p) : ∃ l : List Cal, IsAc w v l ∧ l.length ≤ maxLen ∧ ∀ d ∈ l, BytC d := by
  obtain ⟨a, n, c, rfl⟩ := okWide_slice Try.underlying22 hval
  obtain ⟨fuel, hf⟩ := h
  exact open_cal_row hf
end Go.Proofs.Ytphgilgmoeliaaa
