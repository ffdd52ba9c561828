/- My own small kit: an argument that is a call (a byte, a key and a number), a row of them, a pair of numbers. -/
import Derived.Test.YtaenbnohkhmnbaaLawOpenI
import Derived.Deep.Slices
import Derived.Deep.Strs
import Derived.ChangeMaps5
namespace Go.Proofs.Ytaenbnohkhmnbaa
open Go.RowKit Go.ChangeShapes Go.WideShapes Go.ChangeAt Go.ChangeMaps Go.Joins
set_option linter.unusedVariables false
set_option linter.unusedSimpArgs false

abbrev Cal := Int × ByteArray × Int
/-- its first number is a byte, its key is no longer than memory -/
def BytC (d : Cal) : Prop := (0 ≤ d.1 ∧ d.1 ≤ 255) ∧ d.2.1.size ≤ maxLen
def IsAc (w : World) (v : Value) (l : List Cal) : Prop :=
  ∃ p cap, v = .slice p l.length cap ∧ ∀ j (h : j < l.length), ∃ b off, p = some ⟨b, off, none⟩ ∧
    w.cell? ⟨b, off + j * 3, none⟩ = some (.int .u8 l[j].1) ∧ w.cell? ⟨b, off + j * 3 + 1, none⟩ = some (.string l[j].2.1) ∧ w.cell? ⟨b, off + j * 3 + 2, none⟩ = some (.int .i64 l[j].2.2)
theorem IsAc.call {W w1 : World} {v : Value} {l : List Cal} (h : IsAc W v l) (hb : Below W.heap.size W w1) : IsAc w1 v l := by
  obtain ⟨p, cap, rfl, h⟩ := h
  refine ⟨p, cap, rfl, fun j hj => ?_⟩
  obtain ⟨b, off, rfl, h0, h1, h2⟩ := h j hj
  exact ⟨b, off, rfl, (hb.cell (p := ⟨b, off + j * 3, none⟩) (World.block_lt_of_cell? _ _ h0)).trans h0, (hb.cell (p := ⟨b, off + j * 3 + 1, none⟩) (World.block_lt_of_cell? _ _ h1)).trans h1, (hb.cell (p := ⟨b, off + j * 3 + 2, none⟩) (World.block_lt_of_cell? _ _ h2)).trans h2⟩
theorem open_cal {H : Type} {enc : TypeId × Value → H} {w : World} {v : Value} {d : DataW H} {p : List MemPlace} {b0 : Nat}
    (hval : Value.okWide Try.prog w .any b0 23 v) (h : DataW.Trod enc Try.prog w 0 (fun _ => true) true 23 v d p) :
    ∃ k s n, v = .agg #[.int .u8 k, .string s, .int .i64 n] ∧ (0 ≤ k ∧ k ≤ 255) ∧ s.size ≤ maxLen := by
  obtain ⟨v0, v1, v2, y0, y1, y2, n, rfl, _, _, h0, h1, h2⟩ := open_agg3 Try.underlying23 (by kernel_rfl) (by kernel_rfl) hval h
  obtain ⟨k, e0, _, b0⟩ := DataW.trod_int Try.underlying5 h0
  obtain ⟨s, e1, _, hs⟩ := DataW.trod_string Try.underlying9 h1
  obtain ⟨m, e2, _, _⟩ := DataW.trod_int Try.underlying3 h2
  cases e0
  cases e1
  cases e2
  have := bounds_u8 b0
  exact ⟨k, s, m, rfl, this, hs⟩
set_option maxRecDepth 100000 in
theorem open_cal_row {H : Type} {enc : TypeId × Value → H} {w : World} {v : Value} {fuel : Nat} {y : DataW H × List MemPlace}
    (h : DataW.trod enc Try.prog w 0 (fun _ => true) true fuel 37 [v] = some y) : ∃ l : List Cal, IsAc w v l ∧ l.length ≤ maxLen ∧ ∀ d ∈ l, BytC d := by
  rcases Go.Deep.open_slice Try.underlying37 h with ⟨hc, _⟩ | ⟨a, len, cap, m, n, D, Pl, hc, _, hl, hm, hmm, _, hx⟩
  · simp only [List.cons.injEq, and_true] at hc
    subst hc
    exact ⟨[], ⟨none, 0, rfl, fun j hj => by cases hj⟩, Nat.zero_le _, fun d hd => by cases hd⟩
  · simp only [List.cons.injEq, and_true] at hc
    subst hc
    simp only [if_true] at hmm
    have h3 : Try.prog.cellsOf 23 = 3 := by kernel_rfl
    rw [h3] at hx
    have each : ∀ i, i < len → ∃ c : Cal, w.cell? (a.add (i * 3)) = some (.int .u8 c.1) ∧ w.cell? (a.add (i * 3 + 1)) = some (.string c.2.1) ∧ w.cell? (a.add (i * 3 + 2)) = some (.int .i64 c.2.2) ∧ BytC c := fun i hi => by
      obtain ⟨cs', h1, h2⟩ := hx i (by omega)
      obtain ⟨_, hlen, hat⟩ := World.cells?_some h1
      obtain ⟨xs, k, _, _, _, hxs, hf⟩ := DataW.trod_struct Try.underlying23 h2
      match cs', hlen with
      | [c0, c1, c2], _ =>
        have f0 := hf 0 _ rfl
        have f1 := hf 1 _ rfl
        have f2 := hf 2 _ rfl
        have i1 : Try.prog.cellsOf 5 = 1 := by kernel_rfl
        have i2 : Try.prog.cellsOf 9 = 1 := by kernel_rfl
        have i3 : Try.prog.cellsOf 3 = 1 := by kernel_rfl
        have hxl : xs.length = 3 := hxs
        rw [List.getElem?_eq_getElem (by omega)] at f0 f1 f2
        replace f0 : DataW.trod enc Try.prog w 0 (fun _ => true) true k 5 (List.take (Try.prog.cellsOf 5) [c0, c1, c2]) = some xs[0] := f0
        replace f1 : DataW.trod enc Try.prog w 0 (fun _ => true) true k 9 (List.take (Try.prog.cellsOf 9) [c1, c2]) = some xs[1] := f1
        replace f2 : DataW.trod enc Try.prog w 0 (fun _ => true) true k 3 (List.take (Try.prog.cellsOf 3) [c2]) = some xs[2] := f2
        rw [i1] at f0
        rw [i2] at f1
        rw [i3] at f2
        obtain ⟨g, e0, _, b0⟩ := DataW.trod_int Try.underlying5 f0
        obtain ⟨s, e1, _, hs⟩ := DataW.trod_string Try.underlying9 f1
        obtain ⟨b, e2, _, b1⟩ := DataW.trod_int Try.underlying3 f2
        replace e0 : [c0] = [.int .u8 g] := e0
        replace e1 : [c1] = [.string s] := e1
        replace e2 : [c2] = [.int .i64 b] := e2
        obtain rfl := (List.cons.inj e0).1
        obtain rfl := (List.cons.inj e1).1
        obtain rfl := (List.cons.inj e2).1
        have a0 := hat 0 (by omega)
        have a1 := hat 1 (by omega)
        have a2 := hat 2 (by omega)
        rw [Go.Deep.add_add] at a0 a1 a2
        exact ⟨(g, s, b), a0, a1, a2, bounds_u8 b0, hs⟩
    obtain ⟨f, hf⟩ := Go.Deep.choose_lt (α := Cal) each
    refine ⟨(List.range len).map f, ⟨some a, cap, by simp, fun j hj => ?_⟩, by simp; omega, fun d hd => ?_⟩
    · simp only [List.length_map, List.length_range] at hj
      have hf0 := hf 0 (by omega)
      obtain ⟨b, off, rfl, hp⟩ := addr_plain (u := .int .u8 (f 0).1) (by have := hf0.1; simpa using this)
      obtain ⟨a0, a1, a2, -⟩ := hf j hj
      refine ⟨b, off, rfl, ?_, ?_, ?_⟩
      · rw [hp _ _ a0]; simp
      · rw [Nat.add_assoc, hp _ _ a1]; simp
      · rw [Nat.add_assoc, hp _ _ a2]; simp
    · obtain ⟨i, hi, rfl⟩ := List.mem_map.1 hd
      exact (hf i (List.mem_range.1 hi)).2.2.2
theorem open_cals {H : Type} {enc : TypeId × Value → H} {w : World} {v : Value} {d : DataW H} {p : List MemPlace} {b0 : Nat}
    (hval : Value.okWide Try.prog w .any b0 37 v) (h : DataW.Trod enc Try.prog w 0 (fun _ => true) true 37 v d p) : ∃ l : List Cal, IsAc w v l ∧ l.length ≤ maxLen ∧ ∀ d ∈ l, BytC d := by
  obtain ⟨a, n, c, rfl⟩ := okWide_slice Try.underlying37 hval
  obtain ⟨fuel, hf⟩ := h
  exact open_cal_row hf
theorem open_pair {H : Type} {enc : TypeId × Value → H} {w : World} {v : Value} {d : DataW H} {p : List MemPlace} {b0 : Nat}
    (hval : Value.okWide Try.prog w .any b0 44 v) (h : DataW.Trod enc Try.prog w 0 (fun _ => true) true 44 v d p) :
    ∃ a b, v = .agg #[.int .i64 a, .int .i64 b] := by
  simp only [Value.okWide, Try.underlying44] at hval
  obtain ⟨cs, rfl, hsz, _⟩ := hval
  have h2 : Try.prog.cellsOf 44 = 2 := by kernel_rfl
  have h1 : Try.prog.cellsOf 3 = 1 := by kernel_rfl
  obtain ⟨c0, c1, rfl⟩ := array2 (hsz.trans h2)
  obtain ⟨fuel, hf⟩ := h
  obtain ⟨xs, m, _, _, hlen, hxl, hat⟩ := DataW.trod_array Try.underlying44 hf
  rw [h1] at hat
  have f0 := hat 0 (by omega)
  have f1 := hat 1 (by omega)
  rw [List.getElem?_eq_getElem (by omega)] at f0 f1
  obtain ⟨a, e0, _, _⟩ := DataW.trod_int Try.underlying3 f0
  obtain ⟨b, e1, _, _⟩ := DataW.trod_int Try.underlying3 f1
  simp [Value.cells] at e0 e1
  exact ⟨a, b, by rw [e0, e1]⟩
end Go.Proofs.Ytaenbnohkhmnbaa
