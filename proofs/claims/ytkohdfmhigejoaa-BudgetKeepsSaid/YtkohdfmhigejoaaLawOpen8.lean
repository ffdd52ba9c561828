/- My own small kit: an argument that is a state (a number and six), a pair of numbers, a deed (two bytes and a bool), or a row of deeds. -/
import Derived.Test.YtkohdfmhigejoaaLawOpenI
import Derived.Test.YtkohdfmhigejoaaG8B
import Derived.Deep.Slices
namespace Go.Proofs.Ytkohdfmhigejoaa
open Go.RowKit Go.ChangeShapes Go.WideShapes Go.ChangeAt Go.ChangeMaps Go.Joins
set_option linter.unusedVariables false
set_option linter.unusedSimpArgs false

theorem list6 {α : Type} (l : List α) (h : l.length = 6) : ∃ a b c d e f, l = [a, b, c, d, e, f] := by
  match l, h with
  | [a, b, c, d, e, f], _ => exact ⟨a, b, c, d, e, f, rfl⟩
theorem list2 {α : Type} (l : List α) (h : l.length = 2) : ∃ a b, l = [a, b] := by
  match l, h with
  | [a, b], _ => exact ⟨a, b, rfl⟩
theorem ints6 {H : Type} {enc : TypeId × Value → H} {w : World} {fuel : Nat} {cs : List Value} {x : DataW H × List MemPlace}
    (h : DataW.trod enc Try.prog w 0 (fun _ => true) true fuel 22 cs = some x) :
    ∃ a0 a1 a2 a3 a4 a5 : Int, cs = [.int .i64 a0, .int .i64 a1, .int .i64 a2, .int .i64 a3, .int .i64 a4, .int .i64 a5] := by
  obtain ⟨xs, m, _, _, hl, hx, hat⟩ := DataW.trod_array Try.underlying22 h
  rw [show Try.prog.cellsOf 22 = 6 by kernel_rfl] at hl
  rw [show Try.prog.cellsOf 3 = 1 by kernel_rfl] at hat
  obtain ⟨c0, c1, c2, c3, c4, c5, rfl⟩ := list6 cs hl
  have at' : ∀ i (hi : i < 6), ∃ n : Int, (([c0, c1, c2, c3, c4, c5] : List Value).drop (i * 1)).take 1 = [.int .i64 n] := fun i hi => by
    have h0 := hat i hi
    rw [List.getElem?_eq_getElem (by omega)] at h0
    obtain ⟨n, e, _, _⟩ := DataW.trod_int Try.underlying3 h0
    exact ⟨n, e⟩
  obtain ⟨a0, h0⟩ := at' 0 (by decide)
  obtain ⟨a1, h1⟩ := at' 1 (by decide)
  obtain ⟨a2, h2⟩ := at' 2 (by decide)
  obtain ⟨a3, h3⟩ := at' 3 (by decide)
  obtain ⟨a4, h4⟩ := at' 4 (by decide)
  obtain ⟨a5, h5⟩ := at' 5 (by decide)
  simp at h0 h1 h2 h3 h4 h5
  subst h0 h1 h2 h3 h4 h5
  exact ⟨a0, a1, a2, a3, a4, a5, rfl⟩
theorem open_state {H : Type} {enc : TypeId × Value → H} {w : World} {v : Value} {d : DataW H} {p : List MemPlace} {b0 : Nat}
    (hval : Value.okWide Try.prog w .any b0 24 v) (h : DataW.Trod enc Try.prog w 0 (fun _ => true) true 24 v d p) :
    ∃ c a0 a1 a2 a3 a4 a5 : Int, v = stV c a0 a1 a2 a3 a4 a5 := by
  obtain ⟨⟨cs⟩, rfl, hsz⟩ := okWide_struct Try.underlying24 hval
  obtain ⟨fuel, hf⟩ := h
  obtain ⟨xs, n, _, _, hl, hx, hat⟩ := DataW.trod_struct Try.underlying24 hf
  have e0 := hat 0 _ rfl
  have e1 := hat 1 _ rfl
  have hxl : xs.length = 2 := hx
  rw [List.getElem?_eq_getElem (by omega)] at e0 e1
  obtain ⟨b0, b1, b2, b3, b4, b5, k1⟩ := ints6 e1
  obtain ⟨c, k0, _, _⟩ := DataW.trod_int Try.underlying3 e0
  have k0' : List.take (Try.prog.cellsOf 3) cs = [.int .i64 c] := k0
  have k1' : List.take (Try.prog.cellsOf 22) (List.drop 1 cs) = [.int .i64 b0, .int .i64 b1, .int .i64 b2, .int .i64 b3, .int .i64 b4, .int .i64 b5] := k1
  have hl' : cs.length = 7 := Eq.trans (b := Try.prog.cellsOf 24) hl (show Try.prog.cellsOf 24 = 7 by kernel_rfl)
  rw [show Try.prog.cellsOf 3 = 1 by kernel_rfl] at k0'
  rw [show Try.prog.cellsOf 22 = 6 by kernel_rfl, List.take_of_length_le (by simp; omega)] at k1'
  have hcs : cs = List.take 1 cs ++ List.drop 1 cs := (List.take_append_drop 1 cs).symm
  rw [k0', k1'] at hcs
  exact ⟨c, b0, b1, b2, b3, b4, b5, by rw [hcs]; rfl⟩
theorem open_two {H : Type} {enc : TypeId × Value → H} {w : World} {v : Value} {d : DataW H} {p : List MemPlace} {b0 : Nat}
    (hval : Value.okWide Try.prog w .any b0 25 v) (h : DataW.Trod enc Try.prog w 0 (fun _ => true) true 25 v d p) :
    ∃ n0 n1 : Int, v = .agg #[.int .i64 n0, .int .i64 n1] := by
  obtain ⟨⟨cs⟩, rfl, hsz, _⟩ : ∃ cs, v = .agg cs ∧ cs.size = Try.prog.cellsOf 25 ∧ Row.okWide Try.prog w .any b0 25 cs := by
    simpa [Value.okWide, Try.underlying25] using hval
  obtain ⟨fuel, hf⟩ := h
  obtain ⟨xs, m, _, _, hl, hx, hat⟩ := DataW.trod_array Try.underlying25 hf
  have hl' : cs.length = 2 := Eq.trans (b := Try.prog.cellsOf 25) hl (show Try.prog.cellsOf 25 = 2 by kernel_rfl)
  obtain ⟨c0, c1, rfl⟩ := list2 cs hl'
  rw [show Try.prog.cellsOf 3 = 1 by kernel_rfl] at hat
  have at' : ∀ i (hi : i < 2), ∃ n : Int, (([c0, c1] : List Value).drop (i * 1)).take 1 = [.int .i64 n] := fun i hi => by
    have h0 := hat i hi
    rw [List.getElem?_eq_getElem (by omega)] at h0
    obtain ⟨n, e, _, _⟩ := DataW.trod_int Try.underlying3 h0
    exact ⟨n, e⟩
  obtain ⟨a0, h0⟩ := at' 0 (by decide)
  obtain ⟨a1, h1⟩ := at' 1 (by decide)
  simp at h0 h1
  subst h0 h1
  exact ⟨a0, a1, rfl⟩

/-- a deed: its kind, how many, and whether they are given back -/
abbrev Dd := Int × Int × Bool
def BytD (d : Dd) : Prop := (0 ≤ d.1 ∧ d.1 ≤ 255) ∧ (0 ≤ d.2.1 ∧ d.2.1 ≤ 255)
def IsD (w : World) (v : Value) (l : List Dd) : Prop :=
  ∃ p cap, v = .slice p l.length cap ∧ ∀ j (h : j < l.length), ∃ b off, p = some ⟨b, off, none⟩ ∧
    w.cell? ⟨b, off + j * 3, none⟩ = some (.int .u8 l[j].1) ∧ w.cell? ⟨b, off + j * 3 + 1, none⟩ = some (.int .u8 l[j].2.1) ∧ w.cell? ⟨b, off + j * 3 + 2, none⟩ = some (.bool l[j].2.2)
theorem IsD.call {W w1 : World} {v : Value} {l : List Dd} (h : IsD W v l) (hb : Below W.heap.size W w1) : IsD w1 v l := by
  obtain ⟨p, cap, rfl, h⟩ := h
  refine ⟨p, cap, rfl, fun j hj => ?_⟩
  obtain ⟨b, off, rfl, h0, h1, h2⟩ := h j hj
  exact ⟨b, off, rfl, (hb.cell (p := ⟨b, off + j * 3, none⟩) (World.block_lt_of_cell? _ _ h0)).trans h0, (hb.cell (p := ⟨b, off + j * 3 + 1, none⟩) (World.block_lt_of_cell? _ _ h1)).trans h1, (hb.cell (p := ⟨b, off + j * 3 + 2, none⟩) (World.block_lt_of_cell? _ _ h2)).trans h2⟩
theorem open_deed {H : Type} {enc : TypeId × Value → H} {w : World} {v : Value} {d : DataW H} {p : List MemPlace} {b0 : Nat}
    (hval : Value.okWide Try.prog w .any b0 50 v) (h : DataW.Trod enc Try.prog w 0 (fun _ => true) true 50 v d p) :
    ∃ k n b, v = .agg #[.int .u8 k, .int .u8 n, .bool b] ∧ BytD (k, n, b) := by
  obtain ⟨v0, v1, v2, y0, y1, y2, n, rfl, _, _, h0, h1, h2⟩ := open_agg3 Try.underlying50 (by kernel_rfl) (by kernel_rfl) hval h
  obtain ⟨k, e0, _, q0⟩ := DataW.trod_int Try.underlying5 h0
  obtain ⟨m, e1, _, q1⟩ := DataW.trod_int Try.underlying5 h1
  obtain ⟨b, e2, _⟩ := DataW.trod_bool Try.underlying4 h2
  cases e0
  cases e1
  cases e2
  exact ⟨k, m, b, rfl, bounds_u8 q0, bounds_u8 q1⟩
set_option maxRecDepth 100000 in
theorem open_deed_row {H : Type} {enc : TypeId × Value → H} {w : World} {v : Value} {fuel : Nat} {y : DataW H × List MemPlace}
    (h : DataW.trod enc Try.prog w 0 (fun _ => true) true fuel 48 [v] = some y) : ∃ l : List Dd, IsD w v l ∧ l.length ≤ maxLen ∧ ∀ d ∈ l, BytD d := by
  rcases Go.Deep.open_slice Try.underlying48 h with ⟨hc, _⟩ | ⟨a, len, cap, m, n, D, Pl, hc, _, hl, hm, hmm, _, hx⟩
  · simp only [List.cons.injEq, and_true] at hc
    subst hc
    exact ⟨[], ⟨none, 0, rfl, fun j hj => by cases hj⟩, Nat.zero_le _, fun d hd => by cases hd⟩
  · simp only [List.cons.injEq, and_true] at hc
    subst hc
    simp only [if_true] at hmm
    have h3 : Try.prog.cellsOf 50 = 3 := by kernel_rfl
    rw [h3] at hx
    have each : ∀ i, i < len → ∃ c : Dd, w.cell? (a.add (i * 3)) = some (.int .u8 c.1) ∧ w.cell? (a.add (i * 3 + 1)) = some (.int .u8 c.2.1) ∧ w.cell? (a.add (i * 3 + 2)) = some (.bool c.2.2) ∧ BytD c := fun i hi => by
      obtain ⟨cs', h1, h2⟩ := hx i (by omega)
      obtain ⟨_, hlen, hat⟩ := World.cells?_some h1
      obtain ⟨xs, k, _, _, _, hxs, hf⟩ := DataW.trod_struct Try.underlying50 h2
      match cs', hlen with
      | [c0, c1, c2], _ =>
        have f0 := hf 0 _ rfl
        have f1 := hf 1 _ rfl
        have f2 := hf 2 _ rfl
        have i1 : Try.prog.cellsOf 5 = 1 := by kernel_rfl
        have i2 : Try.prog.cellsOf 4 = 1 := by kernel_rfl
        have hxl : xs.length = 3 := hxs
        rw [List.getElem?_eq_getElem (by omega)] at f0 f1 f2
        replace f0 : DataW.trod enc Try.prog w 0 (fun _ => true) true k 5 (List.take (Try.prog.cellsOf 5) [c0, c1, c2]) = some xs[0] := f0
        replace f1 : DataW.trod enc Try.prog w 0 (fun _ => true) true k 5 (List.take (Try.prog.cellsOf 5) [c1, c2]) = some xs[1] := f1
        replace f2 : DataW.trod enc Try.prog w 0 (fun _ => true) true k 4 (List.take (Try.prog.cellsOf 4) [c2]) = some xs[2] := f2
        rw [i1] at f0 f1
        rw [i2] at f2
        obtain ⟨g, e0, _, b0⟩ := DataW.trod_int Try.underlying5 f0
        obtain ⟨n, e1, _, b1⟩ := DataW.trod_int Try.underlying5 f1
        obtain ⟨b, e2, _⟩ := DataW.trod_bool Try.underlying4 f2
        replace e0 : [c0] = [.int .u8 g] := e0
        replace e1 : [c1] = [.int .u8 n] := e1
        replace e2 : [c2] = [.bool b] := e2
        obtain rfl := (List.cons.inj e0).1
        obtain rfl := (List.cons.inj e1).1
        obtain rfl := (List.cons.inj e2).1
        have a0 := hat 0 (by omega)
        have a1 := hat 1 (by omega)
        have a2 := hat 2 (by omega)
        rw [Go.Deep.add_add] at a0 a1 a2
        exact ⟨(g, n, b), a0, a1, a2, bounds_u8 b0, bounds_u8 b1⟩
    obtain ⟨f, hf⟩ := Go.Deep.choose_lt (α := Dd) each
    refine ⟨(List.range len).map f, ⟨some a, cap, by simp, fun j hj => ?_⟩, by simp; omega, fun d hd => ?_⟩
    · simp only [List.length_map, List.length_range] at hj
      have hf0 := hf 0 (by omega)
      obtain ⟨b, off, rfl, hp⟩ := addr_plain (u := .int .u8 (f 0).1) (by have := hf0.1; simpa using this)
      obtain ⟨a0, a1, a2, -⟩ := hf j hj
      refine ⟨b, off, rfl, ?_, ?_, ?_⟩
      · rw [hp _ _ a0]; simp
      · rw [Nat.add_assoc, hp _ _ a1]; simp
      · rw [Nat.add_assoc, hp _ _ a2]; simp
    · obtain ⟨i, hi, rfl⟩ := List.mem_map.1 hd
      exact (hf i (List.mem_range.1 hi)).2.2.2
theorem open_deeds {H : Type} {enc : TypeId × Value → H} {w : World} {v : Value} {d : DataW H} {p : List MemPlace} {b0 : Nat}
    (hval : Value.okWide Try.prog w .any b0 48 v) (h : DataW.Trod enc Try.prog w 0 (fun _ => true) true 48 v d p) : ∃ l : List Dd, IsD w v l ∧ l.length ≤ maxLen ∧ ∀ d ∈ l, BytD d := by
  obtain ⟨a, n, c, rfl⟩ := okWide_slice Try.underlying48 hval
  obtain ⟨fuel, hf⟩ := h
  exact open_deed_row (by simpa [Value.cells] using hf)
end Go.Proofs.Ytkohdfmhigejoaa
