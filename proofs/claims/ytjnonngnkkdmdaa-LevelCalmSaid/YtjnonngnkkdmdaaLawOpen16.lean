/- My own small kit: an argument that is a conf of levels, a state of one, or a pair of numbers. -/
import Derived.Test.YtjnonngnkkdmdaaLawOpenI
import Derived.Test.YtjnonngnkkdmdaaL16A
import Derived.Deep.Slices
namespace Go.Proofs.Ytjnonngnkkdmdaa
open Go.RowKit Go.ChangeShapes Go.WideShapes Go.ChangeAt Go.ChangeMaps Go.Joins
set_option linter.unusedVariables false
set_option linter.unusedSimpArgs false

/-- all that lay in W lies in w as it did -/
def Fr (W w : World) : Prop := Below W.heap.size W w
theorem Fr.refl (W : World) : Fr W W := Below.refl _ _
theorem Fr.draw (W : World) : Fr W W.drew := Below.drew (Below.refl _ _)
theorem Fr.call {W w w1 : World} (h : Fr W w) (hb : Below w.heap.size w w1) : Fr W w1 := Below.trans h (hb.mono (Below.size h))
theorem Fr.fin {W w W' : World} (hB : Below w.heap.size w W) (h : Fr W W') : Below w.heap.size w W' := Below.trans hB (Below.mono h (Below.size hB))
theorem list3 {α : Type} (l : List α) (h : l.length = 3) : ∃ a b c, l = [a, b, c] := by
  match l, h with
  | [a, b, c], _ => exact ⟨a, b, c, rfl⟩
theorem ints3 {H : Type} {enc : TypeId × Value → H} {w : World} {fuel : Nat} {cs : List Value} {x : DataW H × List MemPlace}
    (h : DataW.trod enc Try.prog w 0 (fun _ => true) true fuel 22 cs = some x) :
    ∃ a0 a1 a2 : Int, cs = [.int .i64 a0, .int .i64 a1, .int .i64 a2] := by
  obtain ⟨xs, m, _, _, hl, hx, hat⟩ := DataW.trod_array Try.underlying22 h
  rw [show Try.prog.cellsOf 22 = 3 by kernel_rfl] at hl
  rw [show Try.prog.cellsOf 3 = 1 by kernel_rfl] at hat
  obtain ⟨c0, c1, c2, rfl⟩ := list3 cs hl
  have at' : ∀ i (hi : i < 3), ∃ n : Int, (([c0, c1, c2] : List Value).drop (i * 1)).take 1 = [.int .i64 n] := fun i hi => by
    have h0 := hat i hi
    rw [List.getElem?_eq_getElem (by omega)] at h0
    obtain ⟨n, e, _, _⟩ := DataW.trod_int Try.underlying3 h0
    exact ⟨n, e⟩
  obtain ⟨a0, h0⟩ := at' 0 (by decide)
  obtain ⟨a1, h1⟩ := at' 1 (by decide)
  obtain ⟨a2, h2⟩ := at' 2 (by decide)
  simp at h0 h1 h2
  subst h0 h1 h2
  exact ⟨a0, a1, a2, rfl⟩
theorem open_lconf {H : Type} {enc : TypeId × Value → H} {w : World} {v : Value} {d : DataW H} {p : List MemPlace} {b0 : Nat}
    (hval : Value.okWide Try.prog w .any b0 24 v) (h : DataW.Trod enc Try.prog w 0 (fun _ => true) true 24 v d p) : ∃ c : Lc, v = cfV c := by
  obtain ⟨⟨cs⟩, rfl, hsz⟩ := okWide_struct Try.underlying24 hval
  obtain ⟨fuel, hf⟩ := h
  obtain ⟨xs, n, _, _, hl, hx, hat⟩ := DataW.trod_struct Try.underlying24 hf
  have e0 := hat 0 _ rfl
  have e1 := hat 1 _ rfl
  have e2 := hat 2 _ rfl
  have hxl : xs.length = 3 := hx
  rw [List.getElem?_eq_getElem (by omega)] at e0 e1 e2
  obtain ⟨u0, u1, u2, k0⟩ := ints3 e0
  obtain ⟨d0, d1, d2, k1⟩ := ints3 e1
  obtain ⟨h, k2, _, _⟩ := DataW.trod_int Try.underlying3 e2
  have k0' : List.take (Try.prog.cellsOf 22) cs = [.int .i64 u0, .int .i64 u1, .int .i64 u2] := k0
  have k1' : List.take (Try.prog.cellsOf 22) (List.drop 3 cs) = [.int .i64 d0, .int .i64 d1, .int .i64 d2] := k1
  have k2' : List.take (Try.prog.cellsOf 3) (List.drop 6 cs) = [.int .i64 h] := k2
  have hl' : cs.length = 7 := Eq.trans (b := Try.prog.cellsOf 24) hl (show Try.prog.cellsOf 24 = 7 by kernel_rfl)
  rw [show Try.prog.cellsOf 3 = 1 by kernel_rfl, List.take_of_length_le (by simp; omega)] at k2'
  rw [show Try.prog.cellsOf 22 = 3 by kernel_rfl] at k0' k1'
  have hcs : cs = List.take 3 cs ++ (List.take 3 (List.drop 3 cs) ++ List.drop 6 cs) := by
    rw [show List.drop 6 cs = List.drop 3 (List.drop 3 cs) by rw [List.drop_drop], List.take_append_drop, List.take_append_drop]
  rw [k0', k1', k2'] at hcs
  exact ⟨⟨u0, u1, u2, d0, d1, d2, h⟩, by rw [hcs]; rfl⟩
theorem open_lstate {H : Type} {enc : TypeId × Value → H} {w : World} {v : Value} {d : DataW H} {p : List MemPlace} {b0 : Nat}
    (hval : Value.okWide Try.prog w .any b0 26 v) (h : DataW.Trod enc Try.prog w 0 (fun _ => true) true 26 v d p) : ∃ st : Ls, v = lsV st := by
  obtain ⟨v0, v1, v2, y0, y1, y2, n, rfl, _, _, h0, h1, h2⟩ := open_agg3 Try.underlying26 (by kernel_rfl) (by kernel_rfl) hval h
  obtain ⟨x, e0, _, _⟩ := DataW.trod_int Try.underlying3 h0
  obtain ⟨y, e1, _, _⟩ := DataW.trod_int Try.underlying3 h1
  obtain ⟨z, e2, _, _⟩ := DataW.trod_int Try.underlying3 h2
  cases e0
  cases e1
  cases e2
  exact ⟨⟨x, y, z⟩, rfl⟩
theorem list2 {α : Type} (l : List α) (h : l.length = 2) : ∃ a b, l = [a, b] := by
  match l, h with
  | [a, b], _ => exact ⟨a, b, rfl⟩
theorem open_two {H : Type} {enc : TypeId × Value → H} {w : World} {v : Value} {d : DataW H} {p : List MemPlace} {b0 : Nat}
    (hval : Value.okWide Try.prog w .any b0 27 v) (h : DataW.Trod enc Try.prog w 0 (fun _ => true) true 27 v d p) :
    ∃ n0 n1 : Int, v = .agg #[.int .i64 n0, .int .i64 n1] ∧ n0 ≤ 9223372036854775807 ∧ n1 ≤ 9223372036854775807 := by
  obtain ⟨⟨cs⟩, rfl, hsz, _⟩ : ∃ cs, v = .agg cs ∧ cs.size = Try.prog.cellsOf 27 ∧ Row.okWide Try.prog w .any b0 27 cs := by
    simpa [Value.okWide, Try.underlying27] using hval
  obtain ⟨fuel, hf⟩ := h
  obtain ⟨xs, m, _, _, hl, hx, hat⟩ := DataW.trod_array Try.underlying27 hf
  have hl' : cs.length = 2 := Eq.trans (b := Try.prog.cellsOf 27) hl (show Try.prog.cellsOf 27 = 2 by kernel_rfl)
  obtain ⟨c0, c1, rfl⟩ := list2 cs hl'
  rw [show Try.prog.cellsOf 3 = 1 by kernel_rfl] at hat
  have at' : ∀ i (hi : i < 2), ∃ n : Int, (([c0, c1] : List Value).drop (i * 1)).take 1 = [.int .i64 n] ∧ n ≤ 9223372036854775807 := fun i hi => by
    have h0 := hat i hi
    rw [List.getElem?_eq_getElem (by omega)] at h0
    obtain ⟨n, e, _, q⟩ := DataW.trod_int Try.underlying3 h0
    exact ⟨n, e, (bounds_i64 q).2⟩
  obtain ⟨a0, h0, q0⟩ := at' 0 (by decide)
  obtain ⟨a1, h1, q1⟩ := at' 1 (by decide)
  simp at h0 h1
  subst h0 h1
  exact ⟨a0, a1, rfl, q0, q1⟩
end Go.Proofs.Ytjnonngnkkdmdaa
