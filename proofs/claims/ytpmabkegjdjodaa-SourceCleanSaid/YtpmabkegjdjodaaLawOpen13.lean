/- My own small kit: an argument that is a conf, a bucket, or a pair of numbers. -/
import Derived.Test.YtpmabkegjdjodaaLawOpenI
import Derived.Test.YtpmabkegjdjodaaB13A
namespace Go.Proofs.Ytpmabkegjdjodaa
open Go.RowKit Go.ChangeShapes Go.WideShapes Go.ChangeAt Go.ChangeMaps Go.Joins
set_option linter.unusedVariables false
set_option linter.unusedSimpArgs false

/-- all that lay in W lies in w as it did -/
def Fr (W w : World) : Prop := Below W.heap.size W w
theorem Fr.refl (W : World) : Fr W W := Below.refl _ _
theorem Fr.draw (W : World) : Fr W W.drew := Below.drew (Below.refl _ _)
theorem Fr.call {W w w1 : World} (h : Fr W w) (hb : Below w.heap.size w w1) : Fr W w1 := Below.trans h (hb.mono (Below.size h))
theorem Fr.fin {W w W' : World} (hB : Below w.heap.size w W) (h : Fr W W') : Below w.heap.size w W' := Below.trans hB (Below.mono h (Below.size hB))
theorem list2 {α : Type} (l : List α) (h : l.length = 2) : ∃ a b, l = [a, b] := by
  match l, h with
  | [a, b], _ => exact ⟨a, b, rfl⟩
theorem open_conf {H : Type} {enc : TypeId × Value → H} {w : World} {v : Value} {d : DataW H} {p : List MemPlace} {b0 : Nat}
    (hval : Value.okWide Try.prog w .any b0 23 v) (h : DataW.Trod enc Try.prog w 0 (fun _ => true) true 23 v d p) : ∃ x y : Int, v = twV x y := by
  obtain ⟨v0, v1, y0, y1, n, rfl, _, _, h0, h1⟩ := open_agg2 Try.underlying23 (by kernel_rfl) (by kernel_rfl) hval h
  obtain ⟨x, e0, _, _⟩ := DataW.trod_int Try.underlying3 h0
  obtain ⟨y, e1, _, _⟩ := DataW.trod_int Try.underlying3 h1
  cases e0
  cases e1
  exact ⟨x, y, rfl⟩
theorem open_bstate {H : Type} {enc : TypeId × Value → H} {w : World} {v : Value} {d : DataW H} {p : List MemPlace} {b0 : Nat}
    (hval : Value.okWide Try.prog w .any b0 65 v) (h : DataW.Trod enc Try.prog w 0 (fun _ => true) true 65 v d p) : ∃ x y : Int, v = twV x y := by
  obtain ⟨v0, v1, y0, y1, n, rfl, _, _, h0, h1⟩ := open_agg2 Try.underlying65 (by kernel_rfl) (by kernel_rfl) hval h
  obtain ⟨x, e0, _, _⟩ := DataW.trod_int Try.underlying3 h0
  obtain ⟨y, e1, _, _⟩ := DataW.trod_int Try.underlying3 h1
  cases e0
  cases e1
  exact ⟨x, y, rfl⟩
theorem open_two {H : Type} {enc : TypeId × Value → H} {w : World} {v : Value} {d : DataW H} {p : List MemPlace} {b0 : Nat}
    (hval : Value.okWide Try.prog w .any b0 25 v) (h : DataW.Trod enc Try.prog w 0 (fun _ => true) true 25 v d p) :
    ∃ n0 n1 : Int, v = twV n0 n1 ∧ n0 ≤ 9223372036854775807 ∧ n1 ≤ 9223372036854775807 := by
  obtain ⟨⟨cs⟩, rfl, hsz, _⟩ : ∃ cs, v = .agg cs ∧ cs.size = Try.prog.cellsOf 25 ∧ Row.okWide Try.prog w .any b0 25 cs := by
    simpa [Value.okWide, Try.underlying25] using hval
  obtain ⟨fuel, hf⟩ := h
  obtain ⟨xs, m, _, _, hl, hx, hat⟩ := DataW.trod_array Try.underlying25 hf
  have hl' : cs.length = 2 := Eq.trans (b := Try.prog.cellsOf 25) hl (show Try.prog.cellsOf 25 = 2 by kernel_rfl)
  obtain ⟨c0, c1, rfl⟩ := list2 cs hl'
  rw [show Try.prog.cellsOf 3 = 1 by kernel_rfl] at hat
  have at' : ∀ i (hi : i < 2), ∃ n : Int, (([c0, c1] : List Value).drop (i * 1)).take 1 = [.int .i64 n] ∧ n ≤ 9223372036854775807 := fun i hi => by
    have h0 := hat i hi
    rw [List.getElem?_eq_getElem (by omega)] at h0
    obtain ⟨n, e, _, q⟩ := DataW.trod_int Try.underlying3 h0
    exact ⟨n, e, (bounds_i64 q).2⟩
  obtain ⟨a0, h0, q0⟩ := at' 0 (by decide)
  obtain ⟨a1, h1, q1⟩ := at' 1 (by decide)
  simp at h0 h1
  subst h0 h1
  exact ⟨a0, a1, rfl, q0, q1⟩
end Go.Proofs.Ytpmabkegjdjodaa
