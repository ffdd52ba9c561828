/- My own small kit: an argument that is a slice of asks. -/
import Derived.Test.YtpmabkegjdjodaaLawOpen14
namespace Go.Proofs.Ytpmabkegjdjodaa
open Go.RowKit Go.ChangeShapes Go.WideShapes Go.ChangeAt Go.ChangeMaps Go.Joins
set_option linter.unusedVariables false
set_option linter.unusedSimpArgs false
set_option maxRecDepth 1000000

def akC (x : Int × Int) : List Value := [.int .u8 x.1, .int .u8 x.2]
theorem akC_len (x : Int × Int) : (akC x).length = 2 := rfl
theorem list2k {α : Type} (l : List α) (h : l.length = 2) : ∃ a b, l = [a, b] := by
  match l, h with
  | [a, b], _ => exact ⟨a, b, rfl⟩
theorem open_asks {H : Type} {enc : TypeId × Value → H} {w : World} {v : Value} {d : DataW H} {p : List MemPlace} {b0 : Nat}
    (hval : Value.okWide Try.prog w .any b0 50 v) (h : DataW.Trod enc Try.prog w 0 (fun _ => true) true 50 v d p) : ∃ l : List (Int × Int), IsR 2 akC w v l ∧ ∀ n ∈ l, (0 ≤ n.1 ∧ n.1 ≤ 255) ∧ 0 ≤ n.2 ∧ n.2 ≤ 255 := by
  obtain ⟨a, n, c, rfl⟩ := okWide_slice Try.underlying50 hval
  obtain ⟨fuel, hf⟩ := h
  obtain ⟨l, h1, _, h3⟩ := open_rows_of (te := 57) (z := 2) (cs := akC) (Q := fun n => (0 ≤ n.1 ∧ n.1 ≤ 255) ∧ 0 ≤ n.2 ∧ n.2 ≤ 255) Try.underlying50 (by kernel_rfl) (by decide) akC_len (fun q cs y hl' ht => by
    obtain ⟨xs, q, _, _, hl, hx, hat⟩ := DataW.trod_struct Try.underlying57 ht
    have hxl : xs.length = 2 := hx
    obtain ⟨c0, c1, rfl⟩ := list2k cs hl'
    have e0 : DataW.trod enc Try.prog w 0 (fun _ => true) true q 5 (List.take (Try.prog.cellsOf 5) [c0, c1]) = some xs[0] := Eq.trans (hat 0 _ rfl) (List.getElem?_eq_getElem (by omega))
    have e1 : DataW.trod enc Try.prog w 0 (fun _ => true) true q 5 (List.take (Try.prog.cellsOf 5) [c1]) = some xs[1] := Eq.trans (hat 1 _ rfl) (List.getElem?_eq_getElem (by omega))
    rw [show Try.prog.cellsOf 5 = 1 by kernel_rfl] at e0 e1
    simp only [List.take_succ_cons, List.take_zero] at e0 e1
    obtain ⟨s, k0, _, hs⟩ := DataW.trod_int Try.underlying5 e0
    obtain ⟨g, k1, _, hg⟩ := DataW.trod_int Try.underlying5 e1
    cases k0
    cases k1
    exact ⟨(s, g), rfl, bounds_u8 hs, bounds_u8 hg⟩) hf
  exact ⟨l, h1, h3⟩
end Go.Proofs.Ytpmabkegjdjodaa
