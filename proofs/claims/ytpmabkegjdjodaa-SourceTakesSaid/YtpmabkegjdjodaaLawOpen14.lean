/- My own small kit: an argument that is a slice of entries. -/
import Derived.Test.YtpmabkegjdjodaaLawOpen13
import Derived.Test.YtpmabkegjdjodaaLawRow
import Derived.Test.YtpmabkegjdjodaaS14E
namespace Go.Proofs.Ytpmabkegjdjodaa
open Go.RowKit Go.ChangeShapes Go.WideShapes Go.ChangeAt Go.ChangeMaps Go.Joins
set_option linter.unusedVariables false
set_option linter.unusedSimpArgs false
set_option maxRecDepth 1000000

theorem list3 {α : Type} (l : List α) (h : l.length = 3) : ∃ a b c, l = [a, b, c] := by
  match l, h with
  | [a, b, c], _ => exact ⟨a, b, c, rfl⟩
theorem open_entries {H : Type} {enc : TypeId × Value → H} {w : World} {v : Value} {d : DataW H} {p : List MemPlace} {b0 : Nat}
    (hval : Value.okWide Try.prog w .any b0 24 v) (h : DataW.Trod enc Try.prog w 0 (fun _ => true) true 24 v d p) : ∃ l : List En, IsR 3 enC w v l ∧ l.length ≤ maxLen := by
  obtain ⟨a, n, c, rfl⟩ := okWide_slice Try.underlying24 hval
  obtain ⟨fuel, hf⟩ := h
  obtain ⟨l, h1, h2, _⟩ := open_rows_of (te := 67) (z := 3) (cs := enC) (Q := fun _ => True) Try.underlying24 (by kernel_rfl) (by decide) enC_len (fun q cs y hl' ht => by
    obtain ⟨xs, q, _, _, hl, hx, hat⟩ := DataW.trod_struct Try.underlying67 ht
    have hxl : xs.length = 2 := hx
    obtain ⟨c0, c1, c2, rfl⟩ := list3 cs hl'
    have e0 : DataW.trod enc Try.prog w 0 (fun _ => true) true q 3 (List.take (Try.prog.cellsOf 3) [c0, c1, c2]) = some xs[0] := Eq.trans (hat 0 _ rfl) (List.getElem?_eq_getElem (by omega))
    have e1 : DataW.trod enc Try.prog w 0 (fun _ => true) true q 65 (List.take (Try.prog.cellsOf 65) [c1, c2]) = some xs[1] := Eq.trans (hat 1 _ rfl) (List.getElem?_eq_getElem (by omega))
    rw [show Try.prog.cellsOf 3 = 1 by kernel_rfl] at e0
    rw [show Try.prog.cellsOf 65 = 2 by kernel_rfl] at e1
    simp only [List.take_succ_cons, List.take_zero] at e0 e1
    obtain ⟨ys, r, _, _, hl2, hy, hat2⟩ := DataW.trod_struct Try.underlying65 e1
    have hyl : ys.length = 2 := hy
    have f0 : DataW.trod enc Try.prog w 0 (fun _ => true) true r 3 (List.take (Try.prog.cellsOf 3) [c1, c2]) = some ys[0] := Eq.trans (hat2 0 _ rfl) (List.getElem?_eq_getElem (by omega))
    have f1 : DataW.trod enc Try.prog w 0 (fun _ => true) true r 3 (List.take (Try.prog.cellsOf 3) [c2]) = some ys[1] := Eq.trans (hat2 1 _ rfl) (List.getElem?_eq_getElem (by omega))
    rw [show Try.prog.cellsOf 3 = 1 by kernel_rfl] at f0 f1
    simp only [List.take_succ_cons, List.take_zero] at f0 f1
    obtain ⟨s, k0, _, _⟩ := DataW.trod_int Try.underlying3 e0
    obtain ⟨t, k1, _, _⟩ := DataW.trod_int Try.underlying3 f0
    obtain ⟨a, k2, _, _⟩ := DataW.trod_int Try.underlying3 f1
    cases k0
    cases k1
    cases k2
    exact ⟨(s, t, a), rfl, trivial⟩) hf
  exact ⟨l, h1, h2⟩
end Go.Proofs.Ytpmabkegjdjodaa
