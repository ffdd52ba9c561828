/- My own small kit: an argument that is a slice of plans, or of acts. -/
import Derived.Test.YtcanaadcjipfjaaLawOpenI
import Derived.Test.YtcanaadcjipfjaaLawRow
import Derived.Test.YtcanaadcjipfjaaW15K
namespace Go.Proofs.Ytcanaadcjipfjaa
open Go.RowKit Go.ChangeShapes Go.WideShapes Go.ChangeAt Go.ChangeMaps Go.Joins
set_option linter.unusedVariables false
set_option linter.unusedSimpArgs false
set_option maxRecDepth 1000000

/-- a plan: a number, so many ticks ahead, a gap, a stop -/
abbrev Pl := Int × Int × Int × Bool
def plC (x : Pl) : List Value := [.int .u8 x.1, .int .u8 x.2.1, .int .u8 x.2.2.1, .bool x.2.2.2]
theorem plC_len (x : Pl) : (plC x).length = 4 := rfl
abbrev Ac15 := Int × Int × Int
def acC (x : Ac15) : List Value := [.int .u8 x.1, .int .i64 x.2.1, .int .i64 x.2.2]
theorem acC_len (x : Ac15) : (acC x).length = 3 := rfl
def PlOk (x : Pl) : Prop := (0 ≤ x.1 ∧ x.1 ≤ 255) ∧ (0 ≤ x.2.1 ∧ x.2.1 ≤ 255) ∧ 0 ≤ x.2.2.1 ∧ x.2.2.1 ≤ 255
def AcOk (x : Ac15) : Prop := (0 ≤ x.1 ∧ x.1 ≤ 255) ∧ I64 x.2.1 ∧ I64 x.2.2
theorem list4p {α : Type} (l : List α) (h : l.length = 4) : ∃ a b c d, l = [a, b, c, d] := by
  match l, h with
  | [a, b, c, d], _ => exact ⟨a, b, c, d, rfl⟩
theorem list3p {α : Type} (l : List α) (h : l.length = 3) : ∃ a b c, l = [a, b, c] := by
  match l, h with
  | [a, b, c], _ => exact ⟨a, b, c, rfl⟩
theorem open_plans {H : Type} {enc : TypeId × Value → H} {w : World} {v : Value} {d : DataW H} {p : List MemPlace} {b0 : Nat}
    (hval : Value.okWide Try.prog w .any b0 57 v) (h : DataW.Trod enc Try.prog w 0 (fun _ => true) true 57 v d p) : ∃ l : List Pl, IsR 4 plC w v l ∧ ∀ n ∈ l, PlOk n := by
  obtain ⟨a, n, c, rfl⟩ := okWide_slice Try.underlying57 hval
  obtain ⟨fuel, hf⟩ := h
  obtain ⟨l, h1, _, h3⟩ := open_rows_of (te := 60) (z := 4) (cs := plC) (Q := PlOk) Try.underlying57 (by kernel_rfl) (by decide) plC_len (fun q cs y hl' ht => by
    obtain ⟨xs, q, _, _, hl, hx, hat⟩ := DataW.trod_struct Try.underlying60 ht
    have hxl : xs.length = 4 := hx
    obtain ⟨c0, c1, c2, c3, rfl⟩ := list4p cs hl'
    have e0 : DataW.trod enc Try.prog w 0 (fun _ => true) true q 5 (List.take (Try.prog.cellsOf 5) [c0, c1, c2, c3]) = some xs[0] := Eq.trans (hat 0 _ rfl) (List.getElem?_eq_getElem (by omega))
    have e1 : DataW.trod enc Try.prog w 0 (fun _ => true) true q 5 (List.take (Try.prog.cellsOf 5) [c1, c2, c3]) = some xs[1] := Eq.trans (hat 1 _ rfl) (List.getElem?_eq_getElem (by omega))
    have e2 : DataW.trod enc Try.prog w 0 (fun _ => true) true q 5 (List.take (Try.prog.cellsOf 5) [c2, c3]) = some xs[2] := Eq.trans (hat 2 _ rfl) (List.getElem?_eq_getElem (by omega))
    have e3 : DataW.trod enc Try.prog w 0 (fun _ => true) true q 4 (List.take (Try.prog.cellsOf 4) [c3]) = some xs[3] := Eq.trans (hat 3 _ rfl) (List.getElem?_eq_getElem (by omega))
    rw [show Try.prog.cellsOf 5 = 1 by kernel_rfl] at e0 e1 e2
    rw [show Try.prog.cellsOf 4 = 1 by kernel_rfl] at e3
    simp only [List.take_succ_cons, List.take_zero] at e0 e1 e2 e3
    obtain ⟨s, k0, _, hs⟩ := DataW.trod_int Try.underlying5 e0
    obtain ⟨g, k1, _, hg⟩ := DataW.trod_int Try.underlying5 e1
    obtain ⟨t, k2, _, hv2⟩ := DataW.trod_int Try.underlying5 e2
    obtain ⟨b, k3, _⟩ := DataW.trod_bool Try.underlying4 e3
    cases k0
    cases k1
    cases k2
    cases k3
    exact ⟨(s, g, t, b), rfl, bounds_u8 hs, bounds_u8 hg, bounds_u8 hv2⟩) hf
  exact ⟨l, h1, h3⟩
theorem open_acts {H : Type} {enc : TypeId × Value → H} {w : World} {v : Value} {d : DataW H} {p : List MemPlace} {b0 : Nat}
    (hval : Value.okWide Try.prog w .any b0 22 v) (h : DataW.Trod enc Try.prog w 0 (fun _ => true) true 22 v d p) : ∃ l : List Ac15, IsR 3 acC w v l ∧ ∀ n ∈ l, AcOk n := by
  obtain ⟨a, n, c, rfl⟩ := okWide_slice Try.underlying22 hval
  obtain ⟨fuel, hf⟩ := h
  obtain ⟨l, h1, _, h3⟩ := open_rows_of (te := 34) (z := 3) (cs := acC) (Q := AcOk) Try.underlying22 (by kernel_rfl) (by decide) acC_len (fun q cs y hl' ht => by
    obtain ⟨xs, q, _, _, hl, hx, hat⟩ := DataW.trod_struct Try.underlying34 ht
    have hxl : xs.length = 3 := hx
    obtain ⟨c0, c1, c2, rfl⟩ := list3p cs hl'
    have e0 : DataW.trod enc Try.prog w 0 (fun _ => true) true q 5 (List.take (Try.prog.cellsOf 5) [c0, c1, c2]) = some xs[0] := Eq.trans (hat 0 _ rfl) (List.getElem?_eq_getElem (by omega))
    have e1 : DataW.trod enc Try.prog w 0 (fun _ => true) true q 3 (List.take (Try.prog.cellsOf 3) [c1, c2]) = some xs[1] := Eq.trans (hat 1 _ rfl) (List.getElem?_eq_getElem (by omega))
    have e2 : DataW.trod enc Try.prog w 0 (fun _ => true) true q 3 (List.take (Try.prog.cellsOf 3) [c2]) = some xs[2] := Eq.trans (hat 2 _ rfl) (List.getElem?_eq_getElem (by omega))
    rw [show Try.prog.cellsOf 5 = 1 by kernel_rfl] at e0
    rw [show Try.prog.cellsOf 3 = 1 by kernel_rfl] at e1 e2
    simp only [List.take_succ_cons, List.take_zero] at e0 e1 e2
    obtain ⟨s, k0, _, hs⟩ := DataW.trod_int Try.underlying5 e0
    obtain ⟨g, k1, _, hg⟩ := DataW.trod_int Try.underlying3 e1
    obtain ⟨t, k2, _, hv2⟩ := DataW.trod_int Try.underlying3 e2
    cases k0
    cases k1
    cases k2
    exact ⟨(s, g, t), rfl, bounds_u8 hs, bounds_i64 hg, bounds_i64 hv2⟩) hf
  exact ⟨l, h1, h3⟩
end Go.Proofs.Ytcanaadcjipfjaa
