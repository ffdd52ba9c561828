/- My own small kit: an argument that is a slice of stanzas; texts of memory's length. -/
import Derived.Test.YtackinamkibmlaaDoorLawOpen10
import Derived.Test.YtackinamkibmlaaDoorLawRow
import Derived.Test.YtackinamkibmlaaDoorD12MB
namespace Go.Proofs.YtackinamkibmlaaDoor
open Go.RowKit Go.ChangeShapes Go.WideShapes Go.ChangeAt Go.ChangeMaps Go.Joins
set_option linter.unusedVariables false
set_option linter.unusedSimpArgs false
set_option maxRecDepth 1000000

instance : Inhabited St := ⟨St.nil 0⟩
theorem open_stanzas {H : Type} {enc : TypeId × Value → H} {w : World} {v : Value} {d : DataW H} {p : List MemPlace} {b0 : Nat}
    (hval : Value.okWide Tryd.prog w .any b0 34 v) (h : DataW.Trod enc Tryd.prog w 0 (fun _ => true) true 34 v d p) : ∃ l : List St, IsR 8 stC w v l ∧ l.length ≤ maxLen := by
  obtain ⟨a, n, c, rfl⟩ := okWide_slice Tryd.underlying34 hval
  obtain ⟨fuel, hf⟩ := h
  obtain ⟨l, h1, h2, _⟩ := open_rows_of (te := 38) (z := 8) (cs := stC) (Q := fun _ => True) Tryd.underlying34 (by kernel_rfl) (by decide) stC_len (fun q cs y hl' ht => by
    obtain ⟨xs, q, _, _, hl, hx, hat⟩ := DataW.trod_struct Tryd.underlying38 ht
    have hxl : xs.length = 8 := hx
    obtain ⟨c0, c1, c2, c3, c4, c5, c6, c7, rfl⟩ := list8 cs hl'
    have e0 : DataW.trod enc Tryd.prog w 0 (fun _ => true) true q 5 (List.take (Tryd.prog.cellsOf 5) [c0, c1, c2, c3, c4, c5, c6, c7]) = some xs[0] := Eq.trans (hat 0 _ rfl) (List.getElem?_eq_getElem (by omega))
    have e1 : DataW.trod enc Tryd.prog w 0 (fun _ => true) true q 9 (List.take (Tryd.prog.cellsOf 9) [c1, c2, c3, c4, c5, c6, c7]) = some xs[1] := Eq.trans (hat 1 _ rfl) (List.getElem?_eq_getElem (by omega))
    have e2 : DataW.trod enc Tryd.prog w 0 (fun _ => true) true q 9 (List.take (Tryd.prog.cellsOf 9) [c2, c3, c4, c5, c6, c7]) = some xs[2] := Eq.trans (hat 2 _ rfl) (List.getElem?_eq_getElem (by omega))
    have e3 : DataW.trod enc Tryd.prog w 0 (fun _ => true) true q 9 (List.take (Tryd.prog.cellsOf 9) [c3, c4, c5, c6, c7]) = some xs[3] := Eq.trans (hat 3 _ rfl) (List.getElem?_eq_getElem (by omega))
    have e4 : DataW.trod enc Tryd.prog w 0 (fun _ => true) true q 3 (List.take (Tryd.prog.cellsOf 3) [c4, c5, c6, c7]) = some xs[4] := Eq.trans (hat 4 _ rfl) (List.getElem?_eq_getElem (by omega))
    have e5 : DataW.trod enc Tryd.prog w 0 (fun _ => true) true q 3 (List.take (Tryd.prog.cellsOf 3) [c5, c6, c7]) = some xs[5] := Eq.trans (hat 5 _ rfl) (List.getElem?_eq_getElem (by omega))
    have e6 : DataW.trod enc Tryd.prog w 0 (fun _ => true) true q 3 (List.take (Tryd.prog.cellsOf 3) [c6, c7]) = some xs[6] := Eq.trans (hat 6 _ rfl) (List.getElem?_eq_getElem (by omega))
    have e7 : DataW.trod enc Tryd.prog w 0 (fun _ => true) true q 3 (List.take (Tryd.prog.cellsOf 3) [c7]) = some xs[7] := Eq.trans (hat 7 _ rfl) (List.getElem?_eq_getElem (by omega))
    rw [show Tryd.prog.cellsOf 5 = 1 by kernel_rfl] at e0
    rw [show Tryd.prog.cellsOf 9 = 1 by kernel_rfl] at e1 e2 e3
    rw [show Tryd.prog.cellsOf 3 = 1 by kernel_rfl] at e4 e5 e6 e7
    simp only [List.take_succ_cons, List.take_zero] at e0 e1 e2 e3 e4 e5 e6 e7
    obtain ⟨k, k0, _, hk⟩ := DataW.trod_int Tryd.underlying5 e0
    obtain ⟨u, k1, _, _⟩ := DataW.trod_string Tryd.underlying9 e1
    obtain ⟨r, k2, _, _⟩ := DataW.trod_string Tryd.underlying9 e2
    obtain ⟨m, k3, _, _⟩ := DataW.trod_string Tryd.underlying9 e3
    obtain ⟨s, k4, _, _⟩ := DataW.trod_int Tryd.underlying3 e4
    obtain ⟨p, k5, _, _⟩ := DataW.trod_int Tryd.underlying3 e5
    obtain ⟨c, k6, _, _⟩ := DataW.trod_int Tryd.underlying3 e6
    obtain ⟨n, k7, _, _⟩ := DataW.trod_int Tryd.underlying3 e7
    cases k0
    cases k1
    cases k2
    cases k3
    cases k4
    cases k5
    cases k6
    cases k7
    have hb := bounds_u8 hk
    exact ⟨⟨UInt8.ofNat k.toNat, u, r, m, s, p, c, n⟩, by simp only [stC]; rw [u8_back hb.1 hb.2], trivial⟩) hf
  exact ⟨l, h1, h2⟩
end Go.Proofs.YtackinamkibmlaaDoor
