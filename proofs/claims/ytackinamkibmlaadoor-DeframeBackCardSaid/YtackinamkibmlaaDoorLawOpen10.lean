/- My own small kit: an argument that is a stanza; and the document's Light. -/
import Derived.Test.YtackinamkibmlaaDoorLawOpenI
import Derived.Test.YtackinamkibmlaaDoorS10E
namespace Go.Proofs.YtackinamkibmlaaDoor
open Go.RowKit Go.ChangeShapes Go.WideShapes Go.ChangeAt Go.ChangeMaps Go.Joins
set_option linter.unusedVariables false
set_option linter.unusedSimpArgs false
set_option maxRecDepth 1000000

theorem list8 {α : Type} (l : List α) (h : l.length = 8) : ∃ a b c d e f g i, l = [a, b, c, d, e, f, g, i] := by
  match l, h with
  | [a, b, c, d, e, f, g, i], _ => exact ⟨a, b, c, d, e, f, g, i, rfl⟩
theorem u8_back {k : Int} (h0 : 0 ≤ k) (h1 : k ≤ 255) : (((UInt8.ofNat k.toNat).toNat : Nat) : Int) = k := by
  simp only [UInt8.toNat_ofNat']
  omega
theorem open_stanza {H : Type} {enc : TypeId × Value → H} {w : World} {v : Value} {d : DataW H} {p : List MemPlace} {b0 : Nat}
    (hval : Value.okWide Tryd.prog w .any b0 38 v) (h : DataW.Trod enc Tryd.prog w 0 (fun _ => true) true 38 v d p) : ∃ x : St, v = stzV x := by
  obtain ⟨⟨cs⟩, rfl, hsz⟩ := okWide_struct Tryd.underlying38 hval
  obtain ⟨fuel, hf⟩ := h
  obtain ⟨xs, q, _, _, hl, hx, hat⟩ := DataW.trod_struct Tryd.underlying38 hf
  have hxl : xs.length = 8 := hx
  have hl' : cs.length = 8 := Eq.trans (b := Tryd.prog.cellsOf 38) hl (show Tryd.prog.cellsOf 38 = 8 by kernel_rfl)
  obtain ⟨c0, c1, c2, c3, c4, c5, c6, c7, rfl⟩ := list8 cs hl'
  have e0 : DataW.trod enc Tryd.prog w 0 (fun _ => true) true q 5 (List.take (Tryd.prog.cellsOf 5) [c0, c1, c2, c3, c4, c5, c6, c7]) = some xs[0] := Eq.trans (hat 0 _ rfl) (List.getElem?_eq_getElem (by omega))
  have e1 : DataW.trod enc Tryd.prog w 0 (fun _ => true) true q 9 (List.take (Tryd.prog.cellsOf 9) [c1, c2, c3, c4, c5, c6, c7]) = some xs[1] := Eq.trans (hat 1 _ rfl) (List.getElem?_eq_getElem (by omega))
  have e2 : DataW.trod enc Tryd.prog w 0 (fun _ => true) true q 9 (List.take (Tryd.prog.cellsOf 9) [c2, c3, c4, c5, c6, c7]) = some xs[2] := Eq.trans (hat 2 _ rfl) (List.getElem?_eq_getElem (by omega))
  have e3 : DataW.trod enc Tryd.prog w 0 (fun _ => true) true q 9 (List.take (Tryd.prog.cellsOf 9) [c3, c4, c5, c6, c7]) = some xs[3] := Eq.trans (hat 3 _ rfl) (List.getElem?_eq_getElem (by omega))
  have e4 : DataW.trod enc Tryd.prog w 0 (fun _ => true) true q 3 (List.take (Tryd.prog.cellsOf 3) [c4, c5, c6, c7]) = some xs[4] := Eq.trans (hat 4 _ rfl) (List.getElem?_eq_getElem (by omega))
  have e5 : DataW.trod enc Tryd.prog w 0 (fun _ => true) true q 3 (List.take (Tryd.prog.cellsOf 3) [c5, c6, c7]) = some xs[5] := Eq.trans (hat 5 _ rfl) (List.getElem?_eq_getElem (by omega))
  have e6 : DataW.trod enc Tryd.prog w 0 (fun _ => true) true q 3 (List.take (Tryd.prog.cellsOf 3) [c6, c7]) = some xs[6] := Eq.trans (hat 6 _ rfl) (List.getElem?_eq_getElem (by omega))
  have e7 : DataW.trod enc Tryd.prog w 0 (fun _ => true) true q 3 (List.take (Tryd.prog.cellsOf 3) [c7]) = some xs[7] := Eq.trans (hat 7 _ rfl) (List.getElem?_eq_getElem (by omega))
  rw [show Tryd.prog.cellsOf 5 = 1 by kernel_rfl] at e0
  rw [show Tryd.prog.cellsOf 9 = 1 by kernel_rfl] at e1 e2 e3
  rw [show Tryd.prog.cellsOf 3 = 1 by kernel_rfl] at e4 e5 e6 e7
  simp only [List.take_succ_cons, List.take_zero] at e0 e1 e2 e3 e4 e5 e6 e7
  obtain ⟨k, k0, _, hk⟩ := DataW.trod_int Tryd.underlying5 e0
  obtain ⟨u, k1, _, _⟩ := DataW.trod_string Tryd.underlying9 e1
  obtain ⟨r, k2, _, _⟩ := DataW.trod_string Tryd.underlying9 e2
  obtain ⟨m, k3, _, _⟩ := DataW.trod_string Tryd.underlying9 e3
  obtain ⟨s, k4, _, _⟩ := DataW.trod_int Tryd.underlying3 e4
  obtain ⟨p, k5, _, _⟩ := DataW.trod_int Tryd.underlying3 e5
  obtain ⟨c, k6, _, _⟩ := DataW.trod_int Tryd.underlying3 e6
  obtain ⟨n, k7, _, _⟩ := DataW.trod_int Tryd.underlying3 e7
  cases k0
  cases k1
  cases k2
  cases k3
  cases k4
  cases k5
  cases k6
  cases k7
  have hb := bounds_u8 hk
  exact ⟨⟨UInt8.ofNat k.toNat, u, r, m, s, p, c, n⟩, by simp only [stzV]; rw [u8_back hb.1 hb.2]⟩
theorem light_any (x : St) (w : World) : Calls Tryd.prog 10 #[stzV x] w fun e w' => e = .returned (.bool (decide (x.u.size ≤ 100) && (decide (x.r.size ≤ 100) && decide (x.m.size ≤ 100)))) ∧ Below w.heap.size w w' := by
  simp only [stzV]
  by_cases h1 : x.u.size ≤ 100
  · have h1' : (x.u.size : Int) ≤ 100 := by omega
    by_cases h2 : x.r.size ≤ 100
    · have h2' : (x.r.size : Int) ≤ 100 := by omega
      by_cases h3 : x.m.size ≤ 100
      · have h3' : (x.m.size : Int) ≤ 100 := by omega
        rw [decide_eq_true h1, decide_eq_true h2, decide_eq_true h3]
        clear h1 h2 h3
        go_enter Tryd.func10, Tryd.ntmps10
        go_wp2
        go_ret
        exact ⟨rfl, by (repeat (first | (with_reducible exact Below.refl _ _) | ((with_reducible refine below_alloc ?_ ?_ _); · (first | omega | (simp; done) | (simp; omega))) | ((with_reducible refine below_setCell ?_ ?_ _); · (first | omega | (simp; done) | (simp; omega))) | (with_reducible refine Below.drew ?_) | (with_reducible refine below_drewN ?_ _) | ((with_reducible refine below_call (by assumption) ?_ ?_); · (first | omega | (simp; done) | (simp; omega)))))⟩
      · have h3' : ¬ (x.m.size : Int) ≤ 100 := by omega
        rw [decide_eq_true h1, decide_eq_true h2, decide_eq_false h3]
        clear h1 h2 h3
        go_enter Tryd.func10, Tryd.ntmps10
        go_wp2
        go_ret
        exact ⟨rfl, by (repeat (first | (with_reducible exact Below.refl _ _) | ((with_reducible refine below_alloc ?_ ?_ _); · (first | omega | (simp; done) | (simp; omega))) | ((with_reducible refine below_setCell ?_ ?_ _); · (first | omega | (simp; done) | (simp; omega))) | (with_reducible refine Below.drew ?_) | (with_reducible refine below_drewN ?_ _) | ((with_reducible refine below_call (by assumption) ?_ ?_); · (first | omega | (simp; done) | (simp; omega)))))⟩
    · have h2' : ¬ (x.r.size : Int) ≤ 100 := by omega
      rw [decide_eq_true h1, decide_eq_false h2]
      clear h1 h2
      go_enter Tryd.func10, Tryd.ntmps10
      go_wp2
      go_ret
      exact ⟨rfl, by (repeat (first | (with_reducible exact Below.refl _ _) | ((with_reducible refine below_alloc ?_ ?_ _); · (first | omega | (simp; done) | (simp; omega))) | ((with_reducible refine below_setCell ?_ ?_ _); · (first | omega | (simp; done) | (simp; omega))) | (with_reducible refine Below.drew ?_) | (with_reducible refine below_drewN ?_ _) | ((with_reducible refine below_call (by assumption) ?_ ?_); · (first | omega | (simp; done) | (simp; omega)))))⟩
  · have h1' : ¬ (x.u.size : Int) ≤ 100 := by omega
    rw [decide_eq_false h1]
    clear h1
    go_enter Tryd.func10, Tryd.ntmps10
    go_wp2
    go_ret
    exact ⟨rfl, by (repeat (first | (with_reducible exact Below.refl _ _) | ((with_reducible refine below_alloc ?_ ?_ _); · (first | omega | (simp; done) | (simp; omega))) | ((with_reducible refine below_setCell ?_ ?_ _); · (first | omega | (simp; done) | (simp; omega))) | (with_reducible refine Below.drew ?_) | (with_reducible refine below_drewN ?_ _) | ((with_reducible refine below_call (by assumption) ?_ ?_); · (first | omega | (simp; done) | (simp; omega)))))⟩
end Go.Proofs.YtackinamkibmlaaDoor
