/- My own small kit: an argument that is an address. -/
import Derived.Test.YtngaklciclbofaaDoorLawOpenI
import Derived.Test.YtngaklciclbofaaDoorA9C
namespace Go.Proofs.YtngaklciclbofaaDoor
open Go.RowKit Go.ChangeShapes Go.WideShapes Go.ChangeAt Go.ChangeMaps Go.Joins
set_option linter.unusedVariables false
set_option linter.unusedSimpArgs false

theorem open_addr {H : Type} {enc : TypeId × Value → H} {w : World} {v : Value} {d : DataW H} {p : List MemPlace} {b0 : Nat}
    (hval : Value.okWide Tryd.prog w .any b0 28 v) (h : DataW.Trod enc Tryd.prog w 0 (fun _ => true) true 28 v d p) :
    ∃ n ho r : ByteArray, v = adV n ho r ∧ n.size ≤ maxLen ∧ ho.size ≤ maxLen ∧ r.size ≤ maxLen := by
  obtain ⟨v0, v1, v2, y0, y1, y2, k, rfl, _, _, h0, h1, h2⟩ := open_agg3 Tryd.underlying28 (by kernel_rfl) (by kernel_rfl) hval h
  obtain ⟨n, e0, _, q0⟩ := DataW.trod_string Tryd.underlying9 h0
  obtain ⟨ho, e1, _, q1⟩ := DataW.trod_string Tryd.underlying9 h1
  obtain ⟨r, e2, _, q2⟩ := DataW.trod_string Tryd.underlying9 h2
  cases e0
  cases e1
  cases e2
  exact ⟨n, ho, r, rfl, q0, q1, q2⟩
end Go.Proofs.YtngaklciclbofaaDoor
