/- My own small kit: an argument that is a slice of texts. -/
import Derived.Test.YtaojbpacecedmaaLawOpenI
import Derived.Test.YtaojbpacecedmaaKitS
import Derived.SliceStrings
namespace Go.Proofs.Ytaojbpacecedmaa
open Go.RowKit Go.ChangeShapes Go.WideShapes Go.ChangeAt Go.ChangeMaps
set_option linter.unusedVariables false
set_option linter.unusedSimpArgs false
theorem open_texts {H : Type} {enc : TypeId × Value → H} {w : World} {v : Value} {d : DataW H} {p : List MemPlace} {b0 : Nat}
    (hval : Value.okWide Try.prog w .any b0 35 v) (h : DataW.Trod enc Try.prog w 0 (fun _ => true) true 35 v d p) :
    ∃ l : List ByteArray, IsS w v l ∧ l.length ≤ maxLen ∧ ∀ s ∈ l, s.size ≤ maxLen := by
  obtain ⟨a, n, c, rfl⟩ := okWide_slice Try.underlying35 hval
  obtain ⟨fuel, hf⟩ := h
  rcases open_strings Try.underlying35 Try.underlying9 (by kernel_rfl) hf with ⟨hc, _⟩ | ⟨a', len, cap, zs, hc, _, hl, hm, hlen, _, hcell, hsz⟩
  · simp [Value.cells] at hc
    obtain ⟨rfl, rfl, rfl⟩ := hc
    exact ⟨[], ⟨none, 0, rfl, fun j hj => by cases hj⟩, Nat.zero_le _, fun s hs => by cases hs⟩
  · simp [Value.cells] at hc
    obtain ⟨rfl, rfl, rfl⟩ := hc
    simp only [if_true] at hlen
    have hlt : (zs.take n).length = n := by simp; omega
    refine ⟨zs.take n, ⟨some a', c, by rw [hlt], fun j hj => ?_⟩, by omega, fun s hs => hsz s (List.mem_of_mem_take hs)⟩
    rw [hlt] at hj
    obtain ⟨b, off, rfl, h⟩ := addr_plain (hcell 0 (by omega))
    exact ⟨b, off, rfl, by rw [h j _ (hcell j (by omega))]; simp [List.getD, show j < zs.length by omega]⟩
end Go.Proofs.Ytaojbpacecedmaa
