/- My own small kit: an argument that is a slice of numbers, of texts, a Read. -/
import Derived.Test.YtbaclfpkaobggaaLawKit
import Derived.Test.YtbaclfpkaobggaaKitS
import Derived.SliceStrings
import Derived.ChangeSlices
import Derived.Lib.SmallJoins
namespace Go.Proofs.Ytbaclfpkaobggaa
open Go.RowKit Go.ChangeShapes Go.WideShapes Go.ChangeAt Go.ChangeMaps
set_option linter.unusedVariables false
set_option linter.unusedSimpArgs false

/-- v is a slice that reads as these numbers -/
def IsI (w : World) (v : Value) (l : List Int) : Prop :=
  ∃ p cap, v = .slice p l.length cap ∧ ∀ j (h : j < l.length), ∃ b off, p = some ⟨b, off, none⟩ ∧ w.cell? ⟨b, off + j, none⟩ = some (.int .i64 l[j])
theorem addr_plain {w : World} {a : Addr} {u : Value} (h0 : w.cell? (a.add 0) = some u) : ∃ b off, a = ⟨b, off, none⟩ ∧ ∀ j (v : Value), w.cell? (a.add j) = some v → w.cell? ⟨b, off + j, none⟩ = some v := by
  obtain ⟨b, off, spot⟩ := a
  have hspot : spot = none := by simpa [Addr.add] using World.cell?_spot h0
  subst hspot
  exact ⟨b, off, rfl, fun j v h => by rw [← Go.WideShapes.add_plain]; exact h⟩
theorem open_texts {H : Type} {enc : TypeId × Value → H} {w : World} {v : Value} {d : DataW H} {p : List MemPlace} {b0 : Nat}
    (hval : Value.okWide Try.prog w .any b0 28 v) (h : DataW.Trod enc Try.prog w 0 (fun _ => true) true 28 v d p) :
    ∃ l : List ByteArray, IsS w v l ∧ l.length ≤ maxLen ∧ ∀ s ∈ l, s.size ≤ maxLen := by
  obtain ⟨a, n, c, rfl⟩ := okWide_slice Try.underlying28 hval
  obtain ⟨fuel, hf⟩ := h
  rcases open_strings Try.underlying28 Try.underlying9 (by kernel_rfl) hf with ⟨hc, _⟩ | ⟨a', len, cap, zs, hc, _, hl, hm, hlen, _, hcell, hsz⟩
  · simp [Value.cells] at hc
    obtain ⟨rfl, rfl, rfl⟩ := hc
    exact ⟨[], ⟨none, 0, rfl, fun j hj => by cases hj⟩, Nat.zero_le _, fun s hs => by cases hs⟩
  · simp [Value.cells] at hc
    obtain ⟨rfl, rfl, rfl⟩ := hc
    simp only [if_true] at hlen
    have hlt : (zs.take n).length = n := by simp; omega
    refine ⟨zs.take n, ⟨some a', c, by rw [hlt], fun j hj => ?_⟩, by omega, fun s hs => hsz s (List.mem_of_mem_take hs)⟩
    rw [hlt] at hj
    obtain ⟨b, off, rfl, h⟩ := addr_plain (hcell 0 (by omega))
    exact ⟨b, off, rfl, by rw [h j _ (hcell j (by omega))]; simp [List.getD, show j < zs.length by omega]⟩
end Go.Proofs.Ytbaclfpkaobggaa
