/- My own small kit: an argument that is a slice of numbers. -/
import Derived.Test.YtjnonngnkkdmdaaLawKit
import Derived.Test.YtjnonngnkkdmdaaKitI
import Derived.ChangeSlices
import Derived.Lib.SmallJoins
namespace Go.Proofs.Ytjnonngnkkdmdaa
open Go.RowKit Go.ChangeShapes Go.WideShapes Go.ChangeAt Go.ChangeMaps
set_option linter.unusedVariables false
set_option linter.unusedSimpArgs false

theorem addr_plain {w : World} {a : Addr} {u : Value} (h0 : w.cell? (a.add 0) = some u) : ∃ b off, a = ⟨b, off, none⟩ ∧ ∀ j (v : Value), w.cell? (a.add j) = some v → w.cell? ⟨b, off + j, none⟩ = some v := by
  obtain ⟨b, off, spot⟩ := a
  have hspot : spot = none := by simpa [Addr.add] using World.cell?_spot h0
  subst hspot
  exact ⟨b, off, rfl, fun j v h => by rw [← Go.WideShapes.add_plain]; exact h⟩
set_option maxRecDepth 1000000 in
theorem open_nums_k {H : Type} {enc : TypeId × Value → H} {w : World} {v : Value} {d : DataW H} {p : List MemPlace} {b0 : Nat} {ts te : TypeId} {q : IntKind}
    (hs : Try.prog.underlying ts = some (.slice te)) (he : Try.prog.underlying te = some (.int q)) (hc1 : Try.prog.cellsOf te = 1)
    (hval : Value.okWide Try.prog w .any b0 ts v) (h : DataW.Trod enc Try.prog w 0 (fun _ => true) true ts v d p) :
    ∃ l : List Int, IsIk q w v l ∧ l.length ≤ maxLen ∧ ∀ n ∈ l, (Lit.int q n).wf = true := by
  obtain ⟨a, n, c, rfl⟩ := okWide_slice hs hval
  obtain ⟨fuel, hf⟩ := h
  rcases open_ints hs he hc1 hf with ⟨hc, _⟩ | ⟨a', len, cap, zs, hc, _, hl, hm, hlen, _, hcell, hwf⟩
  · simp [Value.cells] at hc
    obtain ⟨rfl, rfl, rfl⟩ := hc
    exact ⟨[], ⟨none, 0, rfl, fun j hj => by cases hj⟩, Nat.zero_le _, fun n hn => by cases hn⟩
  · simp [Value.cells] at hc
    obtain ⟨rfl, rfl, rfl⟩ := hc
    simp only [if_true] at hlen
    have hlt : (zs.take n).length = n := by simp; omega
    refine ⟨zs.take n, ⟨some a', c, by rw [hlt], fun j hj => ?_⟩, by omega, fun x hx => hwf x (List.mem_of_mem_take hx)⟩
    rw [hlt] at hj
    obtain ⟨b, off, rfl, h⟩ := addr_plain (hcell 0 (by omega))
    exact ⟨b, off, rfl, by rw [h j _ (hcell j (by omega))]; simp [List.getD, show j < zs.length by omega]⟩
end Go.Proofs.Ytjnonngnkkdmdaa
