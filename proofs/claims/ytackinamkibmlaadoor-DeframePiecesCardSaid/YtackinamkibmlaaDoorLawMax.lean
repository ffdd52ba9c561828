/- What the world's shape says of the library's own variable, handed to a law's contract. -/
import Derived.Test.YtackinamkibmlaaDoorLawLaid
import Derived.Test.YtackinamkibmlaaDoorA9G
import Derived.Handed
namespace Go.Proofs.YtackinamkibmlaaDoor
open Go.RowKit Go.ChangeShapes Go.WideShapes Go.ChangeAt Go.Lib
set_option linter.unusedVariables false
set_option linter.unusedSimpArgs false

/-- a contract may take for granted what follows from the shape of the world that it is called in -/
theorem handed_shape {a : Assume} {C : Checked} {os : Os} {f : FuncId} {r : Reach} {Pre Pre' : World → Array Value → Prop} {Post : World → Array Value → Value → World → Prop}
    (more : ∀ (w : World) (args : Array Value), w.ShapedOpen C.prog → Pre w.memory args → Pre' w.memory args) (less : ∀ (w : World) (args : Array Value), Pre' w args → Pre w args)
    (h : ReturnsInHanded a C os f r Pre' Post) : ReturnsInHanded a C os f r Pre Post := fun enter => by
  obtain ⟨e1, e2, e3, ⟨w0, t0, i0, a1, a2, a3, a4, a5, a6⟩, all⟩ := h enter
  refine ⟨e1, e2, e3, ⟨w0, t0, i0, a1, a2, a3, a4, less _ _ a5, a6⟩, fun w t i hf => ?_⟩
  obtain ⟨b1, b2, b3, b4, b5, b6⟩ := hf
  exact all w t i ⟨b1, b2, b3, b4, more _ _ b2 b5, b6⟩
theorem Maxs.of_heap {w w' : World} (h : Maxs w) (hh : w.heap = w'.heap) : Maxs w' := by
  obtain ⟨m, hm⟩ := h
  refine ⟨m, ?_⟩
  unfold World.cell? at hm ⊢
  rw [← hh]
  exact hm
theorem maxs_of_shape {w : World} (h : w.ShapedOpen Tryd.prog) : Maxs w.memory := by
  obtain ⟨m, hm⟩ := Tryd.laysM219.s1_3 w h
  exact Maxs.of_heap (w := w) ⟨m, hm⟩ rfl
theorem maxs_laid (os : Os) : Maxs (World.laidAll Tryd.prog os laidU8) := ⟨0, by kernel_rfl⟩
end Go.Proofs.YtackinamkibmlaaDoor
