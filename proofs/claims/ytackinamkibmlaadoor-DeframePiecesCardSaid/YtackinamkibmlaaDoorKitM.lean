/- My own small kit: bytes that are built in place, and turned into a text. -/
import Derived.Test.YtackinamkibmlaaDoorKitB
import Derived.Laws.MakeOwn
import Derived.IntWalk
namespace Go.Proofs.YtackinamkibmlaaDoor
open Go.RowKit
set_option linter.unusedVariables false
set_option linter.unusedSimpArgs false

theorem conv_made (W : World) (xs : List Int) (l : List UInt8) (h : xs = l.map (fun x => (x.toNat : Int))) :
    (convert 61 9 (.slice (some ⟨W.heap.size, 0, none⟩) xs.length xs.length)).run Tryd.prog (W.alloc (.cells (xs.map (Value.int .u8)).toArray 5)) = .ok (.string ⟨l.toArray⟩) (W.alloc (.cells (xs.map (Value.int .u8)).toArray 5)) := by
  have hl : xs.length = l.length := by rw [h, List.length_map]
  have hb : Lib.Bytes (W.alloc (.cells (xs.map (Value.int .u8)).toArray 5)) W.heap.size 0 ⟨l.toArray⟩ := by
    intro i hi
    have hi' : i < l.length := by rw [size_mk] at hi; exact hi
    have := Lib.bytes_of_row (w := W.alloc (.cells (xs.map (Value.int .u8)).toArray 5)) (heap_alloc_new W _) (l := l) (by rw [h]; simp only [List.map_map, List.toList_toArray]; rw [List.take_of_length_le (by simp)]; rfl) i hi'
    rw [Addr.add_lit] at this
    rw [this]
    rfl
  have := Lib.run_convert_whole (P := Tryd.prog) (W.alloc (.cells (xs.map (Value.int .u8)).toArray 5)) 61 5 9 Tryd.underlying61 Tryd.underlying5 Tryd.underlying9 W.heap.size 0 ⟨l.toArray⟩ hb xs.length
  rw [size_mk] at this
  rw [hl] at this ⊢
  exact this
end Go.Proofs.YtackinamkibmlaaDoor
