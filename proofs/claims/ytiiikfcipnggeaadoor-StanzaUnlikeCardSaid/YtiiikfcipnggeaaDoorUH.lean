/- Layer 2: the document's Count, Cut, and its All and Check. -/
import Derived.Test.YtiiikfcipnggeaaDoorUF
import Derived.Test.YtiiikfcipnggeaaDoorUG
import Derived.Laws.AppendOwnNone
namespace Go.Proofs.YtiiikfcipnggeaaDoor
open Go.RowKit
open Go.Lib (byteCells)
set_option linter.unusedVariables false
set_option linter.unusedSimpArgs false

theorem ex_self (s : ByteArray) : s.extract 0 s.size = s := by
  apply ba_ext
  rw [ex_list, sz_list, List.take_length]
theorem ret_str {a b : ByteArray} (h : a = b) : Ending.returned (.string a) = .returned (.string b) := by rw [h]
theorem cut_more (l : List UInt8) (m : Int) : ∀ (x : Ch) (r : List Ch) (e : Nat), cutN (x :: r) m e = if m < (e : Int) + x.1.2 then e else cutN r m (e + x.1.2) := fun x r e => rfl
end Go.Proofs.YtiiikfcipnggeaaDoor
