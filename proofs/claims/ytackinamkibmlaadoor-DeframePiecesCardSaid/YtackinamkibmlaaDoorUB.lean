/- Contracts of layer 2: a character's bytes, the program's and the document's. -/
import Derived.Test.YtackinamkibmlaaDoorUA
import Derived.Test.YtackinamkibmlaaDoorKitM
import Derived.Laws.MakeOwn
namespace Go.Proofs.YtackinamkibmlaaDoor
open Go.RowKit
open Go.Lib (byteCells)
set_option linter.unusedVariables false
set_option linter.unusedSimpArgs false

def putL (c : Int) : List UInt8 := if isChB c then enc c.toNat else []
def putE (c : Int) : Int := if isChB c then 0 else 8
theorem encode_enc (c : Int) (h : isChB c = true) : Utf8.encode c = ⟨(enc c.toNat).toArray⟩ := by
  have hv : Utf8.valid c = true := by
    simp only [isChB, decide_eq_true_eq] at h
    simp only [Utf8.valid, Bool.or_eq_true, Bool.and_eq_true, decide_eq_true_eq]; omega
  unfold Utf8.encode enc
  simp only [hv, if_true]
  repeat' split
  all_goals rfl

end Go.Proofs.YtackinamkibmlaaDoor
