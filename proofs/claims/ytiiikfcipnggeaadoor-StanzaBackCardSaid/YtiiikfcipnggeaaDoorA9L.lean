/- Layer 9, the program's: which of two addresses comes first. -/
import Derived.Test.YtiiikfcipnggeaaDoorA9V
import Derived.Deep.RegionHeld3
import Derived.Deep.DeepCutAuto
namespace Go.Proofs.YtiiikfcipnggeaaDoor
open Go.RowKit
set_option linter.unusedVariables false
set_option linter.unusedSimpArgs false

end Go.Proofs.YtiiikfcipnggeaaDoor
