/- Layer 13, the document's: whether two buckets are one. -/
import Derived.Test.YtpmabkegjdjodaaB13C
namespace Go.Proofs.Ytpmabkegjdjodaa
open Go.RowKit
set_option linter.unusedVariables false
set_option linter.unusedSimpArgs false

end Go.Proofs.Ytpmabkegjdjodaa
