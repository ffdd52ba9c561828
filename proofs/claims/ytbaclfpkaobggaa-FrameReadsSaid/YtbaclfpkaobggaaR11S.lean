/- Layer 11: all contracts of the program together. -/
import Derived.Test.YtbaclfpkaobggaaR11J
import Derived.Test.YtbaclfpkaobggaaR11K
namespace Go.Proofs.Ytbaclfpkaobggaa
end Go.Proofs.Ytbaclfpkaobggaa
