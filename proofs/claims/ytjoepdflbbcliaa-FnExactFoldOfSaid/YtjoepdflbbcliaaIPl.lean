/- The program's places. -/
import Derived.Test.YtjoepdflbbcliaaPlM
import Derived.Test.YtjoepdflbbcliaaPhs
namespace Go.Proofs.Ytjoepdflbbcliaa
set_option maxRecDepth 100000
open Go.RowKit

end Go.Proofs.Ytjoepdflbbcliaa
