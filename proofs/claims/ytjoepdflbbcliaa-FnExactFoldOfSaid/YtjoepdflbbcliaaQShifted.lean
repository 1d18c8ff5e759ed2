/- The program's shifted: each phase of another sequence in turn. -/
import Derived.Test.YtjoepdflbbcliaaPhs
namespace Go.Proofs.Ytjoepdflbbcliaa
set_option maxRecDepth 100000
open Go.RowKit

end Go.Proofs.Ytjoepdflbbcliaa
