import Derived.Test.YtjoepdflbbcliaaGsn
import Derived.Test.YtjoepdflbbcliaaTN
namespace Go.Proofs.Ytjoepdflbbcliaa
set_option maxRecDepth 100000
open Go.RowKit

end Go.Proofs.Ytjoepdflbbcliaa
