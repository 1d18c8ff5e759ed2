import Derived.Test.YtjoepdflbbcliabGsn
import Derived.Test.YtjoepdflbbcliabTN
namespace Go.Proofs.Ytjoepdflbbcliab
set_option maxRecDepth 100000
open Go.RowKit

end Go.Proofs.Ytjoepdflbbcliab
