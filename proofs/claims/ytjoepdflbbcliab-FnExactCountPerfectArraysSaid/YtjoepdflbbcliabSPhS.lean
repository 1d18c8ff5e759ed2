/- The model's sum of a sequence. -/
import Derived.Test.YtjoepdflbbcliabSPh
namespace Go.Proofs.Ytjoepdflbbcliab
set_option maxRecDepth 100000
open Go.RowKit

end Go.Proofs.Ytjoepdflbbcliab
