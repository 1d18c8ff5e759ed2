/- The model's haGood, IsMatrix, haRow. -/
import Derived.Test.YtjoepdflbbcliabMaM
namespace Go.Proofs.Ytjoepdflbbcliab
set_option maxRecDepth 100000
open Go.RowKit

end Go.Proofs.Ytjoepdflbbcliab
