/- The model's EnergyOf. -/
import Derived.Test.YtjoepdflbbcliacSTf
import Derived.Test.YtjoepdflbbcliacEgM
namespace Go.Proofs.Ytjoepdflbbcliac
set_option maxRecDepth 100000
open Go.RowKit

end Go.Proofs.Ytjoepdflbbcliac
