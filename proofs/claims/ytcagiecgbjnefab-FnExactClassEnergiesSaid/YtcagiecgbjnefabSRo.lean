/- The model's crRound: a sum over the index, which goes round. -/
import Derived.Test.YtcagiecgbjnefabSCr
namespace Go.Proofs.Ytcagiecgbjnefab
set_option maxRecDepth 100000
open Go.RowKit

end Go.Proofs.Ytcagiecgbjnefab
