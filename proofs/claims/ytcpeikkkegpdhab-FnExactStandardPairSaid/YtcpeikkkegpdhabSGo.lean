/- The model's goPair, goIs, IsGolay and PairSums. -/
import Derived.Test.YtcpeikkkegpdhabSCr
import Derived.Test.YtcpeikkkegpdhabGoM
namespace Go.Proofs.Ytcpeikkkegpdhab
set_option maxRecDepth 100000
open Go.RowKit

end Go.Proofs.Ytcpeikkkegpdhab
