/- The program's periodic: a sum over the index, which goes round. -/
import Derived.Test.YtodgalflngfnpaaCors
namespace Go.Proofs.Ytodgalflngfnpaa
set_option maxRecDepth 100000
open Go.RowKit

end Go.Proofs.Ytodgalflngfnpaa
