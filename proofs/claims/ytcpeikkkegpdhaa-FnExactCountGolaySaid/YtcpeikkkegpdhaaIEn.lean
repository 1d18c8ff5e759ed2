/- The program's sideNorm, sideEnergy, peakSide and isBarker. -/
import Derived.Test.YtcpeikkkegpdhaaCors
namespace Go.Proofs.Ytcpeikkkegpdhaa
set_option maxRecDepth 100000
open Go.RowKit

end Go.Proofs.Ytcpeikkkegpdhaa
