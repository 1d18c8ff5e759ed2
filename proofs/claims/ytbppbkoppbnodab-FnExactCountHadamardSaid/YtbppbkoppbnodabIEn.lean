/- The program's sideNorm, sideEnergy, peakSide and isBarker. -/
import Derived.Test.YtbppbkoppbnodabCors
namespace Go.Proofs.Ytbppbkoppbnodab
set_option maxRecDepth 100000
open Go.RowKit

end Go.Proofs.Ytbppbkoppbnodab
