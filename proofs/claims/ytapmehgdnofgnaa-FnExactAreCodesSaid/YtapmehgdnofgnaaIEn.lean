/- The program's sideNorm, sideEnergy, peakSide and isBarker. -/
import Derived.Test.YtapmehgdnofgnaaCors
namespace Go.Proofs.Ytapmehgdnofgnaa
set_option maxRecDepth 100000
open Go.RowKit

end Go.Proofs.Ytapmehgdnofgnaa
