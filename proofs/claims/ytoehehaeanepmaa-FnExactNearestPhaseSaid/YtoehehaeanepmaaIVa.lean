/- The program's values of waves. -/
import Derived.Test.YtoehehaeanepmaaFa
namespace Go.Proofs.Ytoehehaeanepmaa
set_option maxRecDepth 100000
open Go.RowKit

end Go.Proofs.Ytoehehaeanepmaa
