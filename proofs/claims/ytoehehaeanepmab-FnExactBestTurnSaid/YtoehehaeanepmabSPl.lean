/- The model's places. -/
import Derived.Test.YtoehehaeanepmabPlM
import Derived.Test.YtoehehaeanepmabSTf
import Derived.Test.YtoehehaeanepmabPhs
namespace Go.Proofs.Ytoehehaeanepmab
set_option maxRecDepth 100000
open Go.RowKit

end Go.Proofs.Ytoehehaeanepmab
