/- The model's places. -/
import Derived.Test.YtoehehaeanepmaaPlM
import Derived.Test.YtoehehaeanepmaaSTf
import Derived.Test.YtoehehaeanepmaaPhs
namespace Go.Proofs.Ytoehehaeanepmaa
set_option maxRecDepth 100000
open Go.RowKit

end Go.Proofs.Ytoehehaeanepmaa
