/- The program's DualOf. -/
import Derived.Test.YtoehehaeanepmaaIQs
import Derived.Test.YtoehehaeanepmaaDuaM
import Derived.Test.YtoehehaeanepmaaUpI
namespace Go.Proofs.Ytoehehaeanepmaa
set_option maxRecDepth 100000
open Go.RowKit

end Go.Proofs.Ytoehehaeanepmaa
