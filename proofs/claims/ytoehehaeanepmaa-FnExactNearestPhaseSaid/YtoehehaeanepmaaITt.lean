/- The program's transformOf and TransformOf. -/
import Derived.Test.YtoehehaeanepmaaITr
import Derived.Test.YtoehehaeanepmaaISg
import Derived.Test.YtoehehaeanepmaaISl
import Derived.Test.YtoehehaeanepmaaToM
namespace Go.Proofs.Ytoehehaeanepmaa
set_option maxRecDepth 100000
open Go.RowKit

end Go.Proofs.Ytoehehaeanepmaa
