/- The model's signals: tfSize, tfSignal, tfWhole. -/
import Derived.Test.YtoehehaeanepmabTfM
namespace Go.Proofs.Ytoehehaeanepmab
set_option maxRecDepth 100000
open Go.RowKit

end Go.Proofs.Ytoehehaeanepmab
