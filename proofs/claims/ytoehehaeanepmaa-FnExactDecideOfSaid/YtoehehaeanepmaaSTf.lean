/- The model's signals: tfSize, tfSignal, tfWhole. -/
import Derived.Test.YtoehehaeanepmaaTfM
namespace Go.Proofs.Ytoehehaeanepmaa
set_option maxRecDepth 100000
open Go.RowKit

end Go.Proofs.Ytoehehaeanepmaa
