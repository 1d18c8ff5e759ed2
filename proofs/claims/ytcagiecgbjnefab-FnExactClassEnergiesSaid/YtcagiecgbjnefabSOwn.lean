/- The model's lists of correlations. -/
import Derived.Test.YtcagiecgbjnefabSRo
import Derived.Test.YtcagiecgbjnefabKit
import Derived.Test.YtcagiecgbjnefabCoL
namespace Go.Proofs.Ytcagiecgbjnefab
set_option maxRecDepth 100000
open Go.RowKit

end Go.Proofs.Ytcagiecgbjnefab
