/- The model's signals: tfSize, tfSignal, tfWhole. -/
import Derived.Test.YtfjhocmnafdnfaaTfM
namespace Go.Proofs.Ytfjhocmnafdnfaa
set_option maxRecDepth 100000
open Go.RowKit

end Go.Proofs.Ytfjhocmnafdnfaa
