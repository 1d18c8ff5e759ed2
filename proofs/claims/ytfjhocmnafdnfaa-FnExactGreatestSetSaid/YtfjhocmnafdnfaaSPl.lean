/- The model's places. -/
import Derived.Test.YtfjhocmnafdnfaaPlM
import Derived.Test.YtfjhocmnafdnfaaSTf
import Derived.Test.YtfjhocmnafdnfaaPhs
namespace Go.Proofs.Ytfjhocmnafdnfaa
set_option maxRecDepth 100000
open Go.RowKit

end Go.Proofs.Ytfjhocmnafdnfaa
