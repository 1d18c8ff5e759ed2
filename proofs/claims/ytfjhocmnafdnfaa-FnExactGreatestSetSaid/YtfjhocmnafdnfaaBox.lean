/- laws.toGauss; blocks of two numbers. -/
import Derived.Test.YtfjhocmnafdnfaaGsn
import Derived.Test.YtfjhocmnafdnfaaTN
namespace Go.Proofs.Ytfjhocmnafdnfaa
set_option maxRecDepth 100000
open Go.RowKit

end Go.Proofs.Ytfjhocmnafdnfaa
