/- laws.toGauss; blocks of two numbers. -/
import Derived.Test.YtgjdaeaiheibbaaGsn
import Derived.Test.YtgjdaeaiheibbaaTN
namespace Go.Proofs.Ytgjdaeaiheibbaa
set_option maxRecDepth 100000
open Go.RowKit

end Go.Proofs.Ytgjdaeaiheibbaa
