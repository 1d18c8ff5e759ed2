/- laws.toGauss; blocks of two numbers. -/
import Derived.Test.YtgjdaeaiheibbabDoorGsn
import Derived.Test.YtgjdaeaiheibbabDoorTN
namespace Go.Proofs.YtgjdaeaiheibbabDoor
set_option maxRecDepth 100000
open Go.RowKit

end Go.Proofs.YtgjdaeaiheibbabDoor
