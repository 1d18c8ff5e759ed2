/- The model's ConjugateOf. -/
import Derived.Test.YtgjdaeaiheibbabDoorSMov
namespace Go.Proofs.YtgjdaeaiheibbabDoor
set_option maxRecDepth 100000
open Go.RowKit

end Go.Proofs.YtgjdaeaiheibbabDoor
