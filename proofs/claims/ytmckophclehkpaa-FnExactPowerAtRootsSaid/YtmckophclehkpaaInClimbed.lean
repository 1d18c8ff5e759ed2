/- The program's climbed: each phase of its own copy in turn. -/
import Derived.Test.YtmckophclehkpaaGen
namespace Go.Proofs.Ytmckophclehkpaa
open Go.RowKit

end Go.Proofs.Ytmckophclehkpaa
