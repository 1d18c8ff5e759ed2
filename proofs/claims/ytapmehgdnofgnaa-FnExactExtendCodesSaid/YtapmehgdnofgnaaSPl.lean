/- The model's places. -/
import Derived.Test.YtapmehgdnofgnaaPlM
import Derived.Test.YtapmehgdnofgnaaSTf
import Derived.Test.YtapmehgdnofgnaaPhs
namespace Go.Proofs.Ytapmehgdnofgnaa
set_option maxRecDepth 100000
open Go.RowKit

end Go.Proofs.Ytapmehgdnofgnaa
