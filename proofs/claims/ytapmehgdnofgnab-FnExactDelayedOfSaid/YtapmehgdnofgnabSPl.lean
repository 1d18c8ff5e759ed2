/- The model's places. -/
import Derived.Test.YtapmehgdnofgnabPlM
import Derived.Test.YtapmehgdnofgnabSTf
import Derived.Test.YtapmehgdnofgnabPhs
namespace Go.Proofs.Ytapmehgdnofgnab
set_option maxRecDepth 100000
open Go.RowKit

end Go.Proofs.Ytapmehgdnofgnab
