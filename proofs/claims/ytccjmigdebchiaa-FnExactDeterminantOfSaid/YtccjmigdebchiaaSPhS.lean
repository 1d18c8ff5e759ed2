/- The model's sum of a sequence. -/
import Derived.Test.YtccjmigdebchiaaSPh
namespace Go.Proofs.Ytccjmigdebchiaa
set_option maxRecDepth 100000
open Go.RowKit

end Go.Proofs.Ytccjmigdebchiaa
