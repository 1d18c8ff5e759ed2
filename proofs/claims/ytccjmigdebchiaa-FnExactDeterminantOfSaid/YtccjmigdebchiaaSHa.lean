/- The model's haInner: the inner product of two rows. -/
import Derived.Test.YtccjmigdebchiaaSCr
namespace Go.Proofs.Ytccjmigdebchiaa
set_option maxRecDepth 100000
open Go.RowKit

end Go.Proofs.Ytccjmigdebchiaa
