/- The program's ValueAtRoot. -/
import Derived.Test.YtodgalflngfnpaaPhs
import Derived.Test.YtodgalflngfnpaaVr
import Derived.Test.YtodgalflngfnpaaCors
namespace Go.Proofs.Ytodgalflngfnpaa
set_option maxRecDepth 100000
open Go.RowKit

def vrOk (l : List Int) (k : Int) : Bool := isSeq l && decide (0 ≤ k ∧ k ≤ 3)
def vrF (f : Int → Int) (l : List Int) (k : Int) : Int := if vrOk l k then vrS f l k else 0
end Go.Proofs.Ytodgalflngfnpaa
