/- The program's pairs: pairFrom, length, isPair, ownSum, isGolay. -/
import Derived.Test.YtoehehaeanepmaaPrM
namespace Go.Proofs.Ytoehehaeanepmaa
set_option maxRecDepth 100000
open Go.RowKit

/-- A pair that pairFrom makes: of two sequences of one length. -/
def pL (a b : List Int) : List Int := if pairOk a b then a else []
def pR (a b : List Int) : List Int := if pairOk a b then b else []
theorem infoPhC (l : List Int) : (Try.prog.info? 52).map (·.size) = some (phC l).size := by rw [phC_size]; exact infoPh
end Go.Proofs.Ytoehehaeanepmaa
