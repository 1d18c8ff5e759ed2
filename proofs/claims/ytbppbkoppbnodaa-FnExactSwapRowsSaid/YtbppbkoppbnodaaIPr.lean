/- The program's pairs: pairFrom, length, isPair, ownSum, isGolay. -/
import Derived.Test.YtbppbkoppbnodaaPrM
namespace Go.Proofs.Ytbppbkoppbnodaa
set_option maxRecDepth 100000
open Go.RowKit

/-- A pair that pairFrom makes: of two sequences of one length. -/
def pL (a b : List Int) : List Int := if pairOk a b then a else []
def pR (a b : List Int) : List Int := if pairOk a b then b else []
end Go.Proofs.Ytbppbkoppbnodaa
