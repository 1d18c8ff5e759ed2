/- The program's step of a transform. -/
import Derived.Test.YtoehehaeanepmaaIBf
namespace Go.Proofs.Ytoehehaeanepmaa
set_option maxRecDepth 100000
open Go.RowKit

theorem grownTrans {w w1 w2 : World} {row : Option Nat} (h : w.grownBy w1 row) (h' : w1.grownBy w2 row) : w.grownBy w2 row := grown_trans h h'
/-- The base of the digits. -/
def baW (wv : Nat) : Nat := if wv = 2 then 2 else 4
/-- A call that makes a row of sums. -/
def MakesT (w : World) (n : Nat) (Z : Nat → Int × Int) (e : Ending) (w' : World) : Prop :=
  ∃ g E, e = .returned (.slice (some ⟨g, 0, none⟩) n n) ∧ RowC w' w.heap.size g n E ∧ (∀ i, i < n → FA (E i).1 (Z i).1 ∧ FA (E i).2 (Z i).2) ∧ Below w.heap.size w w'
end Go.Proofs.Ytoehehaeanepmaa
