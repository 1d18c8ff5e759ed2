/- What the walks of the laws share. -/
import Derived.Test.YtodgalflngfnpaaSli
namespace Go.Proofs.Ytodgalflngfnpaa
set_option maxRecDepth 100000
open Go.RowKit

/-- A call that makes a list of its own, and says whether there is one. -/
def MakesB (w : World) (l : List Int) (ok : Bool) (e : Ending) (w' : World) : Prop := ∃ v, e = .returned (.tuple #[v, .bool ok]) ∧ Own w' w.heap.size v l ∧ Below w.heap.size w w'
theorem gjoin {W w w1 : World} {row : Option Nat} (h : Below W.heap.size W w) (hg : w.grownBy w1 row) (hr : ∀ k, row = some k → W.heap.size ≤ k) : Below W.heap.size W w1 := h.grown hg h.size hr
/-- A row made above the size S is not among those of an older value. -/
theorem apart {w : World} {B B' : Nat} {v u : Value} {l m : List Int} {w' : World} (hv : Own w B v l) (hu : Own w' B' u m) (hB : w.heap.size ≤ B') : ∀ k, v.ownBlock = some k → u.ownBlock ≠ some k := by
  intro k hk hk'
  have := (hv.lt k hk).2
  have := (hu.lt k hk').1
  omega

theorem apart' {w : World} {B B' : Nat} {v u : Value} {l m : List Int} {w' : World} (hv : Own w B v l) (hu : Own w' B' u m) (hB : w.heap.size ≤ B') : ∀ k, u.ownBlock = some k → v.ownBlock ≠ some k := by
  intro k hk hk'
  have := (hv.lt k hk').2
  have := (hu.lt k hk).1
  omega

end Go.Proofs.Ytodgalflngfnpaa
