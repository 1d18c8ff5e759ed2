/- The program's moves of matrices as values: out of loops over their cells. -/
import Derived.Test.YtccjmigdebchiaaIMa
import Derived.Test.YtccjmigdebchiaaMxL
import Derived.Deep.QuietTactic
import Derived.BigQuiet
import Derived.BigRegion
namespace Go.Proofs.Ytccjmigdebchiaa
set_option maxRecDepth 100000
open Go.RowKit

theorem cell_row {w : World} {g c : Nat} {V : Nat → Nat × Nat} {n : Int} {t : TypeId} (h : w.heap[g]? = some (.cells (mxC V n) t (0, 0))) (hc : c < 64) : w.cell? ⟨g, c, none⟩ = some (.complex .f32 (V c).1 (V c).2) := rowC h (mxC_get V n c hc)
theorem set_row {w : World} {g c : Nat} {V : Nat → Nat × Nat} {n : Int} {t : TypeId} (h : w.heap[g]? = some (.cells (mxC V n) t (0, 0))) (hc : c < 64) (x : Nat × Nat) :
    (w.setCell ⟨g, c, none⟩ (.complex .f32 x.1 x.2)).heap[g]? = some (.cells (mxC (up V c x) n) t (0, 0)) := by
  have := heap_setCell_same w g c _ _ (.complex .f32 x.1 x.2) h
  rwa [show (mxC V n).setIfInBounds c (.complex .f32 x.1 x.2) = mxC (up V c x) n from mxC_set V n c hc x] at this

end Go.Proofs.Ytccjmigdebchiaa
