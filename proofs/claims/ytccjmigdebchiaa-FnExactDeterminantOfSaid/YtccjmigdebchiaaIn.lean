/- The program's inner products: inner, inners. -/
import Derived.Test.YtccjmigdebchiaaIMx
import Derived.Deep.QuietTactic
import Derived.BigQuiet
namespace Go.Proofs.Ytccjmigdebchiaa
set_option maxRecDepth 100000
open Go.RowKit

theorem grownCell' {w0 w : World} {g : Nat} (h : w0.grownBy w (some g)) (o : Nat) (v : Value) : w0.grownBy (w.setCell ⟨g, o, none⟩ v) (some g) :=
  ⟨h.os, h.tape, h.output, by simpa using h.size, fun k hk hne => (heap_setCell_other w ⟨g, o, none⟩ k v (fun e => hne (by rw [e]))).trans (h.block k hk hne)⟩
theorem cell_rv {w : World} {g c n : Nat} {V : Nat → Nat × Nat} {t : TypeId} (h : w.heap[g]? = some (.cells (rvC V n) t (0, 0))) (hc : c < n) : w.cell? ⟨g, c, none⟩ = some (.complex .f32 (V c).1 (V c).2) := rowC h (rvC_get V n c hc)
theorem set_rv {w : World} {g c n : Nat} {V : Nat → Nat × Nat} {t : TypeId} (h : w.heap[g]? = some (.cells (rvC V n) t (0, 0))) (hc : c < n) (x : Nat × Nat) :
    (w.setCell ⟨g, c, none⟩ (.complex .f32 x.1 x.2)).heap[g]? = some (.cells (rvC (up V c x) n) t (0, 0)) := by
  have := heap_setCell_same w g c _ _ (.complex .f32 x.1 x.2) h
  rwa [show (rvC V n).setIfInBounds c (.complex .f32 x.1 x.2) = rvC (up V c x) n from rvC_set V n c hc x] at this
theorem zeroTb (w : World) : (zeroValue 51).run Try.prog w = .ok (.agg (rvC V0 64)) w := by
  refine zero_is_of ?_ w
  kernel_rfl
theorem zeroRv (w : World) : (zeroValue 49).run Try.prog w = .ok (.agg (rvC V0 8)) w := by
  refine zero_is_of ?_ w
  kernel_rfl
/-- The inner products of a matrix: of each row with each row. -/
def inV (M : Nat → Nat → Int) (n : Nat) : Nat → Nat × Nat := fun c => (f32of (ipS vx (M (c / 8)) (M (c % 8)) n), f32of (ipS vy (M (c / 8)) (M (c % 8)) n))
end Go.Proofs.Ytccjmigdebchiaa
