/- The program's AperiodicAt. -/
import Derived.Test.YtoehehaeanepmaaPair
import Derived.Test.YtoehehaeanepmaaCors
namespace Go.Proofs.Ytoehehaeanepmaa
set_option maxRecDepth 100000
open Go.RowKit

def apOk (a b : List Int) (u : Int) : Bool := pairOk a b && decide (-(a.length : Int) ≤ u ∧ u ≤ a.length)
def apF (f : Int → Int) (a b : List Int) (u : Int) : Int := if apOk a b u then apS f a b u else 0
theorem pairOk_parts {a b : List Int} (h : pairOk a b = true) : isSeq a = true ∧ isSeq b = true ∧ a.length = b.length := by
  simp only [pairOk, Bool.and_eq_true, decide_eq_true_eq] at h
  exact ⟨h.1.1, h.1.2, h.2⟩
/-- Two blocks of thirty-three cells behind a world. -/
theorem two_new (w : World) (A B : Obj) (w' : World) (h : w' = (w.alloc A).alloc B) : w'.heap[w.heap.size]? = some A ∧ w'.heap[w.heap.size + 1]? = some B ∧ w'.heap.size = w.heap.size + 2 ∧ Below w.heap.size w w' := by
  subst h
  exact ⟨heap_alloc2_old w _ _, heap_alloc2_new w _ _, by simp, belowa (belowa (Below.refl _ _) _) _⟩

end Go.Proofs.Ytoehehaeanepmaa
