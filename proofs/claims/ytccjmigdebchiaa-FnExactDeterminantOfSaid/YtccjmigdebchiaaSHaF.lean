/- The model's haFirst, haIs, IsHadamard, FirstPairOfRows. -/
import Derived.Test.YtccjmigdebchiaaSHa
import Derived.Test.YtccjmigdebchiaaSMa
import Derived.Test.YtccjmigdebchiaaMaF
import Derived.Test.YtccjmigdebchiaaMaT
import Derived.Deep.RegionHeld3
namespace Go.Proofs.Ytccjmigdebchiaa
set_option maxRecDepth 100000
open Go.RowKit

theorem own_two (w : World) (x y : Int) (B : Nat) (hB : B ≤ w.heap.size) : Own (w.alloc (.cells #[.int .i64 x, .int .i64 y] 3)) B (.slice (some ⟨w.heap.size, 0, none⟩) 2 2) [x, y] := by
  refine ⟨rfl, Or.inr ⟨w.heap.size, 2, #[.int .i64 x, .int .i64 y], rfl, hB, heap_alloc_new w _, Nat.le_refl _, by unfold maxLen; omega, rfl, rfl⟩⟩
def fpA (m : List (List Int)) : List Int := if maOk m then fpL m else []
def fpOk (m : List (List Int)) : Bool := maOk m && decide (0 < (fpL m).length)
theorem fpA_len (m : List (List Int)) : (fpA m).length ≤ 1048576 := by
  have := fpL_len m
  unfold fpA; split
  · omega
  · simp
def inOk (m : List (List Int)) (i j : Int) : Bool := maRow m i && maRow m j
def inF (f : Int → Int) (m : List (List Int)) (i j : Int) : Int := if inOk m i j then inS f m i.toNat j.toNat else 0
end Go.Proofs.Ytccjmigdebchiaa
