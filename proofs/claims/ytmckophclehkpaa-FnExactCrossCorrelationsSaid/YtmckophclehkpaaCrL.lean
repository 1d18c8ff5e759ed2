/- Cross correlations: plain. -/
import Derived.Test.YtmckophclehkpaaCoL
import Derived.Test.YtmckophclehkpaaIAp
namespace Go.Proofs.Ytmckophclehkpaa

def crossOk (a b : List Int) : Bool := pairOk a b && decide (1 ≤ a.length)
def crossL (a b : List Int) : List (Int × Int) := if crossOk a b then genG (2 * a.length - 1) (fun i => apS vx a b (1 - (a.length : Int) + (i : Int))) (fun i => apS vy a b (1 - (a.length : Int) + (i : Int))) else []
theorem crossL_len (a b : List Int) : (crossL a b).length ≤ 1048576 := by
  unfold crossL; split
  · rename_i h
    simp only [crossOk, Bool.and_eq_true] at h
    have := isSeq_len (pairOk_parts h.1).1
    rw [genG_length]; omega
  · simp
end Go.Proofs.Ytmckophclehkpaa
