/- The program's ClimbBy. -/
import Derived.Test.YtodgalflngfnpaaInClimbed
namespace Go.Proofs.Ytodgalflngfnpaa
set_option maxRecDepth 100000
open Go.RowKit

def climbG (l : List Int) (k : Int) : List Int := gen l.length (fun (i : Nat) => (l.getD i 0 + k * i) % 4)
def climbOk (l : List Int) (k : Int) : Bool := isSeq l && decide (0 ≤ k ∧ k ≤ 3)
def climbF (l : List Int) (k : Int) : List Int := if climbOk l k then climbG l k else []
theorem climbF_len (l : List Int) (k : Int) : (climbF l k).length ≤ 1048576 := by
  unfold climbF
  split
  · rename_i h
    have h1 : isSeq l = true := by unfold climbOk at h; first | exact h | (simp only [Bool.and_eq_true] at h; exact h.1)
    have := isSeq_len h1
    unfold climbG
    rw [gen_length]
    omega
  · simp
end Go.Proofs.Ytodgalflngfnpaa
