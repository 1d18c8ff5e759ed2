/- The program's BackwardsOf. -/
import Derived.Test.YtodgalflngfnpaaQBackwards
namespace Go.Proofs.Ytodgalflngfnpaa
set_option maxRecDepth 100000
open Go.RowKit

def backG (l : List Int) : List Int := gen l.length (fun (i : Nat) => l.getD (l.length - 1 - i) 0)
def backOk (l : List Int) : Bool := isSeq l
def backF (l : List Int) : List Int := if backOk l then backG l else []
theorem backF_len (l : List Int) : (backF l).length ≤ 1048576 := by
  unfold backF
  split
  · rename_i h
    have h1 : isSeq l = true := by unfold backOk at h; first | exact h | (simp only [Bool.and_eq_true] at h; exact h.1)
    have := isSeq_len h1
    unfold backG
    rw [gen_length]
    omega
  · simp
end Go.Proofs.Ytodgalflngfnpaa
