/- The program's ConjugateOf. -/
import Derived.Test.YtodgalflngfnpaaInConjugate
namespace Go.Proofs.Ytodgalflngfnpaa
set_option maxRecDepth 100000
open Go.RowKit

def barG (l : List Int) : List Int := gen l.length (fun (i : Nat) => (-(l.getD i 0)) % 4)
def barOk (l : List Int) : Bool := isSeq l
def barF (l : List Int) : List Int := if barOk l then barG l else []
theorem barF_len (l : List Int) : (barF l).length ≤ 1048576 := by
  unfold barF
  split
  · rename_i h
    have h1 : isSeq l = true := by unfold barOk at h; first | exact h | (simp only [Bool.and_eq_true] at h; exact h.1)
    have := isSeq_len h1
    unfold barG
    rw [gen_length]
    omega
  · simp
end Go.Proofs.Ytodgalflngfnpaa
