/- The program's TurnBy. -/
import Derived.Test.YtodgalflngfnpaaInTurned
namespace Go.Proofs.Ytodgalflngfnpaa
set_option maxRecDepth 100000
open Go.RowKit

def turnG (l : List Int) (k : Int) : List Int := gen l.length (fun (i : Nat) => (l.getD i 0 + k) % 4)
def turnOk (l : List Int) (k : Int) : Bool := isSeq l && decide (-1000 ≤ k ∧ k ≤ 1000)
def turnF (l : List Int) (k : Int) : List Int := if turnOk l k then turnG l k else []
theorem turnF_len (l : List Int) (k : Int) : (turnF l k).length ≤ 1048576 := by
  unfold turnF
  split
  · rename_i h
    have h1 : isSeq l = true := by unfold turnOk at h; first | exact h | (simp only [Bool.and_eq_true] at h; exact h.1)
    have := isSeq_len h1
    unfold turnG
    rw [gen_length]
    omega
  · simp
end Go.Proofs.Ytodgalflngfnpaa
