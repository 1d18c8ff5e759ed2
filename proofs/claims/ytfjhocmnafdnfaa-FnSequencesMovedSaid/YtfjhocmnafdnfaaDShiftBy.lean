/- The program's ShiftBy. -/
import Derived.Test.YtfjhocmnafdnfaaQShifted
namespace Go.Proofs.Ytfjhocmnafdnfaa
set_option maxRecDepth 100000
open Go.RowKit

def shiftG (l : List Int) (k : Int) : List Int := gen l.length (fun (i : Nat) => l.getD (((i : Int) + k) % (l.length : Int)).toNat 0)
def shiftOk (l : List Int) (k : Int) : Bool := isSeq l && decide (-1000 ≤ k ∧ k ≤ 1000)
def shiftF (l : List Int) (k : Int) : List Int := if shiftOk l k then shiftG l k else []
theorem shiftF_len (l : List Int) (k : Int) : (shiftF l k).length ≤ 1048576 := by
  unfold shiftF
  split
  · rename_i h
    have h1 : isSeq l = true := by unfold shiftOk at h; first | exact h | (simp only [Bool.and_eq_true] at h; exact h.1)
    have := isSeq_len h1
    unfold shiftG
    rw [gen_length]
    omega
  · simp
end Go.Proofs.Ytfjhocmnafdnfaa
