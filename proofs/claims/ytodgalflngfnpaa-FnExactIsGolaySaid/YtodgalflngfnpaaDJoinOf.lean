/- JoinOf: what it returns. -/
import Derived.Test.YtodgalflngfnpaaGen
namespace Go.Proofs.Ytodgalflngfnpaa
set_option maxRecDepth 100000
open Go.RowKit

def joinG (l m : List Int) : List Int := l ++ m
def joinC (l m : List Int) : Bool := decide (l.length + m.length ≤ 32)
def joinOk (l m : List Int) : Bool := isSeq l && isSeq m && joinC l m
def joinF (l m : List Int) : List Int := if joinOk l m then joinG l m else []
theorem joinG_len (l m : List Int) (hl : isSeq l = true) (hm : isSeq m = true) (h : joinC l m = true) : (joinG l m).length ≤ 32 := by
  have h1 := isSeq_len hl
  have h2 := isSeq_len hm
  have h3 := of_decide_eq_true h
  simp [joinG]
  omega
theorem joinF_len (l m : List Int) : (joinF l m).length ≤ 1048576 := by
  unfold joinF
  split
  · rename_i h
    simp only [joinOk, Bool.and_eq_true] at h
    have := joinG_len l m h.1.1 h.1.2 h.2
    omega
  · simp
end Go.Proofs.Ytodgalflngfnpaa
