/- ProductOf: what it returns. -/
import Derived.Test.YtkkcdabcoafflabGen
namespace Go.Proofs.Ytkkcdabcoafflab
open Go.RowKit

def prodG (l m : List Int) : List Int := gen l.length (fun (i : Nat) => (l.getD i 0 + m.getD i 0) % 4)
def prodC (l m : List Int) : Bool := decide (l.length = m.length)
def prodOk (l m : List Int) : Bool := isSeq l && isSeq m && prodC l m
def prodF (l m : List Int) : List Int := if prodOk l m then prodG l m else []
theorem prodG_len (l m : List Int) (hl : isSeq l = true) (hm : isSeq m = true) (h : prodC l m = true) : (prodG l m).length ≤ 32 := by
  have h1 := isSeq_len hl
  have h2 := isSeq_len hm
  have h3 := of_decide_eq_true h
  simp [prodG, gen_length]
  omega
theorem prodF_len (l m : List Int) : (prodF l m).length ≤ 1048576 := by
  unfold prodF
  split
  · rename_i h
    simp only [prodOk, Bool.and_eq_true] at h
    have := prodG_len l m h.1.1 h.1.2 h.2
    omega
  · simp
end Go.Proofs.Ytkkcdabcoafflab
