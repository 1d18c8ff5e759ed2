/- InterleaveOf: what it returns. -/
import Derived.Test.YtodgalflngfnpaaGen
namespace Go.Proofs.Ytodgalflngfnpaa
set_option maxRecDepth 100000
open Go.RowKit

def weaveG (l m : List Int) : List Int := gen (2 * l.length) (fun (i : Nat) => if i % 2 = 0 then l.getD (i / 2) 0 else m.getD (i / 2) 0)
def weaveC (l m : List Int) : Bool := decide (l.length = m.length ∧ l.length + m.length ≤ 32)
def weaveOk (l m : List Int) : Bool := isSeq l && isSeq m && weaveC l m
def weaveF (l m : List Int) : List Int := if weaveOk l m then weaveG l m else []
theorem weaveG_len (l m : List Int) (hl : isSeq l = true) (hm : isSeq m = true) (h : weaveC l m = true) : (weaveG l m).length ≤ 32 := by
  have h1 := isSeq_len hl
  have h2 := isSeq_len hm
  have h3 := of_decide_eq_true h
  simp [weaveG, gen_length]
  omega
theorem weaveF_len (l m : List Int) : (weaveF l m).length ≤ 1048576 := by
  unfold weaveF
  split
  · rename_i h
    simp only [weaveOk, Bool.and_eq_true] at h
    have := weaveG_len l m h.1.1 h.1.2 h.2
    omega
  · simp
end Go.Proofs.Ytodgalflngfnpaa
