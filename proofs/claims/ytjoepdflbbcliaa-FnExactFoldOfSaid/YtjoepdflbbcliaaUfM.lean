/- Folded and unfolded arrays: plain mathematics. -/
import Derived.Test.YtjoepdflbbcliaaArG
namespace Go.Proofs.Ytjoepdflbbcliaa

set_option maxRecDepth 100000
def gcdN (a b : Nat) : Nat := Nat.gcd a b
def ufOk (m : List (List Int)) : Bool := arOk m && (decide (gcdN m.length (colsOf m) = 1) && decide (m.length * colsOf m ≤ 32))
def ufL (m : List (List Int)) : List Int := gen (m.length * colsOf m) (fun t => atM m (t % m.length) (t % colsOf m))
def ufA (m : List (List Int)) : List Int := if ufOk m then ufL m else []
theorem ufA_len (m : List (List Int)) : (ufA m).length ≤ 1048576 := by
  unfold ufA
  split
  · rename_i h
    unfold ufOk at h
    rw [Bool.and_eq_true, Bool.and_eq_true] at h
    have := of_decide_eq_true h.2.2
    unfold ufL
    rw [gen_length]; omega
  · simp
theorem tmodN (t n : Nat) : (t : Int).tmod (n : Int) = ((t % n : Nat) : Int) := rfl
theorem emodN (t n : Nat) : (t : Int) % (n : Int) = ((t % n : Nat) : Int) := rfl
end Go.Proofs.Ytjoepdflbbcliaa
