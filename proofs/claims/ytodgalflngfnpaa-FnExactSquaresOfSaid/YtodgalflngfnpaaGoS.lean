/- Sums of squares of a pair, and how many pairs of standard form there are: plain. -/
import Derived.Test.YtodgalflngfnpaaGoM
namespace Go.Proofs.Ytodgalflngfnpaa

set_option maxRecDepth 100000
def sqA (a : List Int) (k : Nat) : Int := norm (vrS vx a (k : Int)) (vrS vy a (k : Int))
theorem sqA_bound (a : List Int) (h : a.length ≤ 32) (k : Nat) : 0 ≤ sqA a k ∧ sqA a k ≤ 2048 := by
  have s1 := vrS_small vx vx_one a k h
  have s2 := vrS_small vy vy_one a k h
  have c := sq_small _ s1.1 s1.2
  have d := sq_small _ s2.1 s2.2
  unfold sqA norm; omega
def sqL (a b : List Int) : List Int := if goOk a b then gen 4 (fun k => sqA a k + sqA b k) else []
theorem sqL_len (a b : List Int) : (sqL a b).length ≤ 1048576 := by
  unfold sqL; split
  · rw [gen_length]; omega
  · simp
def csOk (m : Int) : Bool := decide (2 ≤ m ∧ m ≤ 5)
def csC (m : Int) : Int := if m = 2 then 64 else if m = 3 then 768 else if m = 4 then 12288 else if m = 5 then 245760 else 0
theorem csC_no (m : Int) (h : csOk m = false) : csC m = 0 := by
  have h' : ¬ (2 ≤ m ∧ m ≤ 5) := of_decide_eq_false h
  unfold csC
  rw [if_neg (by omega), if_neg (by omega), if_neg (by omega), if_neg (by omega)]
end Go.Proofs.Ytodgalflngfnpaa
