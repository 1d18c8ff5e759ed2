/- Golay pairs: plain mathematics. -/
import Derived.Test.YtcagiecgbjnefabCors
import Derived.Test.YtcagiecgbjnefabKit
import Derived.Test.YtcagiecgbjnefabGsn
namespace Go.Proofs.Ytcagiecgbjnefab

set_option maxRecDepth 100000
/-- Two sequences of one length, at least 1. -/
def goOk (a b : List Int) : Bool := bothB a b && decide (1 ≤ a.length)
theorem goOk_parts {a b : List Int} (h : goOk a b = true) : isSeq a = true ∧ isSeq b = true ∧ a.length = b.length ∧ 1 ≤ a.length := by
  simp only [goOk, bothB, Bool.and_eq_true, decide_eq_true_eq] at h
  exact ⟨h.1.1.1, h.1.1.2, h.1.2, h.2⟩
/-- A part of the sum of both own correlations at u. -/
def goT (f : Int → Int) (a b : List Int) (u : Int) : Int := apS f a a u + apS f b b u
theorem goT_small (f : Int → Int) (hf : ∀ x, -1 ≤ f x ∧ f x ≤ 1) (a b : List Int) (u : Int) (ha : a.length ≤ 32) (hb : b.length ≤ 32) : -64 ≤ goT f a b u ∧ goT f a b u ≤ 64 := by
  have := apS_small f hf a a u ha
  have := apS_small f hf b b u hb
  unfold goT; omega
def goZ (a b : List Int) (u : Int) : Bool := decide (goT vx a b u = 0) && decide (goT vy a b u = 0)
/-- They cancel at 1..k. -/
def goN (a b : List Int) : Nat → Bool
  | 0 => true
  | k + 1 => goN a b k && goZ a b ((k : Int) + 1)
def goB (a b : List Int) : Bool := goN a b (a.length - 1)
theorem goN_false (a b : List Int) (k d : Nat) (h : goZ a b ((k : Int) + 1) = false) : goN a b (k + 1 + d) = false := by
  induction d with
  | zero => show (goN a b k && goZ a b ((k : Int) + 1)) = false; rw [h, Bool.and_false]
  | succ d ih => show (goN a b (k + 1 + d) && _) = false; rw [ih, Bool.false_and]
theorem goB_false (a b : List Int) (k : Nat) (hk : k + 1 < a.length) (h : goZ a b ((k : Int) + 1) = false) : goB a b = false := by
  unfold goB
  obtain ⟨d, hd⟩ : ∃ d, a.length - 1 = k + 1 + d := ⟨a.length - 1 - (k + 1), by omega⟩
  rw [hd]
  exact goN_false a b k d h
def psL (a b : List Int) : List (Int × Int) := if goOk a b then genG a.length (fun u => goT vx a b (u : Int)) (fun u => goT vy a b (u : Int)) else []
theorem psL_len (a b : List Int) : (psL a b).length ≤ 1048576 := by
  unfold psL; split
  · rename_i h; rw [genG_length]; have := isSeq_len (goOk_parts h).1; omega
  · simp
end Go.Proofs.Ytcagiecgbjnefab
