/- Mates: plain mathematics. -/
import Derived.Test.YtoehehaeanepmaaGoJ
namespace Go.Proofs.Ytoehehaeanepmaa

set_option maxRecDepth 100000
def maT (f : Int → Int) (a b c d : List Int) (u : Int) : Int := apS f a c u + apS f b d u
def maZ (a b c d : List Int) (u : Int) : Bool := decide (maT vx a b c d u = 0) && decide (maT vy a b c d u = 0)
/-- They cancel at s, s + 1, .., s + k - 1. -/
def maN (a b c d : List Int) (s : Int) : Nat → Bool
  | 0 => true
  | k + 1 => maN a b c d s k && maZ a b c d (s + (k : Int))
theorem maN_false (a b c d : List Int) (s : Int) (k e : Nat) (h : maZ a b c d (s + (k : Int)) = false) : maN a b c d s (k + 1 + e) = false := by
  induction e with
  | zero => show (maN a b c d s k && maZ a b c d (s + (k : Int))) = false; rw [h, Bool.and_false]
  | succ e ih => show (maN a b c d s (k + 1 + e) && _) = false; rw [ih, Bool.false_and]
def maL (a b c d : List Int) : Bool := maN a b c d (1 - (a.length : Int)) (2 * a.length - 1)
theorem maL_false (a b c d : List Int) (k : Nat) (hk : k < 2 * a.length - 1) (h : maZ a b c d (1 - (a.length : Int) + (k : Int)) = false) : maL a b c d = false := by
  unfold maL
  obtain ⟨e, he⟩ : ∃ e, 2 * a.length - 1 = k + 1 + e := ⟨2 * a.length - 1 - (k + 1), by omega⟩
  rw [he]
  exact maN_false a b c d _ k e h
def maB (a b c d : List Int) : Bool := goB a b && goB c d && maL a b c d
end Go.Proofs.Ytoehehaeanepmaa
