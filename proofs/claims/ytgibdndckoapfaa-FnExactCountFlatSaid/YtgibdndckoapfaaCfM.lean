/- Flat sequences counted, plainly. -/
import Derived.Test.YtgibdndckoapfaaQsM
import Derived.Test.YtgibdndckoapfaaBarM
namespace Go.Proofs.Ytgibdndckoapfaa

set_option maxRecDepth 100000
def flC (n : Nat) : Nat → Nat
  | 0 => 0
  | k + 1 => flC n k + (if flB (lowD (k : Nat) n) then 1 else 0)
theorem flC_le (n : Nat) : ∀ k, flC n k ≤ k
  | 0 => Nat.le_refl _
  | k + 1 => by have := flC_le n k; simp only [flC]; split <;> omega
def cfOk (n : Int) : Bool := decide (n = 1 ∨ n = 4)
def cfA (n : Int) : Int := if n = 1 then flC 1 4 else if n = 4 then flC 4 256 else 0
theorem low_tf (n : Nat) (h : n = 1 ∨ n = 4) (r : Int) : sqTf (lowD r n) = true := by
  unfold sqTf
  rw [lowD_seq r n (by omega), lowD_length]
  rcases h with rfl | rfl <;> rfl
end Go.Proofs.Ytgibdndckoapfaa
