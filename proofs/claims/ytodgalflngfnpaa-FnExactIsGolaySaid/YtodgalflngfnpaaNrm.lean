/- Side energies and peaks: plain mathematics. -/
import Derived.Test.YtodgalflngfnpaaCor
import Derived.Test.YtodgalflngfnpaaFlN
namespace Go.Proofs.Ytodgalflngfnpaa

set_option maxRecDepth 100000
theorem sq_small (X : Int) (h1 : -32 ≤ X) (h2 : X ≤ 32) : 0 ≤ X * X ∧ X * X ≤ 1024 := by
  have h : X.natAbs ≤ 32 := by omega
  have := Nat.mul_le_mul h h
  have e : X * X = ((X.natAbs * X.natAbs : Nat) : Int) := by rw [Int.natCast_mul, Int.natAbs_mul_self']
  rw [e]; omega
/-- The norm of the own correlation at u. -/
def nS (l : List Int) (u : Int) : Int := norm (apS vx l l u) (apS vy l l u)
theorem nS_bound (l : List Int) (h : l.length ≤ 32) (u : Int) : 0 ≤ nS l u ∧ nS l u ≤ 2048 := by
  have a := apS_small vx vx_one l l u h
  have b := apS_small vy vy_one l l u h
  have c := sq_small _ a.1 a.2
  have d := sq_small _ b.1 b.2
  unfold nS norm; omega
def sideT (l : List Int) (i : Nat) : Int := nS l ((i : Int) + 1)
def sideE (l : List Int) : Int := sumN (sideT l) (l.length - 1)
def maxN (g : Nat → Int) : Nat → Int
  | 0 => 0
  | k + 1 => if g k > maxN g k then g k else maxN g k
def peakS (l : List Int) : Int := maxN (sideT l) (l.length - 1)
def barB (l : List Int) : Bool := decide (1 ≤ l.length) && decide (peakS l ≤ 1)
theorem sumN_up (g : Nat → Int) (b : Int) (hg : ∀ i, 0 ≤ g i ∧ g i ≤ b) (k : Nat) : 0 ≤ sumN g k ∧ sumN g k ≤ k * b := by
  induction k with
  | zero => simp [sumN]
  | succ k ih =>
    have := hg k
    have e : ((k + 1 : Nat) : Int) * b = k * b + b := by rw [Int.natCast_add, Int.add_mul]; simp
    simp only [sumN]
    omega
theorem maxN_up (g : Nat → Int) (b : Int) (hb : 0 ≤ b) (hg : ∀ i, 0 ≤ g i ∧ g i ≤ b) (k : Nat) : 0 ≤ maxN g k ∧ maxN g k ≤ b := by
  induction k with
  | zero => simp [maxN]; exact hb
  | succ k ih => have := hg k; simp only [maxN]; split <;> omega
theorem sideE_bound (l : List Int) (h : l.length ≤ 32) : 0 ≤ sideE l ∧ sideE l ≤ 65536 := by
  have := sumN_up (sideT l) 2048 (fun i => nS_bound l h _) (l.length - 1)
  unfold sideE
  omega
theorem peakS_bound (l : List Int) (h : l.length ≤ 32) : 0 ≤ peakS l ∧ peakS l ≤ 2048 := maxN_up _ _ (by omega) (fun i => nS_bound l h _) _
end Go.Proofs.Ytodgalflngfnpaa
