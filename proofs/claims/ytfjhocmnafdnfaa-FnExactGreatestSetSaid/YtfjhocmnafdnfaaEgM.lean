/- Energies, plainly. -/
import Derived.Test.YtfjhocmnafdnfaaTfM
import Derived.Test.YtfjhocmnafdnfaaFlt
import Derived.Test.YtfjhocmnafdnfaaCors
namespace Go.Proofs.Ytfjhocmnafdnfaa

set_option maxRecDepth 100000
def nmG (l : List (Int × Int)) (i : Nat) : Int := norm (gre l i) (gim l i)
def enS (l : List (Int × Int)) : Int := sumN (nmG l) l.length
def enOk (l : List (Int × Int)) : Bool := tfOk l && decide (enS l ≤ 1000000000000)
def enA (l : List (Int × Int)) : Int := if enOk l then enS l else 0
theorem sq_le (x : Int) (h : -1000000 ≤ x ∧ x ≤ 1000000) : 0 ≤ x * x ∧ x * x ≤ 1000000000000 := by
  refine ⟨?_, ?_⟩
  · rcases Int.le_total 0 x with h0 | h0
    · exact Int.mul_nonneg h0 h0
    · exact Int.mul_nonneg_of_nonpos_of_nonpos h0 h0
  · have e : x * x = (x.natAbs : Int) * x.natAbs := (Int.natAbs_mul_self' x).symm
    have h1 : x.natAbs ≤ 1000000 := by omega
    have h2 : x.natAbs * x.natAbs ≤ 1000000 * 1000000 := Nat.mul_le_mul h1 h1
    rw [e, ← Int.natCast_mul]
    omega
theorem norm_le (x y : Int) (h : good x y = true) : 0 ≤ norm x y ∧ norm x y ≤ 2000000000000 := by
  have h := good_in h
  have h1 := sq_le x h.1
  have h2 := sq_le y h.2
  unfold norm
  omega
theorem nmG_le (l : List (Int × Int)) (h : goodL l = true) (i : Nat) (hi : i < l.length) : 0 ≤ nmG l i ∧ nmG l i ≤ 2000000000000 := norm_le _ _ (goodL_at h i hi)
theorem sumN_pos (g : Nat → Int) (b : Int) (n : Nat) (hg : ∀ i, i < n → 0 ≤ g i ∧ g i ≤ b) : ∀ k, k ≤ n → 0 ≤ sumN g k ∧ sumN g k ≤ (k : Int) * b
  | 0, _ => by simp [sumN]
  | k + 1, h => by
    have h1 := sumN_pos g b n hg k (by omega)
    have h2 := hg k (by omega)
    have e : ((k + 1 : Nat) : Int) * b = (k : Int) * b + b := by rw [Int.natCast_add, Int.add_mul]; simp
    simp only [sumN]
    rw [e]
    omega
theorem en_part (l : List (Int × Int)) (h : tfOk l = true) (k : Nat) (hk : k ≤ l.length) : 0 ≤ sumN (nmG l) k ∧ sumN (nmG l) k ≤ 32000000000000 := by
  have h1 := sumN_pos (nmG l) 2000000000000 l.length (nmG_le l (tfOk_good h)) k hk
  have h2 := (tfOk_len h).2
  omega
end Go.Proofs.Ytfjhocmnafdnfaa
