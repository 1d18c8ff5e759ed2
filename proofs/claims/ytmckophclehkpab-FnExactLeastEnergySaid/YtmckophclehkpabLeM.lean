/- The least side energy: plain mathematics. -/
import Derived.Test.YtmckophclehkpabBarM
namespace Go.Proofs.Ytmckophclehkpab
open Go.RowKit

/-- The energy of the sequence of a rank. -/
def rankE (n : Nat) (k : Nat) : Int := sideE (lowD (k : Int) n)
/-- The least of a and the energies of the ranks below k. -/
def leN (n : Nat) (a : Int) : Nat → Int
  | 0 => a
  | k + 1 => if rankE n k < leN n a k then rankE n k else leN n a k
theorem rankE_bound (n k : Nat) (h : n ≤ 15) : 0 ≤ rankE n k ∧ rankE n k ≤ 65536 := sideE_bound _ (by rw [lowD_length]; omega)
theorem rankE_zero (n : Nat) (h1 : 1 ≤ n) (h : n ≤ 6) : rankE n 0 ≤ (n : Int) * n * n := by
  have : ∀ j : Nat, j < 7 → 1 ≤ j → rankE j 0 ≤ (j : Int) * j * j := by decide +kernel
  exact this n (by omega) h1
theorem if_congr_le (x a : Int) (h : x ≤ a) : (if x < a then x else a) = x := by
  by_cases h1 : x < a
  · rw [if_pos h1]
  · rw [if_neg h1]; omega
theorem leN_same (n : Nat) (a b : Int) (ha : rankE n 0 ≤ a) (hb : rankE n 0 ≤ b) (k : Nat) : leN n a (k + 1) = leN n b (k + 1) := by
  induction k with
  | zero =>
    show (if rankE n 0 < a then rankE n 0 else a) = (if rankE n 0 < b then rankE n 0 else b)
    rw [if_congr_le _ a ha, if_congr_le _ b hb]
  | succ k ih => rw [leN, ih]; rfl
theorem leN_nonneg (n : Nat) (hn : n ≤ 15) (a : Int) (ha : 0 ≤ a) (k : Nat) : 0 ≤ leN n a k := by
  induction k with
  | zero => exact ha
  | succ k ih => have := rankE_bound n k hn; simp only [leN]; split <;> omega
theorem leN_le (n : Nat) (a : Int) (k : Nat) : leN n a k ≤ a := by
  induction k with
  | zero => exact Int.le_refl _
  | succ k ih => simp only [leN]; split <;> omega
def leC (n : Int) : Int := if smallN n then leN n.toNat (n * n * n) (pow4 n.toNat) else 0
theorem leC_eq (N : Nat) (h1 : 1 ≤ N) (h : N ≤ 6) (a : Int) (ha : rankE N 0 ≤ a) : leN N a (pow4 N) = leC N := by
  have hs : smallN N = true := by simp [smallN]; omega
  have hp := (pow4_le N h).1
  obtain ⟨k, hk⟩ : ∃ k, pow4 N = k + 1 := ⟨pow4 N - 1, by omega⟩
  unfold leC
  rw [hs, if_pos rfl, Int.toNat_natCast, hk]
  exact leN_same N _ _ ha (rankE_zero N h1 h) k
theorem cube_small (N : Nat) (h : N ≤ 6) : 0 ≤ (N : Int) * N ∧ (N : Int) * N ≤ 36 ∧ 0 ≤ (N : Int) * N * N ∧ (N : Int) * N * N ≤ 216 := by
  have : ∀ j : Nat, j < 7 → 0 ≤ (j : Int) * j ∧ (j : Int) * j ≤ 36 ∧ 0 ≤ (j : Int) * j * j ∧ (j : Int) * j * j ≤ 216 := by decide
  exact this N (by omega)
end Go.Proofs.Ytmckophclehkpab
