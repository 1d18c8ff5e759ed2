/- The program's transform: steps of one digit after the other, by goto. -/
import Derived.Test.YtoehehaeanepmaaIStp
import Derived.WalkMore
import Derived.ScopeJumps
namespace Go.Proofs.Ytoehehaeanepmaa
set_option maxRecDepth 100000
open Go.RowKit

/-- A call that leaves a row of sums, its own or one that was there. -/
def Leaves (w : World) (n : Nat) (Z : Nat → Int × Int) (e : Ending) (w' : World) : Prop :=
  ∃ g E, e = .returned (.slice (some ⟨g, 0, none⟩) n n) ∧ RowC w' 0 g n E ∧ (∀ i, i < n → FA (E i).1 (Z i).1 ∧ FA (E i).2 (Z i).2) ∧ Below w.heap.size w w'
/-- The same, and the row is a new one or the argument's. -/
def LeavesAt (w : World) (g2 n : Nat) (Z : Nat → Int × Int) (e : Ending) (w' : World) : Prop :=
  ∃ g E, e = .returned (.slice (some ⟨g, 0, none⟩) n n) ∧ RowC w' 0 g n E ∧ (∀ i, i < n → FA (E i).1 (Z i).1 ∧ FA (E i).2 (Z i).2) ∧ Below w.heap.size w w' ∧ (g = g2 ∨ w.heap.size ≤ g)
/-- The bounds of all steps. -/
theorem tr_le {w b K N : Nat} {Z : Nat → Int × Int} (hb : b = 2 ∨ b = 4) (hN : N = b ^ K) (hZ : upTo Z N 1000000) : ∀ j, j ≤ K → upTo (trF w b j Z) N (((b ^ j : Nat) : Int) * 1000000)
  | 0, _ => by simpa [trF] using hZ
  | j + 1, hj => by
    have ih := tr_le (w := w) hb hN hZ j (by omega)
    have hpos : 0 < b * b ^ j := Nat.mul_pos (by omega) (Nat.pow_pos (by omega))
    have hdv : N % (b * b ^ j) = 0 := by
      rw [hN, ← Nat.pow_succ', show K = (j + 1) + (K - (j + 1)) by omega, Nat.pow_add]
      exact Nat.mul_mod_right _ _
    have h := stF_le (w := w) hpos hdv ih
    rw [show (b : Int) * (((b ^ j : Nat) : Int) * 1000000) = ((b ^ (j + 1) : Nat) : Int) * 1000000 by rw [Nat.pow_succ', Int.natCast_mul, Int.mul_assoc]] at h
    exact h
theorem pow_small {b K N : Nat} (hb : b = 2 ∨ b = 4) (hN : N = b ^ K) (hN32 : N ≤ 32) (j : Nat) (hj : j < K) : 1 ≤ b ^ j ∧ b ^ j * b ≤ N ∧ b ^ j < N ∧ b ^ j * b = b ^ (j + 1) ∧ (b - 1) * b ^ j ≤ 16 := by
  have h1 : 1 ≤ b ^ j := Nat.pow_pos (by omega)
  have h2 : b ^ j * b = b ^ (j + 1) := (Nat.pow_succ ..).symm
  have h3 : b ^ (j + 1) ≤ b ^ K := Nat.pow_le_pow_right (by omega) (by omega)
  rw [← hN] at h3
  have h4 : b ^ j * 2 ≤ b ^ j * b := Nat.mul_le_mul_left _ (by omega)
  refine ⟨h1, by omega, by omega, h2, ?_⟩
  rcases hb with rfl | rfl
  · omega
  · have hK : K ≤ 2 := by
      have h5 : (4 : Nat) ^ K < 4 ^ 3 := by omega
      have := (Nat.pow_lt_pow_iff_right (by omega : 1 < 4)).1 h5
      omega
    have : (4 : Nat) ^ (j + 1) ≤ 4 ^ 2 := Nat.pow_le_pow_right (by omega) (by omega)
    omega
theorem tr_meas (P b : Nat) (h1 : 1 ≤ P) (hb : 2 ≤ b) (h2 : P * b ≤ 32) : 100 - (((P * b : Nat) : Int)).toNat < 100 - ((P : Int)).toNat := by
  have : P * 2 ≤ P * b := Nat.mul_le_mul_left _ hb
  obtain ⟨q, hq⟩ : ∃ q, q = P * b := ⟨_, rfl⟩
  rw [← hq] at h2 this ⊢
  omega
theorem tr_wrap (P b : Nat) (h2 : P * b ≤ 32) : wrap64 ((P : Int) * (b : Int)) = ((P * b : Nat) : Int) := by
  rw [← Int.natCast_mul]
  obtain ⟨q, hq⟩ : ∃ q, q = P * b := ⟨_, rfl⟩
  rw [← hq] at h2 ⊢
  exact IntWalk.wrap64_in _ ⟨by omega, by omega⟩
end Go.Proofs.Ytoehehaeanepmaa
