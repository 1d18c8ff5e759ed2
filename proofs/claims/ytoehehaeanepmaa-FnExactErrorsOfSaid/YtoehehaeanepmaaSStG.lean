/- The model's goStandard. -/
import Derived.Test.YtoehehaeanepmaaPhs
import Derived.Test.YtoehehaeanepmaaOrM
import Derived.Test.YtoehehaeanepmaaKit
import Derived.Deep.QuietTactic
import Derived.BigQuiet
namespace Go.Proofs.Ytoehehaeanepmaa
set_option maxRecDepth 100000
open Go.RowKit

theorem bit_walk (x k : Nat) : ((x : Int) / 2 ^ k).tmod 2 = bitI x (k : Int) := by
  unfold bitI
  rw [Int.tmod_eq_emod_of_nonneg (Int.ediv_nonneg (by omega) (Int.le_of_lt (Int.pow_pos (by decide))))]
  rfl
theorem step_ph (c q y z : Int) (h1 : 0 ≤ c ∧ c ≤ 3) (h2 : 0 ≤ q ∧ q ≤ 100) (h3 : 0 ≤ y ∧ y ≤ 3) (h4 : 0 ≤ z ∧ z ≤ 1) : wrap64 (c + q + wrap64 (y * z)) = c + (q + y * z) := by
  unfold wrap64
  rcases (show z = 0 ∨ z = 1 by omega) with rfl | rfl
  · simp; omega
  · simp; omega
theorem pow5 (m : Nat) (h : m ≤ 5) : 1 ≤ (2 : Nat) ^ m ∧ (2 : Nat) ^ m ≤ 32 := by
  have h' : ∀ j : Nat, j < 6 → 1 ≤ (2 : Nat) ^ j ∧ (2 : Nat) ^ j ≤ 32 := by decide
  exact h' m (by omega)
theorem step_or (P q y z : Int) (h1 : 0 ≤ P ∧ P ≤ 18) (h2 : 0 ≤ q ∧ q ≤ 100) (h3 : 0 ≤ y ∧ y ≤ 1) (h4 : 0 ≤ z ∧ z ≤ 1) : wrap64 (P + q + wrap64 (wrap64 (2 * y) * z)) = P + (q + 2 * y * z) := by
  unfold wrap64
  rcases (show y = 0 ∨ y = 1 by omega) with rfl | rfl <;> rcases (show z = 0 ∨ z = 1 by omega) with rfl | rfl <;> simp <;> omega
theorem step_two (P z : Int) (h1 : 0 ≤ P ∧ P ≤ 100) (h3 : 0 ≤ z ∧ z ≤ 1) : wrap64 (P + wrap64 (2 * z)) = P + 2 * z := by
  unfold wrap64
  omega

end Go.Proofs.Ytoehehaeanepmaa
