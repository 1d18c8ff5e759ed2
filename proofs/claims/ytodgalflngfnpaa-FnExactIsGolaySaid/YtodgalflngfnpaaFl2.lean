/- Sums of two correlations as floats: wider tables; whether a sum is zero. -/
import Derived.Test.YtodgalflngfnpaaFlo
import Derived.Laws.Cover3
namespace Go.Proofs.Ytodgalflngfnpaa
set_option maxRecDepth 100000
open Go.RowKit

theorem f32_addw (n m : Int) (h1 : -32 ≤ n ∧ n ≤ 32) (h2 : -32 ≤ m ∧ m ≤ 32) : floatBits .add .f32 (f32of n) (f32of m) = some (f32of (n + m)) := by
  have h : ∀ i : Nat, i < 65 → ∀ j : Nat, j < 65 → floatBits .add .f32 (f32of ((i : Int) - 32)) (f32of ((j : Int) - 32)) = some (f32of (((i : Int) - 32) + ((j : Int) - 32))) := by decide +kernel
  have := h (n + 32).toNat (by omega) (m + 32).toNat (by omega)
  rwa [show (((n + 32).toNat : Nat) : Int) - 32 = n by omega, show (((m + 32).toNat : Nat) : Int) - 32 = m by omega] at this
theorem f32_backw (n : Int) (h1 : -64 ≤ n ∧ n ≤ 64) : floatToIntVal .f32 (f32of n) .i64 = some n := by
  have h : ∀ i : Nat, i < 129 → floatToIntVal .f32 (f32of ((i : Int) - 64)) .i64 = some ((i : Int) - 64) := by decide +kernel
  have := h (n + 64).toNat (by omega)
  rwa [show (((n + 64).toNat : Nat) : Int) - 64 = n by omega] at this
theorem f32_zero (n : Int) (h1 : -64 ≤ n ∧ n ≤ 64) : (FloatKind.f32.format.order (f32of n) 0 == some .eq) = decide (n = 0) := by
  have h : ∀ i : Nat, i < 129 → (FloatKind.f32.format.order (f32of ((i : Int) - 64)) 0 == some .eq) = decide ((i : Int) - 64 = 0) := by decide +kernel
  have := h (n + 64).toNat (by omega)
  rwa [show (((n + 64).toNat : Nat) : Int) - 64 = n by omega] at this
section
variable {P : Program}
theorem run_addw (w : World) (t : TypeId) (X Y X' Y' : Int) (h1 : -32 ≤ X ∧ X ≤ 32) (h2 : -32 ≤ Y ∧ Y ≤ 32) (h3 : -32 ≤ X' ∧ X' ≤ 32) (h4 : -32 ≤ Y' ∧ Y' ≤ 32) :
    (binOp .add t (.complex .f32 (f32of X) (f32of Y)) (.complex .f32 (f32of X') (f32of Y'))).run P w = .ok (.complex .f32 (f32of (X + X')) (f32of (Y + Y'))) w :=
  run_complex_sum w .add (Or.inl rfl) t .f32 _ _ _ _ _ _ (by unfold cSumBits; rw [f32_addw X X' h1 h3, f32_addw Y Y' h2 h4]; rfl)
theorem run_neqz (w : World) (t : TypeId) (X Y : Int) (h1 : -64 ≤ X ∧ X ≤ 64) (h2 : -64 ≤ Y ∧ Y ≤ 64) :
    (binOp .neq t (.complex .f32 (f32of X) (f32of Y)) (.complex .f32 0 0)).run P w = .ok (.bool (!(decide (X = 0) && decide (Y = 0)))) w := by
  rw [run_neq_complex, f32_zero X h1, f32_zero Y h2]
end
end Go.Proofs.Ytodgalflngfnpaa
