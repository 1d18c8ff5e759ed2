/- Places with digits, plainly: added, taken away, waves. -/
import Derived.Test.YtfjhocmnafdnfaaTfM
namespace Go.Proofs.Ytfjhocmnafdnfaa

set_option maxRecDepth 100000
def adP (x y : Nat) : Nat := (x / 4 + y / 4) % 4 * 4 + (x + y) % 4
def sbP (x y : Nat) : Nat := (x / 4 + 4 - y / 4) % 4 * 4 + (x % 4 + 4 - y % 4) % 4
def wvP (w x : Nat) : Nat := ((w / 4) * (x / 4) + (w % 4) * (x % 4)) % 4
theorem adP_lt {n : Nat} (h : tfSz n = true) (x y : Nat) (hx : x < n) (hy : y < n) : adP x y < n := by
  rcases tfSz_cases h with rfl | rfl | rfl <;> unfold adP <;> omega
theorem sbP_lt {n : Nat} (h : tfSz n = true) (x y : Nat) (hx : x < n) (hy : y < n) : sbP x y < n := by
  rcases tfSz_cases h with rfl | rfl | rfl <;> unfold sbP <;> omega
theorem wvP_lt (w x : Nat) : wvP w x < 4 := Nat.mod_lt _ (by omega)
theorem wv_part (w x : Nat) (hw : w < 16) (hx : x < 16) : (w / 4) * (x / 4) ≤ 9 ∧ (w % 4) * (x % 4) ≤ 9 :=
  ⟨Nat.mul_le_mul (show w / 4 ≤ 3 by omega) (show x / 4 ≤ 3 by omega), Nat.mul_le_mul (show w % 4 ≤ 3 by omega) (show x % 4 ≤ 3 by omega)⟩
end Go.Proofs.Ytfjhocmnafdnfaa
