/- Quotients, rests and products of small natural numbers, as the program counts them. -/
import Derived.Test.YtcagiecgbjnefabPhs
namespace Go.Proofs.Ytcagiecgbjnefab
set_option maxRecDepth 100000
open Go.RowKit

section
variable {P : Program} (w : World)
theorem run_quo_int (t : TypeId) (x y z : Int) (hy : y ≠ 0) (hz : IntKind.i64.wrap (x.tdiv y) = z) : (binOp .quo t (.int .i64 x) (.int .i64 y)).run P w = .ok (.int .i64 z) w := by
  simp [binOp, Op.intDiv, hy, hz]
theorem run_rem_int (t : TypeId) (x y z : Int) (hy : y ≠ 0) (hz : x.tmod y = z) : (binOp .rem t (.int .i64 x) (.int .i64 y)).run P w = .ok (.int .i64 z) w := by
  simp [binOp, Op.intDiv, hy, hz]
theorem run_mul_int (t : TypeId) (x y z : Int) (hz : IntKind.i64.wrap (x * y) = z) : (binOp .mul t (.int .i64 x) (.int .i64 y)).run P w = .ok (.int .i64 z) w := by
  simp [binOp, Op.intArith, hz]
theorem run_quo_nat (t : TypeId) (p s : Nat) (hs : 0 < s) (hp : p < 1000000) : (binOp .quo t (.int .i64 p) (.int .i64 s)).run P w = .ok (.int .i64 ((p / s : Nat) : Int)) w := by
  have h2 : p / s ≤ p := Nat.div_le_self p s
  obtain ⟨q, hq⟩ : ∃ q, q = p / s := ⟨_, rfl⟩
  have h1 : (p : Int).tdiv (s : Int) = (q : Int) := by rw [hq]; rfl
  rw [← hq] at h2 ⊢
  exact run_quo_int w t _ _ _ (by omega) (by rw [h1]; exact IntWalk.i64_in _ (by omega))
theorem run_rem_nat (t : TypeId) (p s : Nat) (hs : 0 < s) : (binOp .rem t (.int .i64 p) (.int .i64 s)).run P w = .ok (.int .i64 ((p % s : Nat) : Int)) w :=
  run_rem_int w t _ _ _ (by omega) (Int.ofNat_tmod p s)
theorem run_mul_nat (t : TypeId) (p s : Nat) (hp : p * s < 1000000) : (binOp .mul t (.int .i64 p) (.int .i64 s)).run P w = .ok (.int .i64 ((p * s : Nat) : Int)) w := by
  obtain ⟨q, hq⟩ : ∃ q, q = p * s := ⟨_, rfl⟩
  have h1 : (p : Int) * (s : Int) = (q : Int) := by rw [hq, Int.natCast_mul]
  rw [← hq] at hp ⊢
  exact run_mul_int w t _ _ _ (by rw [h1]; exact IntWalk.i64_in _ (by omega))
end
end Go.Proofs.Ytcagiecgbjnefab
