/- The program's isHadamard, IsHadamard. -/
import Derived.Test.YtccjmigdebchiaaHdM
import Derived.Test.YtccjmigdebchiaaIMf
namespace Go.Proofs.Ytccjmigdebchiaa
set_option maxRecDepth 100000
open Go.RowKit

theorem f32_int : ∀ n : Nat, n < 9 → floatOfInt .f32 (n : Int) = f32of (n : Int) := by decide +kernel
theorem mf_ok' (m : List (List Int)) : decide (1 ≤ mfN m) = maOk m := by
  unfold mfN
  cases h : maOk m with
  | true => exact decide_eq_true (maOk_parts h).1.1
  | false => rfl
theorem tbGuard : Try.prog.eqGuardType Try.prog.depth 51 = false := by kernel_rfl
def hdB (V : Nat → Nat × Nat) (n : Nat) : Bool := (List.range 8).all (fun i => (List.range 8).all (fun c => eqC (V (i * 8 + c)) (dgV n n (i * 8 + c))))
end Go.Proofs.Ytccjmigdebchiaa
