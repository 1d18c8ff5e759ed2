/- Small whole numbers as float32, and the program's values of phases. -/
import Derived.Test.YtkkcdabcoafflabLawKit
import Derived.Laws.ComplexArith
import Derived.Laws.FloatArith
namespace Go.Proofs.Ytkkcdabcoafflab
open Go.RowKit

/-- The float32 of a small whole number, as bits. -/
def f32of (n : Int) : Nat := if n = 0 then 0 else (if n < 0 then 2147483648 else 0) + (127 + n.natAbs.log2) * 8388608 + (n.natAbs * 2 ^ (23 - n.natAbs.log2) - 8388608)
theorem f32_back (n : Int) (h1 : -33 ≤ n) (h2 : n ≤ 33) : floatToIntVal .f32 (f32of n) .i64 = some n := by
  have h : ∀ i : Nat, i < 67 → floatToIntVal .f32 (f32of ((i : Int) - 33)) .i64 = some ((i : Int) - 33) := by decide +kernel
  have := h (n + 33).toNat (by omega)
  rwa [show (((n + 33).toNat : Nat) : Int) - 33 = n by omega] at this
theorem f32_add (n d : Int) (h1 : -33 ≤ n) (h2 : n ≤ 33) (h3 : -1 ≤ d) (h4 : d ≤ 1) : floatBits .add .f32 (f32of n) (f32of d) = some (f32of (n + d)) := by
  have h : ∀ i : Nat, i < 67 → ∀ j : Nat, j < 3 → floatBits .add .f32 (f32of ((i : Int) - 33)) (f32of ((j : Int) - 1)) = some (f32of ((i : Int) - 33 + ((j : Int) - 1))) := by decide +kernel
  have := h (n + 33).toNat (by omega) (d + 1).toNat (by omega)
  rwa [show (((n + 33).toNat : Nat) : Int) - 33 = n by omega, show (((d + 1).toNat : Nat) : Int) - 1 = d by omega] at this
/-- The parts of a phase's value. -/
def vx (k : Int) : Int := if k = 0 then 1 else if k = 2 then -1 else 0
def vy (k : Int) : Int := if k = 1 then 1 else if k = 3 then -1 else 0
theorem store_complex {P : Program} (w : World) (a : Addr) (k : FloatKind) (x y : Nat) (m : Mode) : (store a (.complex k x y) m).run P w = stored P w a (.complex k x y) m := run_store P w a _ m rfl

set_option maxHeartbeats 1000000 in
theorem valueOf_any (k : Int) (h1 : 0 ≤ k) (h2 : k ≤ 3) (w : World) : Calls Try.prog 40 #[.int .i64 k] w (Ret w (.complex .f32 (f32of (vx k)) (f32of (vy k)))) := by
  have hst := @store_complex Try.prog
  have hk : k = 0 ∨ k = 1 ∨ k = 2 ∨ k = 3 := by omega
  rcases hk with rfl | rfl | rfl | rfl
  all_goals
    clear h1 h2
    go_enter Try.func40, Try.ntmps40
    go_wp2
    go_returns
    exact ⟨rfl, by go_grown⟩

set_option maxHeartbeats 1000000 in
theorem gaussOf_any (a b : Int) (h1 : -33 ≤ a) (h2 : a ≤ 33) (h3 : -33 ≤ b) (h4 : b ≤ 33) (w : World) : Calls Try.prog 41 #[.complex .f32 (f32of a) (f32of b)] w (Ret w (.agg #[.int .i64 a, .int .i64 b])) := by
  have ha := fun w => run_convert_float_int (P := Try.prog) w 70 3 .f32 .i64 (f32of a) a rfl Try.underlying3 (f32_back a h1 h2)
  have hb := fun w => run_convert_float_int (P := Try.prog) w 70 3 .f32 .i64 (f32of b) b rfl Try.underlying3 (f32_back b h3 h4)
  obtain ⟨fa, hfa⟩ : ∃ fa, fa = f32of a := ⟨_, rfl⟩
  obtain ⟨fb, hfb⟩ : ∃ fb, fb = f32of b := ⟨_, rfl⟩
  rw [← hfa] at ha ⊢
  rw [← hfb] at hb ⊢
  clear hfa hfb h1 h2 h3 h4
  go_enter Try.func41, Try.ntmps41
  go_wp2
  go_returns
  exact ⟨rfl, by go_grown⟩
end Go.Proofs.Ytkkcdabcoafflab
