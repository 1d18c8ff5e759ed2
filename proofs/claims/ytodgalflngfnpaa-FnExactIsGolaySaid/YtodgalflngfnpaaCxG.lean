/- A Gaussian number out of a complex64. -/
import Derived.Test.YtodgalflngfnpaaCx
namespace Go.Proofs.Ytodgalflngfnpaa
set_option maxRecDepth 100000
open Go.RowKit

set_option maxHeartbeats 1000000 in
theorem gaussOf_any (a b : Int) (h1 : -33 ≤ a) (h2 : a ≤ 33) (h3 : -33 ≤ b) (h4 : b ≤ 33) (w : World) : Calls Try.prog 57 #[.complex .f32 (f32of a) (f32of b)] w (Ret w (.agg #[.int .i64 a, .int .i64 b])) := by
  have ha := fun w => run_convert_float_int (P := Try.prog) w 93 3 .f32 .i64 (f32of a) a rfl Try.underlying3 (f32_back a h1 h2)
  have hb := fun w => run_convert_float_int (P := Try.prog) w 93 3 .f32 .i64 (f32of b) b rfl Try.underlying3 (f32_back b h3 h4)
  obtain ⟨fa, hfa⟩ : ∃ fa, fa = f32of a := ⟨_, rfl⟩
  obtain ⟨fb, hfb⟩ : ∃ fb, fb = f32of b := ⟨_, rfl⟩
  rw [← hfa] at ha ⊢
  rw [← hfb] at hb ⊢
  clear hfa hfb h1 h2 h3 h4
  go_enter Try.func57, Try.ntmps57
  go_wp2
  go_returns
  exact ⟨rfl, by go_grown⟩
end Go.Proofs.Ytodgalflngfnpaa
