/- The program's conjugateValue and normOfSum. -/
import Derived.Test.YtodgalflngfnpaaCx
import Derived.Test.YtodgalflngfnpaaSeq
import Derived.Test.YtodgalflngfnpaaFlN
namespace Go.Proofs.Ytodgalflngfnpaa
set_option maxRecDepth 100000
open Go.RowKit

theorem run_neg32 (w : World) (b : Nat) : (Op.unary .neg (.float .f32 b)).run Try.prog w = .ok (.float .f32 (f32neg b)) w := by
  have h : (2 : Nat) ^ (FloatKind.f32.format.exponentBits + FloatKind.f32.format.fractionBits) = 2147483648 := by decide
  simp [Op.unary, Op.negFloat, f32neg, h]
set_option maxHeartbeats 400000 in
theorem conjugateValue_any (a b : Nat) (w : World) : Calls Try.prog 96 #[.complex .f32 a b] w (Pure w (.complex .f32 a (f32neg b))) := by
  have hn := run_neg32
  go_enter Try.func96, Try.ntmps96
  go_wp2
  go_returns
  exact ⟨rfl, rfl⟩
set_option maxHeartbeats 400000 in
theorem normOfSum_any (X Y : Int) (h1 : -32 ≤ X ∧ X ≤ 32) (h2 : -32 ≤ Y ∧ Y ≤ 32) (w : World) : Calls Try.prog 81 #[.complex .f32 (f32of X) (f32of Y)] w (Pure w (.int .i64 (norm X Y))) := by
  obtain ⟨re, im, hm, ho⟩ := norm_ok X Y h1.1 h1.2 h2.1 h2.2
  have hmul := fun w t => run_complex_mul32 (P := Try.prog) w t _ _ _ _ _ _ hm
  have hcv := fun w => run_convert_float_int (P := Try.prog) w 93 3 .f32 .i64 re (norm X Y) rfl Try.underlying3 ho
  obtain ⟨N, hN⟩ : ∃ N, N = norm X Y := ⟨_, rfl⟩
  rw [← hN] at hcv ⊢
  obtain ⟨fa, hfa⟩ : ∃ fa, fa = f32of X := ⟨_, rfl⟩
  obtain ⟨fb, hfb⟩ : ∃ fb, fb = f32of Y := ⟨_, rfl⟩
  rw [← hfa, ← hfb] at hmul
  rw [← hfa, ← hfb]
  have HC := Lib.hid (conjugateValue_any fa fb)
  obtain ⟨fc, hfc⟩ : ∃ fc, fc = f32neg fb := ⟨_, rfl⟩
  rw [← hfc] at hmul HC
  clear hN hfa hfb hfc hm ho h1 h2
  go_enter Try.func81, Try.ntmps81
  go_wp2_with fail
  refine (HC.out _).mono ?_
  rintro e w1 ⟨rfl, rfl⟩
  go_wp2_with fail
  go_returns
  exact ⟨rfl, rfl⟩
end Go.Proofs.Ytodgalflngfnpaa
