/- A Gaussian result's block across a store of a whole struct; sums of parts up to 64 as Gaussian numbers. -/
import Derived.Test.YtapmehgdnofgnabCors
namespace Go.Proofs.Ytapmehgdnofgnab
set_option maxRecDepth 100000
open Go.RowKit

theorem ZG.setAt {w wr w' : World} {g : Nat} (h : ZG w wr) (hs : SetAt wr w' g) (hb : Below w.heap.size w w') (hne : w.heap.size ≠ g) : ZG w w' := by
  have e := hs.block w.heap.size hne
  refine ⟨hb, ?_, ?_, ?_, ?_, by rw [hs.size]; exact h.size⟩
  · have := h.c0; unfold World.cell? at this ⊢; simp only [e]; exact this
  · have := h.c1; unfold World.cell? at this ⊢; simp only [e]; exact this
  · have := h.f0; unfold World.frozen? at this ⊢; simp only [e]; exact this
  · have := h.f1; unfold World.frozen? at this ⊢; simp only [e]; exact this
set_option maxHeartbeats 1000000 in
theorem gaussOf_wide (a b : Int) (h1 : -64 ≤ a ∧ a ≤ 64) (h2 : -64 ≤ b ∧ b ≤ 64) (w : World) : Calls Try.prog 94 #[.complex .f32 (f32of a) (f32of b)] w (Ret w (.agg #[.int .i64 a, .int .i64 b])) := by
  have ha := fun w => run_convert_float_int (P := Try.prog) w 110 3 .f32 .i64 (f32of a) a rfl Try.underlying3 (f32_backw a h1)
  have hb := fun w => run_convert_float_int (P := Try.prog) w 110 3 .f32 .i64 (f32of b) b rfl Try.underlying3 (f32_backw b h2)
  obtain ⟨fa, hfa⟩ : ∃ fa, fa = f32of a := ⟨_, rfl⟩
  obtain ⟨fb, hfb⟩ : ∃ fb, fb = f32of b := ⟨_, rfl⟩
  rw [← hfa] at ha ⊢
  rw [← hfb] at hb ⊢
  clear hfa hfb h1 h2
  go_enter Try.func94, Try.ntmps94
  go_wp2
  go_returns
  exact ⟨rfl, by go_grown⟩

end Go.Proofs.Ytapmehgdnofgnab
