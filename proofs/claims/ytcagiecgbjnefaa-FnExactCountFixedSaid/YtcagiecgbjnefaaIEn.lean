/- The program's sideNorm, sideEnergy, peakSide and isBarker. -/
import Derived.Test.YtcagiecgbjnefaaCors
namespace Go.Proofs.Ytcagiecgbjnefaa
set_option maxRecDepth 100000
open Go.RowKit

set_option maxRecDepth 100000 in
set_option maxHeartbeats 1000000 in
theorem sideNorm_any (l : List Int) (u : Int) (hs : isSeq l = true) (h1 : 0 ≤ u) (h2 : u ≤ l.length) (w : World) :
    Calls Try.prog 57 #[.agg (phA (padL l) l.length), .int .i64 u] w (Ret w (.int .i64 (nS l u))) := by
  have h32 := isSeq_len hs
  have HA := Lib.hid (aperiodic_any l l u hs hs rfl (by omega) h2)
  have HN := Lib.hid (normOfSum_any (apS vx l l u) (apS vy l l u) (apS_small vx vx_one l l u h32) (apS_small vy vy_one l l u h32))
  have hi : (Try.prog.info? 50).map (·.size) = some (phA (padL l) (l.length : Int)).size := by rw [phA_size _ _ (padL_length h32)]; exact infoPh
  have HI := Lib.hid hi
  unfold nS
  obtain ⟨C, hC⟩ : ∃ C, C = phA (padL l) (l.length : Int) := ⟨_, rfl⟩
  obtain ⟨fa, hfa⟩ : ∃ f, f = f32of (apS vx l l u) := ⟨_, rfl⟩
  obtain ⟨fb, hfb⟩ : ∃ f, f = f32of (apS vy l l u) := ⟨_, rfl⟩
  obtain ⟨n, hn⟩ : ∃ n, n = norm (apS vx l l u) (apS vy l l u) := ⟨_, rfl⟩
  rw [← hC] at HA HI ⊢
  rw [← hfa, ← hfb] at HA HN
  rw [← hn] at HN ⊢
  clear hC hfa hfb hn hi hs h1 h2 h32
  go_enter Try.func57, Try.ntmps57
  go_wp2_with (refine wpList_load_row rfl 50 (.tmp 2) rfl w.heap.size rfl 50 C (0, 0) _ (heap_alloc_new _ _) Try.underlying50 rfl HI.out ?_)
  refine (HA.out _).mono ?_
  rintro e w1 ⟨rfl, hb1⟩
  have hB1 := joins (belowa (Below.refl _ _) _) hb1
  go_wp2_with fail
  refine (HN.out _).mono ?_
  rintro e w2 ⟨rfl, rfl⟩
  go_wp2_with fail
  go_returns
  exact ⟨rfl, hB1⟩

end Go.Proofs.Ytcagiecgbjnefaa
