/- The program's sideNorm, sideEnergy, peakSide and isBarker. -/
import Derived.Test.YtcagiecgbjnefabCors
namespace Go.Proofs.Ytcagiecgbjnefab
set_option maxRecDepth 100000
open Go.RowKit

set_option maxRecDepth 100000 in
set_option maxHeartbeats 1000000 in
theorem sideNorm_any (l : List Int) (u : Int) (hs : isSeq l = true) (h1 : 0 ≤ u) (h2 : u ≤ l.length) (w : World) :
    Calls Try.prog 73 #[.agg (phA (padL l) l.length), .int .i64 u] w (Ret w (.int .i64 (nS l u))) := by
  have h32 := isSeq_len hs
  have HA := Lib.hid (aperiodic_any l l u hs hs rfl (by omega) h2)
  have HN := Lib.hid (normOfSum_any (apS vx l l u) (apS vy l l u) (apS_small vx vx_one l l u h32) (apS_small vy vy_one l l u h32))
  have hi : (Try.prog.info? 47).map (·.size) = some (phA (padL l) (l.length : Int)).size := by rw [phA_size _ _ (padL_length h32)]; exact infoPh
  have HI := Lib.hid hi
  unfold nS
  obtain ⟨C, hC⟩ : ∃ C, C = phA (padL l) (l.length : Int) := ⟨_, rfl⟩
  obtain ⟨fa, hfa⟩ : ∃ f, f = f32of (apS vx l l u) := ⟨_, rfl⟩
  obtain ⟨fb, hfb⟩ : ∃ f, f = f32of (apS vy l l u) := ⟨_, rfl⟩
  obtain ⟨n, hn⟩ : ∃ n, n = norm (apS vx l l u) (apS vy l l u) := ⟨_, rfl⟩
  rw [← hC] at HA HI ⊢
  rw [← hfa, ← hfb] at HA HN
  rw [← hn] at HN ⊢
  clear hC hfa hfb hn hi hs h1 h2 h32
  go_enter Try.func73, Try.ntmps73
  go_wp2_with (refine wpList_load_row rfl 47 (.tmp 2) rfl w.heap.size rfl 47 C (0, 0) _ (heap_alloc_new _ _) Try.underlying47 rfl HI.out ?_)
  refine (HA.out _).mono ?_
  rintro e w1 ⟨rfl, hb1⟩
  have hB1 := joins (belowa (Below.refl _ _) _) hb1
  go_wp2_with fail
  refine (HN.out _).mono ?_
  rintro e w2 ⟨rfl, rfl⟩
  go_wp2_with fail
  go_returns
  exact ⟨rfl, hB1⟩

set_option maxRecDepth 100000 in
set_option maxHeartbeats 1000000 in
theorem sideEnergy_any (l : List Int) (hs : isSeq l = true) (w : World) :
    Calls Try.prog 50 #[.agg (phA (padL l) l.length)] w (Ret w (.int .i64 (sideE l))) := by
  have h32 := isSeq_len hs
  have HA : ∀ k : Nat, k + 1 < l.length → ∀ w, Calls Try.prog 73 #[.agg (phA (padL l) l.length), .int .i64 ((k : Int) + 1)] w (Ret w (.int .i64 (sideT l k))) := fun k hk w => sideNorm_any l _ hs (by omega) (by omega) w
  have hi : (Try.prog.info? 47).map (·.size) = some (phA (padL l) (l.length : Int)).size := by rw [phA_size _ _ (padL_length h32)]; exact infoPh
  have hl := phA_len (padL l) (l.length : Int) (padL_length h32)
  have hb : ∀ k, 0 ≤ sumN (sideT l) k ∧ sumN (sideT l) k ≤ k * 2048 := fun k => sumN_up (sideT l) 2048 (fun i => nS_bound l h32 _) k
  have ht : ∀ k, 0 ≤ sideT l k ∧ sideT l k ≤ 2048 := fun k => nS_bound l h32 _
  unfold sideE
  obtain ⟨C, hC⟩ : ∃ C, C = phA (padL l) (l.length : Int) := ⟨_, rfl⟩
  obtain ⟨T, hT⟩ : ∃ T, T = sideT l := ⟨_, rfl⟩
  obtain ⟨N, hN⟩ : ∃ N, N = l.length := ⟨_, rfl⟩
  rw [← hC] at HA hi hl ⊢
  rw [← hT] at HA hb ht ⊢
  rw [← hN] at HA hl h32 ⊢
  have HA' := Lib.hid HA
  have HI := Lib.hid hi
  have HL := Lib.hid hl
  have HB := Lib.hid hb
  have HT := Lib.hid ht
  clear HA hi hl hb ht hC hT hN hs
  go_enter Try.func50, Try.ntmps50
  go_wp2_with fail
  go_loopw [4, 3] (fun i s wr => ∃ k : Nat, k ≤ N - 1 ∧ i = .int .i64 ((k : Int) + 1) ∧ s = .int .i64 (sumN T k) ∧ wr.heap[w.heap.size]? = some (.cells C 47 (0, 0)) ∧ Below w.heap.size w wr) (fun i _ _ => N - (intOf i).toNat)
  case atStart => exact ⟨0, Nat.zero_le _, rfl, rfl, heap_alloc_new w _, by go_grown⟩
  case round =>
    obtain ⟨k, hk, rfl, rfl, hb0, hbel⟩ := hrel
    have c32 : wr.cell? ⟨w.heap.size, 32, none⟩ = some (.int .i64 N) := by rw [cell_of_row wr _ _ _ _ _ hb0]; exact HL.out
    have HB0 := Lib.hid hb0
    have HBEL := Lib.hid hbel
    clear hb0 hbel
    by_cases hlt : k + 1 < N
    · have h0 : (0 : Int) ≤ (k : Int) := by omega
      have h1 : (k : Int) + 1 < (N : Int) := by omega
      obtain ⟨hX1, hX2⟩ := HB.out k
      obtain ⟨hY1, hY2⟩ := HT.out k
      have hX3 : sumN T k ≤ 65536 := by omega
      have HAk := Lib.hid (HA'.out k hlt)
      have hs : sumN T (k + 1) = sumN T k + T k := rfl
      obtain ⟨X, hX⟩ : ∃ X, X = sumN T k := ⟨_, rfl⟩
      obtain ⟨Y, hY⟩ : ∃ Y, Y = T k := ⟨_, rfl⟩
      rw [← hY] at HAk hY1 hY2
      rw [← hX, ← hY] at hs
      rw [← hX] at hX1 hX3 ⊢
      have HS := Lib.hid hs
      clear hs hX hY hX2
      go_wp2_with (refine wpList_load_row rfl 47 (.tmp 1) rfl w.heap.size rfl 47 C (0, 0) _ HB0.out Try.underlying47 rfl HI.out ?_)
      refine (HAk.out _).mono ?_
      rintro e w2 ⟨rfl, hb2⟩
      have HB2 := Lib.hid ((hb2.block w.heap.size (Array.getElem?_eq_some_iff.1 HB0.out).1).trans HB0.out)
      have HBEL2 := Lib.hid (joins HBEL.out hb2)
      clear hb2
      go_wp2_with fail
      go_roundw
      case rel => exact ⟨k + 1, by omega, by go_num, by rw [HS.out], HB2.out, HBEL2.out⟩
      case measure => simp [intOf]; omega
    · have he : k = N - 1 := by omega
      have h1 : (N : Int) ≤ (k : Int) + 1 := by omega
      subst he
      go_wp2_with fail
      go_returns
      exact ⟨rfl, HBEL.out⟩

end Go.Proofs.Ytcagiecgbjnefab
