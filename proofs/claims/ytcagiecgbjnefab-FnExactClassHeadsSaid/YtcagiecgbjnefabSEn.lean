/- The model's phNorm, crEnergy, crPeak and crBarker. -/
import Derived.Test.YtcagiecgbjnefabSCr
import Derived.Test.YtcagiecgbjnefabCors
namespace Go.Proofs.Ytcagiecgbjnefab
set_option maxRecDepth 100000
open Go.RowKit

set_option maxHeartbeats 400000 in
theorem phNorm_any (X Y : Int) (h1 : -32 ≤ X) (h2 : X ≤ 32) (h3 : -32 ≤ Y) (h4 : Y ≤ 32) (w : World) : Calls Try.prog 71 #[.agg #[.int .i64 X, .int .i64 Y]] w (Ret w (.int .i64 (norm X Y))) := by
  have a := sq_small X h1 h2
  have b := sq_small Y h3 h4
  obtain ⟨a1, a2⟩ := a
  obtain ⟨b1, b2⟩ := b
  unfold norm
  go_enter Try.func71, Try.ntmps71
  go_wp2
  go_returns
  exact ⟨rfl, by go_grown⟩
set_option maxRecDepth 100000 in
set_option maxHeartbeats 1000000 in
theorem crEnergy_any (va : Value) (l : List Int) (w : World) (hva : IS w va l) (hs : isSeq l = true) :
    Calls Try.prog 49 #[va] w (Ret w (.int .i64 (sideE l))) := by
  have h32 := isSeq_len hs
  obtain ⟨p, cap, rfl⟩ := hva.slice
  have HA : ∀ k : Nat, k + 1 < l.length → ∀ w', IS w' (.slice p l.length cap) l → Calls Try.prog 72 #[.slice p l.length cap, .slice p l.length cap, .int .i64 ((k : Int) + 1)] w' (Ret w' (.agg #[.int .i64 (apS vx l l ((k : Int) + 1)), .int .i64 (apS vy l l ((k : Int) + 1))])) := fun k hk w' h => crAt_any _ _ l l _ w' h h hs hs rfl (by omega) (by omega)
  have HN : ∀ k : Nat, ∀ w, Calls Try.prog 71 #[.agg #[.int .i64 (apS vx l l ((k : Int) + 1)), .int .i64 (apS vy l l ((k : Int) + 1))]] w (Ret w (.int .i64 (sideT l k))) := fun k w => by
    have sX := apS_small vx vx_one l l ((k : Int) + 1) h32
    have sY := apS_small vy vy_one l l ((k : Int) + 1) h32
    exact phNorm_any _ _ sX.1 sX.2 sY.1 sY.2 w
  have hb : ∀ k, 0 ≤ sumN (sideT l) k ∧ sumN (sideT l) k ≤ k * 2048 := fun k => sumN_up (sideT l) 2048 (fun i => nS_bound l h32 _) k
  have ht : ∀ k, 0 ≤ sideT l k ∧ sideT l k ≤ 2048 := fun k => nS_bound l h32 _
  unfold sideE
  obtain ⟨T, hT⟩ : ∃ T, T = sideT l := ⟨_, rfl⟩
  obtain ⟨X, hX⟩ : ∃ F : Nat → Int, F = fun k : Nat => apS vx l l ((k : Int) + 1) := ⟨_, rfl⟩
  obtain ⟨Y, hY⟩ : ∃ F : Nat → Int, F = fun k : Nat => apS vy l l ((k : Int) + 1) := ⟨_, rfl⟩
  have HA2 : ∀ k : Nat, k + 1 < l.length → ∀ w', IS w' (.slice p l.length cap) l → Calls Try.prog 72 #[.slice p l.length cap, .slice p l.length cap, .int .i64 ((k : Int) + 1)] w' (Ret w' (.agg #[.int .i64 (X k), .int .i64 (Y k)])) := fun k hk w' h => by rw [hX, hY]; exact HA k hk w' h
  have HN2 : ∀ k : Nat, ∀ w, Calls Try.prog 71 #[.agg #[.int .i64 (X k), .int .i64 (Y k)]] w (Ret w (.int .i64 (T k))) := fun k w => by rw [hX, hY, hT]; exact HN k w
  have HV := Lib.hid hva
  obtain ⟨N, hN⟩ : ∃ N, N = l.length := ⟨_, rfl⟩
  rw [← hT] at hb ht ⊢
  rw [← hN] at HA2 h32 HV ⊢
  have HA' := Lib.hid HA2
  have HN' := Lib.hid HN2
  have HB := Lib.hid hb
  have HT := Lib.hid ht
  clear HA HA2 HN HN2 hb ht hT hX hY hN hs hva
  go_enter Try.func49, Try.ntmps49
  go_wp2_with fail
  go_loopw [4, 3] (fun i s wr => ∃ k : Nat, k ≤ N - 1 ∧ i = .int .i64 ((k : Int) + 1) ∧ s = .int .i64 (sumN T k) ∧ Below w.heap.size w wr) (fun i _ _ => N - (intOf i).toNat)
  case atStart => exact ⟨0, Nat.zero_le _, rfl, rfl, Below.refl _ _⟩
  case round =>
    obtain ⟨k, hk, rfl, rfl, hbel⟩ := hrel
    have HBEL := Lib.hid hbel
    clear hbel
    by_cases hlt : k + 1 < N
    · have h0 : (0 : Int) ≤ (k : Int) := by omega
      have h1 : (k : Int) + 1 < (N : Int) := by omega
      have HAk := Lib.hid (HA'.out k hlt _ (HV.out.below HBEL.out))
      have HNk := Lib.hid (HN'.out k)
      obtain ⟨x, hx⟩ : ∃ x, x = X k := ⟨_, rfl⟩
      obtain ⟨y, hy⟩ : ∃ y, y = Y k := ⟨_, rfl⟩
      rw [← hx, ← hy] at HAk HNk
      clear hx hy
      obtain ⟨hX1, hX2⟩ := HB.out k
      obtain ⟨hY1, hY2⟩ := HT.out k
      have hX3 : sumN T k ≤ 65536 := by omega
      have hs : sumN T (k + 1) = sumN T k + T k := rfl
      obtain ⟨U, hU⟩ : ∃ X, X = sumN T k := ⟨_, rfl⟩
      obtain ⟨V, hV⟩ : ∃ Y, Y = T k := ⟨_, rfl⟩
      rw [← hV] at HNk hY1 hY2
      rw [← hU, ← hV] at hs
      rw [← hU] at hX1 hX3 ⊢
      have HS := Lib.hid hs
      clear hs hU hV hX2
      go_wp2_with fail
      refine (HAk.out).mono ?_
      rintro e w2 ⟨rfl, hb2⟩
      go_wp2_with fail
      refine (HNk.out _).mono ?_
      rintro e w3 ⟨rfl, hb3⟩
      have HBEL2 := Lib.hid (joins HBEL.out (joins hb2 hb3))
      clear hb2 hb3
      go_wp2_with fail
      go_roundw
      case rel => exact ⟨k + 1, by omega, by go_num, by rw [HS.out], HBEL2.out⟩
      case measure => simp [intOf]; omega
    · have he : k = N - 1 := by omega
      have h1 : (N : Int) ≤ (k : Int) + 1 := by omega
      subst he
      go_wp2_with fail
      go_returns
      exact ⟨rfl, HBEL.out⟩

end Go.Proofs.Ytcagiecgbjnefab
