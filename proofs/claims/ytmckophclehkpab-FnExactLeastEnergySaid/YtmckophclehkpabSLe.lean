/- The model's LeastEnergy. -/
import Derived.Test.YtmckophclehkpabSBar
import Derived.Test.YtmckophclehkpabLeM
namespace Go.Proofs.Ytmckophclehkpab
open Go.RowKit

set_option maxHeartbeats 400000 in
theorem l1Least_any (a b : Int) (w : World) : Calls Try.prog 44 #[.int .i64 a, .int .i64 b] w (Pure w (.int .i64 (if b < a then b else a))) := by
  by_cases h : b < a
  · rw [if_pos h]
    have h2 : ¬ a < b := by omega
    have h3 : a > b := by omega
    go_enter Try.func44, Try.ntmps44
    go_wp2
    go_returns
    exact ⟨rfl, rfl⟩
  · rw [if_neg h]
    rcases (show a < b ∨ a = b by omega) with h2 | rfl
    · go_enter Try.func44, Try.ntmps44
      go_wp2
      go_returns
      exact ⟨rfl, rfl⟩
    · go_enter Try.func44, Try.ntmps44
      go_wp2
      go_returns
      exact ⟨rfl, rfl⟩

set_option maxRecDepth 100000 in
set_option maxHeartbeats 1000000 in
theorem sleast (n : Int) (w : World) : Calls Try.prog 27 #[.int .i64 n] w (Ret w (.tuple #[.int .i64 (leC n), .bool (smallN n)])) := by
  have HC := crSmall_any n
  by_cases hs : smallN n = true
  · have hn : 1 ≤ n ∧ n ≤ 6 := by simpa [smallN] using hs
    obtain ⟨N, rfl⟩ := Int.eq_ofNat_of_zero_le (show 0 ≤ n by omega)
    have hN1 : 1 ≤ N := by omega
    have hN6 : N ≤ 6 := by omega
    have hb : leC N = leN N ((N : Int) * N * N) (pow4 N) := (leC_eq N hN1 hN6 _ (rankE_zero N hN1 hN6)).symm
    rw [hb, hs]
    rw [hs] at HC
    have HW : ∀ k : Nat, k < pow4 N → ∀ w, Calls Try.prog 40 #[.int .i64 N, .int .i64 k] w (Makes w (lowD k N)) := fun k hk w => phWith_any N (by omega) k (by omega) (by have := (pow4_le N hN6).2; omega) w
    have HB : ∀ k : Nat, ∀ v w, IS w v (lowD k N) → Calls Try.prog 30 #[v] w (Ret w (.int .i64 (rankE N k))) := fun k v w h => crEnergy_any v _ w h (lowD_seq k N (by omega))
    have hst : ∀ k, leN N ((N : Int) * N * N) (k + 1) = if rankE N k < leN N ((N : Int) * N * N) k then rankE N k else leN N ((N : Int) * N * N) k := fun k => rfl
    have hst0 : leN N ((N : Int) * N * N) 0 = (N : Int) * N * N := rfl
    obtain ⟨D, hD⟩ : ∃ D : Nat → List Int, D = fun k : Nat => lowD k N := ⟨_, rfl⟩
    have HW2 : ∀ k : Nat, k < pow4 N → ∀ w, Calls Try.prog 40 #[.int .i64 N, .int .i64 k] w (Makes w (D k)) := fun k hk w => by rw [hD]; exact HW k hk w
    have HB2 : ∀ k : Nat, ∀ v w, IS w v (D k) → Calls Try.prog 30 #[v] w (Ret w (.int .i64 (rankE N k))) := fun k v w h => by rw [hD] at h; exact HB k v w h
    have hp := pow4_le N hN6
    have hsh := shl_eq N hN6
    have hcs := cube_small N hN6
    obtain ⟨hc1, hc2, hc3, hc4⟩ := hcs
    obtain ⟨L, hL⟩ : ∃ L : Nat → Int, L = leN N ((N : Int) * N * N) := ⟨_, rfl⟩
    obtain ⟨E, hE⟩ : ∃ L : Nat → Int, L = rankE N := ⟨_, rfl⟩
    obtain ⟨K, hK⟩ : ∃ K, K = pow4 N := ⟨_, rfl⟩
    rw [← hK] at HW2 hp hsh ⊢
    rw [← hL] at hst hst0 ⊢
    rw [← hE] at hst HB2
    obtain ⟨hp1, hp2⟩ := hp
    have HC' := Lib.hid HC
    have HW' := Lib.hid HW2
    have HB' := Lib.hid HB2
    have HST := Lib.hid hst
    have HST0 := Lib.hid hst0
    clear HC HW HW2 HB HB2 hst hst0 hL hE hD hK hb hs hn
    go_enter Try.func27, Try.ntmps27
    go_wp2_with fail
    refine (HC'.out _).mono ?_
    rintro e w1 ⟨rfl, rfl⟩
    go_wp2_with fail
    go_loopw [5, 4] (fun i c wr => ∃ k : Nat, k ≤ K ∧ i = .int .i64 k ∧ c = .int .i64 (L k) ∧ Below w.heap.size w wr) (fun i _ _ => K - (intOf i).toNat)
    case atStart => exact ⟨0, Nat.zero_le _, rfl, by rw [HST0.out], Below.refl _ _⟩
    case round =>
      obtain ⟨k, hk, rfl, rfl, hbel⟩ := hrel
      have HBEL := Lib.hid hbel
      clear hbel
      by_cases hlt : k < K
      · have h0 : (0 : Int) ≤ (k : Int) := by omega
        have h1 : (k : Int) < (K : Int) := by omega
        have HWk := Lib.hid (HW'.out k hlt)
        have HBk := Lib.hid (HB'.out k)
        have hs := HST.out k
        have HL := l1Least_any (L k) (E k)
        rw [← hs] at HL
        have HL' := Lib.hid HL
        obtain ⟨x, hx⟩ : ∃ x, x = L k := ⟨_, rfl⟩
        obtain ⟨y, hy⟩ : ∃ y, y = L (k + 1) := ⟨_, rfl⟩
        obtain ⟨z, hz⟩ : ∃ z, z = E k := ⟨_, rfl⟩
        rw [← hx, ← hy, ← hz] at HL'
        rw [← hz] at HBk
        rw [← hx]
        have HY := Lib.hid hy
        clear hs HL hx hy hz
        go_wp2_with fail
        refine (HWk.out _).mono ?_
        rintro e w2 ⟨v2, rfl, ho2, hb2⟩
        have HO2 := Lib.hid ho2
        have HBEL2 := Lib.hid (joins HBEL.out hb2)
        clear ho2 hb2
        go_wp2_with fail
        refine (HBk.out _ _ HO2.out.is).mono ?_
        rintro e w3 ⟨rfl, hb3⟩
        have HBEL3 := Lib.hid (joins HBEL2.out hb3)
        clear hb3
        go_wp2_with fail
        refine (HL'.out _).mono ?_
        rintro e w4 ⟨rfl, rfl⟩
        go_wp2_with fail
        go_roundw
        case rel => exact ⟨k + 1, by omega, by go_num, by rw [HY.out], HBEL3.out⟩
        case measure => simp [intOf]; omega
      · have he : k = K := by omega
        subst he
        go_wp2_with fail
        go_returns
        exact ⟨rfl, HBEL.out⟩
  · have hs2 : smallN n = false := by simpa using hs
    have hb : leC n = 0 := by unfold leC; rw [hs2]; rfl
    rw [hb, hs2]
    rw [hs2] at HC
    have HC' := Lib.hid HC
    clear HC hb hs hs2
    go_enter Try.func27, Try.ntmps27
    go_wp2_with fail
    refine (HC'.out _).mono ?_
    rintro e w1 ⟨rfl, rfl⟩
    go_wp2_with fail
    go_returns
    exact ⟨rfl, by go_grown⟩
end Go.Proofs.Ytmckophclehkpab
