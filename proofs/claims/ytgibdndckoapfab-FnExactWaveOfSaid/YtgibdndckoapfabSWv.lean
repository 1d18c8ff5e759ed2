/- The model's WaveOf. -/
import Derived.Test.YtgibdndckoapfabSPl
import Derived.Test.YtgibdndckoapfabMvM
namespace Go.Proofs.Ytgibdndckoapfab
set_option maxRecDepth 100000
open Go.RowKit

set_option maxHeartbeats 1000000 in
theorem tfSizeZ_any (n : Int) (w : World) : Calls Try.prog 51 #[.int .i64 n] w (Pure w (.bool (decide (n = 1 ∨ n = 4 ∨ n = 16)))) := by
  have hz : decide (n = 1 ∨ n = 4 ∨ n = 16) = (decide (n = 1) || decide (n = 4) || decide (n = 16)) := by
    by_cases h1 : n = 1
    · subst h1; rfl
    · by_cases h2 : n = 4
      · subst h2; rfl
      · by_cases h3 : n = 16
        · subst h3; rfl
        · simp [h1, h2, h3]
  rw [hz]
  by_cases h1 : n = 1
  · go_enter Try.func51, Try.ntmps51
    go_wp2
    go_returns
    exact ⟨ret_bool (by simp [h1]), rfl⟩
  · by_cases h2 : n = 4
    · go_enter Try.func51, Try.ntmps51
      go_wp2
      go_returns
      exact ⟨ret_bool (by simp [h2]), rfl⟩
    · go_enter Try.func51, Try.ntmps51
      go_wp2
      go_returns
      exact ⟨ret_bool rfl, rfl⟩
set_option maxRecDepth 100000 in
set_option maxHeartbeats 2000000 in
theorem swaveOf (n p : Int) (w : World) : Calls Try.prog 22 #[.int .i64 n, .int .i64 p] w (MakesB w (wvA n p) (wvOk n p)) := by
  have HS := Lib.hid (tfSizeZ_any n)
  by_cases hz : n = 1 ∨ n = 4 ∨ n = 16
  · rw [decide_eq_true hz] at HS
    have HI := Lib.hid (l1In_any p 0 (n - 1))
    have hn1 : 1 ≤ n := by omega
    have hn2 : n ≤ 16 := by omega
    by_cases hin : 0 ≤ p ∧ p < n
    · have e1 : wvOk n p = true := by unfold wvOk; rw [decide_eq_true hz, decide_eq_true hin]; rfl
      have e2 : wvA n p = gen n.toNat (fun x => (wvP p.toNat x : Int)) := by unfold wvA; rw [e1]; rfl
      rw [show inB p 0 (n - 1) = true by simp [inB]; omega] at HI
      rw [e1, e2]
      obtain ⟨m, rfl⟩ : ∃ m : Nat, p = m := ⟨p.toNat, by omega⟩
      obtain ⟨N, rfl⟩ : ∃ m : Nat, n = m := ⟨n.toNat, by omega⟩
      rw [show ((N : Int)).toNat = N from rfl, show ((m : Int)).toNat = m from rfl]
      obtain ⟨G, hG⟩ : ∃ G : Nat → Int, G = fun x => (wvP m x : Int) := ⟨_, rfl⟩
      rw [← hG]
      have HG := Lib.hid (show ∀ x, G x = (wvP m x : Int) from fun x => by rw [hG])
      have hmN : m < N := by omega
      clear hz hin e1 e2 hG
      go_enter Try.func22, Try.ntmps22
      go_wp2_with fail
      refine (HS.out _).mono ?_
      rintro e w1 ⟨rfl, rfl⟩
      go_wp2_with fail
      refine (HI.out _).mono ?_
      rintro e w2 ⟨rfl, rfl⟩
      go_wp2_with fail
      go_loopw [7, 6] (fun i o wr => ∃ k : Nat, k ≤ N ∧ i = .int .i64 k ∧ Own wr w.heap.size o (gen k G) ∧ Below w.heap.size w wr) (fun i _ _ => N - (intOf i).toNat)
      case atStart => exact ⟨0, Nat.zero_le _, rfl, World.ownsRow_nil _ _ _ _, Below.refl _ _⟩
      case round =>
        obtain ⟨k, hk, rfl, hown, hbel⟩ := hrel
        have HB := Lib.hid hbel
        have HO := Lib.hid hown
        clear hown hbel
        by_cases hlt : k < N
        · have h0 : (0 : Int) ≤ (k : Int) := by omega
          have h1 : (k : Int) < (N : Int) := by omega
          have HA := Lib.hid (tfPhase_any m k (by omega) (by omega))
          have hgs := gen_succ k G
          obtain ⟨x, hx⟩ : ∃ x, x = G k := ⟨_, rfl⟩
          rw [← HG.out k, ← hx] at HA
          rw [← hx] at hgs
          have HGS := Lib.hid hgs
          have hgl : (gen k G).length ≤ 1048576 := by rw [gen_length]; omega
          have HGL := Lib.hid hgl
          clear hx hgs hgl
          go_wp2_with fail
          refine (HA.out _).mono ?_
          rintro e w3 ⟨rfl, rfl⟩
          go_wp2_with (at_builtin; refine wpList_push rfl _ _ rfl w.heap.size _ (gen k G) rfl (HO.out.alloc' _) wr.heap.size 1 x rfl (by simp) HGL.out w.heap.size w (HB.out.alloc HB.out.size _) (Nat.le_refl _) (by have := HB.out.size; simp; omega) (by have := HB.out.size; simp; omega) ?_; intro v3 w3 ho3 hb3)
          go_roundw
          case rel => exact ⟨k + 1, by omega, by go_num, by rw [HGS.out]; exact ho3, hb3⟩
          case measure => simp [intOf]; omega
        · obtain rfl : k = N := by omega
          go_wp2_with fail
          go_returns
          exact ⟨_, rfl, HO.out, HB.out⟩
    · have e1 : wvOk n p = false := by unfold wvOk; rw [decide_eq_false hin, Bool.and_false]
      have e2 : wvA n p = [] := by unfold wvA; rw [e1]; rfl
      rw [show inB p 0 (n - 1) = false by simp [inB]; omega] at HI
      rw [e1, e2]
      clear e1 e2 hz hin
      go_enter Try.func22, Try.ntmps22
      go_wp2_with fail
      refine (HS.out _).mono ?_
      rintro e w1 ⟨rfl, rfl⟩
      go_wp2_with fail
      refine (HI.out _).mono ?_
      rintro e w2 ⟨rfl, rfl⟩
      go_wp2_with fail
      go_returns
      exact ⟨_, rfl, World.ownsRow_nil _ _ _ _, Below.refl _ _⟩
  · rw [decide_eq_false hz] at HS
    have e1 : wvOk n p = false := by unfold wvOk; rw [decide_eq_false hz, Bool.false_and]
    have e2 : wvA n p = [] := by unfold wvA; rw [e1]; rfl
    rw [e1, e2]
    clear e1 e2 hz
    go_enter Try.func22, Try.ntmps22
    go_wp2_with fail
    refine (HS.out _).mono ?_
    rintro e w1 ⟨rfl, rfl⟩
    go_wp2_with fail
    go_returns
    exact ⟨_, rfl, World.ownsRow_nil _ _ _ _, Below.refl _ _⟩
end Go.Proofs.Ytgibdndckoapfab
