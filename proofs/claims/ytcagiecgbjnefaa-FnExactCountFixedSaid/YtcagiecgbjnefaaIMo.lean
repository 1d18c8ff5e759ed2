/- The program's bits and steps: isBits, areSent, phasesOfBits, stepsFrom, stepped. -/
import Derived.Test.YtcagiecgbjnefaaMoR
namespace Go.Proofs.Ytcagiecgbjnefaa
set_option maxRecDepth 100000
open Go.RowKit

set_option maxHeartbeats 1000000 in
theorem isBits_any (v : Value) (l : List Int) (w : World) (hv : IS w v l) (hl : l.length ≤ 1048576) : Calls Try.prog 33 #[v] w (Ret w (.bool (bsOk l))) := by
  rcases hv with ⟨rfl, a, cap, rfl⟩ | ⟨hn, b, off, cap, rfl, hm, hc⟩
  · go_enter Try.func33, Try.ntmps33
    go_wp2_with fail
    go_loop [10] (fun i => i = .int .i64 0) (fun _ => 0)
    case atStart => rfl
    case round =>
      subst hrel
      go_wp2_with fail
      go_returns
      exact ⟨rfl, by go_grown⟩
  · have HC := Lib.hid hc
    obtain ⟨N, hN⟩ : ∃ N, N = l.length := ⟨_, rfl⟩
    have HN := Lib.hid hN
    rw [← hN] at hl ⊢
    clear hm hn hc hN
    by_cases h32 : N ≤ 64
    · have hi32 : (N : Int) ≤ 64 := by omega
      go_enter Try.func33, Try.ntmps33
      go_wp2_with fail
      go_loop [10] (fun i => ∃ k : Nat, k ≤ N ∧ i = .int .i64 k ∧ allIn (l.take k) 0 1 = true) (fun i => N - (intOf i).toNat)
      case atStart => exact ⟨0, Nat.zero_le _, rfl, by simp [allIn]⟩
      case round =>
        obtain ⟨k, hk, rfl, hall⟩ := hrel
        have HA := Lib.hid hall
        clear hall
        by_cases hlt : k < N
        · have hltl : k < l.length := by rw [← HN.out]; exact hlt
          have c1 := HC.out k hltl
          have HTK := Lib.hid (allIn_take_succ l 0 1 k hltl HA.out)
          have HFA := Lib.hid (allIn_false l 0 1 k hltl)
          obtain ⟨x, hx⟩ : ∃ x, x = l.getD k 0 := ⟨_, rfl⟩
          rw [← hx] at c1 HTK HFA
          clear hx hltl
          have h0 : (0 : Int) ≤ (k : Int) := by omega
          have h1 : (k : Int) < (N : Int) := by omega
          by_cases hp : x = 0
          · subst hp
            go_wp2_with fail
            go_round
            case rel => exact ⟨k + 1, by omega, by go_num, HTK.out (by decide)⟩
            case measure => simp [intOf]; omega
          · by_cases hq : x = 1
            · subst hq
              go_wp2_with fail
              go_round
              case rel => exact ⟨k + 1, by omega, by go_num, HTK.out (by decide)⟩
              case measure => simp [intOf]; omega
            · have hp1 : (x != 0) = true := by simp [hp]
              have hq1 : (x != 1) = true := by simp [hq]
              go_wp2_with fail
              go_returns
              exact ⟨ret_bool (by unfold bsOk; rw [HFA.out (by unfold inB; rw [Bool.and_eq_false_iff, decide_eq_false_iff_not, decide_eq_false_iff_not]; omega), Bool.and_false]), by go_grown⟩
        · have hh := HA.out
          rw [List.take_of_length_le (by rw [← HN.out]; omega)] at hh
          have HA2 := Lib.hid (show bsOk l = true by unfold bsOk; rw [hh, decide_eq_true (by rw [← HN.out]; exact h32)]; rfl)
          clear hh
          go_wp2_with fail
          go_returns
          exact ⟨ret_bool HA2.out.symm, by go_grown⟩
    · have hi32 : (64 : Int) < (N : Int) := by omega
      have HA2 := Lib.hid (show bsOk l = false by unfold bsOk; rw [decide_eq_false (by rw [← HN.out]; exact h32)]; rfl)
      go_enter Try.func33, Try.ntmps33
      go_wp2_with fail
      go_returns
      exact ⟨ret_bool HA2.out.symm, by go_grown⟩

end Go.Proofs.Ytcagiecgbjnefaa
