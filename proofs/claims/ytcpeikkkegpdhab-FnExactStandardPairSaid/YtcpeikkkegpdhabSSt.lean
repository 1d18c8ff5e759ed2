/- The model's l1Has and goOrder. -/
import Derived.Test.YtcpeikkkegpdhabKit
import Derived.Test.YtcpeikkkegpdhabStM
namespace Go.Proofs.Ytcpeikkkegpdhab
set_option maxRecDepth 100000
open Go.RowKit

set_option maxHeartbeats 400000 in
theorem l1Has_any (v : Value) (l : List Int) (n : Int) (w : World) (hv : IS w v l) : Calls Try.prog 15 #[v, .int .i64 n] w (Ret w (.bool (hasB l n))) := by
  rcases hv with ⟨rfl, a, cap, rfl⟩ | ⟨hn, b, off, cap, rfl, hm, hc⟩
  · go_enter Try.func15, Try.ntmps15
    go_wp2_with fail
    go_loop [9] (fun i => i = .int .i64 0) (fun _ => 0)
    case atStart => rfl
    case round =>
      subst hrel
      go_wp2_with fail
      go_returns
      exact ⟨ret_bool (by simp [hasB]), by go_grown⟩
  · have hm2 := maxLen_val
    have hm3 : l.length ≤ 9223372036854775807 := by omega
    have HC := Lib.hid hc
    clear hm hm2 hn hc
    go_enter Try.func15, Try.ntmps15
    go_wp2_with fail
    go_loop [9] (fun i => ∃ k : Nat, k ≤ l.length ∧ i = .int .i64 k ∧ n ∉ l.take k) (fun i => l.length - (intOf i).toNat)
    case atStart => exact ⟨0, Nat.zero_le _, rfl, by simp⟩
    case round =>
      obtain ⟨k, hk, rfl, hall⟩ := hrel
      have HA := Lib.hid hall
      clear hall
      by_cases hlt : k < l.length
      · have c1 := HC.out k hlt
        obtain ⟨x, hx⟩ : ∃ x, x = l.getD k 0 := ⟨_, rfl⟩
        rw [← hx] at c1
        have HX := Lib.hid hx
        clear hx
        have h0 : (0 : Int) ≤ (k : Int) := by omega
        have h1 : (k : Int) < (l.length : Int) := by omega
        by_cases hp : x = n
        · subst hp
          go_wp2_with fail
          go_returns
          exact ⟨ret_bool (by rw [hasB_at l _ k hlt HX.out.symm]), by go_grown⟩
        · go_wp2_with fail
          go_round
          case rel => exact ⟨k + 1, by omega, by go_num, hasB_no_take l n k hlt HA.out (by rw [← HX.out]; exact hp)⟩
          case measure => simp [intOf]; omega
      · have hh := HA.out
        rw [List.take_of_length_le (by omega)] at hh
        have HA2 := Lib.hid hh
        clear hh
        go_wp2_with fail
        go_returns
        exact ⟨ret_bool (by rw [hasB_none l n HA2.out]), by go_grown⟩

theorem goOrder_any (v : Value) (o : List Int) (w : World) (hv : IS w v o) (hl : o.length ≤ 1048576) : Calls Try.prog 10 #[v] w (Ret w (.bool (orOk o))) := by
  have hvv := hv
  have hm : ∃ a cap, v = .slice a o.length cap := by rcases hv with ⟨rfl, a, cap, rfl⟩ | ⟨_, b, off, cap, rfl, _⟩ <;> exact ⟨_, _, rfl⟩
  obtain ⟨a, cap, rfl⟩ := hm
  have HC : ∀ w, Calls Try.prog 12 #[.int .i64 o.length, .int .i64 1, .int .i64 5] w (Pure w (.bool (decide (1 ≤ o.length ∧ o.length ≤ 5)))) := fun w => by
    have h := l1In_any o.length 1 5 w
    rwa [show inB (o.length : Int) 1 5 = decide (1 ≤ o.length ∧ o.length ≤ 5) by unfold inB; rw [← Bool.decide_and]; exact decide_eq_decide.2 (by omega)] at h
  have HH : ∀ k : Nat, ∀ w', Below w.heap.size w w' → Calls Try.prog 15 #[.slice a o.length cap, .int .i64 (k : Int)] w' (Ret w' (.bool (hasB o (k : Int)))) := fun k w' h => l1Has_any _ _ _ _ (hvv.below h)
  clear hv hvv
  by_cases hs : 1 ≤ o.length ∧ o.length ≤ 5
  · have HS := Lib.hid hs
    simp only [decide_eq_true hs] at HC
    have HC' := Lib.hid HC
    have HH' := Lib.hid HH
    clear HC HH hs
    go_enter Try.func10, Try.ntmps10
    go_wp2_with fail
    refine (HC'.out _).mono ?_
    rintro e w1 ⟨rfl, rfl⟩
    go_wp2_with fail
    go_loopw [10] (fun i wr => ∃ k : Nat, k ≤ o.length ∧ i = .int .i64 k ∧ Below w.heap.size w wr ∧ ∀ j : Nat, j < k → hasB o (j : Int) = true) (fun i _ => o.length - (intOf i).toNat)
    case atStart => exact ⟨0, Nat.zero_le _, rfl, by go_grown, fun j hj => absurd hj (Nat.not_lt_zero _)⟩
    case round =>
      obtain ⟨k, hk, rfl, hbel, hall⟩ := hrel
      have HA := Lib.hid hall
      have HB := Lib.hid hbel
      clear hall hbel
      by_cases hlt : k < o.length
      · have h0 : (0 : Int) ≤ (k : Int) := by omega
        have h1 : (k : Int) < (o.length : Int) := by omega
        by_cases hp : hasB o (k : Int) = true
        · have hc := HH'.out k
          rw [hp] at hc
          have HK := Lib.hid hc
          have HP := Lib.hid hp
          clear hc hp
          go_wp2_with fail
          refine (HK.out _ HB.out).mono ?_
          rintro e w2 ⟨rfl, hb2⟩
          have HB2 := Lib.hid (joins HB.out hb2)
          clear hb2
          go_wp2_with fail
          go_roundw
          case rel => exact ⟨k + 1, by omega, by go_num, HB2.out, fun j hj => by rcases Nat.lt_succ_iff_lt_or_eq.1 hj with h | h; exact HA.out j h; rw [h]; exact HP.out⟩
          case measure => simp [intOf]; omega
        · have hp2 : hasB o (k : Int) = false := by simpa using hp
          have hc := HH'.out k
          rw [hp2] at hc
          have HK := Lib.hid hc
          have HP := Lib.hid hp2
          clear hc hp hp2
          go_wp2_with fail
          refine (HK.out _ HB.out).mono ?_
          rintro e w2 ⟨rfl, hb2⟩
          have HB2 := Lib.hid (joins HB.out hb2)
          clear hb2
          go_wp2_with fail
          go_returns
          exact ⟨ret_bool (by rw [orOk_no k hlt HP.out]), HB2.out⟩
      · go_wp2_with fail
        go_returns
        exact ⟨ret_bool (by rw [orOk_yes HS.out (fun j hj => HA.out j (by omega))]), HB.out⟩
  · have HS := Lib.hid hs
    simp only [decide_eq_false hs] at HC
    have HC' := Lib.hid HC
    clear HC HH hs
    go_enter Try.func10, Try.ntmps10
    go_wp2_with fail
    refine (HC'.out _).mono ?_
    rintro e w1 ⟨rfl, rfl⟩
    go_wp2_with fail
    go_returns
    exact ⟨ret_bool (by rw [orOk_len_no HS.out]), by go_grown⟩
end Go.Proofs.Ytcpeikkkegpdhab
