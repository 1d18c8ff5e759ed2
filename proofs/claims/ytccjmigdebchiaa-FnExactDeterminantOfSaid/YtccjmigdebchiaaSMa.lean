/- The model's haGood, IsMatrix, haRow. -/
import Derived.Test.YtccjmigdebchiaaMaM
namespace Go.Proofs.Ytccjmigdebchiaa
set_option maxRecDepth 100000
open Go.RowKit

set_option maxHeartbeats 1000000 in
theorem haGood_any (v : Value) (m : List (List Int)) (w : World) (hv : IR w v m) : Calls Try.prog 22 #[v] w (Ret w (.bool (maOk m))) := by
  obtain ⟨a, cap, rfl⟩ := hv.slice
  have hm := hv.len
  have hm2 := maxLen_val
  have hm3 : m.length ≤ 9223372036854775807 := by omega
  have HV := Lib.hid hv
  have HC : ∀ w, Calls Try.prog 38 #[.int .i64 m.length, .int .i64 1, .int .i64 8] w (Pure w (.bool (decide (1 ≤ m.length ∧ m.length ≤ 8)))) := fun w => by
    have h := l1In_any m.length 1 8 w
    rwa [show inB (m.length : Int) 1 8 = decide (1 ≤ m.length ∧ m.length ≤ 8) by unfold inB; rw [← Bool.decide_and]; exact decide_eq_decide.2 (by omega)] at h
  clear hv hm hm2
  by_cases hs : 1 ≤ m.length ∧ m.length ≤ 8
  · have HS := Lib.hid hs
    simp only [decide_eq_true hs] at HC
    have HC' := Lib.hid HC
    clear HC hs
    go_enter Try.func22, Try.ntmps22
    go_wp2_with fail
    refine (HC'.out _).mono ?_
    rintro e w1 ⟨rfl, rfl⟩
    go_wp2_with fail
    go_loopw [11] (fun i wr => ∃ k : Nat, k ≤ m.length ∧ i = .int .i64 k ∧ Below w.heap.size w wr ∧ ∀ j : Nat, j < k → rowOk m.length (m.getD j []) = true) (fun i _ => m.length - (intOf i).toNat)
    case atStart => exact ⟨0, Nat.zero_le _, rfl, by go_grown, fun j hj => absurd hj (Nat.not_lt_zero _)⟩
    case round =>
      obtain ⟨k, hk, rfl, hbel, hall⟩ := hrel
      have HA := Lib.hid hall
      have HB := Lib.hid hbel
      clear hall hbel
      by_cases hlt : k < m.length
      · have h0 : (0 : Int) ≤ (k : Int) := by omega
        have h1 : (k : Int) < (m.length : Int) := by omega
        obtain ⟨-, b, off, u, rfl, hc, hu⟩ := (HV.out.below HB.out).at k hlt
        have hn63 := hu.le
        have HALL := Lib.hid (l1All_any u (m.getD k []) 0 3 _ hu)
        obtain ⟨a', cap', rfl⟩ := hu.sl
        obtain ⟨r, hr⟩ : ∃ r, r = m.getD k [] := ⟨_, rfl⟩
        rw [← hr] at hc hn63 HALL
        have HR := Lib.hid hr
        clear hu hr
        by_cases hln : r.length = m.length
        · rw [hln] at hc HALL
          by_cases hall : allIn r 0 3 = true
          · rw [hall] at HALL
            have hro : rowOk m.length r = true := by unfold rowOk; rw [hall, hln]; simp
            have HRO := Lib.hid hro
            clear hro hall hln hn63
            go_wp2_with fail
            refine (HALL.out).mono ?_
            rintro e w2 ⟨rfl, hb2⟩
            have HB2 := Lib.hid (joins HB.out hb2)
            clear hb2
            go_wp2_with fail
            go_roundw
            case rel => exact ⟨k + 1, by omega, by go_num, HB2.out, fun j hj => by
              rcases Nat.lt_succ_iff_lt_or_eq.1 hj with h | h
              · exact HA.out j h
              · rw [h, ← HR.out]; exact HRO.out⟩
            case measure => simp [intOf]; omega
          · have hall2 : allIn r 0 3 = false := by simpa using hall
            rw [hall2] at HALL
            have hro : rowOk m.length r = false := by unfold rowOk; rw [hall2, Bool.and_false]
            have HRO := Lib.hid hro
            clear hro hall hall2 hln hn63
            go_wp2_with fail
            refine (HALL.out).mono ?_
            rintro e w2 ⟨rfl, hb2⟩
            have HB2 := Lib.hid (joins HB.out hb2)
            clear hb2
            go_wp2_with fail
            go_returns
            exact ⟨ret_bool (by rw [maOk_row k hlt (by rw [← HR.out]; exact HRO.out)]), HB2.out⟩
        · have hro : rowOk m.length r = false := by unfold rowOk; rw [decide_eq_false hln]; rfl
          have HRO := Lib.hid hro
          have hne : ¬ (r.length : Int) = (m.length : Int) := by omega
          clear hro HALL
          go_wp2_with fail
          go_returns
          exact ⟨ret_bool (by rw [maOk_row k hlt (by rw [← HR.out]; exact HRO.out)]), HB.out⟩
      · go_wp2_with fail
        go_returns
        exact ⟨ret_bool (by rw [maOk_yes HS.out (fun j hj => HA.out j (by omega))]), HB.out⟩
  · have HS := Lib.hid hs
    simp only [decide_eq_false hs] at HC
    have HC' := Lib.hid HC
    clear HC hs
    go_enter Try.func22, Try.ntmps22
    go_wp2_with fail
    refine (HC'.out _).mono ?_
    rintro e w1 ⟨rfl, rfl⟩
    go_wp2_with fail
    go_returns
    exact ⟨ret_bool (by rw [maOk_size HS.out]), by go_grown⟩
end Go.Proofs.Ytccjmigdebchiaa
