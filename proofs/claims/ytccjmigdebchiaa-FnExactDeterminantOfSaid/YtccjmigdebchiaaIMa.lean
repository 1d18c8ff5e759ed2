/- The program's IsMatrix; isMatrix, hasIndex, phaseOf. -/
import Derived.Test.YtccjmigdebchiaaMx
import Derived.Test.YtccjmigdebchiaaMaM
namespace Go.Proofs.Ytccjmigdebchiaa
set_option maxRecDepth 100000
open Go.RowKit

set_option maxHeartbeats 1000000 in
theorem iisMatrix (v : Value) (m : List (List Int)) (w : World) (hv : IR w v m) (hl : sz2 m ≤ 1048576) : Calls Try.prog 44 #[v] w (Ret w (.bool (maOk m))) := by
  obtain ⟨a, cap, rfl⟩ := hv.slice
  have hm3 : m.length ≤ 1048576 := by unfold sz2 at hl; omega
  have htot := tot_le_sz m
  have HV := Lib.hid hv
  clear hv
  rcases (show m.length < 1 ∨ 8 < m.length ∨ (1 ≤ m.length ∧ m.length ≤ 8) by omega) with hs | hs | hs
  · have HS := Lib.hid (maOk_size (m := m) (by omega))
    have h1 : (m.length : Int) < 1 := by omega
    go_enter Try.func44, Try.ntmps44
    go_wp2_with fail
    go_returns
    exact ⟨ret_bool HS.out.symm, by go_grown⟩
  · have HS := Lib.hid (maOk_size (m := m) (by omega))
    have h1 : ¬ (m.length : Int) < 1 := by omega
    have h2 : (8 : Int) < (m.length : Int) := by omega
    go_enter Try.func44, Try.ntmps44
    go_wp2_with fail
    go_returns
    exact ⟨ret_bool HS.out.symm, by go_grown⟩
  · have HS := Lib.hid hs
    have h1 : ¬ (m.length : Int) < 1 := by omega
    have h2 : ¬ (8 : Int) < (m.length : Int) := by omega
    go_enter Try.func44, Try.ntmps44
    go_wp2_with fail
    clear h1 h2
    go_loopw [15] (fun i wr => ∃ k : Nat, k ≤ m.length ∧ i = .int .i64 k ∧ Below w.heap.size w wr ∧ ∀ j : Nat, j < k → rowOk m.length (m.getD j []) = true) (fun i _ => m.length - (intOf i).toNat)
    case atStart => exact ⟨0, Nat.zero_le _, rfl, by go_grown, fun j hj => absurd hj (Nat.not_lt_zero _)⟩
    case round =>
      obtain ⟨k, hk, rfl, hbel, hall⟩ := hrel
      have HA := Lib.hid hall
      have HB := Lib.hid hbel
      clear hall hbel
      by_cases hlt : k < m.length
      · have h0 : (0 : Int) ≤ (k : Int) := by omega
        have h1 : (k : Int) < (m.length : Int) := by omega
        obtain ⟨-, b, off, u, rfl, hc, hu⟩ := (HV.out.below HB.out).at k hlt
        have hn63 := row_le_tot m k hlt
        have HALL := Lib.hid (fun w' => isSequence_any u (m.getD k []) w')
        have HU := Lib.hid hu
        obtain ⟨a', cap', rfl⟩ := hu.sl
        obtain ⟨r, hr⟩ : ∃ r, r = m.getD k [] := ⟨_, rfl⟩
        rw [← hr] at hc hn63 HALL HU
        have HR := Lib.hid hr
        clear hu hr
        by_cases hln : r.length = m.length
        · rw [hln] at hc HALL HU
          have HQ := Lib.hid (show isSeq r = rowOk m.length r by
            have := HS.out
            unfold isSeq rowOk
            rw [decide_eq_true hln, decide_eq_true (show r.length ≤ 32 by omega)])
          have hsq := HALL.out wr HU.out (by omega)
          rw [HQ.out] at hsq
          by_cases hro : rowOk m.length r = true
          · rw [hro] at hsq
            have HRO := Lib.hid hro
            have HSQ := Lib.hid hsq
            clear hro hln hn63 hsq
            go_wp2_with fail
            refine (HSQ.out).mono ?_
            rintro e w2 ⟨rfl, hb2⟩
            have HB2 := Lib.hid (joins HB.out hb2)
            clear hb2
            go_wp2_with fail
            go_roundw
            case rel => exact ⟨k + 1, by omega, by go_num, HB2.out, fun j hj => by
              rcases Nat.lt_succ_iff_lt_or_eq.1 hj with h | h
              · exact HA.out j h
              · rw [h, ← HR.out]; exact HRO.out⟩
            case measure => simp [intOf]; omega
          · have hro2 : rowOk m.length r = false := by simpa using hro
            rw [hro2] at hsq
            have HRO := Lib.hid hro2
            have HSQ := Lib.hid hsq
            clear hro hro2 hln hn63 hsq
            go_wp2_with fail
            refine (HSQ.out).mono ?_
            rintro e w2 ⟨rfl, hb2⟩
            have HB2 := Lib.hid (joins HB.out hb2)
            clear hb2
            go_wp2_with fail
            go_returns
            exact ⟨ret_bool (by rw [maOk_row k hlt (by rw [← HR.out]; exact HRO.out)]), HB2.out⟩
        · have hro : rowOk m.length r = false := by unfold rowOk; rw [decide_eq_false hln]; rfl
          have HRO := Lib.hid hro
          have hne : ¬ (r.length : Int) = (m.length : Int) := by omega
          clear hro HALL HU
          go_wp2_with fail
          go_returns
          exact ⟨ret_bool (by rw [maOk_row k hlt (by rw [← HR.out]; exact HRO.out)]), HB.out⟩
      · go_wp2_with fail
        go_returns
        exact ⟨ret_bool (by rw [maOk_yes HS.out (fun j hj => HA.out j (by omega))]), HB.out⟩
set_option maxHeartbeats 1000000 in
theorem mxIs_any (V : Nat → Nat × Nat) (n : Nat) (w : World) : Calls Try.prog 46 #[.agg (mxC V n)] w (Ret w (.bool (decide (1 ≤ n)))) := by
  have HL := Lib.hid (mxC_side V n)
  obtain ⟨C, hC⟩ : ∃ C, C = mxC V n := ⟨_, rfl⟩
  rw [← hC] at HL ⊢
  clear hC
  go_enter Try.func46, Try.ntmps46
  go_wp2_with (refine wpList_box_row rfl 53 (.tmp 0) rfl C rfl ?_; intro w1 hr1 hb1 hz1; have c1 := rowC hr1 HL.out; clear hz1 hr1)
  go_returns
  exact ⟨ret_bool (by simp; omega), hb1⟩
end Go.Proofs.Ytccjmigdebchiaa
