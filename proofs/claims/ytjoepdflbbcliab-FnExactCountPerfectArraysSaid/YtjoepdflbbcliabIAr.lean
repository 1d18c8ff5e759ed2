/- The program's isSide and IsArray. -/
import Derived.Test.YtjoepdflbbcliabArM
namespace Go.Proofs.Ytjoepdflbbcliab
set_option maxRecDepth 100000
open Go.RowKit

set_option maxHeartbeats 1000000 in
theorem isSideI_any (n : Int) (w : World) : Calls Try.prog 35 #[.int .i64 n] w (Pure w (.bool (inB n 1 8))) := by
  by_cases hi : 1 ≤ n
  all_goals
    go_enter Try.func35, Try.ntmps35
    go_wp2_with fail
    go_returns
    exact ⟨ret_bool (by unfold inB; simp [hi]; try omega), rfl⟩
theorem isSide_any (n : Nat) (w : World) : Calls Try.prog 35 #[.int .i64 n] w (Pure w (.bool (sideB n))) := by
  have h := isSideI_any n w
  rwa [inB_side] at h
set_option maxHeartbeats 1000000 in
theorem iisArray (v : Value) (m : List (List Int)) (w : World) (hv : IR w v m) (hl : sz2 m ≤ 1048576) : Calls Try.prog 13 #[v] w (Ret w (.bool (arOk m))) := by
  obtain ⟨a, cap, rfl⟩ := hv.slice
  have hm3 : m.length ≤ 1048576 := by unfold sz2 at hl; omega
  have htot := tot_le_sz m
  have HV := Lib.hid hv
  have HC := Lib.hid (isSide_any m.length)
  have HC2 := Lib.hid (isSide_any (colsOf m))
  have HNR := Lib.hid (fun (h : sideB m.length = false) => arOk_rows h)
  have HNC := Lib.hid (fun (h : sideB (colsOf m) = false) => arOk_cols h)
  have HNO := Lib.hid (fun i hi h => arOk_row (m := m) i hi h)
  have HY := Lib.hid (fun h h1 h2 => arOk_yes (m := m) h h1 h2)
  have hc63 : sideB m.length = true → colsOf m ≤ 1048576 := fun h => by have := row_le_tot m 0 (sideB_in h).1; unfold colsOf; omega
  obtain ⟨B, hB⟩ : ∃ B, B = arOk m := ⟨_, rfl⟩
  rw [← hB] at HNR HNC HNO HY ⊢
  clear hv hB
  by_cases hs : sideB m.length = true
  · rw [hs] at HC
    have HS := Lib.hid (sideB_in hs)
    have HS1 := Lib.hid hs
    have hc64 := hc63 hs
    obtain ⟨-, b, off, u0, rfl, hc0, hu0⟩ := HV.out.at 0 (sideB_in hs).1
    obtain ⟨a0, cap0, rfl⟩ := hu0.sl
    rw [Nat.add_zero, show (m.getD 0 []).length = colsOf m from rfl] at hc0
    have hp0 : (0 : Int) < (m.length : Int) := by have := sideB_in hs; omega
    obtain ⟨c, hcd⟩ : ∃ c, c = colsOf m := ⟨_, rfl⟩
    rw [← hcd] at hc0 hc64 HC2 HNO HY HNC
    have HCD := Lib.hid hcd
    clear hs hu0 hc63 hcd
    by_cases hsc : sideB c = true
    · have HSC := Lib.hid hsc
      rw [hsc] at HC2
      have HC0 := Lib.hid hc0
      clear hsc hc0
      go_enter Try.func13, Try.ntmps13
      have hc0 := HC0.out
      go_wp2_with fail
      refine (HC.out _).mono ?_
      rintro e w1 ⟨rfl, rfl⟩
      go_wp2_with fail
      refine (HC2.out _).mono ?_
      rintro e w1 ⟨rfl, rfl⟩
      clear hc0
      go_wp2_with fail
      go_loopw [19] (fun i wr => ∃ k : Nat, k ≤ m.length ∧ i = .int .i64 k ∧ Below w.heap.size w wr ∧ ∀ j : Nat, j < k → rowOk c (m.getD j []) = true) (fun i _ => m.length - (intOf i).toNat)
      case atStart => exact ⟨0, Nat.zero_le _, rfl, by go_grown, fun j hj => absurd hj (Nat.not_lt_zero _)⟩
      case round =>
        obtain ⟨k, hk, rfl, hbel, hall⟩ := hrel
        have HA := Lib.hid hall
        have HB := Lib.hid hbel
        clear hall hbel
        by_cases hlt : k < m.length
        · have h0 : (0 : Int) ≤ (k : Int) := by omega
          have h1 : (k : Int) < (m.length : Int) := by omega
          have hc0 := keepc HB.out HC0.out
          obtain ⟨-, b1, off1, u, hab, hc, hu⟩ := (HV.out.below HB.out).at k hlt
          simp only [Option.some.injEq, Addr.mk.injEq] at hab
          obtain ⟨rfl, rfl, -⟩ := hab
          have hn63 := row_le_tot m k hlt
          have HALL := Lib.hid (fun w' => isSequence_any u (m.getD k []) w')
          have HU := Lib.hid hu
          obtain ⟨a', cap', rfl⟩ := hu.sl
          obtain ⟨r, hr⟩ : ∃ r, r = m.getD k [] := ⟨_, rfl⟩
          rw [← hr] at hc hn63 HALL HU
          have HR := Lib.hid hr
          clear hu hr
          by_cases hln : r.length = c
          · rw [hln] at hc HALL HU
            have HQ := Lib.hid (show isSeq r = rowOk c r by
              have := sideB_in HSC.out
              unfold isSeq rowOk
              rw [decide_eq_true hln, decide_eq_true (show r.length ≤ 32 by omega)])
            have hsq := HALL.out wr HU.out (by omega)
            rw [HQ.out] at hsq
            by_cases hro : rowOk c r = true
            · rw [hro] at hsq
              have HRO := Lib.hid hro
              have HSQ := Lib.hid hsq
              clear hro hln hn63 hsq
              go_wp2_with fail
              refine (HSQ.out).mono ?_
              rintro e w2 ⟨rfl, hb2⟩
              have HB2 := Lib.hid (joins HB.out hb2)
              clear hb2
              go_wp2_with fail
              go_roundw
              case rel => exact ⟨k + 1, by omega, by go_num, HB2.out, fun j hj => by
                rcases Nat.lt_succ_iff_lt_or_eq.1 hj with h | h
                · exact HA.out j h
                · rw [h, ← HR.out]; exact HRO.out⟩
              case measure => simp [intOf]; omega
            · have hro2 : rowOk c r = false := by simpa using hro
              rw [hro2] at hsq
              have HSQ := Lib.hid hsq
              have HF := Lib.hid (HNO.out k hlt (by rw [← HR.out]; exact hro2))
              clear hro hro2 hln hn63 hsq
              go_wp2_with fail
              refine (HSQ.out).mono ?_
              rintro e w2 ⟨rfl, hb2⟩
              have HB2 := Lib.hid (joins HB.out hb2)
              clear hb2
              go_wp2_with fail
              go_returns
              exact ⟨ret_bool HF.out.symm, HB2.out⟩
          · have hro : rowOk c r = false := by unfold rowOk; rw [decide_eq_false hln]; rfl
            have HF := Lib.hid (HNO.out k hlt (by rw [← HR.out]; exact hro))
            have hne : ¬ (r.length : Int) = (c : Int) := by omega
            clear hro HALL HU
            go_wp2_with fail
            go_returns
            exact ⟨ret_bool HF.out.symm, HB.out⟩
        · have HF := Lib.hid (HY.out HS1.out HSC.out (fun j hj => HA.out j (by omega)))
          go_wp2_with fail
          go_returns
          exact ⟨ret_bool HF.out.symm, HB.out⟩
    · have hsc2 : sideB c = false := by simpa using hsc
      rw [hsc2] at HC2
      have HF := Lib.hid (HNC.out hsc2)
      clear hsc hsc2
      go_enter Try.func13, Try.ntmps13
      go_wp2_with fail
      refine (HC.out _).mono ?_
      rintro e w1 ⟨rfl, rfl⟩
      go_wp2_with fail
      refine (HC2.out _).mono ?_
      rintro e w1 ⟨rfl, rfl⟩
      go_wp2_with fail
      go_returns
      exact ⟨ret_bool HF.out.symm, by go_grown⟩
  · have hs2 : sideB m.length = false := by simpa using hs
    rw [hs2] at HC
    have HF := Lib.hid (HNR.out hs2)
    clear hs hs2 hc63
    go_enter Try.func13, Try.ntmps13
    go_wp2_with fail
    refine (HC.out _).mono ?_
    rintro e w1 ⟨rfl, rfl⟩
    go_wp2_with fail
    go_returns
    exact ⟨ret_bool HF.out.symm, by go_grown⟩
end Go.Proofs.Ytjoepdflbbcliab
