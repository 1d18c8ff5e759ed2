/- The model's sdCodes, AreCodes. -/
import Derived.Test.YtapmehgdnofgnaaSpM
namespace Go.Proofs.Ytapmehgdnofgnaa
set_option maxRecDepth 100000
open Go.RowKit

set_option maxRecDepth 100000 in
set_option maxHeartbeats 2000000 in
theorem sdCodes_any (v : Value) (m : List (List Int)) (w : World) (hv : IR w v m) (hlen : sz2 m ≤ 1048576) : Calls Try.prog 33 #[v] w (Ret w (.bool (cdsOk m))) := by
  obtain ⟨a, cap, rfl⟩ := hv.slice
  have hm := hv.len
  have hm2 := maxLen_val
  have hm3 : m.length ≤ 9223372036854775807 := by omega
  have HV := Lib.hid hv
  have HC : ∀ w, Calls Try.prog 66 #[.int .i64 m.length, .int .i64 1, .int .i64 8] w (Pure w (.bool (decide (1 ≤ m.length ∧ m.length ≤ 8)))) := fun w => by
    have h := l1In_any m.length 1 8 w
    rwa [show inB (m.length : Int) 1 8 = decide (1 ≤ m.length ∧ m.length ≤ 8) by unfold inB; rw [← Bool.decide_and]; exact decide_eq_decide.2 (by omega)] at h
  clear hv hm hm2
  by_cases hs : 1 ≤ m.length ∧ m.length ≤ 8
  · have HS := Lib.hid hs
    have hn0 : 0 < m.length := by omega
    simp only [decide_eq_true hs] at HC
    have HC' := Lib.hid HC
    clear HC hs
    go_enter Try.func33, Try.ntmps33
    go_wp2_with fail
    refine (HC'.out _).mono ?_
    rintro e w1 ⟨rfl, rfl⟩
    go_wp2_with fail
    go_loopw [11] (fun i wr => ∃ k : Nat, k ≤ m.length ∧ i = .int .i64 k ∧ Below w.heap.size w wr ∧ ∀ j : Nat, j < k → cdRow (cdN m) (m.getD j []) = true) (fun i _ => m.length - (intOf i).toNat)
    case atStart => exact ⟨0, Nat.zero_le _, rfl, by go_grown, fun j hj => absurd hj (Nat.not_lt_zero _)⟩
    case round =>
      obtain ⟨k, hk, rfl, hbel, hall⟩ := hrel
      have HA := Lib.hid hall
      have HB := Lib.hid hbel
      clear hall hbel
      by_cases hlt : k < m.length
      · have h0 : (0 : Int) ≤ (k : Int) := by omega
        have h1 : (k : Int) < (m.length : Int) := by omega
        obtain ⟨-, b, off, u, hau, hc, hu⟩ := (HV.out.below HB.out).at k hlt
        obtain ⟨-, b', off', u0, hau0, hc0, hu0⟩ := (HV.out.below HB.out).at 0 hn0
        rw [hau] at hau0
        rw [Nat.add_zero] at hc0
        obtain ⟨rfl, rfl⟩ : b = b' ∧ off = off' := by
          simp only [Option.some.injEq, Addr.mk.injEq] at hau0
          exact ⟨hau0.1, hau0.2.1⟩
        subst hau
        obtain ⟨a0', cap0', rfl⟩ := hu0.sl
        have hn63 := hu.le
        have hn630 := hu0.le
        have HPI := Lib.hid (phIs_any u (m.getD k []) _ hu (by have := row_le_tot m k hlt; unfold sz2 at hlen; omega))
        obtain ⟨a', cap', rfl⟩ := hu.sl
        have hcr : cdRow (cdN m) (m.getD k []) = (isSeq (m.getD k []) && decide (1 ≤ (m.getD k []).length) && decide ((m.getD k []).length = (m.getD 0 []).length)) := rfl
        have HBY := Lib.hid (fun (w2 : World) (hb : Below wr.heap.size wr w2) => And.intro (keepc hb hc) (keepc hb hc0))
        obtain ⟨r, hr⟩ : ∃ r, r = m.getD k [] := ⟨_, rfl⟩
        rw [← hr] at hc hn63 HPI hcr HBY
        obtain ⟨N, hN⟩ : ∃ N, N = (m.getD 0 []).length := ⟨_, rfl⟩
        rw [← hN] at hc0 hn630 hcr HBY
        obtain ⟨M, hM⟩ : ∃ N, N = r.length := ⟨_, rfl⟩
        rw [← hM] at hc hn63 hcr HBY HPI
        have HR := Lib.hid hr
        have HNO := Lib.hid (fun h => cdsOk_row (m := m) k hlt h)
        rw [← hr] at HNO
        obtain ⟨q, hq⟩ : ∃ q, q = isSeq r := ⟨_, rfl⟩
        rw [← hq] at hcr HPI
        clear hu hu0 hr hN hM hau0 hq
        have fin : cdRow (cdN m) r = false → Ending.returned (Value.bool false) = Ending.returned (Value.bool (cdsOk m)) := fun h => by rw [HNO.out h]
        have HFI := Lib.hid fin
        clear fin HNO
        cases q with
        | false =>
          have HF := Lib.hid (HFI.out (by rw [hcr]; rfl))
          clear hcr
          go_wp2_with fail
          refine (HPI.out).mono ?_
          rintro e w2 ⟨rfl, hb2⟩
          have HB2 := Lib.hid (joins HB.out hb2)
          clear hb2
          go_wp2_with fail
          go_returns
          exact ⟨HF.out, HB2.out⟩
        | true =>
          rw [Bool.true_and] at hcr
          by_cases hM0 : M = 0
          · have HF := Lib.hid (HFI.out (by rw [hcr, hM0]; rfl))
            subst hM0
            clear hcr
            go_wp2_with fail
            refine (HPI.out).mono ?_
            rintro e w2 ⟨rfl, hb2⟩
            have HB2 := Lib.hid (joins HB.out hb2)
            clear hb2
            go_wp2_with fail
            go_returns
            exact ⟨HF.out, HB2.out⟩
          · have hM1 : ¬ (M : Int) = 0 := by omega
            rw [decide_eq_true (show 1 ≤ M by omega), Bool.true_and] at hcr
            by_cases hMN : M = N
            · have HT := Lib.hid (show cdRow (cdN m) r = true by rw [hcr]; exact decide_eq_true hMN)
              subst hMN
              clear hcr
              go_wp2_with fail
              refine (HPI.out).mono ?_
              rintro e w2 ⟨rfl, hb2⟩
              have HB2 := Lib.hid (joins HB.out hb2)
              obtain ⟨d1, d2⟩ := HBY.out _ hb2
              clear hb2
              go_wp2_with fail
              go_roundw
              case rel => exact ⟨k + 1, by omega, by go_num, HB2.out, fun j hj => by
                rcases Nat.lt_succ_iff_lt_or_eq.1 hj with h | h
                · exact HA.out j h
                · rw [h, ← HR.out]; exact HT.out⟩
              case measure => simp [intOf]; omega
            · have HF := Lib.hid (HFI.out (by rw [hcr]; exact decide_eq_false hMN))
              have hne : ¬ (M : Int) = (N : Int) := by omega
              have hne2 : ((M : Int) != (N : Int)) = true := by simpa using hne
              have hM2 : ((M : Int) == 0) = false := by simpa using hM1
              clear hcr hMN
              go_wp2_with fail
              refine (HPI.out).mono ?_
              rintro e w2 ⟨rfl, hb2⟩
              have HB2 := Lib.hid (joins HB.out hb2)
              obtain ⟨d1, d2⟩ := HBY.out _ hb2
              clear hb2
              go_wp2_with fail
              go_returns
              exact ⟨HF.out, HB2.out⟩
      · go_wp2_with fail
        go_returns
        exact ⟨ret_bool (by rw [cdsOk_yes HS.out (fun j hj => HA.out j (by omega))]), HB.out⟩
  · have HS := Lib.hid hs
    simp only [decide_eq_false hs] at HC
    have HC' := Lib.hid HC
    clear HC hs
    go_enter Try.func33, Try.ntmps33
    go_wp2_with fail
    refine (HC'.out _).mono ?_
    rintro e w1 ⟨rfl, rfl⟩
    go_wp2_with fail
    go_returns
    exact ⟨ret_bool (by rw [cdsOk_size HS.out]), by go_grown⟩
theorem sAreCodes (v : Value) (m : List (List Int)) (w : World) (hv : IR w v m) (hlen : sz2 m ≤ 1048576) : Calls Try.prog 10 #[v] w (Ret w (.bool (cdsOk m))) := by
  obtain ⟨a, cap, rfl⟩ := hv.slice
  have HG := Lib.hid (sdCodes_any _ m w hv hlen)
  clear hv
  go_enter Try.func10, Try.ntmps10
  go_wp2_with fail
  refine (HG.out).mono ?_
  rintro e w1 ⟨rfl, hb1⟩
  go_wp2_with fail
  go_returns
  exact ⟨rfl, hb1⟩
end Go.Proofs.Ytapmehgdnofgnaa
