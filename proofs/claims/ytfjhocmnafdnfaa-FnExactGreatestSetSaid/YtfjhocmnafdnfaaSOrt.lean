/- The model's sdCodes, AreCodes. The model's sdDot, sdOrthogonal, AreOrthogonal. -/
import Derived.Test.YtfjhocmnafdnfaaSp
import Derived.Test.YtfjhocmnafdnfaaSCr
namespace Go.Proofs.Ytfjhocmnafdnfaa
set_option maxRecDepth 100000
section
open Go.RowKit

set_option maxRecDepth 100000 in
set_option maxHeartbeats 2000000 in
theorem sdCodes_any (v : Value) (m : List (List Int)) (w : World) (hv : IR w v m) (hlen : sz2 m ≤ 1048576) : Calls Try.prog 96 #[v] w (Ret w (.bool (cdsOk m))) := by
  obtain ⟨a, cap, rfl⟩ := hv.slice
  have hm := hv.len
  have hm2 := maxLen_val
  have hm3 : m.length ≤ 9223372036854775807 := by omega
  have HV := Lib.hid hv
  have HC : ∀ w, Calls Try.prog 122 #[.int .i64 m.length, .int .i64 1, .int .i64 8] w (Pure w (.bool (decide (1 ≤ m.length ∧ m.length ≤ 8)))) := fun w => by
    have h := l1In_any m.length 1 8 w
    rwa [show inB (m.length : Int) 1 8 = decide (1 ≤ m.length ∧ m.length ≤ 8) by unfold inB; rw [← Bool.decide_and]; exact decide_eq_decide.2 (by omega)] at h
  clear hv hm hm2
  by_cases hs : 1 ≤ m.length ∧ m.length ≤ 8
  · have HS := Lib.hid hs
    have hn0 : 0 < m.length := by omega
    simp only [decide_eq_true hs] at HC
    have HC' := Lib.hid HC
    clear HC hs
    go_enter Try.func96, Try.ntmps96
    go_wp2_with fail
    refine (HC'.out _).mono ?_
    rintro e w1 ⟨rfl, rfl⟩
    go_wp2_with fail
    go_loopw [11] (fun i wr => ∃ k : Nat, k ≤ m.length ∧ i = .int .i64 k ∧ Below w.heap.size w wr ∧ ∀ j : Nat, j < k → cdRow (cdN m) (m.getD j []) = true) (fun i _ => m.length - (intOf i).toNat)
    case atStart => exact ⟨0, Nat.zero_le _, rfl, by go_grown, fun j hj => absurd hj (Nat.not_lt_zero _)⟩
    case round =>
      obtain ⟨k, hk, rfl, hbel, hall⟩ := hrel
      have HA := Lib.hid hall
      have HB := Lib.hid hbel
      clear hall hbel
      by_cases hlt : k < m.length
      · have h0 : (0 : Int) ≤ (k : Int) := by omega
        have h1 : (k : Int) < (m.length : Int) := by omega
        obtain ⟨-, b, off, u, hau, hc, hu⟩ := (HV.out.below HB.out).at k hlt
        obtain ⟨-, b', off', u0, hau0, hc0, hu0⟩ := (HV.out.below HB.out).at 0 hn0
        rw [hau] at hau0
        rw [Nat.add_zero] at hc0
        obtain ⟨rfl, rfl⟩ : b = b' ∧ off = off' := by
          simp only [Option.some.injEq, Addr.mk.injEq] at hau0
          exact ⟨hau0.1, hau0.2.1⟩
        subst hau
        obtain ⟨a0', cap0', rfl⟩ := hu0.sl
        have hn63 := hu.le
        have hn630 := hu0.le
        have HPI := Lib.hid (phIs_any u (m.getD k []) _ hu (by have := row_le_tot m k hlt; unfold sz2 at hlen; omega))
        obtain ⟨a', cap', rfl⟩ := hu.sl
        have hcr : cdRow (cdN m) (m.getD k []) = (isSeq (m.getD k []) && decide (1 ≤ (m.getD k []).length) && decide ((m.getD k []).length = (m.getD 0 []).length)) := rfl
        have HBY := Lib.hid (fun (w2 : World) (hb : Below wr.heap.size wr w2) => And.intro (keepc hb hc) (keepc hb hc0))
        obtain ⟨r, hr⟩ : ∃ r, r = m.getD k [] := ⟨_, rfl⟩
        rw [← hr] at hc hn63 HPI hcr HBY
        obtain ⟨N, hN⟩ : ∃ N, N = (m.getD 0 []).length := ⟨_, rfl⟩
        rw [← hN] at hc0 hn630 hcr HBY
        obtain ⟨M, hM⟩ : ∃ N, N = r.length := ⟨_, rfl⟩
        rw [← hM] at hc hn63 hcr HBY HPI
        have HR := Lib.hid hr
        have HNO := Lib.hid (fun h => cdsOk_row (m := m) k hlt h)
        rw [← hr] at HNO
        obtain ⟨q, hq⟩ : ∃ q, q = isSeq r := ⟨_, rfl⟩
        rw [← hq] at hcr HPI
        clear hu hu0 hr hN hM hau0 hq
        have fin : cdRow (cdN m) r = false → Ending.returned (Value.bool false) = Ending.returned (Value.bool (cdsOk m)) := fun h => by rw [HNO.out h]
        have HFI := Lib.hid fin
        clear fin HNO
        cases q with
        | false =>
          have HF := Lib.hid (HFI.out (by rw [hcr]; rfl))
          clear hcr
          go_wp2_with fail
          refine (HPI.out).mono ?_
          rintro e w2 ⟨rfl, hb2⟩
          have HB2 := Lib.hid (joins HB.out hb2)
          clear hb2
          go_wp2_with fail
          go_returns
          exact ⟨HF.out, HB2.out⟩
        | true =>
          rw [Bool.true_and] at hcr
          by_cases hM0 : M = 0
          · have HF := Lib.hid (HFI.out (by rw [hcr, hM0]; rfl))
            subst hM0
            clear hcr
            go_wp2_with fail
            refine (HPI.out).mono ?_
            rintro e w2 ⟨rfl, hb2⟩
            have HB2 := Lib.hid (joins HB.out hb2)
            clear hb2
            go_wp2_with fail
            go_returns
            exact ⟨HF.out, HB2.out⟩
          · have hM1 : ¬ (M : Int) = 0 := by omega
            rw [decide_eq_true (show 1 ≤ M by omega), Bool.true_and] at hcr
            by_cases hMN : M = N
            · have HT := Lib.hid (show cdRow (cdN m) r = true by rw [hcr]; exact decide_eq_true hMN)
              subst hMN
              clear hcr
              go_wp2_with fail
              refine (HPI.out).mono ?_
              rintro e w2 ⟨rfl, hb2⟩
              have HB2 := Lib.hid (joins HB.out hb2)
              obtain ⟨d1, d2⟩ := HBY.out _ hb2
              clear hb2
              go_wp2_with fail
              go_roundw
              case rel => exact ⟨k + 1, by omega, by go_num, HB2.out, fun j hj => by
                rcases Nat.lt_succ_iff_lt_or_eq.1 hj with h | h
                · exact HA.out j h
                · rw [h, ← HR.out]; exact HT.out⟩
              case measure => simp [intOf]; omega
            · have HF := Lib.hid (HFI.out (by rw [hcr]; exact decide_eq_false hMN))
              have hne : ¬ (M : Int) = (N : Int) := by omega
              have hne2 : ((M : Int) != (N : Int)) = true := by simpa using hne
              have hM2 : ((M : Int) == 0) = false := by simpa using hM1
              clear hcr hMN
              go_wp2_with fail
              refine (HPI.out).mono ?_
              rintro e w2 ⟨rfl, hb2⟩
              have HB2 := Lib.hid (joins HB.out hb2)
              obtain ⟨d1, d2⟩ := HBY.out _ hb2
              clear hb2
              go_wp2_with fail
              go_returns
              exact ⟨HF.out, HB2.out⟩
      · go_wp2_with fail
        go_returns
        exact ⟨ret_bool (by rw [cdsOk_yes HS.out (fun j hj => HA.out j (by omega))]), HB.out⟩
  · have HS := Lib.hid hs
    simp only [decide_eq_false hs] at HC
    have HC' := Lib.hid HC
    clear HC hs
    go_enter Try.func96, Try.ntmps96
    go_wp2_with fail
    refine (HC'.out _).mono ?_
    rintro e w1 ⟨rfl, rfl⟩
    go_wp2_with fail
    go_returns
    exact ⟨ret_bool (by rw [cdsOk_size HS.out]), by go_grown⟩
end
section
open Go.RowKit

set_option maxRecDepth 100000 in
set_option maxHeartbeats 1000000 in
theorem sdDot_any (va vb : Value) (a b : List Int) (w : World) (hva : IS w va a) (hvb : IS w vb b) (ha : isSeq a = true) (hb : isSeq b = true) (hab : a.length = b.length) :
    Calls Try.prog 175 #[va, vb] w (Ret w (.agg #[.int .i64 (dtX a b), .int .i64 (dtY a b)])) := by
  have HVA := Lib.hid (fun (w1 : World) (h1 : IS w1 va a) (h2 : IS w1 vb b) => by
    have := crAt_any va vb a b 0 w1 h1 h2 ha hb hab (by omega) (by omega)
    rwa [(dt_ap ha hb hab).1, (dt_ap ha hb hab).2] at this)
  have HB1 := belowa (Below.refl w.heap.size w) (.cells #[.int .i64 0, .int .i64 0] 39)
  have HI := Lib.hid (And.intro (hva.below HB1) (hvb.below HB1))
  have HB := Lib.hid HB1
  obtain ⟨pa, ca, rfl⟩ := hva.slice
  obtain ⟨pb, cb, rfl⟩ := hvb.slice
  obtain ⟨X, hX⟩ : ∃ X, X = dtX a b := ⟨_, rfl⟩
  obtain ⟨Y, hY⟩ : ∃ X, X = dtY a b := ⟨_, rfl⟩
  rw [← hX, ← hY] at HVA ⊢
  clear hX hY hva hvb ha hb hab HB1
  go_enter Try.func175, Try.ntmps175
  go_wp2_with fail
  refine (HVA.out _ HI.out.1 HI.out.2).mono ?_
  rintro e w1 ⟨rfl, hb⟩
  have c0 := keepc hb (cell_new0 w (.int .i64 0) (.int .i64 0) 39)
  have c1 := keepc hb (cell_new1 w (.int .i64 0) (.int .i64 0) 39)
  have f0 : w1.frozen? ⟨w.heap.size, 0, none⟩ = false := by rw [hb.frozen (p := ⟨w.heap.size, 0, none⟩) (by simp)]; simp [go_sem]
  have f1 : w1.frozen? ⟨w.heap.size, 1, none⟩ = false := by rw [hb.frozen (p := ⟨w.heap.size, 1, none⟩) (by simp)]; simp [go_sem]
  have HB2 := Lib.hid (joins HB.out hb)
  clear hb
  have e0 : (w1.setCell ⟨w.heap.size, 0, none⟩ (.int .i64 X)).cell? ⟨w.heap.size, 0, none⟩ = some (.int .i64 X) := World.cell?_setCell_same _ _ _ c0
  have e1 : ((w1.setCell ⟨w.heap.size, 0, none⟩ (.int .i64 X)).setCell ⟨w.heap.size, 1, none⟩ (.int .i64 Y)).cell? ⟨w.heap.size, 1, none⟩ = some (.int .i64 Y) := World.cell?_setCell_same _ _ _ ((World.cell?_setCell_other _ _ _ _ (by simp)).trans c1)
  go_wp2_with fail
  refine bodyPost_ret (by simp [results, Try.results175, go_sem, e0, e1]; try rfl) rfl ?_
  exact ⟨rfl, belows (belows HB2.out (Nat.le_refl _) _) (Nat.le_refl _) _⟩

set_option maxRecDepth 100000 in
set_option maxHeartbeats 2000000 in
theorem sdOrthogonal_any (v : Value) (m : List (List Int)) (N : Nat) (w : World) (hv : IR w v m) (hcap : capOk v) (hok : AllN m N) (hlen : m.length ≤ 1048576) :
    Calls Try.prog 97 #[v] w (Ret w (.bool (orB m))) := by
  obtain ⟨a, cap, rfl⟩ := hv.slice
  have hcap : m.length ≤ cap := hcap
  have HV := Lib.hid hv
  have HSU := Lib.hid (fun k => oxUp_succ m k)
  have HSR := Lib.hid (fun i k => oxRow_succ m i k)
  have HNO := Lib.hid (fun i j (hi : i < m.length) (hj : j < i) h => orB_no hi hj h)
  have HEN := Lib.hid (show oxUp m m.length = true → orB m = true from fun h => h)
  have HOX := Lib.hid (fun i j => oxB_eq m i j)
  have HDT := Lib.hid (fun i j (hi : i < m.length) (hj : j < m.length) (va vb : Value) (w1 : World) (h1 : IS w1 va (m.getD i [])) (h2 : IS w1 vb (m.getD j [])) => sdDot_any va vb (m.getD i []) (m.getD j []) w1 h1 h2 (hok i hi).1 (hok j hj).1 (by rw [(hok i hi).2, (hok j hj).2]))
  obtain ⟨n, hn⟩ : ∃ n, n = m.length := ⟨_, rfl⟩
  have HNM := Lib.hid hn
  rw [← hn] at HV HNO HEN HDT hcap hlen ⊢
  obtain ⟨R, hR⟩ : ∃ R, R = orB m := ⟨_, rfl⟩
  rw [← hR] at HNO HEN ⊢
  have hcapi : (n : Int) ≤ (cap : Int) := by omega
  clear hv hok hn hR
  go_enter Try.func97, Try.ntmps97
  go_wp2_with fail
  go_loopw [9] (fun i wr => ∃ k : Nat, k ≤ n ∧ i = .int .i64 k ∧ oxUp m k = true ∧ Below w.heap.size w wr) (fun i _ => n - (intOf i).toNat)
  case atStart => exact ⟨0, Nat.zero_le _, rfl, rfl, Below.refl _ _⟩
  case round =>
    obtain ⟨k, hk, rfl, hup, hbel⟩ := hrel
    have HUP := Lib.hid hup
    have HB := Lib.hid hbel
    clear hup hbel
    obtain ⟨wo, hwo⟩ : ∃ w', w' = wr := ⟨_, rfl⟩
    rw [← hwo] at HB ⊢
    clear hwo
    by_cases hlt : k < n
    · have h0 : (0 : Int) ≤ (k : Int) := by omega
      have h1 : (k : Int) < (n : Int) := by omega
      obtain ⟨-, b, off, u, hau, hc, hu⟩ := (HV.out.below HB.out).at k (by rw [← HNM.out]; exact hlt)
      subst hau
      have HU := Lib.hid hu
      have hkc : k ≤ cap := by omega
      have hkn : k ≤ n := hk
      clear hu
      go_wp2_with fail
      go_loopw [18] (fun i wr => ∃ j : Nat, j ≤ k ∧ i = .int .i64 j ∧ oxRow m k j = true ∧ Below w.heap.size w wr ∧ IS wr u (m.getD k [])) (fun i _ => k - (intOf i).toNat)
      case atStart => exact ⟨0, Nat.zero_le _, rfl, rfl, HB.out, HU.out⟩
      case round =>
        obtain ⟨j, hj, rfl, hro, hbel2, hu2⟩ := hrel
        have HRO := Lib.hid hro
        have HB2 := Lib.hid hbel2
        have HU2 := Lib.hid hu2
        clear hro hbel2 hu2
        by_cases hlt2 : j < k
        · have h2 : (0 : Int) ≤ (j : Int) := by omega
          have h3 : (j : Int) < (k : Int) := by omega
          have hjm : j < m.length := by rw [← HNM.out]; omega
          obtain ⟨-, b', off', u', hau', hc', hu'⟩ := (HV.out.below HB2.out).at j hjm
          obtain ⟨rfl, rfl⟩ : b = b' ∧ off = off' := by
            simp only [Option.some.injEq, Addr.mk.injEq] at hau'
            exact ⟨hau'.1, hau'.2.1⟩
          have HD := Lib.hid (HDT.out k j (by omega) (by omega) u u' _ HU2.out hu')
          have hox := HOX.out k j
          have hsr := HSR.out k j
          rw [HRO.out, Bool.true_and] at hsr
          have hno := HNO.out k j hlt hlt2
          obtain ⟨X, hX⟩ : ∃ X, X = dtX (m.getD k []) (m.getD j []) := ⟨_, rfl⟩
          obtain ⟨Y, hY⟩ : ∃ X, X = dtY (m.getD k []) (m.getD j []) := ⟨_, rfl⟩
          rw [← hX, ← hY] at HD hox
          clear hX hY hau' hu' hjm
          by_cases hx0 : X = 0
          · by_cases hy0 : Y = 0
            · have HNX := Lib.hid (show oxRow m k (j + 1) = true by rw [hsr, hox, hx0, hy0]; rfl)
              subst hx0 hy0
              clear hox hsr hno
              go_wp2_with fail
              refine (HD.out).mono ?_
              rintro e w3 ⟨rfl, hb⟩
              have HB3 := Lib.hid (joins HB2.out hb)
              have HU3 := Lib.hid (HU2.out.below hb)
              clear hb
              go_wp2_with fail
              go_roundw
              case rel => exact ⟨j + 1, by omega, by go_num, HNX.out, HB3.out, HU3.out⟩
              case measure => simp [intOf]; omega
            · have HF := Lib.hid (hno (by rw [hox, decide_eq_false hy0, Bool.and_false]))
              subst hx0
              clear hox hsr hno
              go_wp2_with fail
              refine (HD.out).mono ?_
              rintro e w3 ⟨rfl, hb⟩
              have HB3 := Lib.hid (joins HB2.out hb)
              clear hb
              go_wp2_with fail
              go_returns
              exact ⟨ret_bool HF.out.symm, HB3.out⟩
          · have HF := Lib.hid (hno (by rw [hox, decide_eq_false hx0, Bool.false_and]))
            clear hox hsr hno
            go_wp2_with fail
            refine (HD.out).mono ?_
            rintro e w3 ⟨rfl, hb⟩
            have HB3 := Lib.hid (joins HB2.out hb)
            clear hb
            go_wp2_with fail
            go_returns
            exact ⟨ret_bool HF.out.symm, HB3.out⟩
        · obtain rfl : j = k := by omega
          have HNX := Lib.hid (show oxUp m (j + 1) = true by rw [HSU.out, HUP.out, HRO.out]; rfl)
          go_wp2_with fail
          go_round
          case rel => exact ⟨j + 1, by omega, by go_num, HNX.out, HB2.out⟩
          case measure => simp [intOf]; omega
    · obtain rfl : k = n := by omega
      have HR := Lib.hid (HEN.out HUP.out)
      go_wp2_with fail
      go_returns
      exact ⟨ret_bool HR.out.symm, HB.out⟩
end
end Go.Proofs.Ytfjhocmnafdnfaa
