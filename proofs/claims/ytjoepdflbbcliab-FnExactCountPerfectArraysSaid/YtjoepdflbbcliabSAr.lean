/- The model's peArray and IsArray. -/
import Derived.Test.YtjoepdflbbcliabArM
namespace Go.Proofs.Ytjoepdflbbcliab
set_option maxRecDepth 100000
open Go.RowKit

set_option maxHeartbeats 1000000 in
theorem peArray_any (v : Value) (m : List (List Int)) (w : World) (hv : IR w v m) : Calls Try.prog 34 #[v] w (Ret w (.bool (arOk m))) := by
  obtain ⟨a, cap, rfl⟩ := hv.slice
  have hm := hv.len
  have hm2 := maxLen_val
  have hm3 : m.length ≤ 9223372036854775807 := by omega
  have HV := Lib.hid hv
  have HC := Lib.hid (fun w => show Calls Try.prog 52 #[.int .i64 m.length, .int .i64 1, .int .i64 8] w (Pure w (.bool (sideB m.length))) by
    have h := l1In_any m.length 1 8 w
    rwa [inB_side] at h)
  have HC2 := Lib.hid (fun (w : World) (n : Nat) (h : n = colsOf m) => show Calls Try.prog 52 #[.int .i64 n, .int .i64 1, .int .i64 8] w (Pure w (.bool (sideB (colsOf m)))) by
    subst h
    have h' := l1In_any (colsOf m) 1 8 w
    rwa [inB_side] at h')
  have HNR := Lib.hid (fun (h : sideB m.length = false) => arOk_rows h)
  have HNC := Lib.hid (fun (h : sideB (colsOf m) = false) => arOk_cols h)
  have HNO := Lib.hid (fun i hi h => arOk_row (m := m) i hi h)
  have HY := Lib.hid (fun h h1 h2 => arOk_yes (m := m) h h1 h2)
  obtain ⟨B, hB⟩ : ∃ B, B = arOk m := ⟨_, rfl⟩
  rw [← hB] at HNR HNC HNO HY ⊢
  clear hv hm hm2 hB
  by_cases hs : sideB m.length = true
  · rw [hs] at HC
    have HS := Lib.hid (sideB_in hs)
    have HS1 := Lib.hid hs
    clear hs
    go_enter Try.func34, Try.ntmps34
    go_wp2_with fail
    refine (HC.out _).mono ?_
    rintro e w1 ⟨rfl, rfl⟩
    go_wp2_with fail
    go_loopw [11] (fun i wr => ∃ k : Nat, k ≤ m.length ∧ i = .int .i64 k ∧ Below w.heap.size w wr ∧ (0 < k → sideB (colsOf m) = true) ∧ ∀ j : Nat, j < k → rowOk (colsOf m) (m.getD j []) = true) (fun i _ => m.length - (intOf i).toNat)
    case atStart => exact ⟨0, Nat.zero_le _, rfl, by go_grown, fun h => absurd h (Nat.lt_irrefl _), fun j hj => absurd hj (Nat.not_lt_zero _)⟩
    case round =>
      obtain ⟨k, hk, rfl, hbel, hside, hall⟩ := hrel
      have HA := Lib.hid hall
      have HB := Lib.hid hbel
      have HSI := Lib.hid hside
      clear hall hbel hside
      by_cases hlt : k < m.length
      · have h0 : (0 : Int) ≤ (k : Int) := by omega
        have h1 : (k : Int) < (m.length : Int) := by omega
        have hp0 : (0 : Int) < (m.length : Int) := by omega
        obtain ⟨-, b0, off0, u0, hab, hc0, hu0⟩ := (HV.out.below HB.out).at 0 (by omega)
        obtain ⟨-, b, off, u, rfl, hc, hu⟩ := (HV.out.below HB.out).at k hlt
        simp only [Option.some.injEq, Addr.mk.injEq] at hab
        obtain ⟨rfl, rfl, -⟩ := hab
        obtain ⟨a0, cap0, rfl⟩ := hu0.sl
        have hn64 := hu0.le
        rw [Nat.add_zero, show (m.getD 0 []).length = colsOf m from rfl] at hc0
        rw [show (m.getD 0 []).length = colsOf m from rfl] at hn64
        have hn63 := hu.le
        have HALL := Lib.hid (l1All_any u (m.getD k []) 0 3 _ hu)
        obtain ⟨a', cap', rfl⟩ := hu.sl
        obtain ⟨r, hr⟩ : ∃ r, r = m.getD k [] := ⟨_, rfl⟩
        rw [← hr] at hc hn63 HALL
        have HR := Lib.hid hr
        obtain ⟨c, hcd⟩ : ∃ c, c = colsOf m := ⟨_, rfl⟩
        rw [← hcd] at hc0 hn64
        have HCD := Lib.hid hcd
        clear hu hr hu0 hcd
        by_cases hln : r.length = c
        · rw [hln] at hc HALL
          have HC3 := Lib.hid (fun w' => HC2.out w' c HCD.out)
          by_cases hsc : sideB (colsOf m) = true
          · rw [hsc] at HC3
            have HSC := Lib.hid hsc
            by_cases hall : allIn r 0 3 = true
            · rw [hall] at HALL
              have hro : rowOk c r = true := by unfold rowOk; rw [hall, hln]; simp
              have HRO := Lib.hid hro
              clear hro hall hln hn63 hsc
              go_wp2_with fail
              refine (HC3.out _).mono ?_
              rintro e w2 ⟨rfl, rfl⟩
              go_wp2_with fail
              refine (HALL.out).mono ?_
              rintro e w2 ⟨rfl, hb2⟩
              have HB2 := Lib.hid (joins HB.out hb2)
              clear hb2
              go_wp2_with fail
              go_roundw
              case rel => exact ⟨k + 1, by omega, by go_num, HB2.out, fun _ => HSC.out, fun j hj => by
                rcases Nat.lt_succ_iff_lt_or_eq.1 hj with h | h
                · exact HA.out j h
                · rw [h, ← HR.out, ← HCD.out]; exact HRO.out⟩
              case measure => simp [intOf]; omega
            · have hall2 : allIn r 0 3 = false := by simpa using hall
              rw [hall2] at HALL
              have hro : rowOk c r = false := by unfold rowOk; rw [hall2, Bool.and_false]
              have HF := Lib.hid (HNO.out k hlt (by rw [← HR.out, ← HCD.out]; exact hro))
              clear hro hall hall2 hln hn63 hsc
              go_wp2_with fail
              refine (HC3.out _).mono ?_
              rintro e w2 ⟨rfl, rfl⟩
              go_wp2_with fail
              refine (HALL.out).mono ?_
              rintro e w2 ⟨rfl, hb2⟩
              have HB2 := Lib.hid (joins HB.out hb2)
              clear hb2
              go_wp2_with fail
              go_returns
              exact ⟨ret_bool HF.out.symm, HB2.out⟩
          · have hsc2 : sideB (colsOf m) = false := by simpa using hsc
            rw [hsc2] at HC3
            have HF := Lib.hid (HNC.out hsc2)
            clear hsc hsc2 hln hn63
            go_wp2_with fail
            refine (HC3.out _).mono ?_
            rintro e w2 ⟨rfl, rfl⟩
            go_wp2_with fail
            go_returns
            exact ⟨ret_bool HF.out.symm, HB.out⟩
        · have hro : rowOk c r = false := by unfold rowOk; rw [decide_eq_false hln]; rfl
          have HF := Lib.hid (HNO.out k hlt (by rw [← HR.out, ← HCD.out]; exact hro))
          have hne : ¬ (r.length : Int) = (c : Int) := by omega
          clear hro HALL
          go_wp2_with fail
          go_returns
          exact ⟨ret_bool HF.out.symm, HB.out⟩
      · have hk0 : 0 < k := by have := HS.out; omega
        have HF := Lib.hid (HY.out HS1.out (HSI.out hk0) (fun j hj => HA.out j (by omega)))
        go_wp2_with fail
        go_returns
        exact ⟨ret_bool HF.out.symm, HB.out⟩
  · have hs2 : sideB m.length = false := by simpa using hs
    rw [hs2] at HC
    have HF := Lib.hid (HNR.out hs2)
    clear hs hs2
    go_enter Try.func34, Try.ntmps34
    go_wp2_with fail
    refine (HC.out _).mono ?_
    rintro e w1 ⟨rfl, rfl⟩
    go_wp2_with fail
    go_returns
    exact ⟨ret_bool HF.out.symm, by go_grown⟩
theorem sisArray (v : Value) (m : List (List Int)) (w : World) (hv : IR w v m) : Calls Try.prog 11 #[v] w (Ret w (.bool (arOk m))) := by
  obtain ⟨a, cap, rfl⟩ := hv.slice
  have HG := Lib.hid (peArray_any _ m w hv)
  clear hv
  go_enter Try.func11, Try.ntmps11
  go_wp2_with fail
  refine (HG.out).mono ?_
  rintro e w1 ⟨rfl, hb1⟩
  go_wp2_with fail
  go_returns
  exact ⟨rfl, hb1⟩
end Go.Proofs.Ytjoepdflbbcliab
