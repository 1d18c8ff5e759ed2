/- The model's ArrayAt, peWhole, IsPerfectArray. -/
import Derived.Test.YtjoepdflbbcliabSAa
import Derived.Test.YtjoepdflbbcliabPwM
namespace Go.Proofs.Ytjoepdflbbcliab
set_option maxRecDepth 100000
open Go.RowKit

set_option maxRecDepth 100000 in
set_option maxHeartbeats 2000000 in
theorem sarrayAt (v : Value) (m : List (List Int)) (x y : Int) (w : World) (hv : IR w v m) : Calls Try.prog 15 #[v, .int .i64 x, .int .i64 y] w (Ret w (.tuple #[.agg #[.int .i64 (aaA vx m x y), .int .i64 (aaA vy m x y)], .bool (plOk m x y)])) := by
  have hz0 := ZG.start w 28
  have HG := Lib.hid (pePlace_any v m x y _ (hv.below hz0.below))
  have HV := Lib.hid hv
  have HZ0 := Lib.hid hz0
  obtain ⟨a, cap, rfl⟩ := hv.slice
  unfold aaA
  cases hm : plOk m x y with
  | false =>
    rw [hm] at HG
    rw [if_neg Bool.false_ne_true, if_neg Bool.false_ne_true]
    clear hm hv HV hz0
    go_enter Try.func15, Try.ntmps15
    go_wp2_with fail
    refine (HG.out).mono ?_
    rintro e w1 ⟨rfl, hb1⟩
    have hz1 := HZ0.out.step hb1
    have HR := Lib.hid hz1
    obtain ⟨z1, z2, z3, z4, z5, z6⟩ := hz1
    clear hb1
    go_wp2_with fail
    (try simp only [Exit.inBlock, Exit.then])
    obtain ⟨d0, d2, d3⟩ := HR.out.ret (.int .i64 0) (.int .i64 0)
    refine bodyPost_ret (by simp [results, Try.results15, go_sem, d0, d2]; try rfl) rfl ?_
    exact ⟨rfl, d3⟩
  | true =>
    rw [hm] at HG
    rw [if_pos rfl, if_pos rfl]
    obtain ⟨hok, ⟨hx1, hx2⟩, hy1, hy2⟩ := plOk_parts hm
    obtain ⟨U, rfl⟩ := Int.eq_ofNat_of_zero_le hx1
    obtain ⟨V, rfl⟩ := Int.eq_ofNat_of_zero_le hy1
    have HA := Lib.hid (fun w' (h : Below w.heap.size w w') => peAt_any _ m U V w' (HV.out.below h) hok (by omega) (by omega))
    rw [show ((U : Nat) : Int).toNat = U from rfl, show ((V : Nat) : Int).toNat = V from rfl]
    obtain ⟨X, hX⟩ : ∃ X, X = aaS vx m U V m.length := ⟨_, rfl⟩
    obtain ⟨Y, hY⟩ : ∃ X, X = aaS vy m U V m.length := ⟨_, rfl⟩
    rw [← hX, ← hY] at HA ⊢
    clear hm hv HV hok hx1 hx2 hy1 hy2 hX hY hz0
    go_enter Try.func15, Try.ntmps15
    go_wp2_with fail
    refine (HG.out).mono ?_
    rintro e w1 ⟨rfl, hb1⟩
    have HZ1 := Lib.hid (HZ0.out.step hb1)
    clear hb1
    go_wp2_with fail
    refine (HA.out _ HZ1.out.below).mono ?_
    rintro e w2 ⟨rfl, hb2⟩
    have hz2 := HZ1.out.step hb2
    have HR := Lib.hid hz2
    obtain ⟨z1, z2, z3, z4, z5, z6⟩ := hz2
    clear hb2
    go_wp2_with fail
    (try simp only [Exit.inBlock, Exit.then])
    obtain ⟨d0, d2, d3⟩ := HR.out.ret (.int .i64 X) (.int .i64 Y)
    refine bodyPost_ret (by simp [results, Try.results15, go_sem, d0, d2]; try rfl) rfl ?_
    exact ⟨rfl, d3⟩

set_option maxRecDepth 100000 in
set_option maxHeartbeats 2000000 in
theorem peWhole_any (v : Value) (m : List (List Int)) (w : World) (hv : IR w v m) (hok : arOk m = true) : Calls Try.prog 43 #[v] w (Ret w (.bool (pwB m))) := by
  have HV := Lib.hid hv
  obtain ⟨⟨p1, p2⟩, ⟨p3, p4⟩, -⟩ := arOk_parts hok
  have HA := Lib.hid (fun (i j : Nat) (hi : i < m.length) (hj : j < colsOf m) w' (h : Below w.heap.size w w') => peAt_any _ m i j w' (HV.out.below h) hok hi hj)
  have HNO := Lib.hid (fun (i j : Nat) (hi : i < m.length) (hj : j < colsOf m) (h : ¬ i + j = 0) hz => pw_no hi hj h hz)
  have HNX := Lib.hid (fun (i j : Nat) h hz => pwRow_next (m := m) (u := i) (v := j) h hz)
  have HNT := Lib.hid (fun (i : Nat) h hz => pwTo_next (m := m) (u := i) h hz)
  have HYS := Lib.hid (show pwB m = pwTo m m.length from rfl)
  have HZZ := Lib.hid (fun i j => show pwZ m i j = (decide (aaS vx m i j m.length = 0) && decide (aaS vy m i j m.length = 0)) from rfl)
  have HT0 := Lib.hid (show pwTo m 0 = true from rfl)
  have HR0 := Lib.hid (fun i => show pwRow m i 0 = true from rfl)
  obtain ⟨-, b, off, u0, hveq, hc0, hu0⟩ : _ ∧ ∃ b off u, v = .slice (some ⟨b, off, none⟩) m.length (match v with | .slice _ _ c => c | _ => 0) ∧ w.cell? ⟨b, off + 0, none⟩ = some u ∧ IS w u (m.getD 0 []) := by
    obtain ⟨a, cap, rfl⟩ := hv.slice
    obtain ⟨h, b, off, u, rfl, h1, h2⟩ := hv.at 0 (by omega)
    exact ⟨h, b, off, u, rfl, h1, h2⟩
  obtain ⟨a, cap, rfl⟩ := hv.slice
  simp only [Value.slice.injEq] at hveq
  obtain ⟨rfl, -, -⟩ := hveq
  obtain ⟨ua, uc, rfl⟩ := hu0.sl
  rw [Nat.add_zero, show (m.getD 0 []).length = colsOf m from rfl] at hc0
  have HC0 := Lib.hid hc0
  obtain ⟨B, hB⟩ : ∃ B, B = pwB m := ⟨_, rfl⟩
  rw [← hB] at HNO HYS ⊢
  obtain ⟨T, hT⟩ : ∃ T, T = pwTo m := ⟨_, rfl⟩
  obtain ⟨R, hR⟩ : ∃ T, T = pwRow m := ⟨_, rfl⟩
  obtain ⟨Z, hZ⟩ : ∃ T, T = pwZ m := ⟨_, rfl⟩
  simp only [← hT, ← hR, ← hZ] at HNO HNX HNT HYS HZZ HT0 HR0
  obtain ⟨X, hX⟩ : ∃ X : Nat → Nat → Int, X = fun i j => aaS vx m i j m.length := ⟨_, rfl⟩
  obtain ⟨Y, hY⟩ : ∃ X : Nat → Nat → Int, X = fun i j => aaS vy m i j m.length := ⟨_, rfl⟩
  have eX : ∀ i j, aaS vx m i j m.length = X i j := fun i j => by rw [hX]
  have eY : ∀ i j, aaS vy m i j m.length = Y i j := fun i j => by rw [hY]
  simp only [eX, eY] at HZZ HA
  obtain ⟨n, hn⟩ : ∃ n, n = m.length := ⟨_, rfl⟩
  obtain ⟨c, hc⟩ : ∃ n, n = colsOf m := ⟨_, rfl⟩
  rw [← hn] at HA HNO HYS p1 p2 ⊢
  rw [← hc] at HA HNO HNT HC0 p3 p4
  have hp0 : (0 : Int) < (n : Int) := by omega
  clear hv hok hB hT hR hZ hX hY eX eY hn hc hc0 hu0 HV
  go_enter Try.func43, Try.ntmps43
  go_wp2_with fail
  go_loopw [7] (fun q wr => ∃ i : Nat, i ≤ n ∧ q = .int .i64 i ∧ T i = true ∧ Below w.heap.size w wr) (fun q _ => n - (intOf q).toNat)
  case atStart => exact ⟨0, Nat.zero_le _, rfl, HT0.out, Below.refl _ _⟩
  case round =>
    obtain ⟨i, hi, rfl, hti, hbel⟩ := hrel
    obtain ⟨wo, hwo⟩ : ∃ wo, wo = wr := ⟨_, rfl⟩
    rw [← hwo] at hbel ⊢
    clear hwo
    have HTI := Lib.hid hti
    have HBO := Lib.hid hbel
    clear hti hbel
    by_cases hlt : i < n
    · have h0 : (0 : Int) ≤ (i : Int) := by omega
      have h1 : (i : Int) < (n : Int) := by omega
      have c0 := keepc HBO.out HC0.out
      go_wp2_with fail
      clear c0
      go_loopw [14] (fun q wr => ∃ j : Nat, j ≤ c ∧ q = .int .i64 j ∧ R i j = true ∧ Below w.heap.size w wr) (fun q _ => c - (intOf q).toNat)
      case atStart => exact ⟨0, Nat.zero_le _, rfl, HR0.out i, HBO.out⟩
      case round =>
        obtain ⟨j, hj, rfl, hrj, hbel⟩ := hrel
        have HRJ := Lib.hid hrj
        have HB := Lib.hid hbel
        clear hrj hbel
        by_cases hlj : j < c
        · have h0j : (0 : Int) ≤ (j : Int) := by omega
          have h1j : (j : Int) < (c : Int) := by omega
          by_cases hij : i + j = 0
          · have hi0 : i = 0 := by omega
            have hj0 : j = 0 := by omega
            have hs : ¬ (0 : Int) < (i : Int) + (j : Int) := by omega
            have HNXT := Lib.hid (HNX.out i j HRJ.out (Or.inl hij))
            clear hij hi0 hj0
            go_wp2_with fail
            go_roundw
            case rel => exact ⟨j + 1, by omega, by go_num, HNXT.out, HB.out⟩
            case measure => simp [intOf]; omega
          · have hs : (0 : Int) < (i : Int) + (j : Int) := by omega
            have HAk := Lib.hid (HA.out i j hlt hlj)
            have hz := HZZ.out i j
            have hno := HNO.out i j hlt hlj hij
            have hnx := fun h => HNX.out i j HRJ.out (Or.inr h)
            obtain ⟨x, hx⟩ : ∃ x, x = X i j := ⟨_, rfl⟩
            obtain ⟨y, hy⟩ : ∃ x, x = Y i j := ⟨_, rfl⟩
            rw [← hx, ← hy] at HAk hz
            rw [hz] at hno hnx
            have HN0 := Lib.hid hno
            have HNX1 := Lib.hid hnx
            clear hz hno hnx hx hy hij
            by_cases hc : x = 0 ∧ y = 0
            · obtain ⟨rfl, rfl⟩ := hc
              go_wp2_with fail
              refine (HAk.out _ HB.out).mono ?_
              rintro e w2 ⟨rfl, hb2⟩
              have HB2 := Lib.hid (joins HB.out hb2)
              clear hb2
              go_wp2_with fail
              go_roundw
              case rel => exact ⟨j + 1, by omega, by go_num, HNX1.out rfl, HB2.out⟩
              case measure => simp [intOf]; omega
            · have HN2 := Lib.hid (HN0.out (by by_cases a : x = 0 <;> by_cases b : y = 0 <;> simp [a, b] at hc ⊢))
              by_cases a : x = 0
              · have b : ¬ y = 0 := fun b => hc ⟨a, b⟩
                subst a
                clear hc
                go_wp2_with fail
                refine (HAk.out _ HB.out).mono ?_
                rintro e w2 ⟨rfl, hb2⟩
                have HB2 := Lib.hid (joins HB.out hb2)
                clear hb2
                go_wp2_with fail
                go_returns
                exact ⟨ret_bool HN2.out.symm, HB2.out⟩
              · clear hc
                go_wp2_with fail
                refine (HAk.out _ HB.out).mono ?_
                rintro e w2 ⟨rfl, hb2⟩
                have HB2 := Lib.hid (joins HB.out hb2)
                clear hb2
                go_wp2_with fail
                go_returns
                exact ⟨ret_bool HN2.out.symm, HB2.out⟩
        · obtain rfl : j = c := by omega
          have HNXT := Lib.hid (HNT.out i HTI.out HRJ.out)
          go_wp2_with fail
          go_roundw
          case rel => exact ⟨i + 1, by omega, by go_num, HNXT.out, HB.out⟩
          case measure => simp [intOf]; omega
    · obtain rfl : i = n := by omega
      have HF := Lib.hid (show B = true by rw [HYS.out]; exact HTI.out)
      go_wp2_with fail
      go_returns
      exact ⟨ret_bool HF.out.symm, HBO.out⟩

set_option maxRecDepth 100000 in
set_option maxHeartbeats 1000000 in
theorem sisPerfectArray (v : Value) (m : List (List Int)) (w : World) (hv : IR w v m) : Calls Try.prog 18 #[v] w (Ret w (.tuple #[.bool (pwA m), .bool (arOk m)])) := by
  have HG := Lib.hid (peArray_any v m w hv)
  have HV := Lib.hid hv
  obtain ⟨a, cap, rfl⟩ := hv.slice
  unfold pwA
  cases hm : arOk m with
  | false =>
    rw [hm] at HG
    rw [if_neg Bool.false_ne_true]
    clear hm hv HV
    go_enter Try.func18, Try.ntmps18
    go_wp2_with fail
    refine (HG.out).mono ?_
    rintro e w1 ⟨rfl, hb1⟩
    go_wp2_with fail
    go_returns
    exact ⟨rfl, hb1⟩
  | true =>
    rw [hm] at HG
    rw [if_pos rfl]
    have HA := Lib.hid (fun w' (h : Below w.heap.size w w') => peWhole_any _ m w' (HV.out.below h) hm)
    obtain ⟨B, hB⟩ : ∃ B, B = pwB m := ⟨_, rfl⟩
    rw [← hB] at HA ⊢
    clear hm hv HV hB
    go_enter Try.func18, Try.ntmps18
    go_wp2_with fail
    refine (HG.out).mono ?_
    rintro e w1 ⟨rfl, hb1⟩
    have HB1 := Lib.hid hb1
    clear hb1
    go_wp2_with fail
    refine (HA.out _ HB1.out).mono ?_
    rintro e w2 ⟨rfl, hb2⟩
    have HB2 := Lib.hid (joins HB1.out hb2)
    clear hb2
    go_wp2_with fail
    go_returns
    exact ⟨rfl, HB2.out⟩
end Go.Proofs.Ytjoepdflbbcliab
