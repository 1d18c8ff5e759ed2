/- The model's peAt and ArrayAt. -/
import Derived.Test.YtjoepdflbbcliabAaM
import Derived.Test.YtjoepdflbbcliabSMaE
import Derived.Test.YtjoepdflbbcliabSCr
import Derived.Test.YtjoepdflbbcliabSOut
import Derived.Test.YtjoepdflbbcliabRg
namespace Go.Proofs.Ytjoepdflbbcliab
set_option maxRecDepth 100000
open Go.RowKit

set_option maxRecDepth 100000 in
set_option maxHeartbeats 4000000 in
theorem peAt_any (v : Value) (m : List (List Int)) (x y : Nat) (w : World) (hv : IR w v m) (hok : arOk m = true) (hx : x < m.length) (hy : y < colsOf m) : Calls Try.prog 38 #[v, .int .i64 x, .int .i64 y] w (Ret w (.agg #[.int .i64 (aaS vx m x y m.length), .int .i64 (aaS vy m x y m.length)])) := by
  have hz0 := ZG.start w 28
  have HZS := Lib.hid (ZT.start hz0 28)
  obtain ⟨a, cap, rfl⟩ := hv.slice
  have HV0 := Lib.hid hv
  obtain ⟨⟨p1, p2⟩, ⟨p3, p4⟩, hrows⟩ := arOk_parts hok
  have HROW := Lib.hid (fun i hi => (hrows i hi).1)
  have HPH := Lib.hid (fun i j hi hj => arOk_ph hok i j hi hj)
  have HBX := Lib.hid (fun i j hi hj => aaP_le vx vx_one m x y p2 p4 i j hi hj)
  have HBY := Lib.hid (fun i j hi hj => aaP_le vy vy_one m x y p2 p4 i j hi hj)
  have HSX := Lib.hid (fun i j => aaP_step vx m x y i j)
  have HSY := Lib.hid (fun i j => aaP_step vy m x y i j)
  have HTX := Lib.hid (fun i j => show aaT vx m x y i j = vx ((atM m ((i + x) % m.length) ((j + y) % colsOf m) - atM m i j) % 4) from rfl)
  have HTY := Lib.hid (fun i j => show aaT vy m x y i j = vy ((atM m ((i + x) % m.length) ((j + y) % colsOf m) - atM m i j) % 4) from rfl)
  have HX0 := Lib.hid (fun i => aaP_zero vx m x y i)
  have HY0 := Lib.hid (fun i => aaP_zero vy m x y i)
  have HXR := Lib.hid (fun i => aaP_row vx m x y i)
  have HYR := Lib.hid (fun i => aaP_row vy m x y i)
  have HAT := Lib.hid (fun i j => show atM m i j = (m.getD i []).getD j 0 from rfl)
  obtain ⟨SX, hSX⟩ : ∃ G, G = aaS vx m x y := ⟨_, rfl⟩
  obtain ⟨SY, hSY⟩ : ∃ G, G = aaS vy m x y := ⟨_, rfl⟩
  have hs0 : SX 0 = 0 ∧ SY 0 = 0 := by rw [hSX, hSY]; exact ⟨rfl, rfl⟩
  have HS0 := Lib.hid hs0
  simp only [← hSX] at HX0 HXR
  simp only [← hSY] at HY0 HYR
  rw [← hSX, ← hSY]
  obtain ⟨PX, hPX⟩ : ∃ G, G = aaP vx m x y := ⟨_, rfl⟩
  obtain ⟨PY, hPY⟩ : ∃ G, G = aaP vy m x y := ⟨_, rfl⟩
  simp only [← hPX] at HX0 HXR HSX HBX
  simp only [← hPY] at HY0 HYR HSY HBY
  obtain ⟨TX, hTX⟩ : ∃ G, G = aaT vx m x y := ⟨_, rfl⟩
  obtain ⟨TY, hTY⟩ : ∃ G, G = aaT vy m x y := ⟨_, rfl⟩
  simp only [← hTX] at HSX HTX
  simp only [← hTY] at HSY HTY
  obtain ⟨n, hn⟩ : ∃ n, n = m.length := ⟨_, rfl⟩
  obtain ⟨c, hc⟩ : ∃ n, n = colsOf m := ⟨_, rfl⟩
  rw [← hn] at hx p1 p2 HROW HPH HBX HBY ⊢
  rw [← hc] at hy p3 p4
  simp only [← hn] at HTX HTY
  simp only [← hc] at HTX HTY HPH HBX HBY HXR HYR HROW
  have HN := Lib.hid (show ∀ i, i < n → i < m.length from fun i hi => by rw [← hn]; exact hi)
  clear hz0 hv hok hrows hSX hSY hPX hPY hTX hTY hn hc hs0
  go_enter Try.func38, Try.ntmps38
  go_wp2_with fail
  go_loopw [16] (fun i wr => ∃ k : Nat, k ≤ n ∧ i = .int .i64 k ∧ ZT w (w.heap.size + 1) (SX k) (SY k) wr) (fun i _ => n - (intOf i).toNat)
  case atStart => exact ⟨0, Nat.zero_le _, rfl, by rw [HS0.out.1, HS0.out.2]; have h := HZS.out; simpa using h⟩
  case round =>
    obtain ⟨i, hi, rfl, hz⟩ := hrel
    obtain ⟨wo, hwo⟩ : ∃ wo, wo = wr := ⟨_, rfl⟩
    rw [← hwo] at hz ⊢
    clear hwo
    have HZ := Lib.hid hz
    clear hz
    by_cases hlt : i < n
    · have h0 : (0 : Int) ≤ (i : Int) := by omega
      have h1 : (i : Int) < (n : Int) := by omega
      obtain ⟨-, b, off, u, rfl, hc, hu⟩ := HV0.out.at i (HN.out i hlt)
      have hPn : (i + x) % n < n := Nat.mod_lt _ (by omega)
      obtain ⟨-, b', off', u', hab, hc', hu'⟩ := HV0.out.at ((i + x) % n) (HN.out _ hPn)
      simp only [Option.some.injEq, Addr.mk.injEq] at hab
      obtain ⟨rfl, rfl, -⟩ := hab
      have HU := Lib.hid hu
      have HU' := Lib.hid hu'
      obtain ⟨ua, uc, rfl⟩ := hu.sl
      obtain ⟨ua', uc', rfl⟩ := hu'.sl
      rw [HROW.out i hlt] at hc HU
      rw [HROW.out _ hPn] at hc' HU'
      have c1 := keepc HZ.out.below hc
      have c2 := keepc HZ.out.below hc'
      have q0 : (0 : Int) ≤ ((i : Int) + (x : Int)) % (n : Int) := Int.emod_nonneg _ (by omega)
      have q1 : ((i : Int) + (x : Int)) % (n : Int) < (n : Int) := Int.emod_lt_of_pos _ (by omega)
      have hcp : (0 : Int) < (c : Int) := by omega
      clear hu hu' hc hc'
      go_wp2_with fail
      clear c1 c2 q0 q1
      go_loopw [32] (fun q wr => ∃ j : Nat, j ≤ c ∧ q = .int .i64 j ∧ ZT w (w.heap.size + 1) (PX i j) (PY i j) wr) (fun q _ => c - (intOf q).toNat)
      case atStart => exact ⟨0, Nat.zero_le _, rfl, by rw [HX0.out, HY0.out]; exact HZ.out⟩
      case round =>
        obtain ⟨j, hj, rfl, hz⟩ := hrel
        obtain ⟨wx, hwx⟩ : ∃ wx, wx = wr := ⟨_, rfl⟩
        rw [← hwx] at hz ⊢
        clear hwx
        by_cases hlj : j < c
        · have h0j : (0 : Int) ≤ (j : Int) := by omega
          have h1j : (j : Int) < (c : Int) := by omega
          have hQc : (j + y) % c < c := Nat.mod_lt _ (by omega)
          obtain ⟨Q, hQ⟩ : ∃ Q, Q = (j + y) % c := ⟨_, rfl⟩
          rw [← hQ] at hQc
          have hk := HPH.out i j hlt hlj
          have hk' := HPH.out _ Q hPn hQc
          have hBX := HBX.out i j hlt hj
          have hBY := HBY.out i j hlt hj
          have hSX := HSX.out i j
          have hSY := HSY.out i j
          have hTX := HTX.out i j
          have hTY := HTY.out i j
          rw [← hQ] at hTX hTY
          have hA1 := HAT.out i j
          have hA2 := HAT.out ((i + x) % n) Q
          have hrow1 : (m.getD i []).length = c := HROW.out i hlt
          have hrow2 : (m.getD ((i + x) % n) []).length = c := HROW.out _ hPn
          rcases HU.out with ⟨h0', _⟩ | ⟨_, b1, off1, cap1, hveq, _, hcc⟩
          · rw [h0'] at hrow1; exact absurd hrow1 (by simp; omega)
          simp only [Value.slice.injEq] at hveq
          obtain ⟨rfl, hnn, rfl⟩ := hveq
          clear hnn
          rcases HU'.out with ⟨h0', _⟩ | ⟨_, b2, off2, cap2, hveq, _, hcc2⟩
          · rw [h0'] at hrow2; exact absurd hrow2 (by simp; omega)
          simp only [Value.slice.injEq] at hveq
          obtain ⟨rfl, hnn, rfl⟩ := hveq
          clear hnn
          have d1 := hcc j (by rw [hrow1]; exact hlj)
          have d2 := hcc2 Q (by rw [hrow2]; exact hQc)
          rw [← hA1] at d1
          rw [← hA2] at d2
          obtain ⟨s, hs⟩ : ∃ s, s = atM m i j := ⟨_, rfl⟩
          obtain ⟨t, ht⟩ : ∃ s, s = atM m ((i + x) % n) Q := ⟨_, rfl⟩
          rw [← hs] at d1 hk hTX hTY
          rw [← ht] at d2 hk' hTX hTY
          have c1 := keepc hz.below d1
          have HC1 := Lib.hid (keepc hz.below d2)
          have HNE1 := Lib.hid (show (some (w.heap.size + 1) : Option Nat) ≠ some b2 from fun e => by
            have := World.block_lt_of_cell? w _ d2
            have h2 : b2 < w.heap.size := this
            have := Option.some.inj e
            omega)
          have HE1 := Lib.hid (show IntKind.i64.wrap ((j : Int) + (y : Int)) = (j : Int) + (y : Int) from IntWalk.i64_in _ (by omega))
          have HE2 := Lib.hid (show ((j : Int) + (y : Int)).tmod (c : Int) = (Q : Int) by rw [hQ, show (j : Int) + (y : Int) = ((j + y : Nat) : Int) by omega]; rfl)
          have HC0 := Lib.hid (show ¬ c = 0 by omega)
          have HE3 := Lib.hid (show IntKind.i64.wrap (t - s) = t - s from IntWalk.i64_in _ (by omega))
          have HV := Lib.hid (phValueM_any (t - s) (by omega) (by omega))
          have v1 := vx_one ((t - s) % 4)
          have v2 := vy_one ((t - s) % 4)
          have HP := Lib.hid (phPlus_any (PX i j) (PY i j) (vx ((t - s) % 4)) (vy ((t - s) % 4)) (by omega) (by omega) (by omega) (by omega))
          rw [← hTX, ← hTY] at HP HV
          rw [← hSX, ← hSY] at HP
          obtain ⟨X, hXd⟩ : ∃ X, X = PX i j := ⟨_, rfl⟩
          obtain ⟨Y, hYd⟩ : ∃ X, X = PY i j := ⟨_, rfl⟩
          obtain ⟨X1, hX1⟩ : ∃ X, X = PX i (j + 1) := ⟨_, rfl⟩
          obtain ⟨Y1, hY1⟩ : ∃ X, X = PY i (j + 1) := ⟨_, rfl⟩
          obtain ⟨tx, htx⟩ : ∃ X, X = TX i j := ⟨_, rfl⟩
          obtain ⟨ty, hty⟩ : ∃ X, X = TY i j := ⟨_, rfl⟩
          rw [← hXd, ← hYd, ← hX1, ← hY1, ← htx, ← hty] at HP
          rw [← htx, ← hty] at HV
          rw [← hXd, ← hYd] at hz
          have HZ1 := Lib.hid hz
          have HX1 := Lib.hid hX1
          have HY1 := Lib.hid hY1
          have hp0 : (0 : Int) ≤ (Q : Int) := by omega
          have hp1 : (Q : Int) < (c : Int) := by omega
          clear hz hk hk' hBX hBY hSX hSY hTX hTY hA1 hA2 hcc hcc2 d1 d2 hs ht v1 v2 hXd hYd hX1 hY1 htx hty hQ hrow1 hrow2
          go_wp2_with fail
          clear c1
          refine wp_region_held_drew (S := (fun w' => World.grownBy wx w' (some (w.heap.size + 1)))) (by kernel_rfl) (grownDrew (World.grownBy.refl _ _)) ?_
          obtain ⟨d1, hdw⟩ : ∃ w', w' = wx.drew := ⟨_, rfl⟩
          rw [← hdw]
          have hb : Below wx.heap.size wx d1 := by rw [hdw]; exact belowN (Below.refl _ _) 1
          have F1_Z := Lib.hid (HZ1.out.step hb)
          clear hdw hb
          intro hHeld
          refine' wpAnyH_take (i := 1) (v := _) rfl (by kernel_rfl) (by kernel_rfl) (by kernel_rfl) (fun _ _ _ h => h) (Or.inl ⟨by rfl, ?hy1⟩) (by assumption) ?rest1
          case hy1 =>
            intro w h
            (try clear h)
            go_simp
            (try with_reducible rfl)
          (try simp only [Act.put, List.getElem_toArray, List.getElem_cons_zero, List.getElem_cons_succ, List.setIfInBounds_toArray, List.set_cons_zero, List.set_cons_succ])
          refine' wpAnyH_take (i := 2) (v := _) rfl (by kernel_rfl) (by kernel_rfl) (by kernel_rfl) (fun _ _ _ h => h) (Or.inl ⟨by rfl, ?hy2⟩) (by assumption) ?rest2
          case hy2 =>
            intro w h
            (try clear h)
            go_simp
            (try with_reducible rfl)
          (try simp only [Act.put, List.getElem_toArray, List.getElem_cons_zero, List.getElem_cons_succ, List.setIfInBounds_toArray, List.set_cons_zero, List.set_cons_succ])
          refine' wpAnyH_take (i := 3) (v := _) rfl (by kernel_rfl) (by kernel_rfl) (by kernel_rfl) (fun _ _ _ h => h) (Or.inl ⟨by rfl, ?hy3⟩) (by assumption) ?rest3
          case hy3 =>
            intro w h
            (try clear h)
            go_simp
            (try with_reducible rfl)
          (try simp only [Act.put, List.getElem_toArray, List.getElem_cons_zero, List.getElem_cons_succ, List.setIfInBounds_toArray, List.set_cons_zero, List.set_cons_succ])
          refine' wpAnyH_take (i := 4) (v := _) rfl (by kernel_rfl) (by kernel_rfl) (by kernel_rfl) (fun _ _ _ h => h) (Or.inl ⟨by rfl, ?hy4⟩) (by assumption) ?rest4
          case hy4 =>
            intro w h
            have e1 := HE1.out
            (try clear h)
            go_simp
            (try with_reducible rfl)
          (try simp only [Act.put, List.getElem_toArray, List.getElem_cons_zero, List.getElem_cons_succ, List.setIfInBounds_toArray, List.set_cons_zero, List.set_cons_succ])
          refine' wpAnyH_take (i := 5) (v := _) rfl (by kernel_rfl) (by kernel_rfl) (by kernel_rfl) (fun _ _ _ h => h) (Or.inl ⟨by rfl, ?hy5⟩) (by assumption) ?rest5
          case hy5 =>
            intro w h
            (try clear h)
            go_simp
            (try with_reducible rfl)
          (try simp only [Act.put, List.getElem_toArray, List.getElem_cons_zero, List.getElem_cons_succ, List.setIfInBounds_toArray, List.set_cons_zero, List.set_cons_succ])
          refine' wpAnyH_take (i := 6) (v := _) rfl (by kernel_rfl) (by kernel_rfl) (by kernel_rfl) (fun _ _ _ h => h) (Or.inl ⟨by rfl, ?hy6⟩) (by assumption) ?rest6
          case hy6 =>
            intro w h
            (try clear h)
            go_simp
            (try with_reducible rfl)
          (try simp only [Act.put, List.getElem_toArray, List.getElem_cons_zero, List.getElem_cons_succ, List.setIfInBounds_toArray, List.set_cons_zero, List.set_cons_succ])
          refine' wpAnyH_take (i := 7) (v := _) rfl (by kernel_rfl) (by kernel_rfl) (by kernel_rfl) (fun _ _ _ h => h) (Or.inl ⟨by rfl, ?hy7⟩) (by assumption) ?rest7
          case hy7 =>
            intro w h
            have e2 := HE2.out
            have e0 := HC0.out
            (try clear h)
            go_simp
            (try with_reducible rfl)
          (try simp only [Act.put, List.getElem_toArray, List.getElem_cons_zero, List.getElem_cons_succ, List.setIfInBounds_toArray, List.set_cons_zero, List.set_cons_succ])
          refine' wpAnyH_take (i := 8) (v := _) rfl (by kernel_rfl) (by kernel_rfl) (by kernel_rfl) (fun _ _ _ h => h) (Or.inl ⟨by rfl, ?hy8⟩) (by assumption) ?rest8
          case hy8 =>
            intro w h
            have p0 := hp0
            have p1 := hp1
            (try clear h)
            go_simp
            (try with_reducible rfl)
          (try simp only [Act.put, List.getElem_toArray, List.getElem_cons_zero, List.getElem_cons_succ, List.setIfInBounds_toArray, List.set_cons_zero, List.set_cons_succ])
          refine' wpAnyH_take (i := 9) (v := _) rfl (by kernel_rfl) (by kernel_rfl) (by kernel_rfl) (fun _ _ _ h => h) (Or.inl ⟨by rfl, ?hy9⟩) (by assumption) ?rest9
          case hy9 =>
            intro w h
            have c1 := cellR h HC1.out HNE1.out
            (try clear h)
            go_simp
            (try with_reducible rfl)
          (try simp only [Act.put, List.getElem_toArray, List.getElem_cons_zero, List.getElem_cons_succ, List.setIfInBounds_toArray, List.set_cons_zero, List.set_cons_succ])
          refine' wpAnyH_take (i := 10) (v := _) rfl (by kernel_rfl) (by kernel_rfl) (by kernel_rfl) (fun _ _ _ h => h) (Or.inl ⟨by rfl, ?hy10⟩) (by assumption) ?rest10
          case hy10 =>
            intro w h
            (try clear h)
            go_simp
            (try with_reducible rfl)
          (try simp only [Act.put, List.getElem_toArray, List.getElem_cons_zero, List.getElem_cons_succ, List.setIfInBounds_toArray, List.set_cons_zero, List.set_cons_succ])
          refine' wpAnyH_take (i := 11) (v := _) rfl (by kernel_rfl) (by kernel_rfl) (by kernel_rfl) (fun _ _ _ h => h) (Or.inl ⟨by rfl, ?hy11⟩) (by assumption) ?rest11
          case hy11 =>
            intro w h
            have e3 := HE3.out
            (try clear h)
            go_simp
            (try with_reducible rfl)
          (try simp only [Act.put, List.getElem_toArray, List.getElem_cons_zero, List.getElem_cons_succ, List.setIfInBounds_toArray, List.set_cons_zero, List.set_cons_succ])
          refine wpAnyH_ready (rs := [0, 12]) (by kernel_rfl) (by simp) ?_
          refine AllReadyH.cons rfl (fun K hK => ?_) (AllReadyH.cons rfl (fun K hK => ?_) AllReadyH.nil)
          · have c1 := F1_Z.out.d0
            have c2 := F1_Z.out.d1
            go_simp
            refine hK.out _ _ hHeld (fun hHeld => ?_)
            clear hK K
            (try simp only [Act.put, List.getElem_toArray, List.getElem_cons_zero, List.setIfInBounds_toArray, List.set_cons_zero, List.set_cons_succ])
            refine wpAnyH_ready (rs := [12]) (by kernel_rfl) (by simp) ?_
            refine AllReadyH.cons rfl (fun K hK => ?_) AllReadyH.nil
            go_simp
            refine (HV.out _).mono ?_
            rintro e d2 ⟨rfl, hb⟩
            have F2_Z := Lib.hid (F1_Z.out.step hb)
            have hHeld := grownB hHeld hb
            clear hb
            refine hK.out _ _ hHeld (fun hHeld => ?_)
            clear hK K
            (try simp only [Act.put, List.getElem_toArray, List.getElem_cons_zero, List.getElem_cons_succ, List.setIfInBounds_toArray, List.set_cons_zero, List.set_cons_succ])
            refine wpAnyH_ready (rs := [13]) (by kernel_rfl) (by simp) ?_
            refine AllReadyH.cons rfl (fun K hK => ?_) AllReadyH.nil
            go_simp
            refine (HP.out _).mono ?_
            rintro e d3 ⟨rfl, hb⟩
            have F3_Z := Lib.hid (F2_Z.out.step hb)
            have hHeld := grownB hHeld hb
            clear hb
            refine hK.out _ _ hHeld (fun hHeld => ?_)
            clear hK K
            (try simp only [Act.put, List.getElem_toArray, List.getElem_cons_zero, List.getElem_cons_succ, List.setIfInBounds_toArray, List.set_cons_zero, List.set_cons_succ])
            refine wpAnyH_ready (rs := [14]) (by kernel_rfl) (by simp) ?_
            refine AllReadyH.cons rfl (fun K hK => ?_) AllReadyH.nil
            have c1 := F3_Z.out.d0
            have c2 := F3_Z.out.d1
            have f1 := F3_Z.out.g0
            have f2 := F3_Z.out.g1
            go_simp
            refine hK.out _ _ (grownSet (grownSet hHeld _ _) _ _) (fun hHeld => ?_)
            clear hK K
            (try simp only [Act.put])
            refine wpAnyH_done (by kernel_rfl) ?_ _
            have HZ4 := Lib.hid (ZT.store F3_Z.out X1 Y1)
            go_wp2_with fail
            go_roundw
            case rel => exact ⟨j + 1, by omega, by go_num, by rw [← HX1.out, ← HY1.out]; exact HZ4.out⟩
            case measure => simp [intOf]; omega
          · go_simp
            refine (HV.out _).mono ?_
            rintro e d2 ⟨rfl, hb⟩
            have F2_Z := Lib.hid (F1_Z.out.step hb)
            have hHeld := grownB hHeld hb
            clear hb
            refine hK.out _ _ hHeld (fun hHeld => ?_)
            clear hK K
            (try simp only [Act.put, List.getElem_toArray, List.getElem_cons_zero, List.getElem_cons_succ, List.setIfInBounds_toArray, List.set_cons_zero, List.set_cons_succ])
            refine wpAnyH_ready (rs := [0]) (by kernel_rfl) (by simp) ?_
            refine AllReadyH.cons rfl (fun K hK => ?_) AllReadyH.nil
            have c1 := F2_Z.out.d0
            have c2 := F2_Z.out.d1
            go_simp
            refine hK.out _ _ hHeld (fun hHeld => ?_)
            clear hK K
            (try simp only [Act.put, List.getElem_toArray, List.getElem_cons_zero, List.setIfInBounds_toArray, List.set_cons_zero, List.set_cons_succ])
            refine wpAnyH_ready (rs := [13]) (by kernel_rfl) (by simp) ?_
            refine AllReadyH.cons rfl (fun K hK => ?_) AllReadyH.nil
            go_simp
            refine (HP.out _).mono ?_
            rintro e d3 ⟨rfl, hb⟩
            have F3_Z := Lib.hid (F2_Z.out.step hb)
            have hHeld := grownB hHeld hb
            clear hb
            refine hK.out _ _ hHeld (fun hHeld => ?_)
            clear hK K
            (try simp only [Act.put, List.getElem_toArray, List.getElem_cons_zero, List.getElem_cons_succ, List.setIfInBounds_toArray, List.set_cons_zero, List.set_cons_succ])
            refine wpAnyH_ready (rs := [14]) (by kernel_rfl) (by simp) ?_
            refine AllReadyH.cons rfl (fun K hK => ?_) AllReadyH.nil
            have c1 := F3_Z.out.d0
            have c2 := F3_Z.out.d1
            have f1 := F3_Z.out.g0
            have f2 := F3_Z.out.g1
            go_simp
            refine hK.out _ _ (grownSet (grownSet hHeld _ _) _ _) (fun hHeld => ?_)
            clear hK K
            (try simp only [Act.put])
            refine wpAnyH_done (by kernel_rfl) ?_ _
            have HZ4 := Lib.hid (ZT.store F3_Z.out X1 Y1)
            go_wp2_with fail
            go_roundw
            case rel => exact ⟨j + 1, by omega, by go_num, by rw [← HX1.out, ← HY1.out]; exact HZ4.out⟩
            case measure => simp [intOf]; omega
        · obtain rfl : j = c := by omega
          have HZ2 := Lib.hid hz
          clear hz
          go_wp2_with fail
          go_roundw
          case rel => exact ⟨i + 1, by omega, by go_num, by rw [← HXR.out, ← HYR.out]; exact HZ2.out⟩
          case measure => simp [intOf]; omega
    · obtain rfl : i = n := by omega
      have hz := HZ.out
      obtain ⟨X, hX⟩ : ∃ X, X = SX i := ⟨_, rfl⟩
      obtain ⟨Y, hY⟩ : ∃ Y, Y = SY i := ⟨_, rfl⟩
      rw [← hX, ← hY] at hz
      have HX := Lib.hid hX
      have HY := Lib.hid hY
      clear hX hY HZ
      have HZ := Lib.hid hz
      obtain ⟨z0, z1, z2, z3, z4, z5, z6, z7, z8, z9, z10⟩ := hz
      go_wp2_with fail
      (try simp only [Exit.inBlock, Exit.then])
      obtain ⟨e0, e1, e2⟩ := HZ.out.ret
      refine bodyPost_ret (by simp [results, Try.results38, go_sem, e0, e1]; try rfl) rfl ?_
      exact ⟨by rw [HX.out, HY.out], e2⟩
end Go.Proofs.Ytjoepdflbbcliab
