/- The program's correlation of arrays. -/
import Derived.Test.YtjoepdflbbcliabIGm
import Derived.Test.YtjoepdflbbcliabGa
import Derived.Test.YtjoepdflbbcliabVm
import Derived.Test.YtjoepdflbbcliabRg
namespace Go.Proofs.Ytjoepdflbbcliab
set_option maxRecDepth 100000
open Go.RowKit

set_option maxRecDepth 100000 in
set_option maxHeartbeats 4000000 in
theorem grCorr_any (n m : Nat) (M : Nat → Nat → Int) (hn : 1 ≤ n ∧ n ≤ 8) (hm : 1 ≤ m ∧ m ≤ 8) (hM : ∀ i j, i < n → j < m → 0 ≤ M i j ∧ M i j ≤ 3) (u v : Nat) (hu : u < n) (hv : v < m) (w : World) :
    Calls Try.prog 42 #[.agg (grA (GV n m M) n m), .int .i64 u, .int .i64 v] w (Ret w (.complex .f32 (f32of (gaS vx n m M u v n)) (f32of (gaS vy n m M u v n)))) := by
  have IM := Lib.hid (infoGrA (GV n m M) n m)
  have HL := Lib.hid (grA_rows (GV n m M) n m)
  have HM := Lib.hid (grA_cols (GV n m M) n m)
  have HAR := Lib.hid (fun (i j : Nat) (hi : i < n) (hj : j < m) w' => show Calls Try.prog 67 #[.agg (grA (GV n m M) n m), .int .i64 ((i : Int) + u), .int .i64 ((j : Int) + v)] w' (Ret w' (.int .i64 (M ((i + u) % n) ((j + v) % m)))) by
    have h := around_any n m M ((i : Int) + u) ((j : Int) + v) hn hm (by omega) (by omega) w'
    rw [show (((i : Int) + u) % n).toNat = (i + u) % n from by rw [show (i : Int) + (u : Int) = ((i + u : Nat) : Int) by omega]; exact Int.toNat_natCast ((i + u) % n), show (((j : Int) + v) % m).toNat = (j + v) % m from by rw [show (j : Int) + (v : Int) = ((j + v : Nat) : Int) by omega]; exact Int.toNat_natCast ((j + v) % m)] at h
    exact h)
  have HCELL := Lib.hid (fun (i j : Nat) (hi : i < n) (hj : j < m) => show (grA (GV n m M) n m)[i * 8 + j]? = some (.int .i64 (M i j)) by
    rw [grA_get _ _ _ _ (by omega), GV_at n m M i j hi hj hm.2])
  have HPH := Lib.hid hM
  have HBX := Lib.hid (fun i j hi hj => gaP_le vx vx_one n m M u v hn.2 hm.2 i j hi hj)
  have HBY := Lib.hid (fun i j hi hj => gaP_le vy vy_one n m M u v hn.2 hm.2 i j hi hj)
  have HSX := Lib.hid (fun i j => gaP_step vx n m M u v i j)
  have HSY := Lib.hid (fun i j => gaP_step vy n m M u v i j)
  have HTX := Lib.hid (fun i j => show gaT vx n m M u v i j = vx ((M ((i + u) % n) ((j + v) % m) - M i j) % 4) from rfl)
  have HTY := Lib.hid (fun i j => show gaT vy n m M u v i j = vy ((M ((i + u) % n) ((j + v) % m) - M i j) % 4) from rfl)
  have HX0 := Lib.hid (fun i => gaP_zero vx n m M u v i)
  have HY0 := Lib.hid (fun i => gaP_zero vy n m M u v i)
  have HXR := Lib.hid (fun i => gaP_row vx n m M u v i)
  have HYR := Lib.hid (fun i => gaP_row vy n m M u v i)
  obtain ⟨SX, hSX⟩ : ∃ G, G = gaS vx n m M u v := ⟨_, rfl⟩
  obtain ⟨SY, hSY⟩ : ∃ G, G = gaS vy n m M u v := ⟨_, rfl⟩
  have hs0 : SX 0 = 0 ∧ SY 0 = 0 := by rw [hSX, hSY]; exact ⟨rfl, rfl⟩
  have HS0 := Lib.hid hs0
  simp only [← hSX] at HX0 HXR
  simp only [← hSY] at HY0 HYR
  rw [← hSX, ← hSY]
  obtain ⟨PX, hPX⟩ : ∃ G, G = gaP vx n m M u v := ⟨_, rfl⟩
  obtain ⟨PY, hPY⟩ : ∃ G, G = gaP vy n m M u v := ⟨_, rfl⟩
  simp only [← hPX] at HX0 HXR HSX HBX
  simp only [← hPY] at HY0 HYR HSY HBY
  obtain ⟨TX, hTX⟩ : ∃ G, G = gaT vx n m M u v := ⟨_, rfl⟩
  obtain ⟨TY, hTY⟩ : ∃ G, G = gaT vy n m M u v := ⟨_, rfl⟩
  simp only [← hTX] at HSX HTX
  simp only [← hTY] at HSY HTY
  obtain ⟨C, hC⟩ : ∃ C, C = grA (GV n m M) n m := ⟨_, rfl⟩
  rw [← hC] at IM HL HM ⊢
  simp only [← hC] at HAR HCELL
  obtain ⟨n1, n8⟩ := hn
  obtain ⟨m1, m8⟩ := hm
  clear hSX hSY hPX hPY hTX hTY hs0 hC hM
  go_enter Try.func42, Try.ntmps42
  go_wp2_with ((with_reducible refine at_op (Op.box 53 (.tmp 0)) ?_); refine wpList_box_row rfl 53 (.tmp 0) rfl C rfl ?_; intro w1 hr hb hz; have R1 := Lib.hid hr; have B1 := Lib.hid hb; have c0 := rowC hr HL.out; clear hr hb hz)
  clear c0
  go_loopw [12, 7] (fun q s wr => ∃ i : Nat, i ≤ n ∧ q = .int .i64 i ∧ s = .complex .f32 (f32of (SX i)) (f32of (SY i)) ∧ wr.heap[w.heap.size]? = some (.cells C 53 (0, 0)) ∧ Below w.heap.size w wr) (fun q _ _ => n - (intOf q).toNat)
  case atStart => exact ⟨0, Nat.zero_le _, rfl, by rw [HS0.out.1, HS0.out.2]; rfl, R1.out, B1.out⟩
  case round =>
    obtain ⟨i, hi, rfl, rfl, hr, hbel⟩ := hrel
    obtain ⟨wo, hwo⟩ : ∃ wo, wo = wr := ⟨_, rfl⟩
    rw [← hwo] at hr hbel ⊢
    clear hwo
    have HRO := Lib.hid hr
    have HBO := Lib.hid hbel
    clear hr hbel
    obtain ⟨fx, hfx⟩ : ∃ f, f = f32of (SX i) := ⟨_, rfl⟩
    obtain ⟨fy, hfy⟩ : ∃ f, f = f32of (SY i) := ⟨_, rfl⟩
    rw [← hfx, ← hfy]
    have HFX := Lib.hid hfx
    have HFY := Lib.hid hfy
    clear hfx hfy
    by_cases hlt : i < n
    · have h0 : (0 : Int) ≤ (i : Int) := by omega
      have h1 : (i : Int) < (n : Int) := by omega
      have c0 := rowC HRO.out HM.out
      go_wp2_with fail
      clear c0
      go_loopw [17, 7] (fun q s wr => ∃ j : Nat, j ≤ m ∧ q = .int .i64 j ∧ s = .complex .f32 (f32of (PX i j)) (f32of (PY i j)) ∧ wr.heap[w.heap.size]? = some (.cells C 53 (0, 0)) ∧ Below w.heap.size w wr) (fun q _ _ => m - (intOf q).toNat)
      case atStart => exact ⟨0, Nat.zero_le _, rfl, by rw [HX0.out, HY0.out, HFX.out, HFY.out], HRO.out, HBO.out⟩
      case round =>
        obtain ⟨j, hj, rfl, rfl, hr, hbel⟩ := hrel
        obtain ⟨wx, hwx⟩ : ∃ wo, wo = wr := ⟨_, rfl⟩
        rw [← hwx] at hr hbel ⊢
        clear hwx
        have HR := Lib.hid hr
        have HB := Lib.hid hbel
        clear hr hbel
        have hBX := HBX.out i j hlt hj
        have hBY := HBY.out i j hlt hj
        by_cases hlj : j < m
        · have h0j : (0 : Int) ≤ (j : Int) := by omega
          have h1j : (j : Int) < (m : Int) := by omega
          have h8i : (i : Int) < 8 := by omega
          have h8j : (j : Int) < 8 := by omega
          have hxr := HPH.out ((i + u) % n) ((j + v) % m) (Nat.mod_lt _ (by omega)) (Nat.mod_lt _ (by omega))
          have hyr := HPH.out i j hlt hlj
          have hSX := HSX.out i j
          have hSY := HSY.out i j
          have hTX := HTX.out i j
          have hTY := HTY.out i j
          have har := HAR.out i j hlt hlj
          have hck := HCELL.out i j hlt hlj
          obtain ⟨x, hx⟩ : ∃ x, x = M ((i + u) % n) ((j + v) % m) := ⟨_, rfl⟩
          obtain ⟨y, hy⟩ : ∃ y, y = M i j := ⟨_, rfl⟩
          rw [← hx] at hxr hTX hTY har
          rw [← hy] at hyr hTX hTY hck
          have HCK := Lib.hid hck
          have hmc := mc_ok x y hxr.1 hxr.2 hyr.1 hyr.2
          obtain ⟨m1, hm1⟩ : ∃ m, m = (mc x y).1 := ⟨_, rfl⟩
          obtain ⟨m2, hm2⟩ : ∃ m, m = (mc x y).2 := ⟨_, rfl⟩
          rw [← hm1, ← hm2] at hmc
          obtain ⟨hmc1, hu1, hu2, hv1, hv2⟩ := hmc
          have hadd := fun w t => run_addv (P := Try.prog) w t (PX i j) (PY i j) m1 m2 (by omega) (by omega) hu1 hu2
          rw [hv1, hv2, ← hTX, ← hTY, ← hSX, ← hSY] at hadd
          have hmul := fun w t => run_complex_mul32 (P := Try.prog) w t _ _ _ _ _ _ hmc1
          have HVX := Lib.hid (valueOf_any x hxr.1 hxr.2)
          have HVY := Lib.hid (valueOf_any y hyr.1 hyr.2)
          have HCJ := Lib.hid (conjugateValue_any (f32of (vx y)) (f32of (vy y)))
          obtain ⟨fa, hfa⟩ : ∃ fa, fa = f32of (PX i j) := ⟨_, rfl⟩
          obtain ⟨fb, hfb⟩ : ∃ fb, fb = f32of (PY i j) := ⟨_, rfl⟩
          obtain ⟨ga, hga⟩ : ∃ fa, fa = f32of (PX i (j + 1)) := ⟨_, rfl⟩
          obtain ⟨gb, hgb⟩ : ∃ fb, fb = f32of (PY i (j + 1)) := ⟨_, rfl⟩
          obtain ⟨p1, hp1⟩ : ∃ fa, fa = f32of (vx x) := ⟨_, rfl⟩
          obtain ⟨p2, hp2⟩ : ∃ fa, fa = f32of (vy x) := ⟨_, rfl⟩
          obtain ⟨q1, hq1⟩ : ∃ fa, fa = f32of (vx y) := ⟨_, rfl⟩
          obtain ⟨q2, hq2⟩ : ∃ fa, fa = f32of (vy y) := ⟨_, rfl⟩
          obtain ⟨q3, hq3⟩ : ∃ fa, fa = f32neg (f32of (vy y)) := ⟨_, rfl⟩
          rw [← hq3] at hmul HCJ
          rw [← hq1, ← hq2] at HCJ HVY
          rw [← hp1, ← hp2, ← hq1] at hmul
          rw [← hp1, ← hp2] at HVX
          rw [← hfa, ← hfb, ← hga, ← hgb] at hadd
          rw [← hfa, ← hfb]
          have HGA := Lib.hid hga
          have HGB := Lib.hid hgb
          have HMUL := Lib.hid hmul
          have HADD := Lib.hid hadd
          have HAR := Lib.hid har
          have HE1 := Lib.hid (show IntKind.i64.wrap ((i : Int) + (u : Int)) = (i : Int) + (u : Int) from IntWalk.i64_in _ (by omega))
          have HE2 := Lib.hid (show IntKind.i64.wrap ((j : Int) + (v : Int)) = (j : Int) + (v : Int) from IntWalk.i64_in _ (by omega))
          clear hBX hBY hxr hyr hSX hSY hTX hTY har hck hx hy hm1 hm2 hmc1 hu1 hu2 hv1 hv2 hadd hmul hfa hfb hga hgb hp1 hp2 hq1 hq2 hq3
          go_wp2_with fail
          refine wp_region_held_drew (S := (fun w' => World.grownBy wx w' none)) (by kernel_rfl) (grownDrew (World.grownBy.refl _ _)) ?_
          obtain ⟨d1, hdw⟩ : ∃ w', w' = wx.drew := ⟨_, rfl⟩
          rw [← hdw]
          have hb : Below wx.heap.size wx d1 := by rw [hdw]; exact belowN (Below.refl _ _) 1
          have F1_R := Lib.hid (rowB HR.out hb)
          have F1_B := Lib.hid (joins HB.out hb)
          clear hdw hb
          intro hHeld
          refine' wpAnyH_take (i := 0) (v := _) rfl (by kernel_rfl) (by kernel_rfl) (by kernel_rfl) (fun _ _ _ h => h) (Or.inl ⟨by rfl, ?hy1⟩) (by assumption) ?rest1
          case hy1 =>
            intro w h
            (try clear h)
            go_simp
            (try with_reducible rfl)
          (try simp only [Act.put, List.getElem_toArray, List.getElem_cons_zero, List.setIfInBounds_toArray, List.set_cons_zero, List.set_cons_succ])
          refine' wpAnyH_take (i := 1) (v := _) rfl (by kernel_rfl) (by kernel_rfl) (by kernel_rfl) (fun _ _ _ h => h) (yieldsPart (by rfl) 53 (.tmp 3) rfl (w.heap.size) 0 rfl C C 53 (0, 0) _ (fun w h => (rowG HR.out h (by simp))) (Part.self _) Try.underlying53 rfl IM.out) (by assumption) ?rest2
          (try simp only [Act.put, List.getElem_toArray, List.getElem_cons_zero, List.getElem_cons_succ, List.setIfInBounds_toArray, List.set_cons_zero, List.set_cons_succ])
          refine' wpAnyH_take (i := 2) (v := _) rfl (by kernel_rfl) (by kernel_rfl) (by kernel_rfl) (fun _ _ _ h => h) (Or.inl ⟨by rfl, ?hy3⟩) (by assumption) ?rest3
          case hy3 =>
            intro w h
            (try clear h)
            go_simp
            (try with_reducible rfl)
          (try simp only [Act.put, List.getElem_toArray, List.getElem_cons_zero, List.getElem_cons_succ, List.setIfInBounds_toArray, List.set_cons_zero, List.set_cons_succ])
          refine' wpAnyH_take (i := 3) (v := _) rfl (by kernel_rfl) (by kernel_rfl) (by kernel_rfl) (fun _ _ _ h => h) (Or.inl ⟨by rfl, ?hy4⟩) (by assumption) ?rest4
          case hy4 =>
            intro w h
            (try clear h)
            go_simp
            (try with_reducible rfl)
          (try simp only [Act.put, List.getElem_toArray, List.getElem_cons_zero, List.getElem_cons_succ, List.setIfInBounds_toArray, List.set_cons_zero, List.set_cons_succ])
          refine' wpAnyH_take (i := 4) (v := _) rfl (by kernel_rfl) (by kernel_rfl) (by kernel_rfl) (fun _ _ _ h => h) (Or.inl ⟨by rfl, ?hy5⟩) (by assumption) ?rest5
          case hy5 =>
            intro w h
            have e1 := HE1.out
            (try clear h)
            go_simp
            (try with_reducible rfl)
          (try simp only [Act.put, List.getElem_toArray, List.getElem_cons_zero, List.getElem_cons_succ, List.setIfInBounds_toArray, List.set_cons_zero, List.set_cons_succ])
          refine' wpAnyH_take (i := 5) (v := _) rfl (by kernel_rfl) (by kernel_rfl) (by kernel_rfl) (fun _ _ _ h => h) (Or.inl ⟨by rfl, ?hy6⟩) (by assumption) ?rest6
          case hy6 =>
            intro w h
            (try clear h)
            go_simp
            (try with_reducible rfl)
          (try simp only [Act.put, List.getElem_toArray, List.getElem_cons_zero, List.getElem_cons_succ, List.setIfInBounds_toArray, List.set_cons_zero, List.set_cons_succ])
          refine' wpAnyH_take (i := 6) (v := _) rfl (by kernel_rfl) (by kernel_rfl) (by kernel_rfl) (fun _ _ _ h => h) (Or.inl ⟨by rfl, ?hy7⟩) (by assumption) ?rest7
          case hy7 =>
            intro w h
            (try clear h)
            go_simp
            (try with_reducible rfl)
          (try simp only [Act.put, List.getElem_toArray, List.getElem_cons_zero, List.getElem_cons_succ, List.setIfInBounds_toArray, List.set_cons_zero, List.set_cons_succ])
          refine' wpAnyH_take (i := 7) (v := _) rfl (by kernel_rfl) (by kernel_rfl) (by kernel_rfl) (fun _ _ _ h => h) (Or.inl ⟨by rfl, ?hy8⟩) (by assumption) ?rest8
          case hy8 =>
            intro w h
            have e1 := HE2.out
            (try clear h)
            go_simp
            (try with_reducible rfl)
          (try simp only [Act.put, List.getElem_toArray, List.getElem_cons_zero, List.getElem_cons_succ, List.setIfInBounds_toArray, List.set_cons_zero, List.set_cons_succ])
          refine' wpAnyH_take (i := 10) (v := _) rfl (by kernel_rfl) (by kernel_rfl) (by kernel_rfl) (fun _ _ _ h => h) (Or.inl ⟨by rfl, ?hy9⟩) (by assumption) ?rest9
          case hy9 =>
            intro w h
            (try clear h)
            go_simp
            (try with_reducible rfl)
          (try simp only [Act.put, List.getElem_toArray, List.getElem_cons_zero, List.getElem_cons_succ, List.setIfInBounds_toArray, List.set_cons_zero, List.set_cons_succ])
          refine' wpAnyH_take (i := 11) (v := _) rfl (by kernel_rfl) (by kernel_rfl) (by kernel_rfl) (fun _ _ _ h => h) (Or.inl ⟨by rfl, ?hy10⟩) (by assumption) ?rest10
          case hy10 =>
            intro w h
            (try clear h)
            go_simp
            (try with_reducible rfl)
          (try simp only [Act.put, List.getElem_toArray, List.getElem_cons_zero, List.getElem_cons_succ, List.setIfInBounds_toArray, List.set_cons_zero, List.set_cons_succ])
          refine' wpAnyH_take (i := 12) (v := _) rfl (by kernel_rfl) (by kernel_rfl) (by kernel_rfl) (fun _ _ _ h => h) (Or.inl ⟨by rfl, ?hy11⟩) (by assumption) ?rest11
          case hy11 =>
            intro w h
            (try clear h)
            go_simp
            (try with_reducible rfl)
          (try simp only [Act.put, List.getElem_toArray, List.getElem_cons_zero, List.getElem_cons_succ, List.setIfInBounds_toArray, List.set_cons_zero, List.set_cons_succ])
          refine' wpAnyH_take (i := 13) (v := _) rfl (by kernel_rfl) (by kernel_rfl) (by kernel_rfl) (fun _ _ _ h => h) (Or.inl ⟨by rfl, ?hy12⟩) (by assumption) ?rest12
          case hy12 =>
            intro w h
            have p1 := h8i
            (try clear h)
            go_simp
            (try with_reducible rfl)
          (try simp only [Act.put, List.getElem_toArray, List.getElem_cons_zero, List.getElem_cons_succ, List.setIfInBounds_toArray, List.set_cons_zero, List.set_cons_succ])
          refine' wpAnyH_take (i := 14) (v := _) rfl (by kernel_rfl) (by kernel_rfl) (by kernel_rfl) (fun _ _ _ h => h) (Or.inl ⟨by rfl, ?hy13⟩) (by assumption) ?rest13
          case hy13 =>
            intro w h
            have p1 := h8j
            (try clear h)
            go_simp
            (try with_reducible rfl)
          (try simp only [Act.put, List.getElem_toArray, List.getElem_cons_zero, List.getElem_cons_succ, List.setIfInBounds_toArray, List.set_cons_zero, List.set_cons_succ])
          refine' wpAnyH_take (i := 15) (v := _) rfl (by kernel_rfl) (by kernel_rfl) (by kernel_rfl) (fun _ _ _ h => h) (Or.inl ⟨by rfl, ?hy14⟩) (by assumption) ?rest14
          case hy14 =>
            intro w h
            have c1 := rowC (rowG HR.out h (by simp)) HCK.out
            (try clear h)
            go_simp
            (try with_reducible rfl)
          (try simp only [Act.put, List.getElem_toArray, List.getElem_cons_zero, List.getElem_cons_succ, List.setIfInBounds_toArray, List.set_cons_zero, List.set_cons_succ])
          refine wpAnyH_ready (rs := [8]) (by kernel_rfl) (by simp) ?_
          refine AllReadyH.cons rfl (fun K hK => ?_) AllReadyH.nil
          go_simp
          refine (HAR.out _).mono ?_
          rintro e d2 ⟨rfl, hb⟩
          have F2_R := Lib.hid (rowB F1_R.out hb)
          have F2_B := Lib.hid (joins F1_B.out hb)
          have hHeld := grownB hHeld hb
          clear hb
          refine hK.out _ _ hHeld (fun hHeld => ?_)
          clear hK K
          (try simp only [Act.put, List.getElem_toArray, List.getElem_cons_zero, List.getElem_cons_succ, List.setIfInBounds_toArray, List.set_cons_zero, List.set_cons_succ])
          refine wpAnyH_ready (rs := [9]) (by kernel_rfl) (by simp) ?_
          refine AllReadyH.cons rfl (fun K hK => ?_) AllReadyH.nil
          go_simp
          refine (HVX.out _).mono ?_
          rintro e d3 ⟨rfl, hb⟩
          have F3_R := Lib.hid (rowB F2_R.out hb)
          have F3_B := Lib.hid (joins F2_B.out hb)
          have hHeld := grownB hHeld hb
          clear hb
          refine hK.out _ _ hHeld (fun hHeld => ?_)
          clear hK K
          (try simp only [Act.put, List.getElem_toArray, List.getElem_cons_zero, List.getElem_cons_succ, List.setIfInBounds_toArray, List.set_cons_zero, List.set_cons_succ])
          refine wpAnyH_ready (rs := [16]) (by kernel_rfl) (by simp) ?_
          refine AllReadyH.cons rfl (fun K hK => ?_) AllReadyH.nil
          go_simp
          refine (HVY.out _).mono ?_
          rintro e d4 ⟨rfl, hb⟩
          have F4_R := Lib.hid (rowB F3_R.out hb)
          have F4_B := Lib.hid (joins F3_B.out hb)
          have hHeld := grownB hHeld hb
          clear hb
          refine hK.out _ _ hHeld (fun hHeld => ?_)
          clear hK K
          (try simp only [Act.put, List.getElem_toArray, List.getElem_cons_zero, List.getElem_cons_succ, List.setIfInBounds_toArray, List.set_cons_zero, List.set_cons_succ])
          refine wpAnyH_ready (rs := [17]) (by kernel_rfl) (by simp) ?_
          refine AllReadyH.cons rfl (fun K hK => ?_) AllReadyH.nil
          go_simp
          refine (HCJ.out _).mono ?_
          rintro e w' ⟨rfl, rfl⟩
          refine hK.out _ _ hHeld (fun hHeld => ?_)
          clear hK K
          (try simp only [Act.put, List.getElem_toArray, List.getElem_cons_zero, List.getElem_cons_succ, List.setIfInBounds_toArray, List.set_cons_zero, List.set_cons_succ])
          refine' wpAnyH_take (i := 18) (v := _) rfl (by kernel_rfl) (by kernel_rfl) (by kernel_rfl) (fun _ _ _ h => h) (Or.inl ⟨by rfl, ?hy15⟩) (by assumption) ?rest15
          case hy15 =>
            intro w h
            have c1 := HMUL.out
            (try clear h)
            go_simp
            (try with_reducible rfl)
          (try simp only [Act.put, List.getElem_toArray, List.getElem_cons_zero, List.getElem_cons_succ, List.setIfInBounds_toArray, List.set_cons_zero, List.set_cons_succ])
          refine' wpAnyH_take (i := 19) (v := _) rfl (by kernel_rfl) (by kernel_rfl) (by kernel_rfl) (fun _ _ _ h => h) (Or.inl ⟨by rfl, ?hy16⟩) (by assumption) ?rest16
          case hy16 =>
            intro w h
            have c1 := HADD.out
            (try clear h)
            go_simp
            (try with_reducible rfl)
          (try simp only [Act.put, List.getElem_toArray, List.getElem_cons_zero, List.getElem_cons_succ, List.setIfInBounds_toArray, List.set_cons_zero, List.set_cons_succ])
          refine' wpAnyH_take (i := 20) (v := _) rfl (by kernel_rfl) (by kernel_rfl) (by kernel_rfl) (fun _ _ _ h => h) (Or.inl ⟨by rfl, ?hy17⟩) (by assumption) ?rest17
          case hy17 =>
            intro w h
            (try clear h)
            go_simp
            (try with_reducible rfl)
          (try simp only [Act.put, List.getElem_toArray, List.getElem_cons_zero, List.getElem_cons_succ, List.setIfInBounds_toArray, List.set_cons_zero, List.set_cons_succ])
          refine wpAnyH_done (by kernel_rfl) ?_ _
          go_wp2_with fail
          go_roundw
          case rel => exact ⟨j + 1, by omega, by go_num, by rw [HGA.out, HGB.out], F4_R.out, F4_B.out⟩
          case measure => simp [intOf]; omega
        · obtain rfl : j = m := by omega
          clear hBX hBY
          rw [HXR.out, HYR.out]
          go_wp2_with fail
          go_roundw
          case rel => exact ⟨i + 1, by omega, by go_num, rfl, HR.out, HB.out⟩
          case measure => simp [intOf]; omega
    · obtain rfl : i = n := by omega
      go_wp2_with fail
      go_returns
      exact ⟨by rw [← HFX.out, ← HFY.out]; rfl, HBO.out⟩
end Go.Proofs.Ytjoepdflbbcliab
