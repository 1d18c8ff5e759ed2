/- The model's tfOf: all sums of a transform. -/
import Derived.Test.YtccjmigdebchiaaSCvH
import Derived.Test.YtccjmigdebchiaaSCr
import Derived.Test.YtccjmigdebchiaaDrM
namespace Go.Proofs.Ytccjmigdebchiaa
set_option maxRecDepth 100000
open Go.RowKit

/-- A sum's block and another one. -/
structure SY (W : World) (h : Nat) (X Y : Int) (k : Nat) (x y : Int) (wr : World) : Prop where
  sb : SB W h X Y wr
  e0 : wr.cell? ⟨k, 0, none⟩ = some (.int .i64 x)
  e1 : wr.cell? ⟨k, 1, none⟩ = some (.int .i64 y)
theorem SY.step {W w w' : World} {h k : Nat} {X Y x y : Int} (z : SY W h X Y k x y w) (hb : Below w.heap.size w w') : SY W h X Y k x y w' :=
  ⟨z.sb.step hb, keepc hb z.e0, keepc hb z.e1⟩
set_option maxRecDepth 100000 in
set_option maxHeartbeats 4000000 in
theorem tfOf_any (v : Value) (l : List (Int × Int)) (sg : Int) (hsg : sg = 1 ∨ sg = -1) (w : World) (hv : IG w v l) (hl2 : l.length ≤ 16) (hgd : ∀ i, i < l.length → (-1000000 ≤ gre l i ∧ gre l i ≤ 1000000) ∧ (-1000000 ≤ gim l i ∧ gim l i ≤ 1000000)) :
    Calls Try.prog 33 #[v, .int .i64 sg] w (MakesG w (drL sg l)) := by
  rcases hv with ⟨rfl, a, cap, rfl⟩ | ⟨_, bb, off, cap, rfl, _, hc⟩
  · have e : drL sg [] = [] := rfl
    rw [e]
    go_enter Try.func33, Try.ntmps33
    go_wp2_with fail
    go_loopw [12, 5] (fun i o wr => i = .int .i64 0 ∧ OwnG wr w.heap.size o [] ∧ Below w.heap.size w wr) (fun _ _ _ => 0)
    case atStart => exact ⟨rfl, OwnG.nil _ _, Below.refl _ _⟩
    case round =>
      obtain ⟨rfl, hown, hbel⟩ := hrel
      have HO := Lib.hid hown
      have HB := Lib.hid hbel
      clear hown hbel
      go_wp2_with fail
      go_returns
      exact ⟨_, rfl, HO.out, HB.out⟩
  · obtain ⟨n, hn⟩ : ∃ n, n = l.length := ⟨_, rfl⟩
    have hdl : drL sg l = genG n (drX sg l n) (drY sg l n) := by rw [hn]; rfl
    rw [hdl, ← hn]
    rw [← hn] at hc hl2 hgd
    have HTL := Lib.hid (fun p x hx => drT_le hgd sg p x hx)
    have HTE := Lib.hid (show ∀ p x, drT sg l p x = dtT ((-sg * (wvP p x : Int)) % 4) (gre l x, gim l x) from fun _ _ => rfl)
    have HXS := Lib.hid (show ∀ p j, drX sg l (j + 1) p = drX sg l j p + (drT sg l p j).1 ∧ drY sg l (j + 1) p = drY sg l j p + (drT sg l p j).2 from fun _ _ => ⟨rfl, rfl⟩)
    have HXL := Lib.hid (fun p j hj => drX_le hl2 hgd sg p j hj)
    have H00 := Lib.hid (show ∀ p, drX sg l 0 p = 0 ∧ drY sg l 0 p = 0 from fun _ => ⟨rfl, rfl⟩)
    obtain ⟨T, hT⟩ : ∃ T, T = drT sg l := ⟨_, rfl⟩
    obtain ⟨FX, hFX⟩ : ∃ T, T = drX sg l := ⟨_, rfl⟩
    obtain ⟨FY, hFY⟩ : ∃ T, T = drY sg l := ⟨_, rfl⟩
    rw [← hT] at HTL HTE HXS
    rw [← hFX, ← hFY] at HXS HXL H00 ⊢
    have HGD := Lib.hid hgd
    have HC := Lib.hid hc
    clear hn hc hT hFX hFY hgd hdl
    go_enter Try.func33, Try.ntmps33
    go_wp2_with fail
    go_loopw [12, 5] (fun i o wr => ∃ k : Nat, k ≤ n ∧ i = .int .i64 k ∧ OwnG wr w.heap.size o (genG k (FX n) (FY n)) ∧ Below w.heap.size w wr) (fun i _ _ => n - (intOf i).toNat)
    case atStart => exact ⟨0, Nat.zero_le _, rfl, OwnG.nil _ _, Below.refl _ _⟩
    case round =>
      obtain ⟨k, hk, rfl, hown, hbel⟩ := hrel
      by_cases hlt : k < n
      · have h0 : (0 : Int) ≤ (k : Int) := by omega
        have h1 : (k : Int) < (n : Int) := by omega
        obtain ⟨w2, hw2⟩ : ∃ w2, w2 = wr := ⟨_, rfl⟩
        rw [← hw2]
        rw [← hw2] at hown hbel
        have HB := Lib.hid hbel
        have HO := Lib.hid hown
        clear hown hbel hw2
        go_wp2_with fail
        go_loopw [18] (fun i wr => ∃ j : Nat, j ≤ n ∧ i = .int .i64 j ∧ SB w2 w2.heap.size (FX j k) (FY j k) wr) (fun i _ => n - (intOf i).toNat)
        case atStart => exact ⟨0, Nat.zero_le _, rfl, by rw [(H00.out k).1, (H00.out k).2]; exact SB.start _ _ _ _⟩
        case round =>
          obtain ⟨j, hj, rfl, hz⟩ := hrel
          by_cases hjl : j < n
          · have hwv := wvP_lt k j
            have HA := Lib.hid (tfPhase_any k j (by omega) (by omega))
            have g1 := HGD.out j (by omega)
            have c1 := keepc (joins HB.out hz.below) (HC.out j hjl).1
            have c2 := keepc (joins HB.out hz.below) (HC.out j hjl).2
            have te := HTE.out k j
            have l3 := HTL.out k j hjl
            have l1 := HXL.out k j (by omega)
            have hxs := HXS.out k j
            obtain ⟨P, hP⟩ : ∃ P, P = wvP k j := ⟨_, rfl⟩
            rw [← hP] at hwv HA te
            obtain ⟨x, hx⟩ : ∃ x, x = gre l j := ⟨_, rfl⟩
            obtain ⟨y, hy⟩ : ∃ x, x = gim l j := ⟨_, rfl⟩
            rw [← hx] at g1 c1 te
            rw [← hy] at g1 c2 te
            obtain ⟨ns, hns⟩ : ∃ ns, ns = -sg := ⟨_, rfl⟩
            have hpr : -3 ≤ ns * (P : Int) ∧ ns * (P : Int) ≤ 3 := by rw [hns]; rcases hsg with rfl | rfl <;> omega
            have HNG := Lib.hid (show IntKind.i64.wrap (-sg) = ns from by rw [hns]; exact IntWalk.i64_in _ (by omega))
            rw [← hns] at te
            obtain ⟨q, hq⟩ : ∃ q, q = ns * (P : Int) := ⟨_, rfl⟩
            rw [← hq] at hpr te
            have HMLT := Lib.hid (show IntKind.i64.wrap (ns * (P : Int)) = q from by rw [← hq]; exact IntWalk.i64_in _ (by omega))
            have hq4 : 0 ≤ q % 4 ∧ q % 4 ≤ 3 := by omega
            have HV := Lib.hid (phValueM_any q (by omega) (by omega))
            have v1 := vx_one (q % 4)
            have v2 := vy_one (q % 4)
            have HM := Lib.hid (phTimesB_any x y (vx (q % 4)) (vy (q % 4)) g1.1 g1.2 (by omega) (by omega))
            have te1 : mulX x y (vx (q % 4)) (vy (q % 4)) = (T k j).1 := by rw [te]; exact mulX_dtT _ _ _
            have te2 : mulY x y (vx (q % 4)) (vy (q % 4)) = (T k j).2 := by rw [te]; exact mulY_dtT _ _ _
            rw [te1, te2] at HM
            have HP := Lib.hid (phPlusB_any (FX j k) (FY j k) (T k j).1 (T k j).2 (by omega) (by omega) (by omega) (by omega))
            rw [← hxs.1, ← hxs.2] at HP
            obtain ⟨X, hX⟩ : ∃ X, X = FX j k := ⟨_, rfl⟩
            obtain ⟨Y, hY⟩ : ∃ X, X = FY j k := ⟨_, rfl⟩
            obtain ⟨X1, hX1⟩ : ∃ X, X = FX (j + 1) k := ⟨_, rfl⟩
            obtain ⟨Y1, hY1⟩ : ∃ X, X = FY (j + 1) k := ⟨_, rfl⟩
            obtain ⟨tx, htx⟩ : ∃ X, X = (T k j).1 := ⟨_, rfl⟩
            obtain ⟨ty, hty⟩ : ∃ X, X = (T k j).2 := ⟨_, rfl⟩
            obtain ⟨a1, ha1⟩ : ∃ X, X = vx (q % 4) := ⟨_, rfl⟩
            obtain ⟨a2, ha2⟩ : ∃ X, X = vy (q % 4) := ⟨_, rfl⟩
            rw [← hX, ← hY, ← hX1, ← hY1, ← htx, ← hty] at HP
            rw [← htx, ← hty, ← ha1, ← ha2] at HM
            rw [← ha1, ← ha2] at HV
            rw [← hX, ← hY] at hz
            have HX1 := Lib.hid (And.intro hX1 hY1)
            have hz1 : SY w2 w2.heap.size X Y wr.heap.size x y (wr.alloc (.cells #[.int .i64 x, .int .i64 y] 25)) :=
              ⟨hz.step (belowa (Below.refl _ _) _), cell_new0 _ _ _ _, cell_new1 _ _ _ _⟩
            have hne1 : (some w2.heap.size : Option Nat) ≠ some wr.heap.size := fun e => by have := hz.lt; have := Option.some.inj e; omega
            have HNE1 := Lib.hid hne1
            obtain ⟨wx, hwx⟩ : ∃ wx, wx = wr.alloc (.cells #[.int .i64 x, .int .i64 y] 25) := ⟨_, rfl⟩
            rw [← hwx] at hz1
            have HWX := Lib.hid hwx
            have HZ1 := Lib.hid hz1
            have hj0 : (0 : Int) ≤ (j : Int) := by omega
            have hj1 : (j : Int) < (n : Int) := by omega
            clear hz hz1 hwx hne1 g1 te l3 l1 hxs hP hx hy hpr hq hns hq4 v1 v2 te1 te2 hX hY hX1 hY1 htx hty ha1 ha2 hwv
            go_wp2_with fail
            rw [← HWX.out]
            clear c1 c2 HWX
            refine wp_region_held_drew (S := (fun w' => World.grownBy wx w' (some (w2.heap.size)))) (by kernel_rfl) (grownDrew (World.grownBy.refl _ _)) ?_
            obtain ⟨d1, hdw⟩ : ∃ w', w' = wx.drew := ⟨_, rfl⟩
            rw [← hdw]
            have hb : Below wx.heap.size wx d1 := by rw [hdw]; exact belowN (Below.refl _ _) 1
            have F1_Z := Lib.hid (HZ1.out.step hb)
            clear hdw hb
            intro hHeld
            refine' wpAnyH_take (i := 1) (v := _) rfl (by kernel_rfl) (by kernel_rfl) (by kernel_rfl) (fun _ _ _ h => h) (Or.inl ⟨by rfl, ?hy1⟩) (by assumption) ?rest1
            case hy1 =>
              intro w h
              have c1 := cellR h HZ1.out.e0 HNE1.out
              have c2 := cellR h HZ1.out.e1 HNE1.out
              (try clear h)
              go_simp
              (try with_reducible rfl)
            (try simp only [Act.put, List.getElem_toArray, List.getElem_cons_zero, List.getElem_cons_succ, List.setIfInBounds_toArray, List.set_cons_zero, List.set_cons_succ])
            refine' wpAnyH_take (i := 2) (v := _) rfl (by kernel_rfl) (by kernel_rfl) (by kernel_rfl) (fun _ _ _ h => h) (Or.inl ⟨by rfl, ?hy2⟩) (by assumption) ?rest2
            case hy2 =>
              intro w h
              (try clear h)
              go_simp
              (try with_reducible rfl)
            (try simp only [Act.put, List.getElem_toArray, List.getElem_cons_zero, List.getElem_cons_succ, List.setIfInBounds_toArray, List.set_cons_zero, List.set_cons_succ])
            refine' wpAnyH_take (i := 3) (v := _) rfl (by kernel_rfl) (by kernel_rfl) (by kernel_rfl) (fun _ _ _ h => h) (Or.inl ⟨by rfl, ?hy3⟩) (by assumption) ?rest3
            case hy3 =>
              intro w h
              have c1 := HNG.out
              (try clear h)
              go_simp
              (try with_reducible rfl)
            (try simp only [Act.put, List.getElem_toArray, List.getElem_cons_zero, List.getElem_cons_succ, List.setIfInBounds_toArray, List.set_cons_zero, List.set_cons_succ])
            refine' wpAnyH_take (i := 4) (v := _) rfl (by kernel_rfl) (by kernel_rfl) (by kernel_rfl) (fun _ _ _ h => h) (Or.inl ⟨by rfl, ?hy4⟩) (by assumption) ?rest4
            case hy4 =>
              intro w h
              (try clear h)
              go_simp
              (try with_reducible rfl)
            (try simp only [Act.put, List.getElem_toArray, List.getElem_cons_zero, List.getElem_cons_succ, List.setIfInBounds_toArray, List.set_cons_zero, List.set_cons_succ])
            refine' wpAnyH_take (i := 5) (v := _) rfl (by kernel_rfl) (by kernel_rfl) (by kernel_rfl) (fun _ _ _ h => h) (Or.inl ⟨by rfl, ?hy5⟩) (by assumption) ?rest5
            case hy5 =>
              intro w h
              (try clear h)
              go_simp
              (try with_reducible rfl)
            (try simp only [Act.put, List.getElem_toArray, List.getElem_cons_zero, List.getElem_cons_succ, List.setIfInBounds_toArray, List.set_cons_zero, List.set_cons_succ])
            refine wpAnyH_ready (rs := [0, 6]) (by kernel_rfl) (by simp) ?_
            refine AllReadyH.cons rfl (fun K hK => ?_) (AllReadyH.cons rfl (fun K hK => ?_) AllReadyH.nil)
            · have c1 := F1_Z.out.sb.d0
              have c2 := F1_Z.out.sb.d1
              go_simp
              refine hK.out _ _ hHeld (fun hHeld => ?_)
              clear hK K
              (try simp only [Act.put, List.getElem_toArray, List.getElem_cons_zero, List.setIfInBounds_toArray, List.set_cons_zero, List.set_cons_succ])
              refine wpAnyH_ready (rs := [6]) (by kernel_rfl) (by simp) ?_
              refine AllReadyH.cons rfl (fun K hK => ?_) AllReadyH.nil
              go_simp
              refine (HA.out _).mono ?_
              rintro e w' ⟨rfl, rfl⟩
              refine hK.out _ _ hHeld (fun hHeld => ?_)
              clear hK K
              (try simp only [Act.put, List.getElem_toArray, List.getElem_cons_zero, List.getElem_cons_succ, List.setIfInBounds_toArray, List.set_cons_zero, List.set_cons_succ])
              refine' wpAnyH_take (i := 7) (v := _) rfl (by kernel_rfl) (by kernel_rfl) (by kernel_rfl) (fun _ _ _ h => h) (Or.inl ⟨by rfl, ?hy6⟩) (by assumption) ?rest6
              case hy6 =>
                intro w h
                have c1 := HMLT.out
                (try clear h)
                go_simp
                (try with_reducible rfl)
              (try simp only [Act.put, List.getElem_toArray, List.getElem_cons_zero, List.getElem_cons_succ, List.setIfInBounds_toArray, List.set_cons_zero, List.set_cons_succ])
              refine wpAnyH_ready (rs := [8]) (by kernel_rfl) (by simp) ?_
              refine AllReadyH.cons rfl (fun K hK => ?_) AllReadyH.nil
              go_simp
              refine (HV.out _).mono ?_
              rintro e d2 ⟨rfl, hb⟩
              have F2_Z := Lib.hid (F1_Z.out.step hb)
              have hHeld := grownB hHeld hb
              clear hb
              refine hK.out _ _ hHeld (fun hHeld => ?_)
              clear hK K
              (try simp only [Act.put, List.getElem_toArray, List.getElem_cons_zero, List.getElem_cons_succ, List.setIfInBounds_toArray, List.set_cons_zero, List.set_cons_succ])
              refine wpAnyH_ready (rs := [9]) (by kernel_rfl) (by simp) ?_
              refine AllReadyH.cons rfl (fun K hK => ?_) AllReadyH.nil
              go_simp
              refine (HM.out _).mono ?_
              rintro e d3 ⟨rfl, hb⟩
              have F3_Z := Lib.hid (F2_Z.out.step hb)
              have hHeld := grownB hHeld hb
              clear hb
              refine hK.out _ _ hHeld (fun hHeld => ?_)
              clear hK K
              (try simp only [Act.put, List.getElem_toArray, List.getElem_cons_zero, List.getElem_cons_succ, List.setIfInBounds_toArray, List.set_cons_zero, List.set_cons_succ])
              refine wpAnyH_ready (rs := [10]) (by kernel_rfl) (by simp) ?_
              refine AllReadyH.cons rfl (fun K hK => ?_) AllReadyH.nil
              go_simp
              refine (HP.out _).mono ?_
              rintro e d4 ⟨rfl, hb⟩
              have F4_Z := Lib.hid (F3_Z.out.step hb)
              have hHeld := grownB hHeld hb
              clear hb
              refine hK.out _ _ hHeld (fun hHeld => ?_)
              clear hK K
              (try simp only [Act.put, List.getElem_toArray, List.getElem_cons_zero, List.getElem_cons_succ, List.setIfInBounds_toArray, List.set_cons_zero, List.set_cons_succ])
              refine wpAnyH_ready (rs := [11]) (by kernel_rfl) (by simp) ?_
              refine AllReadyH.cons rfl (fun K hK => ?_) AllReadyH.nil
              have c1 := F4_Z.out.sb.d0
              have c2 := F4_Z.out.sb.d1
              have f1 := F4_Z.out.sb.g0
              have f2 := F4_Z.out.sb.g1
              go_simp
              refine hK.out _ _ (grownSet (grownSet hHeld _ _) _ _) (fun hHeld => ?_)
              clear hK K
              (try simp only [Act.put])
              refine wpAnyH_done (by kernel_rfl) ?_ _
              have hz4 := SB.store F4_Z.out.sb X1 Y1
              have HZ4 := Lib.hid hz4
              clear hz4
              go_wp2_with fail
              go_roundw
              case rel => exact ⟨j + 1, by omega, by go_num, by rw [← HX1.out.1, ← HX1.out.2]; exact HZ4.out⟩
              case measure => simp [intOf]; omega
            · go_simp
              refine (HA.out _).mono ?_
              rintro e w' ⟨rfl, rfl⟩
              refine hK.out _ _ hHeld (fun hHeld => ?_)
              clear hK K
              (try simp only [Act.put, List.getElem_toArray, List.getElem_cons_zero, List.getElem_cons_succ, List.setIfInBounds_toArray, List.set_cons_zero, List.set_cons_succ])
              refine' wpAnyH_take (i := 7) (v := _) rfl (by kernel_rfl) (by kernel_rfl) (by kernel_rfl) (fun _ _ _ h => h) (Or.inl ⟨by rfl, ?hy107⟩) (by assumption) ?rest107
              case hy107 =>
                intro w h
                have c1 := HMLT.out
                (try clear h)
                go_simp
                (try with_reducible rfl)
              (try simp only [Act.put, List.getElem_toArray, List.getElem_cons_zero, List.getElem_cons_succ, List.setIfInBounds_toArray, List.set_cons_zero, List.set_cons_succ])
              refine wpAnyH_ready (rs := [0, 8]) (by kernel_rfl) (by simp) ?_
              refine AllReadyH.cons rfl (fun K hK => ?_) (AllReadyH.cons rfl (fun K hK => ?_) AllReadyH.nil)
              · have c1 := F1_Z.out.sb.d0
                have c2 := F1_Z.out.sb.d1
                go_simp
                refine hK.out _ _ hHeld (fun hHeld => ?_)
                clear hK K
                (try simp only [Act.put, List.getElem_toArray, List.getElem_cons_zero, List.setIfInBounds_toArray, List.set_cons_zero, List.set_cons_succ])
                refine wpAnyH_ready (rs := [8]) (by kernel_rfl) (by simp) ?_
                refine AllReadyH.cons rfl (fun K hK => ?_) AllReadyH.nil
                go_simp
                refine (HV.out _).mono ?_
                rintro e d2 ⟨rfl, hb⟩
                have F2_Z := Lib.hid (F1_Z.out.step hb)
                have hHeld := grownB hHeld hb
                clear hb
                refine hK.out _ _ hHeld (fun hHeld => ?_)
                clear hK K
                (try simp only [Act.put, List.getElem_toArray, List.getElem_cons_zero, List.getElem_cons_succ, List.setIfInBounds_toArray, List.set_cons_zero, List.set_cons_succ])
                refine wpAnyH_ready (rs := [9]) (by kernel_rfl) (by simp) ?_
                refine AllReadyH.cons rfl (fun K hK => ?_) AllReadyH.nil
                go_simp
                refine (HM.out _).mono ?_
                rintro e d3 ⟨rfl, hb⟩
                have F3_Z := Lib.hid (F2_Z.out.step hb)
                have hHeld := grownB hHeld hb
                clear hb
                refine hK.out _ _ hHeld (fun hHeld => ?_)
                clear hK K
                (try simp only [Act.put, List.getElem_toArray, List.getElem_cons_zero, List.getElem_cons_succ, List.setIfInBounds_toArray, List.set_cons_zero, List.set_cons_succ])
                refine wpAnyH_ready (rs := [10]) (by kernel_rfl) (by simp) ?_
                refine AllReadyH.cons rfl (fun K hK => ?_) AllReadyH.nil
                go_simp
                refine (HP.out _).mono ?_
                rintro e d4 ⟨rfl, hb⟩
                have F4_Z := Lib.hid (F3_Z.out.step hb)
                have hHeld := grownB hHeld hb
                clear hb
                refine hK.out _ _ hHeld (fun hHeld => ?_)
                clear hK K
                (try simp only [Act.put, List.getElem_toArray, List.getElem_cons_zero, List.getElem_cons_succ, List.setIfInBounds_toArray, List.set_cons_zero, List.set_cons_succ])
                refine wpAnyH_ready (rs := [11]) (by kernel_rfl) (by simp) ?_
                refine AllReadyH.cons rfl (fun K hK => ?_) AllReadyH.nil
                have c1 := F4_Z.out.sb.d0
                have c2 := F4_Z.out.sb.d1
                have f1 := F4_Z.out.sb.g0
                have f2 := F4_Z.out.sb.g1
                go_simp
                refine hK.out _ _ (grownSet (grownSet hHeld _ _) _ _) (fun hHeld => ?_)
                clear hK K
                (try simp only [Act.put])
                refine wpAnyH_done (by kernel_rfl) ?_ _
                have hz4 := SB.store F4_Z.out.sb X1 Y1
                have HZ4 := Lib.hid hz4
                clear hz4
                go_wp2_with fail
                go_roundw
                case rel => exact ⟨j + 1, by omega, by go_num, by rw [← HX1.out.1, ← HX1.out.2]; exact HZ4.out⟩
                case measure => simp [intOf]; omega
              · go_simp
                refine (HV.out _).mono ?_
                rintro e d2 ⟨rfl, hb⟩
                have F2_Z := Lib.hid (F1_Z.out.step hb)
                have hHeld := grownB hHeld hb
                clear hb
                refine hK.out _ _ hHeld (fun hHeld => ?_)
                clear hK K
                (try simp only [Act.put, List.getElem_toArray, List.getElem_cons_zero, List.getElem_cons_succ, List.setIfInBounds_toArray, List.set_cons_zero, List.set_cons_succ])
                refine wpAnyH_ready (rs := [0, 9]) (by kernel_rfl) (by simp) ?_
                refine AllReadyH.cons rfl (fun K hK => ?_) (AllReadyH.cons rfl (fun K hK => ?_) AllReadyH.nil)
                · have c1 := F2_Z.out.sb.d0
                  have c2 := F2_Z.out.sb.d1
                  go_simp
                  refine hK.out _ _ hHeld (fun hHeld => ?_)
                  clear hK K
                  (try simp only [Act.put, List.getElem_toArray, List.getElem_cons_zero, List.setIfInBounds_toArray, List.set_cons_zero, List.set_cons_succ])
                  refine wpAnyH_ready (rs := [9]) (by kernel_rfl) (by simp) ?_
                  refine AllReadyH.cons rfl (fun K hK => ?_) AllReadyH.nil
                  go_simp
                  refine (HM.out _).mono ?_
                  rintro e d3 ⟨rfl, hb⟩
                  have F3_Z := Lib.hid (F2_Z.out.step hb)
                  have hHeld := grownB hHeld hb
                  clear hb
                  refine hK.out _ _ hHeld (fun hHeld => ?_)
                  clear hK K
                  (try simp only [Act.put, List.getElem_toArray, List.getElem_cons_zero, List.getElem_cons_succ, List.setIfInBounds_toArray, List.set_cons_zero, List.set_cons_succ])
                  refine wpAnyH_ready (rs := [10]) (by kernel_rfl) (by simp) ?_
                  refine AllReadyH.cons rfl (fun K hK => ?_) AllReadyH.nil
                  go_simp
                  refine (HP.out _).mono ?_
                  rintro e d4 ⟨rfl, hb⟩
                  have F4_Z := Lib.hid (F3_Z.out.step hb)
                  have hHeld := grownB hHeld hb
                  clear hb
                  refine hK.out _ _ hHeld (fun hHeld => ?_)
                  clear hK K
                  (try simp only [Act.put, List.getElem_toArray, List.getElem_cons_zero, List.getElem_cons_succ, List.setIfInBounds_toArray, List.set_cons_zero, List.set_cons_succ])
                  refine wpAnyH_ready (rs := [11]) (by kernel_rfl) (by simp) ?_
                  refine AllReadyH.cons rfl (fun K hK => ?_) AllReadyH.nil
                  have c1 := F4_Z.out.sb.d0
                  have c2 := F4_Z.out.sb.d1
                  have f1 := F4_Z.out.sb.g0
                  have f2 := F4_Z.out.sb.g1
                  go_simp
                  refine hK.out _ _ (grownSet (grownSet hHeld _ _) _ _) (fun hHeld => ?_)
                  clear hK K
                  (try simp only [Act.put])
                  refine wpAnyH_done (by kernel_rfl) ?_ _
                  have hz4 := SB.store F4_Z.out.sb X1 Y1
                  have HZ4 := Lib.hid hz4
                  clear hz4
                  go_wp2_with fail
                  go_roundw
                  case rel => exact ⟨j + 1, by omega, by go_num, by rw [← HX1.out.1, ← HX1.out.2]; exact HZ4.out⟩
                  case measure => simp [intOf]; omega
                · go_simp
                  refine (HM.out _).mono ?_
                  rintro e d3 ⟨rfl, hb⟩
                  have F3_Z := Lib.hid (F2_Z.out.step hb)
                  have hHeld := grownB hHeld hb
                  clear hb
                  refine hK.out _ _ hHeld (fun hHeld => ?_)
                  clear hK K
                  (try simp only [Act.put, List.getElem_toArray, List.getElem_cons_zero, List.getElem_cons_succ, List.setIfInBounds_toArray, List.set_cons_zero, List.set_cons_succ])
                  refine wpAnyH_ready (rs := [0]) (by kernel_rfl) (by simp) ?_
                  refine AllReadyH.cons rfl (fun K hK => ?_) AllReadyH.nil
                  have c1 := F3_Z.out.sb.d0
                  have c2 := F3_Z.out.sb.d1
                  go_simp
                  refine hK.out _ _ hHeld (fun hHeld => ?_)
                  clear hK K
                  (try simp only [Act.put, List.getElem_toArray, List.getElem_cons_zero, List.setIfInBounds_toArray, List.set_cons_zero, List.set_cons_succ])
                  refine wpAnyH_ready (rs := [10]) (by kernel_rfl) (by simp) ?_
                  refine AllReadyH.cons rfl (fun K hK => ?_) AllReadyH.nil
                  go_simp
                  refine (HP.out _).mono ?_
                  rintro e d4 ⟨rfl, hb⟩
                  have F4_Z := Lib.hid (F3_Z.out.step hb)
                  have hHeld := grownB hHeld hb
                  clear hb
                  refine hK.out _ _ hHeld (fun hHeld => ?_)
                  clear hK K
                  (try simp only [Act.put, List.getElem_toArray, List.getElem_cons_zero, List.getElem_cons_succ, List.setIfInBounds_toArray, List.set_cons_zero, List.set_cons_succ])
                  refine wpAnyH_ready (rs := [11]) (by kernel_rfl) (by simp) ?_
                  refine AllReadyH.cons rfl (fun K hK => ?_) AllReadyH.nil
                  have c1 := F4_Z.out.sb.d0
                  have c2 := F4_Z.out.sb.d1
                  have f1 := F4_Z.out.sb.g0
                  have f2 := F4_Z.out.sb.g1
                  go_simp
                  refine hK.out _ _ (grownSet (grownSet hHeld _ _) _ _) (fun hHeld => ?_)
                  clear hK K
                  (try simp only [Act.put])
                  refine wpAnyH_done (by kernel_rfl) ?_ _
                  have hz4 := SB.store F4_Z.out.sb X1 Y1
                  have HZ4 := Lib.hid hz4
                  clear hz4
                  go_wp2_with fail
                  go_roundw
                  case rel => exact ⟨j + 1, by omega, by go_num, by rw [← HX1.out.1, ← HX1.out.2]; exact HZ4.out⟩
                  case measure => simp [intOf]; omega
          · obtain rfl : j = n := by omega
            have hgs := genG_succ k (FX j) (FY j)
            obtain ⟨X, hX⟩ : ∃ X, X = FX j k := ⟨_, rfl⟩
            obtain ⟨Y, hY⟩ : ∃ X, X = FY j k := ⟨_, rfl⟩
            rw [← hX, ← hY] at hz hgs
            have HGS := Lib.hid hgs
            have HBB := Lib.hid (joins HB.out hz.below)
            have HOO := Lib.hid (HO.out.below hz.below)
            have ⟨_, c1, c2, _, _, _, _⟩ := hz
            have HGL := Lib.hid (show (genG k (FX j) (FY j)).length ≤ 1048576 by rw [genG_length]; omega)
            obtain ⟨LK, hLK⟩ : ∃ LK, LK = genG k (FX j) (FY j) := ⟨_, rfl⟩
            rw [← hLK] at HGL HOO HGS
            clear hz hgs hX hY hLK
            go_wp2_with (at_builtin; refine wpList_pushG rfl _ _ rfl w.heap.size _ LK rfl (HOO.out.alloc _) wr.heap.size 1 X Y rfl (cell_new0 _ _ _ _) (cell_new1 _ _ _ _) HGL.out w.heap.size w (HBB.out.alloc HBB.out.size _) (Nat.le_refl _) (by have := HBB.out.size; simp; omega) (by have := HBB.out.size; simp; omega) ?_; intro v3 w3 ho3 hb3)
            go_roundw
            case rel => exact ⟨k + 1, by omega, by go_num, by rw [HGS.out]; exact ho3, hb3⟩
            case measure => simp [intOf]; omega
      · obtain rfl : k = n := by omega
        have HO := Lib.hid hown
        have HB := Lib.hid hbel
        clear hown hbel
        go_wp2_with fail
        go_returns
        exact ⟨_, rfl, HO.out, HB.out⟩
end Go.Proofs.Ytccjmigdebchiaa
