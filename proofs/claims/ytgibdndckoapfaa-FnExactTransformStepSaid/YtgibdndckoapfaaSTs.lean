/- The model's TransformStep. -/
import Derived.Test.YtgibdndckoapfaaSCvH
import Derived.Test.YtgibdndckoapfaaSCr
import Derived.Test.YtgibdndckoapfaaStM
namespace Go.Proofs.Ytgibdndckoapfaa
set_option maxRecDepth 100000
open Go.RowKit

set_option maxRecDepth 100000 in
set_option maxHeartbeats 4000000 in
theorem sstep_1 (v : Value) (l : List (Int × Int)) (w : World) (hv : IG w v l) (hok : tfOk l = true) (hn4 : 4 ≤ l.length) : Calls Try.prog 21 #[v, .int .i64 0] w (MakesGB w (if goodL (spL l 1) then spL l 1 else []) (goodL (spL l 1))) := by
  have HS := Lib.hid (tfSignal_any v l w hv)
  rw [hok] at HS
  have hlen := tfOk_len hok
  have hsz := tfOk_sz hok
  have hgd := fun i hi => good_at hok i hi
  have hpp := fun k j hk hj => sp_index (n := l.length) (s := 1) (by omega) (by rcases tfSz_cases hsz with e | e | e <;> omega) k j hk hj
  have htl := fun k j hk hj => spT_le (s := 1) hgd (by omega) (by rcases tfSz_cases hsz with e | e | e <;> omega) k j hk hj
  have hxl := fun k j hk hj => spX_le (s := 1) hgd (by omega) (by rcases tfSz_cases hsz with e | e | e <;> omega) k j hk hj
  rcases hv with ⟨rfl, _⟩ | ⟨_, bb, off, cap, rfl, _, hc⟩
  · simp at hlen
  · obtain ⟨L, hL⟩ : ∃ L, L = spL l 1 := ⟨_, rfl⟩
    rw [← hL]
    obtain ⟨L2, hL2⟩ : ∃ L2, L2 = (if goodL L then L else []) := ⟨_, rfl⟩
    obtain ⟨q, hq⟩ : ∃ q, q = goodL L := ⟨_, rfl⟩
    rw [← hL2, ← hq]
    obtain ⟨n, hn⟩ : ∃ n, n = l.length := ⟨_, rfl⟩
    have hdl : L = genG n (spX l 1 4) (spY l 1 4) := by rw [hL, hn]; rfl
    rw [← hn] at hc hgd hpp htl hxl hlen hn4 HS ⊢
    have HTE := Lib.hid (show ∀ k j, spT l 1 k j = dtT ((3 * (k / 1 % 4 * j) % 4 : Nat) : Int) (gre l (k / (4 * 1) * (4 * 1) + k % 1 + j * 1), gim l (k / (4 * 1) * (4 * 1) + k % 1 + j * 1)) from fun _ _ => rfl)
    have HXS := Lib.hid (show ∀ k j, spX l 1 (j + 1) k = spX l 1 j k + (spT l 1 k j).1 ∧ spY l 1 (j + 1) k = spY l 1 j k + (spT l 1 k j).2 from fun _ _ => ⟨rfl, rfl⟩)
    have H00 := Lib.hid (show ∀ k, spX l 1 0 k = 0 ∧ spY l 1 0 k = 0 from fun _ => ⟨rfl, rfl⟩)
    simp only [Nat.div_one] at HTE
    obtain ⟨T, hT⟩ : ∃ T, T = spT l 1 := ⟨_, rfl⟩
    obtain ⟨FX, hFX⟩ : ∃ T, T = spX l 1 := ⟨_, rfl⟩
    obtain ⟨FY, hFY⟩ : ∃ T, T = spY l 1 := ⟨_, rfl⟩
    rw [← hT] at htl HTE HXS
    rw [← hFX, ← hFY] at hxl HXS H00 hdl
    have HTL := Lib.hid htl
    have HXL := Lib.hid hxl
    have HPP := Lib.hid hpp
    have HGD := Lib.hid hgd
    have HC := Lib.hid hc
    have HL := Lib.hid (And.intro hdl (And.intro hL2 hq))
    have HI := Lib.hid (l1In_any 0 0 1)
    rw [show inB 0 0 1 = true from rfl] at HI
    obtain ⟨hl1, hl2⟩ := hlen
    have hn1 : ((n : Int) == 1) = false := by simp; omega
    have hn16 : ¬ (n : Int) < 4 := by omega
    clear hn hc hT hFX hFY hgd hdl hok hsz hpp htl hxl hL hL2 hq
    go_enter Try.func21, Try.ntmps21
    go_wp2_with fail
    refine (HS.out).mono ?_
    rintro e w1 ⟨rfl, hb⟩
    have HB1 := Lib.hid hb
    clear hb
    go_wp2_with fail
    refine (HI.out _).mono ?_
    rintro e w2 ⟨rfl, rfl⟩
    go_wp2_with fail
    go_loopw [38, 7] (fun i o wr => ∃ k : Nat, k ≤ n ∧ i = .int .i64 k ∧ OwnG wr w.heap.size o (genG k (FX 4) (FY 4)) ∧ Below w.heap.size w wr) (fun i _ _ => n - (intOf i).toNat)
    case atStart => exact ⟨0, Nat.zero_le _, rfl, OwnG.nil _ _, HB1.out⟩
    case round =>
      obtain ⟨k, hk, rfl, hown, hbel⟩ := hrel
      by_cases hlt : k < n
      · have h0 : (0 : Int) ≤ (k : Int) := by omega
        have h1 : (k : Int) < (n : Int) := by omega
        obtain ⟨w2, hw2⟩ : ∃ w2, w2 = wr := ⟨_, rfl⟩
        rw [← hw2]
        rw [← hw2] at hown hbel
        have HB := Lib.hid hbel
        have HO := Lib.hid hown
        clear hown hbel hw2
        obtain ⟨dg, hdg⟩ : ∃ dg, dg = k % 4 := ⟨_, rfl⟩
        have hdg4 : dg ≤ 3 := by omega
        have HDG := Lib.hid (show (dg : Int) = (k : Int) % 4 by rw [hdg]; omega)
        have HNN := Lib.hid hdg
        clear hdg
        go_wp2_with fail
        rw [← HDG.out]
        go_loopw [11] (fun i wr => ∃ j : Nat, j ≤ 4 ∧ i = .int .i64 j ∧ SB w2 w2.heap.size (FX j k) (FY j k) wr) (fun i _ => 4 - (intOf i).toNat)
        case atStart => exact ⟨0, Nat.zero_le _, rfl, by rw [(H00.out k).1, (H00.out k).2]; exact SB.start _ _ _ _⟩
        case round =>
          obtain ⟨j, hj, rfl, hz⟩ := hrel
          by_cases hjl : j < 4
          · have hP := HPP.out k j hlt hjl
            obtain ⟨P, hPd⟩ : ∃ P, P = k / (4 * 1) * (4 * 1) + k % 1 + j * 1 := ⟨_, rfl⟩
            rw [← hPd] at hP
            have g1 := HGD.out P hP
            have c1 := keepc (joins HB.out hz.below) (HC.out P hP).1
            have c2 := keepc (joins HB.out hz.below) (HC.out P hP).2
            have te := HTE.out k j
            rw [← hPd] at te
            have l3 := HTL.out k j hlt hjl
            have l1 := HXL.out k j hlt (by omega)
            have hxs := HXS.out k j
            obtain ⟨x, hx⟩ : ∃ x, x = gre l P := ⟨_, rfl⟩
            obtain ⟨y, hy⟩ : ∃ x, x = gim l P := ⟨_, rfl⟩
            rw [← hx] at g1 c1 te
            rw [← hy] at g1 c2 te
            have hdj : dg * j ≤ 9 := Nat.mul_le_mul hdg4 (show j ≤ 3 by omega)
            obtain ⟨u, hu⟩ : ∃ u, u = dg * j := ⟨_, rfl⟩
            have hui : (-(dg : Int)) * (j : Int) = -(u : Int) := by rw [hu, Int.natCast_mul, Int.neg_mul]
            rw [show k % 4 = dg from HNN.out.symm, ← hu] at te
            rw [← hu] at hdj
            have hE3 : (k : Int) + ((j : Int) - dg) * 1 = (P : Int) := by rw [hPd, HNN.out]; omega
            obtain ⟨e1, he1⟩ : ∃ e1 : Int, e1 = (j : Int) - dg := ⟨_, rfl⟩
            have HE1 := Lib.hid (show IntKind.i64.wrap ((j : Int) - (dg : Int)) = e1 from by rw [he1]; exact IntWalk.i64_in _ (by omega))
            rw [← he1] at hE3
            obtain ⟨e2, he2⟩ : ∃ e2 : Int, e2 = e1 * 1 := ⟨_, rfl⟩
            rw [← he2] at hE3
            have hE2 : IntKind.i64.wrap (e1 * 1) = e2 := by rw [← he2]; exact IntWalk.i64_in _ (by omega)
            have hE2b : IntKind.i64.wrap e1 = e1 := IntWalk.i64_in _ (by omega)
            have HE2 := Lib.hid (show IntKind.i64.wrap (e1 * 1) = e2 ∧ IntKind.i64.wrap e1 = e2 from ⟨hE2, by rw [hE2b, he2, Int.mul_one]⟩)
            have HE3 := Lib.hid (show IntKind.i64.wrap ((k : Int) + e2) = (P : Int) from by rw [hE3]; exact IntWalk.i64_in _ (by omega))
            obtain ⟨nd, hnd⟩ : ∃ nd : Int, nd = -(dg : Int) := ⟨_, rfl⟩
            have HND := Lib.hid (show IntKind.i64.wrap (-(dg : Int)) = nd from by rw [hnd]; exact IntWalk.i64_in _ (by omega))
            rw [← hnd] at hui
            obtain ⟨q, hq⟩ : ∃ q : Int, q = -(u : Int) := ⟨_, rfl⟩
            have HMQ := Lib.hid (show IntKind.i64.wrap (nd * (j : Int)) = q from by rw [hui, ← hq]; exact IntWalk.i64_in _ (by omega))
            have hq4 : q % 4 = ((3 * u % 4 : Nat) : Int) := by omega
            have HV := Lib.hid (phValueM_any q (by omega) (by omega))
            rw [hq4] at HV
            have v1 := vx_one ((3 * u % 4 : Nat) : Int)
            have v2 := vy_one ((3 * u % 4 : Nat) : Int)
            have HM := Lib.hid (phTimesB_any x y (vx ((3 * u % 4 : Nat) : Int)) (vy ((3 * u % 4 : Nat) : Int)) g1.1 g1.2 (by omega) (by omega))
            have te1 : mulX x y (vx ((3 * u % 4 : Nat) : Int)) (vy ((3 * u % 4 : Nat) : Int)) = (T k j).1 := by rw [te]; exact mulX_dtT _ _ _
            have te2 : mulY x y (vx ((3 * u % 4 : Nat) : Int)) (vy ((3 * u % 4 : Nat) : Int)) = (T k j).2 := by rw [te]; exact mulY_dtT _ _ _
            rw [te1, te2] at HM
            have HP := Lib.hid (phPlusB_any (FX j k) (FY j k) (T k j).1 (T k j).2 (by omega) (by omega) (by omega) (by omega))
            rw [← hxs.1, ← hxs.2] at HP
            obtain ⟨X, hX⟩ : ∃ X, X = FX j k := ⟨_, rfl⟩
            obtain ⟨Y, hY⟩ : ∃ X, X = FY j k := ⟨_, rfl⟩
            obtain ⟨X1, hX1⟩ : ∃ X, X = FX (j + 1) k := ⟨_, rfl⟩
            obtain ⟨Y1, hY1⟩ : ∃ X, X = FY (j + 1) k := ⟨_, rfl⟩
            obtain ⟨tx, htx⟩ : ∃ X, X = (T k j).1 := ⟨_, rfl⟩
            obtain ⟨ty, hty⟩ : ∃ X, X = (T k j).2 := ⟨_, rfl⟩
            obtain ⟨a1, ha1⟩ : ∃ X, X = vx ((3 * u % 4 : Nat) : Int) := ⟨_, rfl⟩
            obtain ⟨a2, ha2⟩ : ∃ X, X = vy ((3 * u % 4 : Nat) : Int) := ⟨_, rfl⟩
            rw [← hX, ← hY, ← hX1, ← hY1, ← htx, ← hty] at HP
            rw [← htx, ← hty, ← ha1, ← ha2] at HM
            rw [← ha1, ← ha2] at HV
            rw [← hX, ← hY] at hz
            have HX1 := Lib.hid (And.intro hX1 hY1)
            have HNE1 := Lib.hid (show (some w2.heap.size : Option Nat) ≠ some bb from fun e => by
              have h := World.block_lt_of_cell? w _ (HC.out P hP).1
              have h2 : bb < w.heap.size := h
              have h3 := HB.out.size
              have := Option.some.inj e
              omega)
            have HC1 := Lib.hid c1
            have HC2 := Lib.hid c2
            have HZ1 := Lib.hid hz
            have hj0 : (0 : Int) ≤ (j : Int) := by omega
            have hj1 : (j : Int) < 4 := by omega
            have hp0 : (0 : Int) ≤ (P : Int) := by omega
            have hp1 : (P : Int) < (n : Int) := by omega
            clear hz g1 te l3 l1 hxs hx hy hX hY hX1 hY1 htx hty ha1 ha2 v1 v2 te1 te2 hq hq4 hnd hui hu hdj hE2 hE2b hE3 he1 he2 hPd c1 c2
            go_wp2_with fail
            refine wp_region_held_drew (S := (fun w' => World.grownBy wr w' (some (w2.heap.size)))) (by kernel_rfl) (grownDrew (World.grownBy.refl _ _)) ?_
            obtain ⟨d1, hdw⟩ : ∃ w', w' = wr.drew := ⟨_, rfl⟩
            rw [← hdw]
            have hb : Below wr.heap.size wr d1 := by rw [hdw]; exact belowN (Below.refl _ _) 1
            have F1_Z := Lib.hid (HZ1.out.step hb)
            clear hdw hb
            intro hHeld
            refine' wpAnyH_take (i := 1) (v := _) rfl (by kernel_rfl) (by kernel_rfl) (by kernel_rfl) (fun _ _ _ h => h) (Or.inl ⟨by rfl, ?hy1⟩) (by assumption) ?rest1
            case hy1 =>
              intro w h
              (try clear h)
              go_simp
              (try with_reducible rfl)
            (try simp only [Act.put, List.getElem_toArray, List.getElem_cons_zero, List.getElem_cons_succ, List.setIfInBounds_toArray, List.set_cons_zero, List.set_cons_succ])
            refine' wpAnyH_take (i := 2) (v := _) rfl (by kernel_rfl) (by kernel_rfl) (by kernel_rfl) (fun _ _ _ h => h) (Or.inl ⟨by rfl, ?hy2⟩) (by assumption) ?rest2
            case hy2 =>
              intro w h
              (try clear h)
              go_simp
              (try with_reducible rfl)
            (try simp only [Act.put, List.getElem_toArray, List.getElem_cons_zero, List.getElem_cons_succ, List.setIfInBounds_toArray, List.set_cons_zero, List.set_cons_succ])
            refine' wpAnyH_take (i := 3) (v := _) rfl (by kernel_rfl) (by kernel_rfl) (by kernel_rfl) (fun _ _ _ h => h) (Or.inl ⟨by rfl, ?hy3⟩) (by assumption) ?rest3
            case hy3 =>
              intro w h
              (try clear h)
              go_simp
              (try with_reducible rfl)
            (try simp only [Act.put, List.getElem_toArray, List.getElem_cons_zero, List.getElem_cons_succ, List.setIfInBounds_toArray, List.set_cons_zero, List.set_cons_succ])
            refine' wpAnyH_take (i := 4) (v := _) rfl (by kernel_rfl) (by kernel_rfl) (by kernel_rfl) (fun _ _ _ h => h) (Or.inl ⟨by rfl, ?hy4⟩) (by assumption) ?rest4
            case hy4 =>
              intro w h
              (try clear h)
              go_simp
              (try with_reducible rfl)
            (try simp only [Act.put, List.getElem_toArray, List.getElem_cons_zero, List.getElem_cons_succ, List.setIfInBounds_toArray, List.set_cons_zero, List.set_cons_succ])
            refine' wpAnyH_take (i := 5) (v := _) rfl (by kernel_rfl) (by kernel_rfl) (by kernel_rfl) (fun _ _ _ h => h) (Or.inl ⟨by rfl, ?hy5⟩) (by assumption) ?rest5
            case hy5 =>
              intro w h
              have c1 := HE1.out
              (try clear h)
              go_simp
              (try with_reducible rfl)
            (try simp only [Act.put, List.getElem_toArray, List.getElem_cons_zero, List.getElem_cons_succ, List.setIfInBounds_toArray, List.set_cons_zero, List.set_cons_succ])
            refine' wpAnyH_take (i := 6) (v := _) rfl (by kernel_rfl) (by kernel_rfl) (by kernel_rfl) (fun _ _ _ h => h) (Or.inl ⟨by rfl, ?hy6⟩) (by assumption) ?rest6
            case hy6 =>
              intro w h
              (try clear h)
              go_simp
              (try with_reducible rfl)
            (try simp only [Act.put, List.getElem_toArray, List.getElem_cons_zero, List.getElem_cons_succ, List.setIfInBounds_toArray, List.set_cons_zero, List.set_cons_succ])
            refine' wpAnyH_take (i := 7) (v := _) rfl (by kernel_rfl) (by kernel_rfl) (by kernel_rfl) (fun _ _ _ h => h) (Or.inl ⟨by rfl, ?hy7⟩) (by assumption) ?rest7
            case hy7 =>
              intro w h
              have ⟨c1, c2⟩ := HE2.out
              (try clear h)
              go_simp
              (try with_reducible rfl)
            (try simp only [Act.put, List.getElem_toArray, List.getElem_cons_zero, List.getElem_cons_succ, List.setIfInBounds_toArray, List.set_cons_zero, List.set_cons_succ])
            refine' wpAnyH_take (i := 8) (v := _) rfl (by kernel_rfl) (by kernel_rfl) (by kernel_rfl) (fun _ _ _ h => h) (Or.inl ⟨by rfl, ?hy8⟩) (by assumption) ?rest8
            case hy8 =>
              intro w h
              have c1 := HE3.out
              (try clear h)
              go_simp
              (try with_reducible rfl)
            (try simp only [Act.put, List.getElem_toArray, List.getElem_cons_zero, List.getElem_cons_succ, List.setIfInBounds_toArray, List.set_cons_zero, List.set_cons_succ])
            refine' wpAnyH_take (i := 9) (v := _) rfl (by kernel_rfl) (by kernel_rfl) (by kernel_rfl) (fun _ _ _ h => h) (Or.inl ⟨by rfl, ?hy9⟩) (by assumption) ?rest9
            case hy9 =>
              intro w h
              (try clear h)
              go_simp
              (try with_reducible rfl)
            (try simp only [Act.put, List.getElem_toArray, List.getElem_cons_zero, List.getElem_cons_succ, List.setIfInBounds_toArray, List.set_cons_zero, List.set_cons_succ])
            refine' wpAnyH_take (i := 10) (v := _) rfl (by kernel_rfl) (by kernel_rfl) (by kernel_rfl) (fun _ _ _ h => h) (Or.inl ⟨by rfl, ?hy10⟩) (by assumption) ?rest10
            case hy10 =>
              intro w h
              have c1 := cellR h HC1.out HNE1.out
              have c2 := cellR h HC2.out HNE1.out
              (try clear h)
              go_simp
              (try with_reducible rfl)
            (try simp only [Act.put, List.getElem_toArray, List.getElem_cons_zero, List.getElem_cons_succ, List.setIfInBounds_toArray, List.set_cons_zero, List.set_cons_succ])
            refine' wpAnyH_take (i := 11) (v := _) rfl (by kernel_rfl) (by kernel_rfl) (by kernel_rfl) (fun _ _ _ h => h) (Or.inl ⟨by rfl, ?hy11⟩) (by assumption) ?rest11
            case hy11 =>
              intro w h
              (try clear h)
              go_simp
              (try with_reducible rfl)
            (try simp only [Act.put, List.getElem_toArray, List.getElem_cons_zero, List.getElem_cons_succ, List.setIfInBounds_toArray, List.set_cons_zero, List.set_cons_succ])
            refine' wpAnyH_take (i := 12) (v := _) rfl (by kernel_rfl) (by kernel_rfl) (by kernel_rfl) (fun _ _ _ h => h) (Or.inl ⟨by rfl, ?hy12⟩) (by assumption) ?rest12
            case hy12 =>
              intro w h
              have c1 := HND.out
              (try clear h)
              go_simp
              (try with_reducible rfl)
            (try simp only [Act.put, List.getElem_toArray, List.getElem_cons_zero, List.getElem_cons_succ, List.setIfInBounds_toArray, List.set_cons_zero, List.set_cons_succ])
            refine' wpAnyH_take (i := 13) (v := _) rfl (by kernel_rfl) (by kernel_rfl) (by kernel_rfl) (fun _ _ _ h => h) (Or.inl ⟨by rfl, ?hy13⟩) (by assumption) ?rest13
            case hy13 =>
              intro w h
              (try clear h)
              go_simp
              (try with_reducible rfl)
            (try simp only [Act.put, List.getElem_toArray, List.getElem_cons_zero, List.getElem_cons_succ, List.setIfInBounds_toArray, List.set_cons_zero, List.set_cons_succ])
            refine' wpAnyH_take (i := 14) (v := _) rfl (by kernel_rfl) (by kernel_rfl) (by kernel_rfl) (fun _ _ _ h => h) (Or.inl ⟨by rfl, ?hy14⟩) (by assumption) ?rest14
            case hy14 =>
              intro w h
              have c1 := HMQ.out
              (try clear h)
              go_simp
              (try with_reducible rfl)
            (try simp only [Act.put, List.getElem_toArray, List.getElem_cons_zero, List.getElem_cons_succ, List.setIfInBounds_toArray, List.set_cons_zero, List.set_cons_succ])
            refine wpAnyH_ready (rs := [0, 15]) (by kernel_rfl) (by simp) ?_
            refine AllReadyH.cons rfl (fun K hK => ?_) (AllReadyH.cons rfl (fun K hK => ?_) AllReadyH.nil)
            · have c1 := F1_Z.out.d0
              have c2 := F1_Z.out.d1
              go_simp
              refine hK.out _ _ hHeld (fun hHeld => ?_)
              clear hK K
              (try simp only [Act.put, List.getElem_toArray, List.getElem_cons_zero, List.setIfInBounds_toArray, List.set_cons_zero, List.set_cons_succ])
              refine wpAnyH_ready (rs := [15]) (by kernel_rfl) (by simp) ?_
              refine AllReadyH.cons rfl (fun K hK => ?_) AllReadyH.nil
              go_simp
              refine (HV.out _).mono ?_
              rintro e d2 ⟨rfl, hb⟩
              have F2_Z := Lib.hid (F1_Z.out.step hb)
              have hHeld := grownB hHeld hb
              clear hb
              refine hK.out _ _ hHeld (fun hHeld => ?_)
              clear hK K
              (try simp only [Act.put, List.getElem_toArray, List.getElem_cons_zero, List.getElem_cons_succ, List.setIfInBounds_toArray, List.set_cons_zero, List.set_cons_succ])
              refine wpAnyH_ready (rs := [16]) (by kernel_rfl) (by simp) ?_
              refine AllReadyH.cons rfl (fun K hK => ?_) AllReadyH.nil
              go_simp
              refine (HM.out _).mono ?_
              rintro e d3 ⟨rfl, hb⟩
              have F3_Z := Lib.hid (F2_Z.out.step hb)
              have hHeld := grownB hHeld hb
              clear hb
              refine hK.out _ _ hHeld (fun hHeld => ?_)
              clear hK K
              (try simp only [Act.put, List.getElem_toArray, List.getElem_cons_zero, List.getElem_cons_succ, List.setIfInBounds_toArray, List.set_cons_zero, List.set_cons_succ])
              refine wpAnyH_ready (rs := [17]) (by kernel_rfl) (by simp) ?_
              refine AllReadyH.cons rfl (fun K hK => ?_) AllReadyH.nil
              go_simp
              refine (HP.out _).mono ?_
              rintro e d4 ⟨rfl, hb⟩
              have F4_Z := Lib.hid (F3_Z.out.step hb)
              have hHeld := grownB hHeld hb
              clear hb
              refine hK.out _ _ hHeld (fun hHeld => ?_)
              clear hK K
              (try simp only [Act.put, List.getElem_toArray, List.getElem_cons_zero, List.getElem_cons_succ, List.setIfInBounds_toArray, List.set_cons_zero, List.set_cons_succ])
              refine wpAnyH_ready (rs := [18]) (by kernel_rfl) (by simp) ?_
              refine AllReadyH.cons rfl (fun K hK => ?_) AllReadyH.nil
              have c1 := F4_Z.out.d0
              have c2 := F4_Z.out.d1
              have f1 := F4_Z.out.g0
              have f2 := F4_Z.out.g1
              go_simp
              refine hK.out _ _ (grownSet (grownSet hHeld _ _) _ _) (fun hHeld => ?_)
              clear hK K
              (try simp only [Act.put])
              refine wpAnyH_done (by kernel_rfl) ?_ _
              have hz4 := SB.store F4_Z.out X1 Y1
              have HZ4 := Lib.hid hz4
              clear hz4
              go_wp2_with fail
              go_roundw
              case rel => exact ⟨j + 1, by omega, by go_num, by rw [← HX1.out.1, ← HX1.out.2]; exact HZ4.out⟩
              case measure => simp [intOf]; omega
            · go_simp
              refine (HV.out _).mono ?_
              rintro e d2 ⟨rfl, hb⟩
              have F2_Z := Lib.hid (F1_Z.out.step hb)
              have hHeld := grownB hHeld hb
              clear hb
              refine hK.out _ _ hHeld (fun hHeld => ?_)
              clear hK K
              (try simp only [Act.put, List.getElem_toArray, List.getElem_cons_zero, List.getElem_cons_succ, List.setIfInBounds_toArray, List.set_cons_zero, List.set_cons_succ])
              refine wpAnyH_ready (rs := [0, 16]) (by kernel_rfl) (by simp) ?_
              refine AllReadyH.cons rfl (fun K hK => ?_) (AllReadyH.cons rfl (fun K hK => ?_) AllReadyH.nil)
              · have c1 := F2_Z.out.d0
                have c2 := F2_Z.out.d1
                go_simp
                refine hK.out _ _ hHeld (fun hHeld => ?_)
                clear hK K
                (try simp only [Act.put, List.getElem_toArray, List.getElem_cons_zero, List.setIfInBounds_toArray, List.set_cons_zero, List.set_cons_succ])
                refine wpAnyH_ready (rs := [16]) (by kernel_rfl) (by simp) ?_
                refine AllReadyH.cons rfl (fun K hK => ?_) AllReadyH.nil
                go_simp
                refine (HM.out _).mono ?_
                rintro e d3 ⟨rfl, hb⟩
                have F3_Z := Lib.hid (F2_Z.out.step hb)
                have hHeld := grownB hHeld hb
                clear hb
                refine hK.out _ _ hHeld (fun hHeld => ?_)
                clear hK K
                (try simp only [Act.put, List.getElem_toArray, List.getElem_cons_zero, List.getElem_cons_succ, List.setIfInBounds_toArray, List.set_cons_zero, List.set_cons_succ])
                refine wpAnyH_ready (rs := [17]) (by kernel_rfl) (by simp) ?_
                refine AllReadyH.cons rfl (fun K hK => ?_) AllReadyH.nil
                go_simp
                refine (HP.out _).mono ?_
                rintro e d4 ⟨rfl, hb⟩
                have F4_Z := Lib.hid (F3_Z.out.step hb)
                have hHeld := grownB hHeld hb
                clear hb
                refine hK.out _ _ hHeld (fun hHeld => ?_)
                clear hK K
                (try simp only [Act.put, List.getElem_toArray, List.getElem_cons_zero, List.getElem_cons_succ, List.setIfInBounds_toArray, List.set_cons_zero, List.set_cons_succ])
                refine wpAnyH_ready (rs := [18]) (by kernel_rfl) (by simp) ?_
                refine AllReadyH.cons rfl (fun K hK => ?_) AllReadyH.nil
                have c1 := F4_Z.out.d0
                have c2 := F4_Z.out.d1
                have f1 := F4_Z.out.g0
                have f2 := F4_Z.out.g1
                go_simp
                refine hK.out _ _ (grownSet (grownSet hHeld _ _) _ _) (fun hHeld => ?_)
                clear hK K
                (try simp only [Act.put])
                refine wpAnyH_done (by kernel_rfl) ?_ _
                have hz4 := SB.store F4_Z.out X1 Y1
                have HZ4 := Lib.hid hz4
                clear hz4
                go_wp2_with fail
                go_roundw
                case rel => exact ⟨j + 1, by omega, by go_num, by rw [← HX1.out.1, ← HX1.out.2]; exact HZ4.out⟩
                case measure => simp [intOf]; omega
              · go_simp
                refine (HM.out _).mono ?_
                rintro e d3 ⟨rfl, hb⟩
                have F3_Z := Lib.hid (F2_Z.out.step hb)
                have hHeld := grownB hHeld hb
                clear hb
                refine hK.out _ _ hHeld (fun hHeld => ?_)
                clear hK K
                (try simp only [Act.put, List.getElem_toArray, List.getElem_cons_zero, List.getElem_cons_succ, List.setIfInBounds_toArray, List.set_cons_zero, List.set_cons_succ])
                refine wpAnyH_ready (rs := [0]) (by kernel_rfl) (by simp) ?_
                refine AllReadyH.cons rfl (fun K hK => ?_) AllReadyH.nil
                have c1 := F3_Z.out.d0
                have c2 := F3_Z.out.d1
                go_simp
                refine hK.out _ _ hHeld (fun hHeld => ?_)
                clear hK K
                (try simp only [Act.put, List.getElem_toArray, List.getElem_cons_zero, List.setIfInBounds_toArray, List.set_cons_zero, List.set_cons_succ])
                refine wpAnyH_ready (rs := [17]) (by kernel_rfl) (by simp) ?_
                refine AllReadyH.cons rfl (fun K hK => ?_) AllReadyH.nil
                go_simp
                refine (HP.out _).mono ?_
                rintro e d4 ⟨rfl, hb⟩
                have F4_Z := Lib.hid (F3_Z.out.step hb)
                have hHeld := grownB hHeld hb
                clear hb
                refine hK.out _ _ hHeld (fun hHeld => ?_)
                clear hK K
                (try simp only [Act.put, List.getElem_toArray, List.getElem_cons_zero, List.getElem_cons_succ, List.setIfInBounds_toArray, List.set_cons_zero, List.set_cons_succ])
                refine wpAnyH_ready (rs := [18]) (by kernel_rfl) (by simp) ?_
                refine AllReadyH.cons rfl (fun K hK => ?_) AllReadyH.nil
                have c1 := F4_Z.out.d0
                have c2 := F4_Z.out.d1
                have f1 := F4_Z.out.g0
                have f2 := F4_Z.out.g1
                go_simp
                refine hK.out _ _ (grownSet (grownSet hHeld _ _) _ _) (fun hHeld => ?_)
                clear hK K
                (try simp only [Act.put])
                refine wpAnyH_done (by kernel_rfl) ?_ _
                have hz4 := SB.store F4_Z.out X1 Y1
                have HZ4 := Lib.hid hz4
                clear hz4
                go_wp2_with fail
                go_roundw
                case rel => exact ⟨j + 1, by omega, by go_num, by rw [← HX1.out.1, ← HX1.out.2]; exact HZ4.out⟩
                case measure => simp [intOf]; omega
          · obtain rfl : j = 4 := by omega
            have hgs := genG_succ k (FX 4) (FY 4)
            obtain ⟨X, hX⟩ : ∃ X, X = FX 4 k := ⟨_, rfl⟩
            obtain ⟨Y, hY⟩ : ∃ X, X = FY 4 k := ⟨_, rfl⟩
            rw [← hX, ← hY] at hz hgs
            have HGS := Lib.hid hgs
            have HBB := Lib.hid (joins HB.out hz.below)
            have HOO := Lib.hid (HO.out.below hz.below)
            have ⟨_, c1, c2, _, _, _, _⟩ := hz
            have HGL := Lib.hid (show (genG k (FX 4) (FY 4)).length ≤ 1048576 by rw [genG_length]; omega)
            obtain ⟨LK, hLK⟩ : ∃ LK, LK = genG k (FX 4) (FY 4) := ⟨_, rfl⟩
            rw [← hLK] at HGL HOO HGS
            clear hz hgs hX hY hLK
            go_wp2_with (at_builtin; refine wpList_pushG rfl _ _ rfl w.heap.size _ LK rfl (HOO.out.alloc _) wr.heap.size 1 X Y rfl (cell_new0 _ _ _ _) (cell_new1 _ _ _ _) HGL.out w.heap.size w (HBB.out.alloc HBB.out.size _) (Nat.le_refl _) (by have := HBB.out.size; simp; omega) (by have := HBB.out.size; simp; omega) ?_; intro v3 w3 ho3 hb3)
            go_roundw
            case rel => exact ⟨k + 1, by omega, by go_num, by rw [HGS.out]; exact ho3, hb3⟩
            case measure => simp [intOf]; omega
      · obtain rfl : k = n := by omega
        have hO : OwnG wr w.heap.size _ _ := hown
        rw [← HL.out.1] at hO
        have HOG := Lib.hid hO
        have HV := Lib.hid (tfWhole_any _ L wr hO.is)
        rw [← HL.out.2.2] at HV
        have HB := Lib.hid hbel
        clear hO hown hbel
        go_wp2_with fail
        refine (HV.out).mono ?_
        rintro e w4 ⟨rfl, hb⟩
        cases q with
        | true =>
          rw [if_pos rfl]
          have HE := Lib.hid (show L2 = L by rw [HL.out.2.1, ← HL.out.2.2]; rfl)
          have HOG1 := Lib.hid (HOG.out.below hb)
          have HB4 := Lib.hid (joins HB.out hb)
          clear hb
          go_wp2_with fail
          go_returns
          refine ⟨_, rfl, ?_, HB4.out⟩
          rw [HE.out]
          exact HOG1.out
        | false =>
          rw [if_neg Bool.false_ne_true]
          have HE := Lib.hid (show L2 = [] by rw [HL.out.2.1, ← HL.out.2.2]; rfl)
          have HB4 := Lib.hid (joins HB.out hb)
          clear hb
          go_wp2_with fail
          go_returns
          refine ⟨_, rfl, ?_, HB4.out⟩
          rw [HE.out]
          exact OwnG.nil _ _
end Go.Proofs.Ytgibdndckoapfaa
