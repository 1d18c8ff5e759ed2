/- The program's TurnPoints. -/
import Derived.Test.YtoehehaeanepmabIMd
import Derived.Test.YtoehehaeanepmabRg
namespace Go.Proofs.Ytoehehaeanepmab
set_option maxRecDepth 100000
open Go.RowKit

set_option maxHeartbeats 1000000 in
theorem isPhaseT_any (k : Int) (w : World) : Calls Try.prog 43 #[.int .i64 k] w (Pure w (.bool (inB k 0 3))) := by
  go_enter Try.func43, Try.ntmps43
  go_wp2
  all_goals
    go_ret
    exact ⟨ret_bool (by simp only [inB]; simp; omega), rfl⟩
/-- The first j numbers are turned. -/
def tnC (j : Nat) (C D : Nat → Nat × Nat) : Nat → Nat × Nat := fun i => if i < j then D i else C i
theorem tnC_set (j : Nat) (C D : Nat → Nat × Nat) : setC (tnC j C D) j (D j) = tnC (j + 1) C D := by
  funext i
  unfold setC tnC
  by_cases e : i = j
  · subst e; simp
  · rw [if_neg e]
    by_cases h : i < j
    · rw [if_pos h, if_pos (by omega)]
    · rw [if_neg h, if_neg (by omega)]
theorem tnC_zero (C D : Nat → Nat × Nat) : tnC 0 C D = C := by
  funext i; unfold tnC; rw [if_neg (Nat.not_lt_zero _)]
theorem tnC_all (n : Nat) (C D : Nat → Nat × Nat) : cxL n (tnC n C D) = cxL n D := cxL_ext (fun i h => by unfold tnC; rw [if_pos h])
set_option maxRecDepth 100000 in
set_option maxHeartbeats 4000000 in
theorem iTurnPoints (v : Value) (l : List (Int × Int)) (k : Int) (w : World) (hv : IG w v l) (hlen : l.length ≤ 1048576) : Calls Try.prog 21 #[v, .int .i64 k] w (MakesGB w (tpF l k) (tpOk l k)) := by
  have hok : tpOk l k = (sgOk l && inB k 0 3) := rfl
  have HP := Lib.hid (pointsFrom_any v l w hv hlen)
  have HPH := Lib.hid (isPhaseT_any k)
  obtain ⟨a, cap, hveq⟩ := hv.slice
  subst hveq
  cases hs : sgOk l with
  | false =>
    have ho : tpOk l k = false := by rw [hok, hs]; rfl
    have hf : tpF l k = [] := by unfold tpF; rw [ho]; rfl
    rw [ho, hf]
    rw [hs] at HP
    obtain ⟨n, hn⟩ : ∃ n, n = l.length := ⟨_, rfl⟩
    obtain ⟨D, hD⟩ : ∃ D, D = fbC (gre l) (gim l) := ⟨_, rfl⟩
    rw [← hn, ← hD] at HP
    rw [← hn]
    clear ho hf hok hs hv hn hlen hD
    go_enter Try.func21, Try.ntmps21
    go_wp2_with fail
    refine (HP.out).mono ?_
    rintro e w1 ⟨hb, ⟨h, _⟩ | ⟨_, rfl⟩⟩
    · cases h
    go_wp2_with fail
    go_returns
    exact ⟨_, rfl, OwnG.nil _ _, hb⟩
  | true =>
    rw [hs] at HP
    cases hk : inB k 0 3 with
    | false =>
      have ho : tpOk l k = false := by rw [hok, hs, hk]; rfl
      have hf : tpF l k = [] := by unfold tpF; rw [ho]; rfl
      rw [ho, hf]
      rw [hk] at HPH
      obtain ⟨n, hn⟩ : ∃ n, n = l.length := ⟨_, rfl⟩
      obtain ⟨D, hD⟩ : ∃ D, D = fbC (gre l) (gim l) := ⟨_, rfl⟩
      rw [← hn, ← hD] at HP
      rw [← hn]
      clear ho hf hok hs hv hn hlen hD hk
      go_enter Try.func21, Try.ntmps21
      go_wp2_with fail
      refine (HP.out).mono ?_
      rintro e w1 ⟨hb, ⟨_, g, rfl, hrow⟩ | ⟨h, _⟩⟩
      · go_wp2_with (refine (HPH.out _).mono ?_; rintro e w' ⟨rfl, rfl⟩)
        go_returns
        exact ⟨_, rfl, OwnG.nil _ _, hb⟩
      · cases h
    | true =>
      have ho : tpOk l k = true := by rw [hok, hs, hk]; rfl
      have hf : tpF l k = tuL l k := by unfold tpF; rw [ho]; rfl
      have hk2 : 0 ≤ k ∧ k ≤ 3 := by simpa [inB] using hk
      have hgl := sgOk_good hs
      have h48 := sgOk_len hs
      rw [ho, hf]
      rw [hk] at HPH
      have HVk := Lib.hid (valueOf_any k hk2.1 hk2.2)
      obtain ⟨D, hD⟩ : ∃ D, D = fbC (gre l) (gim l) := ⟨_, rfl⟩
      have hcz : CZ D (gre l) (gim l) l.length := by rw [hD]; exact fbC_ok (gre l) (gim l) l.length (fun i hi => goodL_at hgl i hi)
      obtain ⟨DD, hDD⟩ : ∃ E : Nat → Nat × Nat, E = fun i => mulC (D i).1 (D i).2 (f32of (vx k)) (f32of (vy k)) := ⟨_, rfl⟩
      have hmt := fun (i : Nat) (hi : i < l.length) => mulC_turn (hcz i hi).1 (hcz i hi).2 (good_in (goodL_at hgl i hi)).1 (good_in (goodL_at hgl i hi)).2 k hk2
      have hcz2 : CZ DD (tuX (gre l) (gim l) k) (tuY (gre l) (gim l) k) l.length := fun i hi => by rw [hDD]; exact (hmt i hi).2
      have hgt := tuL_good hgl hk2
      have HLI := Lib.hid (fun g B w (hr : RowC w B g l.length DD) => listG_any g l.length B DD (tuX (gre l) (gim l) k) (tuY (gre l) (gim l) k) hcz2 hgt (by omega) w hr)
      have HMT := Lib.hid (fun i hi => (hmt i hi).1)
      obtain ⟨L, hL⟩ : ∃ L, L = tuL l k := ⟨_, rfl⟩
      rw [show genG l.length (tuX (gre l) (gim l) k) (tuY (gre l) (gim l) k) = L from hL.symm] at HLI
      rw [← hL]
      obtain ⟨p, hp⟩ : ∃ u, u = f32of (vx k) := ⟨_, rfl⟩
      obtain ⟨q, hq⟩ : ∃ u, u = f32of (vy k) := ⟨_, rfl⟩
      rw [← hp, ← hq] at HVk HMT hDD
      have HDD := Lib.hid (fun j => show DD j = mulC (D j).1 (D j).2 p q by rw [hDD])
      rw [← hD] at HP
      obtain ⟨n, hn⟩ : ∃ n, n = l.length := ⟨_, rfl⟩
      rw [← hn] at HP HMT HLI h48 ⊢
      have hn48 : (n : Int) ≤ 48 := by omega
      obtain ⟨hk1, hk3⟩ := hk2
      clear ho hf hok hs hv hn hlen hD hk hgl hcz hDD hmt hcz2 hgt hL hp hq
      go_enter Try.func21, Try.ntmps21
      go_wp2_with fail
      refine (HP.out).mono ?_
      rintro e w1 ⟨hb, ⟨_, g, rfl, hrow⟩ | ⟨h, _⟩⟩
      · have HGE := Lib.hid hrow.lt.1
        have HR0 := Lib.hid (show RowC w1 w.heap.size g n (tnC 0 D DD) from by rw [tnC_zero]; exact hrow)
        have HB0 := Lib.hid hb
        clear hb hrow
        go_wp2_with (refine (HPH.out _).mono ?_; rintro e w' ⟨rfl, rfl⟩)
        go_loopw [23, 8] (fun i _ wr => ∃ j : Nat, j ≤ n ∧ i = .int .i64 j ∧ RowC wr w.heap.size g n (tnC j D DD) ∧ Below w.heap.size w wr) (fun i _ _ => n - (intOf i).toNat)
        case atStart => exact ⟨0, Nat.zero_le _, rfl, HR0.out, HB0.out⟩
        case round =>
          obtain ⟨j, hj, rfl, hrow, hbel⟩ := hrel
          have HB := Lib.hid hbel
          have HR := Lib.hid hrow
          by_cases hlt : j < n
          · have hcs := hrow.cell j hlt
            rw [show tnC j D DD j = D j from if_neg (Nat.lt_irrefl _)] at hcs
            have hm := HMT.out j hlt
            have hdj := HDD.out j
            rw [← hdj] at hm
            obtain ⟨x1, hx1⟩ : ∃ r, r = (D j).1 := ⟨_, rfl⟩
            obtain ⟨x2, hx2⟩ : ∃ r, r = (D j).2 := ⟨_, rfl⟩
            obtain ⟨r1, hr1⟩ : ∃ r, r = (DD j).1 := ⟨_, rfl⟩
            obtain ⟨r2, hr2⟩ : ∃ r, r = (DD j).2 := ⟨_, rfl⟩
            rw [← hx1, ← hx2] at hcs hm
            rw [← hr1, ← hr2] at hm
            have HMU := Lib.hid (fun w t => run_complex_mul32 (P := Try.prog) w t _ _ _ _ _ _ hm)
            have HDJ := Lib.hid (show DD j = (r1, r2) by rw [hr1, hr2])
            have CS := Lib.hid hcs
            have h0 : (0 : Int) ≤ (j : Int) := by omega
            have h1 : (j : Int) < (n : Int) := by omega
            clear hcs hm hdj hx1 hx2 hr1 hr2 hrow hbel
            go_wp2_with fail
            refine wp_region_held_drew (S := (fun w' => World.grownBy wr w' (some (g)))) (by kernel_rfl) (grownDrew (World.grownBy.refl _ _)) ?_
            obtain ⟨d1, hdw⟩ : ∃ w', w' = wr.drew := ⟨_, rfl⟩
            rw [← hdw]
            have hb : Below wr.heap.size wr d1 := by rw [hdw]; exact belowN (Below.refl _ _) 1
            have F1_CS := Lib.hid (keepc hb CS.out)
            have F1_HR := Lib.hid (RowC.below HR.out hb)
            have F1_HB := Lib.hid (joins HB.out hb)
            clear hdw hb
            intro hHeld
            refine' wpAnyH_take (i := 0) (v := _) rfl (by kernel_rfl) (by kernel_rfl) (by kernel_rfl) (fun _ _ _ h => h) (Or.inl ⟨by rfl, ?hy1⟩) (by assumption) ?rest1
            case hy1 =>
              intro w h
              (try clear h)
              go_simp
              (try with_reducible rfl)
            (try simp only [Act.put, List.getElem_toArray, List.getElem_cons_zero, List.setIfInBounds_toArray, List.set_cons_zero, List.set_cons_succ])
            refine' wpAnyH_take (i := 1) (v := _) rfl (by kernel_rfl) (by kernel_rfl) (by kernel_rfl) (fun _ _ _ h => h) (Or.inl ⟨by rfl, ?hy2⟩) (by assumption) ?rest2
            case hy2 =>
              intro w h
              (try clear h)
              go_simp
              (try with_reducible rfl)
            (try simp only [Act.put, List.getElem_toArray, List.getElem_cons_zero, List.getElem_cons_succ, List.setIfInBounds_toArray, List.set_cons_zero, List.set_cons_succ])
            refine' wpAnyH_take (i := 2) (v := _) rfl (by kernel_rfl) (by kernel_rfl) (by kernel_rfl) (fun _ _ _ h => h) (Or.inl ⟨by rfl, ?hy3⟩) (by assumption) ?rest3
            case hy3 =>
              intro w h
              (try clear h)
              go_simp
              (try with_reducible rfl)
            (try simp only [Act.put, List.getElem_toArray, List.getElem_cons_zero, List.getElem_cons_succ, List.setIfInBounds_toArray, List.set_cons_zero, List.set_cons_succ])
            refine' wpAnyH_take (i := 4) (v := _) rfl (by kernel_rfl) (by kernel_rfl) (by kernel_rfl) (fun _ _ _ h => h) (Or.inl ⟨by rfl, ?hy4⟩) (by assumption) ?rest4
            case hy4 =>
              intro w h
              (try clear h)
              go_simp
              (try with_reducible rfl)
            (try simp only [Act.put, List.getElem_toArray, List.getElem_cons_zero, List.getElem_cons_succ, List.setIfInBounds_toArray, List.set_cons_zero, List.set_cons_succ])
            refine wpAnyH_ready (rs := [3, 5]) (by kernel_rfl) (by simp) ?_
            refine AllReadyH.cons rfl (fun K hK => ?_) (AllReadyH.cons rfl (fun K hK => ?_) AllReadyH.nil)
            · have c1 := F1_CS.out
              go_simp
              refine hK.out _ _ hHeld (fun hHeld => ?_)
              clear hK K
              (try simp only [Act.put, List.getElem_toArray, List.getElem_cons_zero, List.getElem_cons_succ, List.setIfInBounds_toArray, List.set_cons_zero, List.set_cons_succ])
              refine wpAnyH_ready (rs := [5]) (by kernel_rfl) (by simp) ?_
              refine AllReadyH.cons rfl (fun K hK => ?_) AllReadyH.nil
              go_simp
              refine (HVk.out _).mono ?_
              rintro e d2 ⟨rfl, hb⟩
              have F2_CS := Lib.hid (keepc hb F1_CS.out)
              have F2_HR := Lib.hid (RowC.below F1_HR.out hb)
              have F2_HB := Lib.hid (joins F1_HB.out hb)
              have hHeld := grownB hHeld hb
              clear hb
              refine hK.out _ _ hHeld (fun hHeld => ?_)
              clear hK K
              (try simp only [Act.put, List.getElem_toArray, List.getElem_cons_zero, List.getElem_cons_succ, List.setIfInBounds_toArray, List.set_cons_zero, List.set_cons_succ])
              refine' wpAnyH_take (i := 6) (v := _) rfl (by kernel_rfl) (by kernel_rfl) (by kernel_rfl) (fun _ _ _ h => h) (Or.inl ⟨by rfl, ?hy5⟩) (by assumption) ?rest5
              case hy5 =>
                intro w h
                have c1 := HMU.out
                (try clear h)
                go_simp
                (try with_reducible rfl)
              (try simp only [Act.put, List.getElem_toArray, List.getElem_cons_zero, List.getElem_cons_succ, List.setIfInBounds_toArray, List.set_cons_zero, List.set_cons_succ])
              refine' wpAnyH_take (i := 7) (v := _) rfl (by kernel_rfl) (by kernel_rfl) (by kernel_rfl) (fun _ _ _ h => h) (Or.inl ⟨by rfl, ?hy6⟩) (by assumption) ?rest6
              case hy6 =>
                intro w h
                (try clear h)
                go_simp
                (try with_reducible rfl)
              (try simp only [Act.put, List.getElem_toArray, List.getElem_cons_zero, List.getElem_cons_succ, List.setIfInBounds_toArray, List.set_cons_zero, List.set_cons_succ])
              refine wpAnyH_ready (rs := [8]) (by kernel_rfl) (by simp) ?_
              refine AllReadyH.cons rfl (fun K hK => ?_) AllReadyH.nil
              have c1 := F2_CS.out
              have f1 := World.ownsRow.frozenAt F2_HR.out j
              have hst := @store_complex Try.prog
              go_simp
              refine hK.out _ _ (grownSet hHeld _ _) (fun hHeld => ?_)
              clear hK K
              (try simp only [Act.put])
              refine wpAnyH_done (by kernel_rfl) ?_ _
              go_wp2_with fail
              go_roundw
              case rel =>
                have hs := F2_HR.out.set j (DD j)
                rw [tnC_set] at hs
                rw [HDJ.out] at hs
                exact ⟨j + 1, by omega, by go_num, hs, belows F2_HB.out HGE.out _⟩
              case measure => simp [intOf]; omega
            · go_simp
              refine (HVk.out _).mono ?_
              rintro e d2 ⟨rfl, hb⟩
              have F2_CS := Lib.hid (keepc hb F1_CS.out)
              have F2_HR := Lib.hid (RowC.below F1_HR.out hb)
              have F2_HB := Lib.hid (joins F1_HB.out hb)
              have hHeld := grownB hHeld hb
              clear hb
              refine hK.out _ _ hHeld (fun hHeld => ?_)
              clear hK K
              (try simp only [Act.put, List.getElem_toArray, List.getElem_cons_zero, List.getElem_cons_succ, List.setIfInBounds_toArray, List.set_cons_zero, List.set_cons_succ])
              refine wpAnyH_ready (rs := [3]) (by kernel_rfl) (by simp) ?_
              refine AllReadyH.cons rfl (fun K hK => ?_) AllReadyH.nil
              have c1 := F2_CS.out
              go_simp
              refine hK.out _ _ hHeld (fun hHeld => ?_)
              clear hK K
              (try simp only [Act.put, List.getElem_toArray, List.getElem_cons_zero, List.getElem_cons_succ, List.setIfInBounds_toArray, List.set_cons_zero, List.set_cons_succ])
              refine' wpAnyH_take (i := 6) (v := _) rfl (by kernel_rfl) (by kernel_rfl) (by kernel_rfl) (fun _ _ _ h => h) (Or.inl ⟨by rfl, ?hy107⟩) (by assumption) ?rest107
              case hy107 =>
                intro w h
                have c1 := HMU.out
                (try clear h)
                go_simp
                (try with_reducible rfl)
              (try simp only [Act.put, List.getElem_toArray, List.getElem_cons_zero, List.getElem_cons_succ, List.setIfInBounds_toArray, List.set_cons_zero, List.set_cons_succ])
              refine' wpAnyH_take (i := 7) (v := _) rfl (by kernel_rfl) (by kernel_rfl) (by kernel_rfl) (fun _ _ _ h => h) (Or.inl ⟨by rfl, ?hy108⟩) (by assumption) ?rest108
              case hy108 =>
                intro w h
                (try clear h)
                go_simp
                (try with_reducible rfl)
              (try simp only [Act.put, List.getElem_toArray, List.getElem_cons_zero, List.getElem_cons_succ, List.setIfInBounds_toArray, List.set_cons_zero, List.set_cons_succ])
              refine wpAnyH_ready (rs := [8]) (by kernel_rfl) (by simp) ?_
              refine AllReadyH.cons rfl (fun K hK => ?_) AllReadyH.nil
              have c1 := F2_CS.out
              have f1 := World.ownsRow.frozenAt F2_HR.out j
              have hst := @store_complex Try.prog
              go_simp
              refine hK.out _ _ (grownSet hHeld _ _) (fun hHeld => ?_)
              clear hK K
              (try simp only [Act.put])
              refine wpAnyH_done (by kernel_rfl) ?_ _
              go_wp2_with fail
              go_roundw
              case rel =>
                have hs := F2_HR.out.set j (DD j)
                rw [tnC_set] at hs
                rw [HDJ.out] at hs
                exact ⟨j + 1, by omega, by go_num, hs, belows F2_HB.out HGE.out _⟩
              case measure => simp [intOf]; omega
          · obtain rfl : j = n := by omega
            have hro : RowC wr w.heap.size g j DD := by
              unfold RowC at hrow ⊢
              rw [tnC_all] at hrow
              exact hrow
            have HL := Lib.hid (HLI.out g _ wr hro)
            clear hrow hbel hro
            go_wp2_with fail
            refine (HL.out).mono ?_
            rintro e w2 ⟨v2, rfl, ho2, hb2⟩
            have HB2 := Lib.hid (joins HB.out hb2)
            have HO2 := Lib.hid (OwnG.mono ho2 HB.out.size)
            clear ho2 hb2
            go_wp2_with fail
            go_returns
            exact ⟨_, rfl, HO2.out, HB2.out⟩
      · cases h
end Go.Proofs.Ytoehehaeanepmab
