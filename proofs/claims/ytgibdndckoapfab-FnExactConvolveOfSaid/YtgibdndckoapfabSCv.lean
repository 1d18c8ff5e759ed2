/- The model's ConvolveOf. -/
import Derived.Test.YtgibdndckoapfabSCvH
namespace Go.Proofs.Ytgibdndckoapfab
set_option maxRecDepth 100000
open Go.RowKit

set_option maxRecDepth 100000 in
set_option maxHeartbeats 4000000 in
theorem sconvolveOf (va vb : Value) (a b : List (Int × Int)) (w : World) (hva : IG w va a) (hvb : IG w vb b) : Calls Try.prog 14 #[va, vb] w (MakesGB w (cvA a b) (cvOk a b)) := by
  have HT := Lib.hid (tfTwo_any va vb a b w hva hvb)
  cases h : twOk a b with
  | false =>
    rw [h] at HT
    have e1 : cvOk a b = false := by unfold cvOk; rw [h]; rfl
    have e2 : cvA a b = [] := by unfold cvA; rw [e1]; rfl
    rw [e1, e2]
    clear e1 e2 h hva hvb
    go_enter Try.func14, Try.ntmps14
    go_wp2_with fail
    refine (HT.out).mono ?_
    rintro e w1 ⟨rfl, hb⟩
    have HB := Lib.hid hb
    clear hb
    go_wp2_with fail
    go_returns
    exact ⟨_, rfl, OwnG.nil _ _, HB.out⟩
  | true =>
    rw [h] at HT
    obtain ⟨hta, htb, hab⟩ := twOk_parts h
    have hlen := tfOk_len hta
    have hsz := tfOk_sz hta
    have hle := fun u x => cv_le h u x
    have hga := fun i hi => good_at hta i hi
    have hgb := fun i hi => good_at htb i hi
    rcases hva with ⟨rfl, _⟩ | ⟨_, ba, oa, ca, rfl, _, hca⟩
    · simp at hlen
    rcases hvb with ⟨rfl, _⟩ | ⟨_, bb, ob, cb, rfl, _, hcb⟩
    · rw [hab] at hlen; simp at hlen
    have e1 : cvOk a b = goodL (sumL (cvX a b) (cvY a b) a.length) := by unfold cvOk; rw [h]; rfl
    have e2 : cvA a b = if goodL (sumL (cvX a b) (cvY a b) a.length) then sumL (cvX a b) (cvY a b) a.length else [] := by unfold cvA; rw [e1]
    rw [e1, e2]
    obtain ⟨n, hn⟩ : ∃ n, n = a.length := ⟨_, rfl⟩
    rw [← hab] at hgb hcb HT ⊢
    rw [← hn] at hlen hsz hle hga hgb hca hcb HT ⊢
    obtain ⟨hl1, hl2⟩ := hlen
    obtain ⟨T, hT⟩ : ∃ T, T = cvX a b := ⟨_, rfl⟩
    obtain ⟨S, hS⟩ : ∃ T, T = cvY a b := ⟨_, rfl⟩
    rw [← hT, ← hS] at hle ⊢
    obtain ⟨L, hL⟩ : ∃ L, L = sumL T S n := ⟨_, rfl⟩
    rw [← hL]
    obtain ⟨A1, hA1⟩ : ∃ A1, A1 = gre a := ⟨_, rfl⟩
    obtain ⟨A2, hA2⟩ : ∃ A1, A1 = gim a := ⟨_, rfl⟩
    obtain ⟨B1, hB1⟩ : ∃ A1, A1 = gre b := ⟨_, rfl⟩
    obtain ⟨B2, hB2⟩ : ∃ A1, A1 = gim b := ⟨_, rfl⟩
    have hTe : ∀ u x, T u x = mulX (A1 x) (A2 x) (B1 (sbP u x)) (B2 (sbP u x)) := fun u x => by rw [hT, hA1, hA2, hB1, hB2]; rfl
    have hSe : ∀ u x, S u x = mulY (A1 x) (A2 x) (B1 (sbP u x)) (B2 (sbP u x)) := fun u x => by rw [hS, hA1, hA2, hB1, hB2]; rfl
    rw [← hA1, ← hA2] at hga hca
    rw [← hB1, ← hB2] at hgb hcb
    have HTE := Lib.hid (And.intro hTe hSe)
    have HLE := Lib.hid hle
    have HSZ := Lib.hid hsz
    have HG := Lib.hid (And.intro hga hgb)
    have HCA := Lib.hid hca
    have HCB := Lib.hid hcb
    have HL := Lib.hid hL
    obtain ⟨L2, hL2⟩ : ∃ L2, L2 = (if goodL L then L else []) := ⟨_, rfl⟩
    obtain ⟨q, hq⟩ : ∃ q, q = goodL L := ⟨_, rfl⟩
    rw [← hL2, ← hq]
    have HL2 := Lib.hid (And.intro hL2 hq)
    clear e1 e2 h hab hta htb hn hT hS hA1 hA2 hB1 hB2 hTe hSe hga hgb hca hcb hle hsz hL hL2 hq
    go_enter Try.func14, Try.ntmps14
    go_wp2_with fail
    refine (HT.out).mono ?_
    rintro e w1 ⟨rfl, hb⟩
    have HB1 := Lib.hid hb
    clear hb
    go_wp2_with fail
    go_loopw [17, 6] (fun i o wr => ∃ k : Nat, k ≤ n ∧ i = .int .i64 k ∧ OwnG wr w.heap.size o (genG k (fun u => sumN (T u) n) (fun u => sumN (S u) n)) ∧ Below w.heap.size w wr) (fun i _ _ => n - (intOf i).toNat)
    case atStart => exact ⟨0, Nat.zero_le _, rfl, OwnG.nil _ _, HB1.out⟩
    case round =>
      obtain ⟨k, hk, rfl, hown, hbel⟩ := hrel
      by_cases hlt : k < n
      · have h0 : (0 : Int) ≤ (k : Int) := by omega
        have h1 : (k : Int) < (n : Int) := by omega
        obtain ⟨w2, hw2⟩ : ∃ w2, w2 = wr := ⟨_, rfl⟩
        rw [← hw2]
        rw [← hw2] at hown hbel
        have HB := Lib.hid hbel
        have HO := Lib.hid hown
        clear hown hbel hw2
        go_wp2_with fail
        go_loopw [23] (fun i wr => ∃ j : Nat, j ≤ n ∧ i = .int .i64 j ∧ SB w2 w2.heap.size (sumN (T k) j) (sumN (S k) j) wr) (fun i _ => n - (intOf i).toNat)
        case atStart => exact ⟨0, Nat.zero_le _, rfl, SB.start _ _ _ _⟩
        case round =>
          obtain ⟨j, hj, rfl, hz⟩ := hrel
          by_cases hjl : j < n
          · have hsz := HSZ.out
            have hp := sbP_lt hsz k j hlt hjl
            have HA := Lib.hid (tfAdd_minus k j (by omega) (by omega))
            have g1 := HG.out.1 j (by omega)
            have g2 := HG.out.2 (sbP k j) (by omega)
            have c1 := keepc (joins HB.out hz.below) (HCA.out j (by omega)).1
            have c2 := keepc (joins HB.out hz.below) (HCA.out j (by omega)).2
            have c3 := keepc (joins HB.out hz.below) (HCB.out (sbP k j) (by omega)).1
            have c4 := keepc (joins HB.out hz.below) (HCB.out (sbP k j) (by omega)).2
            have t1 := HTE.out.1 k j
            have t2 := HTE.out.2 k j
            have l1 := sumT_le (T k) n hl2 (fun x hx => (HLE.out k x hlt hx).1) j (by omega)
            have l2 := sumT_le (S k) n hl2 (fun x hx => (HLE.out k x hlt hx).2) j (by omega)
            have l3 := HLE.out k j hlt hjl
            have s1 : sumN (T k) (j + 1) = sumN (T k) j + T k j := rfl
            have s2 : sumN (S k) (j + 1) = sumN (S k) j + S k j := rfl
            obtain ⟨P, hP⟩ : ∃ P, P = sbP k j := ⟨_, rfl⟩
            rw [← hP] at hp HA g2 c3 c4 t1 t2
            obtain ⟨x, hx⟩ : ∃ x, x = A1 j := ⟨_, rfl⟩
            obtain ⟨y, hy⟩ : ∃ x, x = A2 j := ⟨_, rfl⟩
            obtain ⟨u, hu⟩ : ∃ x, x = B1 P := ⟨_, rfl⟩
            obtain ⟨v, hv⟩ : ∃ x, x = B2 P := ⟨_, rfl⟩
            rw [← hx] at g1 c1 t1 t2
            rw [← hy] at g1 c2 t1 t2
            rw [← hu] at g2 c3 t1 t2
            rw [← hv] at g2 c4 t1 t2
            have HM := Lib.hid (phTimesB_any x y u v g1.1 g1.2 g2.1 (by omega))
            have HP := Lib.hid (phPlusB_any (sumN (T k) j) (sumN (S k) j) (T k j) (S k j) (by omega) (by omega) (by omega) (by omega))
            rw [← t1, ← t2] at HM
            rw [← s1, ← s2] at HP
            obtain ⟨X, hX⟩ : ∃ X, X = sumN (T k) j := ⟨_, rfl⟩
            obtain ⟨Y, hY⟩ : ∃ X, X = sumN (S k) j := ⟨_, rfl⟩
            obtain ⟨X1, hX1⟩ : ∃ X, X = sumN (T k) (j + 1) := ⟨_, rfl⟩
            obtain ⟨Y1, hY1⟩ : ∃ X, X = sumN (S k) (j + 1) := ⟨_, rfl⟩
            obtain ⟨tx, htx⟩ : ∃ X, X = T k j := ⟨_, rfl⟩
            obtain ⟨ty, hty⟩ : ∃ X, X = S k j := ⟨_, rfl⟩
            rw [← hX, ← hY, ← hX1, ← hY1, ← htx, ← hty] at HP
            rw [← htx, ← hty] at HM
            rw [← hX, ← hY] at hz
            have HX1 := Lib.hid (And.intro hX1 hY1)
            have hz1 : SC w2 w2.heap.size X Y wr.heap.size x y bb (ob + P * 2) u v (wr.alloc (.cells #[.int .i64 x, .int .i64 y] 45)) :=
              ⟨hz.step (belowa (Below.refl _ _) _), cell_new0 _ _ _ _, cell_new1 _ _ _ _, keepc (belowa (Below.refl _ _) _) c3, keepc (belowa (Below.refl _ _) _) c4⟩
            have hne1 : (some w2.heap.size : Option Nat) ≠ some wr.heap.size := fun e => by have := hz.lt; have := Option.some.inj e; omega
            have hne2 : (some w2.heap.size : Option Nat) ≠ some bb := fun e => by have := World.block_lt_of_cell? w _ (HCB.out P (by omega)).1; have := HB.out.size; have := Option.some.inj e; simp at *; omega
            have HNE1 := Lib.hid hne1
            have HNE2 := Lib.hid hne2
            obtain ⟨wx, hwx⟩ : ∃ wx, wx = wr.alloc (.cells #[.int .i64 x, .int .i64 y] 45) := ⟨_, rfl⟩
            rw [← hwx] at hz1
            have HWX := Lib.hid hwx
            have HZ1 := Lib.hid hz1
            have hj0 : (0 : Int) ≤ (j : Int) := by omega
            have hj1 : (j : Int) < (n : Int) := by omega
            have hp0 : (0 : Int) ≤ (P : Int) := by omega
            have hp1 : (P : Int) < (n : Int) := by omega
            clear hz hz1 hwx hne1 hne2 hsz hp g1 g2 t1 t2 l1 l2 l3 s1 s2 hP hx hy hu hv hX hY hX1 hY1 htx hty c3 c4
            go_wp2_with fail
            rw [← HWX.out]
            clear c1 c2 HWX
            refine wp_region_held_drew (S := (fun w' => World.grownBy wx w' (some (w2.heap.size)))) (by kernel_rfl) (grownDrew (World.grownBy.refl _ _)) ?_
            obtain ⟨d1, hdw⟩ : ∃ w', w' = wx.drew := ⟨_, rfl⟩
            rw [← hdw]
            have hb : Below wx.heap.size wx d1 := by rw [hdw]; exact belowN (Below.refl _ _) 1
            have F1_Z := Lib.hid (HZ1.out.step hb)
            clear hdw hb
            intro hHeld
            refine' wpAnyH_take (i := 1) (v := _) rfl (by kernel_rfl) (by kernel_rfl) (by kernel_rfl) (fun _ _ _ h => h) (Or.inl ⟨by rfl, ?hy1⟩) (by assumption) ?rest1
            case hy1 =>
              intro w h
              have c1 := cellR h HZ1.out.e0 HNE1.out
              have c2 := cellR h HZ1.out.e1 HNE1.out
              (try clear h)
              go_simp
              (try with_reducible rfl)
            (try simp only [Act.put, List.getElem_toArray, List.getElem_cons_zero, List.getElem_cons_succ, List.setIfInBounds_toArray, List.set_cons_zero, List.set_cons_succ])
            refine' wpAnyH_take (i := 2) (v := _) rfl (by kernel_rfl) (by kernel_rfl) (by kernel_rfl) (fun _ _ _ h => h) (Or.inl ⟨by rfl, ?hy2⟩) (by assumption) ?rest2
            case hy2 =>
              intro w h
              (try clear h)
              go_simp
              (try with_reducible rfl)
            (try simp only [Act.put, List.getElem_toArray, List.getElem_cons_zero, List.getElem_cons_succ, List.setIfInBounds_toArray, List.set_cons_zero, List.set_cons_succ])
            refine' wpAnyH_take (i := 3) (v := _) rfl (by kernel_rfl) (by kernel_rfl) (by kernel_rfl) (fun _ _ _ h => h) (Or.inl ⟨by rfl, ?hy3⟩) (by assumption) ?rest3
            case hy3 =>
              intro w h
              (try clear h)
              go_simp
              (try with_reducible rfl)
            (try simp only [Act.put, List.getElem_toArray, List.getElem_cons_zero, List.getElem_cons_succ, List.setIfInBounds_toArray, List.set_cons_zero, List.set_cons_succ])
            refine' wpAnyH_take (i := 4) (v := _) rfl (by kernel_rfl) (by kernel_rfl) (by kernel_rfl) (fun _ _ _ h => h) (Or.inl ⟨by rfl, ?hy4⟩) (by assumption) ?rest4
            case hy4 =>
              intro w h
              (try clear h)
              go_simp
              (try with_reducible rfl)
            (try simp only [Act.put, List.getElem_toArray, List.getElem_cons_zero, List.getElem_cons_succ, List.setIfInBounds_toArray, List.set_cons_zero, List.set_cons_succ])
            refine wpAnyH_ready (rs := [0, 5]) (by kernel_rfl) (by simp) ?_
            refine AllReadyH.cons rfl (fun K hK => ?_) (AllReadyH.cons rfl (fun K hK => ?_) AllReadyH.nil)
            · have c1 := F1_Z.out.sb.d0
              have c2 := F1_Z.out.sb.d1
              go_simp
              refine hK.out _ _ hHeld (fun hHeld => ?_)
              clear hK K
              (try simp only [Act.put, List.getElem_toArray, List.getElem_cons_zero, List.setIfInBounds_toArray, List.set_cons_zero, List.set_cons_succ])
              refine wpAnyH_ready (rs := [5]) (by kernel_rfl) (by simp) ?_
              refine AllReadyH.cons rfl (fun K hK => ?_) AllReadyH.nil
              go_simp
              refine (HA.out _).mono ?_
              rintro e w' ⟨rfl, rfl⟩
              refine hK.out _ _ hHeld (fun hHeld => ?_)
              clear hK K
              (try simp only [Act.put, List.getElem_toArray, List.getElem_cons_zero, List.getElem_cons_succ, List.setIfInBounds_toArray, List.set_cons_zero, List.set_cons_succ])
              refine' wpAnyH_take (i := 6) (v := _) rfl (by kernel_rfl) (by kernel_rfl) (by kernel_rfl) (fun _ _ _ h => h) (Or.inl ⟨by rfl, ?hy5⟩) (by assumption) ?rest5
              case hy5 =>
                intro w h
                (try clear h)
                go_simp
                (try with_reducible rfl)
              (try simp only [Act.put, List.getElem_toArray, List.getElem_cons_zero, List.getElem_cons_succ, List.setIfInBounds_toArray, List.set_cons_zero, List.set_cons_succ])
              refine' wpAnyH_take (i := 7) (v := _) rfl (by kernel_rfl) (by kernel_rfl) (by kernel_rfl) (fun _ _ _ h => h) (Or.inl ⟨by rfl, ?hy6⟩) (by assumption) ?rest6
              case hy6 =>
                intro w h
                have c1 := cellR h HZ1.out.b0 HNE2.out
                have c2 := cellR h HZ1.out.b1 HNE2.out
                (try clear h)
                go_simp
                (try with_reducible rfl)
              (try simp only [Act.put, List.getElem_toArray, List.getElem_cons_zero, List.getElem_cons_succ, List.setIfInBounds_toArray, List.set_cons_zero, List.set_cons_succ])
              refine wpAnyH_ready (rs := [8]) (by kernel_rfl) (by simp) ?_
              refine AllReadyH.cons rfl (fun K hK => ?_) AllReadyH.nil
              go_simp
              refine (HM.out _).mono ?_
              rintro e d2 ⟨rfl, hb⟩
              have F2_Z := Lib.hid (F1_Z.out.step hb)
              have hHeld := grownB hHeld hb
              clear hb
              refine hK.out _ _ hHeld (fun hHeld => ?_)
              clear hK K
              (try simp only [Act.put, List.getElem_toArray, List.getElem_cons_zero, List.getElem_cons_succ, List.setIfInBounds_toArray, List.set_cons_zero, List.set_cons_succ])
              refine wpAnyH_ready (rs := [9]) (by kernel_rfl) (by simp) ?_
              refine AllReadyH.cons rfl (fun K hK => ?_) AllReadyH.nil
              go_simp
              refine (HP.out _).mono ?_
              rintro e d3 ⟨rfl, hb⟩
              have F3_Z := Lib.hid (F2_Z.out.step hb)
              have hHeld := grownB hHeld hb
              clear hb
              refine hK.out _ _ hHeld (fun hHeld => ?_)
              clear hK K
              (try simp only [Act.put, List.getElem_toArray, List.getElem_cons_zero, List.getElem_cons_succ, List.setIfInBounds_toArray, List.set_cons_zero, List.set_cons_succ])
              refine wpAnyH_ready (rs := [10]) (by kernel_rfl) (by simp) ?_
              refine AllReadyH.cons rfl (fun K hK => ?_) AllReadyH.nil
              have c1 := F3_Z.out.sb.d0
              have c2 := F3_Z.out.sb.d1
              have f1 := F3_Z.out.sb.g0
              have f2 := F3_Z.out.sb.g1
              go_simp
              refine hK.out _ _ (grownSet (grownSet hHeld _ _) _ _) (fun hHeld => ?_)
              clear hK K
              (try simp only [Act.put])
              refine wpAnyH_done (by kernel_rfl) ?_ _
              have hz4 := SB.store F3_Z.out.sb X1 Y1
              have HZ4 := Lib.hid hz4
              clear hz4
              go_wp2_with fail
              go_roundw
              case rel => exact ⟨j + 1, by omega, by go_num, by rw [← HX1.out.1, ← HX1.out.2]; exact HZ4.out⟩
              case measure => simp [intOf]; omega
            · go_simp
              refine (HA.out _).mono ?_
              rintro e w' ⟨rfl, rfl⟩
              refine hK.out _ _ hHeld (fun hHeld => ?_)
              clear hK K
              (try simp only [Act.put, List.getElem_toArray, List.getElem_cons_zero, List.getElem_cons_succ, List.setIfInBounds_toArray, List.set_cons_zero, List.set_cons_succ])
              refine' wpAnyH_take (i := 6) (v := _) rfl (by kernel_rfl) (by kernel_rfl) (by kernel_rfl) (fun _ _ _ h => h) (Or.inl ⟨by rfl, ?hy107⟩) (by assumption) ?rest107
              case hy107 =>
                intro w h
                (try clear h)
                go_simp
                (try with_reducible rfl)
              (try simp only [Act.put, List.getElem_toArray, List.getElem_cons_zero, List.getElem_cons_succ, List.setIfInBounds_toArray, List.set_cons_zero, List.set_cons_succ])
              refine' wpAnyH_take (i := 7) (v := _) rfl (by kernel_rfl) (by kernel_rfl) (by kernel_rfl) (fun _ _ _ h => h) (Or.inl ⟨by rfl, ?hy108⟩) (by assumption) ?rest108
              case hy108 =>
                intro w h
                have c1 := cellR h HZ1.out.b0 HNE2.out
                have c2 := cellR h HZ1.out.b1 HNE2.out
                (try clear h)
                go_simp
                (try with_reducible rfl)
              (try simp only [Act.put, List.getElem_toArray, List.getElem_cons_zero, List.getElem_cons_succ, List.setIfInBounds_toArray, List.set_cons_zero, List.set_cons_succ])
              refine wpAnyH_ready (rs := [0, 8]) (by kernel_rfl) (by simp) ?_
              refine AllReadyH.cons rfl (fun K hK => ?_) (AllReadyH.cons rfl (fun K hK => ?_) AllReadyH.nil)
              · have c1 := F1_Z.out.sb.d0
                have c2 := F1_Z.out.sb.d1
                go_simp
                refine hK.out _ _ hHeld (fun hHeld => ?_)
                clear hK K
                (try simp only [Act.put, List.getElem_toArray, List.getElem_cons_zero, List.setIfInBounds_toArray, List.set_cons_zero, List.set_cons_succ])
                refine wpAnyH_ready (rs := [8]) (by kernel_rfl) (by simp) ?_
                refine AllReadyH.cons rfl (fun K hK => ?_) AllReadyH.nil
                go_simp
                refine (HM.out _).mono ?_
                rintro e d2 ⟨rfl, hb⟩
                have F2_Z := Lib.hid (F1_Z.out.step hb)
                have hHeld := grownB hHeld hb
                clear hb
                refine hK.out _ _ hHeld (fun hHeld => ?_)
                clear hK K
                (try simp only [Act.put, List.getElem_toArray, List.getElem_cons_zero, List.getElem_cons_succ, List.setIfInBounds_toArray, List.set_cons_zero, List.set_cons_succ])
                refine wpAnyH_ready (rs := [9]) (by kernel_rfl) (by simp) ?_
                refine AllReadyH.cons rfl (fun K hK => ?_) AllReadyH.nil
                go_simp
                refine (HP.out _).mono ?_
                rintro e d3 ⟨rfl, hb⟩
                have F3_Z := Lib.hid (F2_Z.out.step hb)
                have hHeld := grownB hHeld hb
                clear hb
                refine hK.out _ _ hHeld (fun hHeld => ?_)
                clear hK K
                (try simp only [Act.put, List.getElem_toArray, List.getElem_cons_zero, List.getElem_cons_succ, List.setIfInBounds_toArray, List.set_cons_zero, List.set_cons_succ])
                refine wpAnyH_ready (rs := [10]) (by kernel_rfl) (by simp) ?_
                refine AllReadyH.cons rfl (fun K hK => ?_) AllReadyH.nil
                have c1 := F3_Z.out.sb.d0
                have c2 := F3_Z.out.sb.d1
                have f1 := F3_Z.out.sb.g0
                have f2 := F3_Z.out.sb.g1
                go_simp
                refine hK.out _ _ (grownSet (grownSet hHeld _ _) _ _) (fun hHeld => ?_)
                clear hK K
                (try simp only [Act.put])
                refine wpAnyH_done (by kernel_rfl) ?_ _
                have hz4 := SB.store F3_Z.out.sb X1 Y1
                have HZ4 := Lib.hid hz4
                clear hz4
                go_wp2_with fail
                go_roundw
                case rel => exact ⟨j + 1, by omega, by go_num, by rw [← HX1.out.1, ← HX1.out.2]; exact HZ4.out⟩
                case measure => simp [intOf]; omega
              · go_simp
                refine (HM.out _).mono ?_
                rintro e d2 ⟨rfl, hb⟩
                have F2_Z := Lib.hid (F1_Z.out.step hb)
                have hHeld := grownB hHeld hb
                clear hb
                refine hK.out _ _ hHeld (fun hHeld => ?_)
                clear hK K
                (try simp only [Act.put, List.getElem_toArray, List.getElem_cons_zero, List.getElem_cons_succ, List.setIfInBounds_toArray, List.set_cons_zero, List.set_cons_succ])
                refine wpAnyH_ready (rs := [0]) (by kernel_rfl) (by simp) ?_
                refine AllReadyH.cons rfl (fun K hK => ?_) AllReadyH.nil
                have c1 := F2_Z.out.sb.d0
                have c2 := F2_Z.out.sb.d1
                go_simp
                refine hK.out _ _ hHeld (fun hHeld => ?_)
                clear hK K
                (try simp only [Act.put, List.getElem_toArray, List.getElem_cons_zero, List.setIfInBounds_toArray, List.set_cons_zero, List.set_cons_succ])
                refine wpAnyH_ready (rs := [9]) (by kernel_rfl) (by simp) ?_
                refine AllReadyH.cons rfl (fun K hK => ?_) AllReadyH.nil
                go_simp
                refine (HP.out _).mono ?_
                rintro e d3 ⟨rfl, hb⟩
                have F3_Z := Lib.hid (F2_Z.out.step hb)
                have hHeld := grownB hHeld hb
                clear hb
                refine hK.out _ _ hHeld (fun hHeld => ?_)
                clear hK K
                (try simp only [Act.put, List.getElem_toArray, List.getElem_cons_zero, List.getElem_cons_succ, List.setIfInBounds_toArray, List.set_cons_zero, List.set_cons_succ])
                refine wpAnyH_ready (rs := [10]) (by kernel_rfl) (by simp) ?_
                refine AllReadyH.cons rfl (fun K hK => ?_) AllReadyH.nil
                have c1 := F3_Z.out.sb.d0
                have c2 := F3_Z.out.sb.d1
                have f1 := F3_Z.out.sb.g0
                have f2 := F3_Z.out.sb.g1
                go_simp
                refine hK.out _ _ (grownSet (grownSet hHeld _ _) _ _) (fun hHeld => ?_)
                clear hK K
                (try simp only [Act.put])
                refine wpAnyH_done (by kernel_rfl) ?_ _
                have hz4 := SB.store F3_Z.out.sb X1 Y1
                have HZ4 := Lib.hid hz4
                clear hz4
                go_wp2_with fail
                go_roundw
                case rel => exact ⟨j + 1, by omega, by go_num, by rw [← HX1.out.1, ← HX1.out.2]; exact HZ4.out⟩
                case measure => simp [intOf]; omega
          · obtain rfl : j = n := by omega
            have hgs := genG_succ k (fun u => sumN (T u) j) (fun u => sumN (S u) j)
            obtain ⟨X, hX⟩ : ∃ X, X = sumN (T k) j := ⟨_, rfl⟩
            obtain ⟨Y, hY⟩ : ∃ X, X = sumN (S k) j := ⟨_, rfl⟩
            rw [← hX, ← hY] at hz
            rw [show sumN (T k) j = X from hX.symm, show sumN (S k) j = Y from hY.symm] at hgs
            have HGS := Lib.hid hgs
            have HBB := Lib.hid (joins HB.out hz.below)
            have HOO := Lib.hid (HO.out.below hz.below)
            have ⟨_, c1, c2, _, _, _, _⟩ := hz
            have HGL := Lib.hid (show (genG k (fun u => sumN (T u) j) (fun u => sumN (S u) j)).length ≤ 1048576 by rw [genG_length]; omega)
            obtain ⟨LK, hLK⟩ : ∃ LK, LK = genG k (fun u => sumN (T u) j) (fun u => sumN (S u) j) := ⟨_, rfl⟩
            rw [← hLK] at HGL HOO HGS
            clear hz hgs hX hY hLK
            go_wp2_with (at_builtin; refine wpList_pushG rfl _ _ rfl w.heap.size _ LK rfl (HOO.out.alloc _) wr.heap.size 1 X Y rfl (cell_new0 _ _ _ _) (cell_new1 _ _ _ _) HGL.out w.heap.size w (HBB.out.alloc HBB.out.size _) (Nat.le_refl _) (by have := HBB.out.size; simp; omega) (by have := HBB.out.size; simp; omega) ?_; intro v3 w3 ho3 hb3)
            go_roundw
            case rel => exact ⟨k + 1, by omega, by go_num, by rw [HGS.out]; exact ho3, hb3⟩
            case measure => simp [intOf]; omega
      · obtain rfl : k = n := by omega
        have hO := hown
        rw [show genG k (fun u => sumN (T u) k) (fun u => sumN (S u) k) = L from by rw [HL.out]; rfl] at hO
        have HOG := Lib.hid hO
        have HV := Lib.hid (tfWhole_any _ L wr hO.is)
        rw [← HL2.out.2] at HV
        have HB := Lib.hid hbel
        clear hO hown hbel
        go_wp2_with fail
        refine (HV.out).mono ?_
        rintro e w4 ⟨rfl, hb⟩
        cases q with
        | true =>
          rw [if_pos rfl]
          have HE := Lib.hid (show L2 = L by rw [HL2.out.1, ← HL2.out.2]; rfl)
          have HOG1 := Lib.hid (HOG.out.below hb)
          have HB4 := Lib.hid (joins HB.out hb)
          clear hb
          go_wp2_with fail
          go_returns
          refine ⟨_, rfl, ?_, HB4.out⟩
          rw [HE.out]
          exact HOG1.out
        | false =>
          rw [if_neg Bool.false_ne_true]
          have HE := Lib.hid (show L2 = [] by rw [HL2.out.1, ← HL2.out.2]; rfl)
          have HB4 := Lib.hid (joins HB.out hb)
          clear hb
          go_wp2_with fail
          go_returns
          refine ⟨_, rfl, ?_, HB4.out⟩
          rw [HE.out]
          exact OwnG.nil _ _
end Go.Proofs.Ytgibdndckoapfab
