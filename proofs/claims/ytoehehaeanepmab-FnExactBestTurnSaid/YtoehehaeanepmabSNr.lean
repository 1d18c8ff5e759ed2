/- The model's nearest phase. -/
import Derived.Test.YtoehehaeanepmabNrM
import Derived.Test.YtoehehaeanepmabGb
import Derived.Test.YtoehehaeanepmabSCr
namespace Go.Proofs.Ytoehehaeanepmab
set_option maxRecDepth 100000
open Go.RowKit

set_option maxRecDepth 100000 in
set_option maxHeartbeats 1000000 in
theorem mdNearest_any (x y : Int) (hx : -1000000 ≤ x ∧ x ≤ 1000000) (hy : -1000000 ≤ y ∧ y ≤ 1000000) (w : World) : Calls Try.prog 78 #[.agg #[.int .i64 x, .int .i64 y]] w (Ret w (.int .i64 (nrV x y))) := by
  have HH := Lib.hid (fun k hk h h2 => @nrK_hit x y k hk h h2)
  have HN := Lib.hid (@nrK_none x y)
  have HX := Lib.hid (fun k h h2 => @nrNo_next x y k h h2)
  have HLE := Lib.hid (fun k => nr_le hx hy k)
  have HPV0 := Lib.hid (fun (k : Nat) (hk : k < 4) => phValueM_any (-(k : Int)) (by omega) (by omega))
  have HPT0 := Lib.hid (fun (k : Nat) (hk : k < 4) (w : World) => show Calls Try.prog 72 #[.agg #[.int .i64 x, .int .i64 y], .agg #[.int .i64 (vx ((-(k : Int)) % 4)), .int .i64 (vy ((-(k : Int)) % 4))]] w (Ret w (.agg #[.int .i64 (nrX x y k), .int .i64 (nrY x y k)])) from by
    have h1 := vx_one ((-(k : Int)) % 4)
    have h2 := vy_one ((-(k : Int)) % 4)
    have hm := nr_mulM x y k hk
    have := phTimesB_any x y (vx ((-(k : Int)) % 4)) (vy ((-(k : Int)) % 4)) hx hy (by omega) (by omega) w
    rw [hm.1, hm.2] at this
    exact this)
  obtain ⟨A, hA⟩ : ∃ A : Int, A = nrV x y := ⟨_, rfl⟩
  rw [← hA]
  have HAO := Lib.hid hA
  have HZ0 := Lib.hid (GB.start w.heap.size w x y 51 (Nat.le_refl _))
  clear hA hx hy
  go_enter Try.func78, Try.ntmps78
  go_wp2_with fail
  go_loopw [3] (fun i wr => ∃ k : Nat, k ≤ 4 ∧ i = .int .i64 k ∧ nrNo x y k = true ∧ GB w.heap.size w.heap.size x y wr ∧ Below w.heap.size w wr) (fun i _ => 4 - (intOf i).toNat)
  case atStart => exact ⟨0, by omega, rfl, rfl, HZ0.out, belowa (Below.refl _ _) _⟩
  case round =>
    obtain ⟨k, hk, rfl, hno, hz, hbel⟩ := hrel
    have HB := Lib.hid hbel
    have HNO := Lib.hid hno
    have HZ := Lib.hid hz
    have HC1 := Lib.hid hz.d0
    have HC2 := Lib.hid hz.d1
    clear hbel hno hz
    by_cases hlt : k < 4
    · have h0 : (0 : Int) ≤ (k : Int) := by omega
      have h1 : (k : Int) < 4 := by omega
      have hle := HLE.out k
      have HH1 := Lib.hid (HH.out k hlt HNO.out)
      have HX1 := Lib.hid (HX.out k HNO.out)
      have hhd : nrHit x y k = decide (-nrX x y k < nrY x y k ∧ nrY x y k ≤ nrX x y k) := rfl
      have HPV := Lib.hid (HPV0.out k hlt)
      have HPT := Lib.hid (HPT0.out k hlt)
      obtain ⟨NX, hNX⟩ : ∃ A, A = nrX x y k := ⟨_, rfl⟩
      obtain ⟨NY, hNY⟩ : ∃ A, A = nrY x y k := ⟨_, rfl⟩
      obtain ⟨u, hu⟩ : ∃ A, A = vx ((-(k : Int)) % 4) := ⟨_, rfl⟩
      obtain ⟨v, hv⟩ : ∃ A, A = vy ((-(k : Int)) % 4) := ⟨_, rfl⟩
      rw [← hNX, ← hNY] at HPT hhd hle
      rw [← hu, ← hv] at HPT HPV
      obtain ⟨⟨e1, e2⟩, ⟨e3, e4⟩⟩ := hle
      have HHT := Lib.hid (show (-NX < NY ∧ NY ≤ NX) → A = (k : Int) from fun h => by
        have hK := HH1.out (by rw [hhd]; exact decide_eq_true h)
        rw [HAO.out]
        unfold nrV
        rw [hK, if_pos hlt])
      have HNH := Lib.hid (show ¬ (-NX < NY ∧ NY ≤ NX) → nrHit x y k = false from fun h => by rw [hhd]; exact decide_eq_false h)
      have HW := Lib.hid (show IntKind.i64.wrap (-(k : Int)) = -(k : Int) by rw [IntKind.wrap_i64]; omega)
      clear hNX hNY hu hv hhd
      go_wp2_with fail
      refine wp_region_held_drew (S := (fun w' => World.grownBy wr w' none)) (by kernel_rfl) (grownDrew (World.grownBy.refl _ _)) ?_
      obtain ⟨d1, hdw⟩ : ∃ w', w' = wr.drew := ⟨_, rfl⟩
      rw [← hdw]
      have hb : Below wr.heap.size wr d1 := by rw [hdw]; exact belowN (Below.refl _ _) 1
      have F1_Z := Lib.hid (HZ.out.step hb)
      have F1_B := Lib.hid (joins HB.out hb)
      clear hdw hb
      intro hHeld
      refine' wpAnyH_take (i := 0) (v := _) rfl (by kernel_rfl) (by kernel_rfl) (by kernel_rfl) (fun _ _ _ h => h) (Or.inl ⟨by rfl, ?hy1⟩) (by assumption) ?rest1
      case hy1 =>
        intro w h
        have c1 := cellR h HC1.out (by simp)
        have c2 := cellR h HC2.out (by simp)
        (try clear h)
        go_simp
        (try with_reducible rfl)
      (try simp only [Act.put, List.getElem_toArray, List.getElem_cons_zero, List.setIfInBounds_toArray, List.set_cons_zero, List.set_cons_succ])
      refine' wpAnyH_take (i := 1) (v := _) rfl (by kernel_rfl) (by kernel_rfl) (by kernel_rfl) (fun _ _ _ h => h) (Or.inl ⟨by rfl, ?hy2⟩) (by assumption) ?rest2
      case hy2 =>
        intro w h
        (try clear h)
        go_simp
        (try with_reducible rfl)
      (try simp only [Act.put, List.getElem_toArray, List.getElem_cons_zero, List.getElem_cons_succ, List.setIfInBounds_toArray, List.set_cons_zero, List.set_cons_succ])
      refine' wpAnyH_take (i := 2) (v := _) rfl (by kernel_rfl) (by kernel_rfl) (by kernel_rfl) (fun _ _ _ h => h) (Or.inl ⟨by rfl, ?hy3⟩) (by assumption) ?rest3
      case hy3 =>
        intro w h
        have e1 := HW.out
        (try clear h)
        go_simp
        (try with_reducible rfl)
      (try simp only [Act.put, List.getElem_toArray, List.getElem_cons_zero, List.getElem_cons_succ, List.setIfInBounds_toArray, List.set_cons_zero, List.set_cons_succ])
      refine wpAnyH_ready (rs := [3, 5]) (by kernel_rfl) (by simp) ?_
      refine AllReadyH.cons rfl (fun K hK => ?_) (AllReadyH.cons rfl (fun K hK => ?_) AllReadyH.nil)
      · go_simp
        refine (HPV.out _).mono ?_
        rintro e d2 ⟨rfl, hb⟩
        have F2_Z := Lib.hid (F1_Z.out.step hb)
        have F2_B := Lib.hid (joins F1_B.out hb)
        have hHeld := grownB hHeld hb
        clear hb
        refine hK.out _ _ hHeld (fun hHeld => ?_)
        clear hK K
        (try simp only [Act.put, List.getElem_toArray, List.getElem_cons_zero, List.getElem_cons_succ, List.setIfInBounds_toArray, List.set_cons_zero, List.set_cons_succ])
        refine wpAnyH_ready (rs := [4, 5]) (by kernel_rfl) (by simp) ?_
        refine AllReadyH.cons rfl (fun K hK => ?_) (AllReadyH.cons rfl (fun K hK => ?_) AllReadyH.nil)
        · go_simp
          refine (HPT.out _).mono ?_
          rintro e d3 ⟨rfl, hb⟩
          have F3_Z := Lib.hid (F2_Z.out.step hb)
          have F3_B := Lib.hid (joins F2_B.out hb)
          have hHeld := grownB hHeld hb
          clear hb
          refine hK.out _ _ hHeld (fun hHeld => ?_)
          clear hK K
          (try simp only [Act.put, List.getElem_toArray, List.getElem_cons_zero, List.getElem_cons_succ, List.setIfInBounds_toArray, List.set_cons_zero, List.set_cons_succ])
          refine wpAnyH_ready (rs := [5]) (by kernel_rfl) (by simp) ?_
          refine AllReadyH.cons rfl (fun K hK => ?_) AllReadyH.nil
          go_simp
          obtain ⟨d4, hdw⟩ : ∃ w', w' = d3.alloc (.cells #[.int .i64 0, .int .i64 0] 51) := ⟨_, rfl⟩
          rw [← hdw]
          have hb : Below d3.heap.size d3 d4 := by rw [hdw]; exact belowa (Below.refl _ _) _
          have F4_Z := Lib.hid (F3_Z.out.step hb)
          have F4_B := Lib.hid (joins F3_B.out hb)
          have F4_GBX := Lib.hid (show GB wr.heap.size d3.heap.size 0 0 d4 by rw [hdw]; exact GB.start _ _ _ _ _ hHeld.size)
          have hHeld := grownB hHeld hb
          clear hdw hb
          refine hK.out _ _ hHeld (fun hHeld => ?_)
          clear hK K
          (try simp only [Act.put, List.getElem_toArray, List.getElem_cons_zero, List.getElem_cons_succ, List.setIfInBounds_toArray, List.set_cons_zero, List.set_cons_succ])
          refine wpAnyH_ready (rs := [6]) (by kernel_rfl) (by simp) ?_
          refine AllReadyH.cons rfl (fun K hK => ?_) AllReadyH.nil
          have pb := F4_GBX.out
          have ⟨q0, q1, q2, q3, q4, q5⟩ := pb
          go_simp
          refine hK.out _ _ (grownFr (grownFr hHeld F4_GBX.out.ge _ _) F4_GBX.out.ge _ _) (fun hHeld => ?_)
          clear pb q0 q1 q2 q3 q4 q5
          clear hK K
          (try simp only [Act.put])
          refine wpAnyH_done (by kernel_rfl) ?_ _
          have HP6 := Lib.hid (F4_GBX.out.store NX NY)
          have HZ6 := Lib.hid (F4_Z.out.other (show w.heap.size ≠ d3.heap.size from fun e => by have h1 := F4_GBX.out.ge; have h2 := HZ.out.lt; rw [← e] at h1; omega) (.int .i64 NX) (.int .i64 NY))
          have HB6 := Lib.hid (belows (b := ⟨d3.heap.size, 1, none⟩) (belows (b := ⟨d3.heap.size, 0, none⟩) F4_B.out (show w.heap.size ≤ d3.heap.size from Nat.le_trans HB.out.size F4_GBX.out.ge) (.int .i64 NX)) (show w.heap.size ≤ d3.heap.size from Nat.le_trans HB.out.size F4_GBX.out.ge) (.int .i64 NY))
          obtain ⟨w6, hw6⟩ : ∃ w', w' = (d4.setCell ⟨d3.heap.size, 0, none⟩ (.int .i64 NX)).setCell ⟨d3.heap.size, 1, none⟩ (.int .i64 NY) := ⟨_, rfl⟩
          rw [← hw6] at HP6 HZ6 HB6 ⊢
          clear hw6 hHeld
          obtain ⟨q0, q1, q2, q3, q4, q5⟩ := HP6.out
          by_cases hit : -NX < NY ∧ NY ≤ NX
          · have HA1 := Lib.hid (HHT.out hit)
            have p1 : 0 < NX := by omega
            have p2 : NY ≤ NX := hit.2
            have p3 : -NY < NX := by omega
            clear hit
            go_wp2_with fail
            go_returns
            exact ⟨by rw [HA1.out]; rfl, HB6.out⟩
          · have HF := Lib.hid (HNH.out hit)
            rcases (show NX ≤ 0 ∨ (0 < NX ∧ NX < NY) ∨ (0 < NX ∧ NY ≤ NX ∧ NX ≤ -NY) by omega) with p1 | ⟨p1, p2⟩ | ⟨p1, p2, p3⟩
            all_goals
              clear hit
              go_wp2_with fail
              go_roundw
              case rel => exact ⟨k + 1, by omega, by go_num, HX1.out HF.out, HZ6.out, HB6.out⟩
              case measure => simp [intOf]; omega
        · go_simp
          obtain ⟨d3, hdw⟩ : ∃ w', w' = d2.alloc (.cells #[.int .i64 0, .int .i64 0] 51) := ⟨_, rfl⟩
          rw [← hdw]
          have hb : Below d2.heap.size d2 d3 := by rw [hdw]; exact belowa (Below.refl _ _) _
          have F3_Z := Lib.hid (F2_Z.out.step hb)
          have F3_B := Lib.hid (joins F2_B.out hb)
          have F3_GBX := Lib.hid (show GB wr.heap.size d2.heap.size 0 0 d3 by rw [hdw]; exact GB.start _ _ _ _ _ hHeld.size)
          have hHeld := grownB hHeld hb
          clear hdw hb
          refine hK.out _ _ hHeld (fun hHeld => ?_)
          clear hK K
          (try simp only [Act.put, List.getElem_toArray, List.getElem_cons_zero, List.getElem_cons_succ, List.setIfInBounds_toArray, List.set_cons_zero, List.set_cons_succ])
          refine wpAnyH_ready (rs := [4]) (by kernel_rfl) (by simp) ?_
          refine AllReadyH.cons rfl (fun K hK => ?_) AllReadyH.nil
          go_simp
          refine (HPT.out _).mono ?_
          rintro e d4 ⟨rfl, hb⟩
          have F4_Z := Lib.hid (F3_Z.out.step hb)
          have F4_B := Lib.hid (joins F3_B.out hb)
          have F4_GBX := Lib.hid (F3_GBX.out.step hb)
          have hHeld := grownB hHeld hb
          clear hb
          refine hK.out _ _ hHeld (fun hHeld => ?_)
          clear hK K
          (try simp only [Act.put, List.getElem_toArray, List.getElem_cons_zero, List.getElem_cons_succ, List.setIfInBounds_toArray, List.set_cons_zero, List.set_cons_succ])
          refine wpAnyH_ready (rs := [6]) (by kernel_rfl) (by simp) ?_
          refine AllReadyH.cons rfl (fun K hK => ?_) AllReadyH.nil
          have pb := F4_GBX.out
          have ⟨q0, q1, q2, q3, q4, q5⟩ := pb
          go_simp
          refine hK.out _ _ (grownFr (grownFr hHeld F4_GBX.out.ge _ _) F4_GBX.out.ge _ _) (fun hHeld => ?_)
          clear pb q0 q1 q2 q3 q4 q5
          clear hK K
          (try simp only [Act.put])
          refine wpAnyH_done (by kernel_rfl) ?_ _
          have HP6 := Lib.hid (F4_GBX.out.store NX NY)
          have HZ6 := Lib.hid (F4_Z.out.other (show w.heap.size ≠ d2.heap.size from fun e => by have h1 := F4_GBX.out.ge; have h2 := HZ.out.lt; rw [← e] at h1; omega) (.int .i64 NX) (.int .i64 NY))
          have HB6 := Lib.hid (belows (b := ⟨d2.heap.size, 1, none⟩) (belows (b := ⟨d2.heap.size, 0, none⟩) F4_B.out (show w.heap.size ≤ d2.heap.size from Nat.le_trans HB.out.size F4_GBX.out.ge) (.int .i64 NX)) (show w.heap.size ≤ d2.heap.size from Nat.le_trans HB.out.size F4_GBX.out.ge) (.int .i64 NY))
          obtain ⟨w6, hw6⟩ : ∃ w', w' = (d4.setCell ⟨d2.heap.size, 0, none⟩ (.int .i64 NX)).setCell ⟨d2.heap.size, 1, none⟩ (.int .i64 NY) := ⟨_, rfl⟩
          rw [← hw6] at HP6 HZ6 HB6 ⊢
          clear hw6 hHeld
          obtain ⟨q0, q1, q2, q3, q4, q5⟩ := HP6.out
          by_cases hit : -NX < NY ∧ NY ≤ NX
          · have HA1 := Lib.hid (HHT.out hit)
            have p1 : 0 < NX := by omega
            have p2 : NY ≤ NX := hit.2
            have p3 : -NY < NX := by omega
            clear hit
            go_wp2_with fail
            go_returns
            exact ⟨by rw [HA1.out]; rfl, HB6.out⟩
          · have HF := Lib.hid (HNH.out hit)
            rcases (show NX ≤ 0 ∨ (0 < NX ∧ NX < NY) ∨ (0 < NX ∧ NY ≤ NX ∧ NX ≤ -NY) by omega) with p1 | ⟨p1, p2⟩ | ⟨p1, p2, p3⟩
            all_goals
              clear hit
              go_wp2_with fail
              go_roundw
              case rel => exact ⟨k + 1, by omega, by go_num, HX1.out HF.out, HZ6.out, HB6.out⟩
              case measure => simp [intOf]; omega
      · go_simp
        obtain ⟨d2, hdw⟩ : ∃ w', w' = d1.alloc (.cells #[.int .i64 0, .int .i64 0] 51) := ⟨_, rfl⟩
        rw [← hdw]
        have hb : Below d1.heap.size d1 d2 := by rw [hdw]; exact belowa (Below.refl _ _) _
        have F2_Z := Lib.hid (F1_Z.out.step hb)
        have F2_B := Lib.hid (joins F1_B.out hb)
        have F2_GBX := Lib.hid (show GB wr.heap.size d1.heap.size 0 0 d2 by rw [hdw]; exact GB.start _ _ _ _ _ hHeld.size)
        have hHeld := grownB hHeld hb
        clear hdw hb
        refine hK.out _ _ hHeld (fun hHeld => ?_)
        clear hK K
        (try simp only [Act.put, List.getElem_toArray, List.getElem_cons_zero, List.getElem_cons_succ, List.setIfInBounds_toArray, List.set_cons_zero, List.set_cons_succ])
        refine wpAnyH_ready (rs := [3]) (by kernel_rfl) (by simp) ?_
        refine AllReadyH.cons rfl (fun K hK => ?_) AllReadyH.nil
        go_simp
        refine (HPV.out _).mono ?_
        rintro e d3 ⟨rfl, hb⟩
        have F3_Z := Lib.hid (F2_Z.out.step hb)
        have F3_B := Lib.hid (joins F2_B.out hb)
        have F3_GBX := Lib.hid (F2_GBX.out.step hb)
        have hHeld := grownB hHeld hb
        clear hb
        refine hK.out _ _ hHeld (fun hHeld => ?_)
        clear hK K
        (try simp only [Act.put, List.getElem_toArray, List.getElem_cons_zero, List.getElem_cons_succ, List.setIfInBounds_toArray, List.set_cons_zero, List.set_cons_succ])
        refine wpAnyH_ready (rs := [4]) (by kernel_rfl) (by simp) ?_
        refine AllReadyH.cons rfl (fun K hK => ?_) AllReadyH.nil
        go_simp
        refine (HPT.out _).mono ?_
        rintro e d4 ⟨rfl, hb⟩
        have F4_Z := Lib.hid (F3_Z.out.step hb)
        have F4_B := Lib.hid (joins F3_B.out hb)
        have F4_GBX := Lib.hid (F3_GBX.out.step hb)
        have hHeld := grownB hHeld hb
        clear hb
        refine hK.out _ _ hHeld (fun hHeld => ?_)
        clear hK K
        (try simp only [Act.put, List.getElem_toArray, List.getElem_cons_zero, List.getElem_cons_succ, List.setIfInBounds_toArray, List.set_cons_zero, List.set_cons_succ])
        refine wpAnyH_ready (rs := [6]) (by kernel_rfl) (by simp) ?_
        refine AllReadyH.cons rfl (fun K hK => ?_) AllReadyH.nil
        have pb := F4_GBX.out
        have ⟨q0, q1, q2, q3, q4, q5⟩ := pb
        go_simp
        refine hK.out _ _ (grownFr (grownFr hHeld F4_GBX.out.ge _ _) F4_GBX.out.ge _ _) (fun hHeld => ?_)
        clear pb q0 q1 q2 q3 q4 q5
        clear hK K
        (try simp only [Act.put])
        refine wpAnyH_done (by kernel_rfl) ?_ _
        have HP6 := Lib.hid (F4_GBX.out.store NX NY)
        have HZ6 := Lib.hid (F4_Z.out.other (show w.heap.size ≠ d1.heap.size from fun e => by have h1 := F4_GBX.out.ge; have h2 := HZ.out.lt; rw [← e] at h1; omega) (.int .i64 NX) (.int .i64 NY))
        have HB6 := Lib.hid (belows (b := ⟨d1.heap.size, 1, none⟩) (belows (b := ⟨d1.heap.size, 0, none⟩) F4_B.out (show w.heap.size ≤ d1.heap.size from Nat.le_trans HB.out.size F4_GBX.out.ge) (.int .i64 NX)) (show w.heap.size ≤ d1.heap.size from Nat.le_trans HB.out.size F4_GBX.out.ge) (.int .i64 NY))
        obtain ⟨w6, hw6⟩ : ∃ w', w' = (d4.setCell ⟨d1.heap.size, 0, none⟩ (.int .i64 NX)).setCell ⟨d1.heap.size, 1, none⟩ (.int .i64 NY) := ⟨_, rfl⟩
        rw [← hw6] at HP6 HZ6 HB6 ⊢
        clear hw6 hHeld
        obtain ⟨q0, q1, q2, q3, q4, q5⟩ := HP6.out
        by_cases hit : -NX < NY ∧ NY ≤ NX
        · have HA1 := Lib.hid (HHT.out hit)
          have p1 : 0 < NX := by omega
          have p2 : NY ≤ NX := hit.2
          have p3 : -NY < NX := by omega
          clear hit
          go_wp2_with fail
          go_returns
          exact ⟨by rw [HA1.out]; rfl, HB6.out⟩
        · have HF := Lib.hid (HNH.out hit)
          rcases (show NX ≤ 0 ∨ (0 < NX ∧ NX < NY) ∨ (0 < NX ∧ NY ≤ NX ∧ NX ≤ -NY) by omega) with p1 | ⟨p1, p2⟩ | ⟨p1, p2, p3⟩
          all_goals
            clear hit
            go_wp2_with fail
            go_roundw
            case rel => exact ⟨k + 1, by omega, by go_num, HX1.out HF.out, HZ6.out, HB6.out⟩
            case measure => simp [intOf]; omega
    · obtain rfl : k = 4 := by omega
      have HA1 := Lib.hid (show A = 0 from by rw [HAO.out]; unfold nrV; rw [HN.out HNO.out, if_neg (by omega)])
      go_wp2_with fail
      go_returns
      exact ⟨by rw [HA1.out]; rfl, HB.out⟩
end Go.Proofs.Ytoehehaeanepmab
