/- The program's listsMade, over each way. -/
import Derived.Test.YtcpeikkkegpdhabIWays
namespace Go.Proofs.Ytcpeikkkegpdhab
set_option maxRecDepth 100000
open Go.RowKit

set_option maxHeartbeats 4000000 in
theorem listsMade_joining (J : Array Value) (f o : Bool) (e1 e2 : List Int) (h1 : isSeq e1 = true) (h2 : isSeq e2 = true) (w : World)
    (HF : ∀ w', Below w.heap.size w w' → Calls Try.prog 17 #[.iface 50 (.agg J)] w' (Ret w' (.bool f)))
    (HM : f = true → ∀ w', Below w.heap.size w w' → Calls Try.prog 46 #[.agg J] w' (Ret w' (.tuple #[.agg (prC e1 e2), .bool o]))) :
    Calls Try.prog 14 #[.iface 50 (.agg J)] w (Makes2B w (iff (f && o) e1) (iff (f && o) e2) (f && o)) := by
  have HF' := Lib.hid HF
  have HM' := Lib.hid HM
  have L1 := Lib.hid (listC e1 h1)
  have L2 := Lib.hid (listC e2 h2)
  have SC := Lib.hid (prC_size e1 e2)
  have OC := Lib.hid (prC_one e1 e2)
  have P1 := Lib.hid (prC_fst e1 e2)
  have P2 := Lib.hid (prC_snd e1 e2)
  have I1 := Lib.hid (infoPhC e1)
  have I2 := Lib.hid (infoPhC e2)
  have SZ := Lib.hid (prC_size [] [])
  have ZZ := Lib.hid zeroPr
  obtain ⟨Z, hZ⟩ : ∃ Z, Z = prC [] [] := ⟨_, rfl⟩
  rw [← hZ] at SZ ZZ
  obtain ⟨C, hC⟩ : ∃ Z, Z = prC e1 e2 := ⟨_, rfl⟩
  rw [← hC] at SC OC P1 P2 HM'
  obtain ⟨C1, hC1⟩ : ∃ Z, Z = phC e1 := ⟨_, rfl⟩
  obtain ⟨C2, hC2⟩ : ∃ Z, Z = phC e2 := ⟨_, rfl⟩
  rw [← hC1] at L1 P1 I1
  rw [← hC2] at L2 P2 I2
  clear HF HM hZ hC hC1 hC2 h1 h2
  cases f with
  | false =>
    rw [Bool.false_and, iff_no _ rfl, iff_no _ rfl]
    have B0 := Lib.hid (Below.refl w.heap.size w)
    go_enter Try.func14, Try.ntmps14
    go_wp2_with fail
    refine (HF'.out _ B0.out).mono ?_
    rintro e w1 ⟨rfl, hb⟩
    have B1 := Lib.hid (joins B0.out hb)
    clear hb
    go_wp2_with fail
    go_returns
    exact Makes2B.none B1.out
  | true =>
    rw [Bool.true_and]
    cases o with
    | false =>
      rw [iff_no _ rfl, iff_no _ rfl]
      have B0 := Lib.hid (Below.refl w.heap.size w)
      go_enter Try.func14, Try.ntmps14
      go_wp2_with fail
      refine (HF'.out _ B0.out).mono ?_
      rintro e w1 ⟨rfl, hb⟩
      have B1 := Lib.hid (joins B0.out hb)
      clear hb
      go_wp2_with fail
      refine (HM'.out (by trivial) _ B1.out).mono ?_
      rintro e w2 ⟨rfl, hb⟩
      have B2 := Lib.hid (joins B1.out hb)
      clear hb
      go_wp2_with (first
        | ((with_reducible refine at_op (d := some 5) (Op.alloc 45) ?_); refine wpList_alloc_row rfl 45 rfl Z (fun w => ZZ.out w) ?_; intro w3 hr hb hz; have R3_p := Lib.hid hr; have B3 := Lib.hid (joins B2.out hb); have L3_p := Lib.hid (show w.heap.size ≤ w2.heap.size from B2.out.size); clear hr hb hz)
        | ((with_reducible refine at_op (Op.store 45 (.tmp 5) (.tmp 13)) ?_); refine wpList_put_row rfl 45 (.tmp 5) (.tmp 13) rfl (w2.heap.size) C rfl rfl 45 Z R3_p.out 66 infoPr SC.out SZ.out OC.out w.heap.size w B3.out L3_p.out ?_; intro w4 hr hs hb; have R4_p := Lib.hid hr; have B4 := Lib.hid hb; clear hr hs hb))
      go_returns
      exact Makes2B.none B4.out
    | true =>
      rw [iff_yes _ rfl, iff_yes _ rfl]
      have B0 := Lib.hid (Below.refl w.heap.size w)
      go_enter Try.func14, Try.ntmps14
      go_wp2_with fail
      refine (HF'.out _ B0.out).mono ?_
      rintro e w1 ⟨rfl, hb⟩
      have B1 := Lib.hid (joins B0.out hb)
      clear hb
      go_wp2_with fail
      refine (HM'.out (by trivial) _ B1.out).mono ?_
      rintro e w2 ⟨rfl, hb⟩
      have B2 := Lib.hid (joins B1.out hb)
      clear hb
      go_wp2_with (first
        | ((with_reducible refine at_op (d := some 5) (Op.alloc 45) ?_); refine wpList_alloc_row rfl 45 rfl Z (fun w => ZZ.out w) ?_; intro w3 hr hb hz; have R3_p := Lib.hid hr; have B3 := Lib.hid (joins B2.out hb); have L3_p := Lib.hid (show w.heap.size ≤ w2.heap.size from B2.out.size); clear hr hb hz)
        | ((with_reducible refine at_op (Op.store 45 (.tmp 5) (.tmp 13)) ?_); refine wpList_put_row rfl 45 (.tmp 5) (.tmp 13) rfl (w2.heap.size) C rfl rfl 45 Z R3_p.out 66 infoPr SC.out SZ.out OC.out w.heap.size w B3.out L3_p.out ?_; intro w4 hr hs hb; have R4_p := Lib.hid hr; have B4 := Lib.hid hb; clear hr hs hb))
      refine wp_region_held_drew (S := (fun w' => World.grownBy w4 w' none)) (by kernel_rfl) (grownDrew (World.grownBy.refl _ _)) ?_
      obtain ⟨w5, hdw⟩ : ∃ w', w' = w4.drew := ⟨_, rfl⟩
      rw [← hdw]
      have hb : Below w4.heap.size w4 w5 := by rw [hdw]; exact belowN (Below.refl _ _) 1
      have R5_p := Lib.hid (rowB R4_p.out hb)
      have B5 := Lib.hid (joins B4.out hb)
      clear hdw hb
      intro hHeld
      refine' wpAnyH_take (i := 0) (v := _) rfl (by kernel_rfl) (by kernel_rfl) (by kernel_rfl) (fun _ _ _ h => h) (Or.inl ⟨by rfl, ?hy24⟩) (by assumption) ?rest24
      case hy24 =>
        intro w h
        (try clear h)
        go_simp
        (try with_reducible rfl)
      (try simp only [Act.put, List.getElem_toArray, List.getElem_cons_zero, List.setIfInBounds_toArray, List.set_cons_zero, List.set_cons_succ])
      refine' wpAnyH_take (i := 1) (v := _) rfl (by kernel_rfl) (by kernel_rfl) (by kernel_rfl) (fun _ _ _ h => h) (yieldsPart (by rfl) 43 (.tmp 17) rfl (w2.heap.size) 0 rfl C C1 45 (0, 0) _ (fun w h => (rowG R4_p.out h (by simp))) P1.out Try.underlying43 rfl I1.out) (by assumption) ?rest25
      (try simp only [Act.put, List.getElem_toArray, List.getElem_cons_zero, List.getElem_cons_succ, List.setIfInBounds_toArray, List.set_cons_zero, List.set_cons_succ])
      refine' wpAnyH_take (i := 3) (v := _) rfl (by kernel_rfl) (by kernel_rfl) (by kernel_rfl) (fun _ _ _ h => h) (Or.inl ⟨by rfl, ?hy26⟩) (by assumption) ?rest26
      case hy26 =>
        intro w h
        (try clear h)
        go_simp
        (try with_reducible rfl)
      (try simp only [Act.put, List.getElem_toArray, List.getElem_cons_zero, List.getElem_cons_succ, List.setIfInBounds_toArray, List.set_cons_zero, List.set_cons_succ])
      refine' wpAnyH_take (i := 4) (v := _) rfl (by kernel_rfl) (by kernel_rfl) (by kernel_rfl) (fun _ _ _ h => h) (yieldsPart (by rfl) 43 (.tmp 20) rfl (w2.heap.size) 33 rfl C C2 45 (0, 0) _ (fun w h => (rowG R4_p.out h (by simp))) P2.out Try.underlying43 rfl I2.out) (by assumption) ?rest27
      (try simp only [Act.put, List.getElem_toArray, List.getElem_cons_zero, List.getElem_cons_succ, List.setIfInBounds_toArray, List.set_cons_zero, List.set_cons_succ])
      refine wpAnyH_ready (rs := [2]) (by kernel_rfl) (by simp) ?_
      refine AllReadyH.cons rfl (fun K hK => ?_) AllReadyH.nil
      go_simp
      refine (L1.out _).mono ?_
      rintro e w6 ⟨v_x, rfl, ho, hb⟩
      have R6_p := Lib.hid (rowB R5_p.out hb)
      have B6 := Lib.hid (joins B5.out hb)
      have O6_x := Lib.hid ho
      have LO_x := Lib.hid (show w.heap.size ≤ w5.heap.size from B5.out.size)
      clear ho
      have hHeld := grownB hHeld hb
      clear hb
      refine hK.out _ _ hHeld (fun hHeld => ?_)
      clear hK K
      (try simp only [Act.put, List.getElem_toArray, List.getElem_cons_zero, List.getElem_cons_succ, List.setIfInBounds_toArray, List.set_cons_zero, List.set_cons_succ])
      refine wpAnyH_ready (rs := [5]) (by kernel_rfl) (by simp) ?_
      refine AllReadyH.cons rfl (fun K hK => ?_) AllReadyH.nil
      go_simp
      refine (L2.out _).mono ?_
      rintro e w7 ⟨v_y, rfl, ho, hb⟩
      have R7_p := Lib.hid (rowB R6_p.out hb)
      have O7_x := Lib.hid (O6_x.out.below hb)
      have B7 := Lib.hid (joins B6.out hb)
      have O7_y := Lib.hid ho
      have LO_y := Lib.hid (show w.heap.size ≤ w6.heap.size from B6.out.size)
      clear ho
      have hHeld := grownB hHeld hb
      clear hb
      refine hK.out _ _ hHeld (fun hHeld => ?_)
      clear hK K
      (try simp only [Act.put, List.getElem_toArray, List.getElem_cons_zero, List.getElem_cons_succ, List.setIfInBounds_toArray, List.set_cons_zero, List.set_cons_succ])
      refine' wpAnyH_take (i := 6) (v := _) rfl (by kernel_rfl) (by kernel_rfl) (by kernel_rfl) (fun _ _ _ h => h) (Or.inl ⟨by rfl, ?hy28⟩) (by assumption) ?rest28
      case hy28 =>
        intro w h
        (try clear h)
        go_simp
        (try with_reducible rfl)
      (try simp only [Act.put, List.getElem_toArray, List.getElem_cons_zero, List.getElem_cons_succ, List.setIfInBounds_toArray, List.set_cons_zero, List.set_cons_succ])
      refine' wpAnyH_take (i := 7) (v := _) rfl (by kernel_rfl) (by kernel_rfl) (by kernel_rfl) (fun _ _ _ h => h) (Or.inl ⟨by rfl, ?hy29⟩) (by assumption) ?rest29
      case hy29 =>
        intro w h
        (try clear h)
        go_simp
        (try with_reducible rfl)
      (try simp only [Act.put, List.getElem_toArray, List.getElem_cons_zero, List.getElem_cons_succ, List.setIfInBounds_toArray, List.set_cons_zero, List.set_cons_succ])
      refine' wpAnyH_take (i := 8) (v := _) rfl (by kernel_rfl) (by kernel_rfl) (by kernel_rfl) (fun _ _ _ h => h) (Or.inl ⟨by rfl, ?hy30⟩) (by assumption) ?rest30
      case hy30 =>
        intro w h
        (try clear h)
        go_simp
        (try with_reducible rfl)
      (try simp only [Act.put, List.getElem_toArray, List.getElem_cons_zero, List.getElem_cons_succ, List.setIfInBounds_toArray, List.set_cons_zero, List.set_cons_succ])
      refine wpAnyH_done (by kernel_rfl) ?_ _
      go_wp2_with fail
      go_returns
      exact Makes2B.two O7_x.out O7_y.out O6_x.out LO_x.out (Nat.le_refl _) LO_y.out B7.out

set_option maxHeartbeats 4000000 in
theorem listsMade_weaving (J : Array Value) (f o : Bool) (e1 e2 : List Int) (h1 : isSeq e1 = true) (h2 : isSeq e2 = true) (w : World)
    (HF : ∀ w', Below w.heap.size w w' → Calls Try.prog 17 #[.iface 54 (.agg J)] w' (Ret w' (.bool f)))
    (HM : f = true → ∀ w', Below w.heap.size w w' → Calls Try.prog 51 #[.agg J] w' (Ret w' (.tuple #[.agg (prC e1 e2), .bool o]))) :
    Calls Try.prog 14 #[.iface 54 (.agg J)] w (Makes2B w (iff (f && o) e1) (iff (f && o) e2) (f && o)) := by
  have HF' := Lib.hid HF
  have HM' := Lib.hid HM
  have L1 := Lib.hid (listC e1 h1)
  have L2 := Lib.hid (listC e2 h2)
  have SC := Lib.hid (prC_size e1 e2)
  have OC := Lib.hid (prC_one e1 e2)
  have P1 := Lib.hid (prC_fst e1 e2)
  have P2 := Lib.hid (prC_snd e1 e2)
  have I1 := Lib.hid (infoPhC e1)
  have I2 := Lib.hid (infoPhC e2)
  have SZ := Lib.hid (prC_size [] [])
  have ZZ := Lib.hid zeroPr
  obtain ⟨Z, hZ⟩ : ∃ Z, Z = prC [] [] := ⟨_, rfl⟩
  rw [← hZ] at SZ ZZ
  obtain ⟨C, hC⟩ : ∃ Z, Z = prC e1 e2 := ⟨_, rfl⟩
  rw [← hC] at SC OC P1 P2 HM'
  obtain ⟨C1, hC1⟩ : ∃ Z, Z = phC e1 := ⟨_, rfl⟩
  obtain ⟨C2, hC2⟩ : ∃ Z, Z = phC e2 := ⟨_, rfl⟩
  rw [← hC1] at L1 P1 I1
  rw [← hC2] at L2 P2 I2
  clear HF HM hZ hC hC1 hC2 h1 h2
  cases f with
  | false =>
    rw [Bool.false_and, iff_no _ rfl, iff_no _ rfl]
    have B0 := Lib.hid (Below.refl w.heap.size w)
    go_enter Try.func14, Try.ntmps14
    go_wp2_with fail
    refine (HF'.out _ B0.out).mono ?_
    rintro e w1 ⟨rfl, hb⟩
    have B1 := Lib.hid (joins B0.out hb)
    clear hb
    go_wp2_with fail
    go_returns
    exact Makes2B.none B1.out
  | true =>
    rw [Bool.true_and]
    cases o with
    | false =>
      rw [iff_no _ rfl, iff_no _ rfl]
      have B0 := Lib.hid (Below.refl w.heap.size w)
      go_enter Try.func14, Try.ntmps14
      go_wp2_with fail
      refine (HF'.out _ B0.out).mono ?_
      rintro e w1 ⟨rfl, hb⟩
      have B1 := Lib.hid (joins B0.out hb)
      clear hb
      go_wp2_with fail
      refine (HM'.out (by trivial) _ B1.out).mono ?_
      rintro e w2 ⟨rfl, hb⟩
      have B2 := Lib.hid (joins B1.out hb)
      clear hb
      go_wp2_with (first
        | ((with_reducible refine at_op (d := some 5) (Op.alloc 45) ?_); refine wpList_alloc_row rfl 45 rfl Z (fun w => ZZ.out w) ?_; intro w3 hr hb hz; have R3_p := Lib.hid hr; have B3 := Lib.hid (joins B2.out hb); have L3_p := Lib.hid (show w.heap.size ≤ w2.heap.size from B2.out.size); clear hr hb hz)
        | ((with_reducible refine at_op (Op.store 45 (.tmp 5) (.tmp 13)) ?_); refine wpList_put_row rfl 45 (.tmp 5) (.tmp 13) rfl (w2.heap.size) C rfl rfl 45 Z R3_p.out 66 infoPr SC.out SZ.out OC.out w.heap.size w B3.out L3_p.out ?_; intro w4 hr hs hb; have R4_p := Lib.hid hr; have B4 := Lib.hid hb; clear hr hs hb))
      go_returns
      exact Makes2B.none B4.out
    | true =>
      rw [iff_yes _ rfl, iff_yes _ rfl]
      have B0 := Lib.hid (Below.refl w.heap.size w)
      go_enter Try.func14, Try.ntmps14
      go_wp2_with fail
      refine (HF'.out _ B0.out).mono ?_
      rintro e w1 ⟨rfl, hb⟩
      have B1 := Lib.hid (joins B0.out hb)
      clear hb
      go_wp2_with fail
      refine (HM'.out (by trivial) _ B1.out).mono ?_
      rintro e w2 ⟨rfl, hb⟩
      have B2 := Lib.hid (joins B1.out hb)
      clear hb
      go_wp2_with (first
        | ((with_reducible refine at_op (d := some 5) (Op.alloc 45) ?_); refine wpList_alloc_row rfl 45 rfl Z (fun w => ZZ.out w) ?_; intro w3 hr hb hz; have R3_p := Lib.hid hr; have B3 := Lib.hid (joins B2.out hb); have L3_p := Lib.hid (show w.heap.size ≤ w2.heap.size from B2.out.size); clear hr hb hz)
        | ((with_reducible refine at_op (Op.store 45 (.tmp 5) (.tmp 13)) ?_); refine wpList_put_row rfl 45 (.tmp 5) (.tmp 13) rfl (w2.heap.size) C rfl rfl 45 Z R3_p.out 66 infoPr SC.out SZ.out OC.out w.heap.size w B3.out L3_p.out ?_; intro w4 hr hs hb; have R4_p := Lib.hid hr; have B4 := Lib.hid hb; clear hr hs hb))
      refine wp_region_held_drew (S := (fun w' => World.grownBy w4 w' none)) (by kernel_rfl) (grownDrew (World.grownBy.refl _ _)) ?_
      obtain ⟨w5, hdw⟩ : ∃ w', w' = w4.drew := ⟨_, rfl⟩
      rw [← hdw]
      have hb : Below w4.heap.size w4 w5 := by rw [hdw]; exact belowN (Below.refl _ _) 1
      have R5_p := Lib.hid (rowB R4_p.out hb)
      have B5 := Lib.hid (joins B4.out hb)
      clear hdw hb
      intro hHeld
      refine' wpAnyH_take (i := 0) (v := _) rfl (by kernel_rfl) (by kernel_rfl) (by kernel_rfl) (fun _ _ _ h => h) (Or.inl ⟨by rfl, ?hy31⟩) (by assumption) ?rest31
      case hy31 =>
        intro w h
        (try clear h)
        go_simp
        (try with_reducible rfl)
      (try simp only [Act.put, List.getElem_toArray, List.getElem_cons_zero, List.setIfInBounds_toArray, List.set_cons_zero, List.set_cons_succ])
      refine' wpAnyH_take (i := 1) (v := _) rfl (by kernel_rfl) (by kernel_rfl) (by kernel_rfl) (fun _ _ _ h => h) (yieldsPart (by rfl) 43 (.tmp 17) rfl (w2.heap.size) 0 rfl C C1 45 (0, 0) _ (fun w h => (rowG R4_p.out h (by simp))) P1.out Try.underlying43 rfl I1.out) (by assumption) ?rest32
      (try simp only [Act.put, List.getElem_toArray, List.getElem_cons_zero, List.getElem_cons_succ, List.setIfInBounds_toArray, List.set_cons_zero, List.set_cons_succ])
      refine' wpAnyH_take (i := 3) (v := _) rfl (by kernel_rfl) (by kernel_rfl) (by kernel_rfl) (fun _ _ _ h => h) (Or.inl ⟨by rfl, ?hy33⟩) (by assumption) ?rest33
      case hy33 =>
        intro w h
        (try clear h)
        go_simp
        (try with_reducible rfl)
      (try simp only [Act.put, List.getElem_toArray, List.getElem_cons_zero, List.getElem_cons_succ, List.setIfInBounds_toArray, List.set_cons_zero, List.set_cons_succ])
      refine' wpAnyH_take (i := 4) (v := _) rfl (by kernel_rfl) (by kernel_rfl) (by kernel_rfl) (fun _ _ _ h => h) (yieldsPart (by rfl) 43 (.tmp 20) rfl (w2.heap.size) 33 rfl C C2 45 (0, 0) _ (fun w h => (rowG R4_p.out h (by simp))) P2.out Try.underlying43 rfl I2.out) (by assumption) ?rest34
      (try simp only [Act.put, List.getElem_toArray, List.getElem_cons_zero, List.getElem_cons_succ, List.setIfInBounds_toArray, List.set_cons_zero, List.set_cons_succ])
      refine wpAnyH_ready (rs := [2]) (by kernel_rfl) (by simp) ?_
      refine AllReadyH.cons rfl (fun K hK => ?_) AllReadyH.nil
      go_simp
      refine (L1.out _).mono ?_
      rintro e w6 ⟨v_x, rfl, ho, hb⟩
      have R6_p := Lib.hid (rowB R5_p.out hb)
      have B6 := Lib.hid (joins B5.out hb)
      have O6_x := Lib.hid ho
      have LO_x := Lib.hid (show w.heap.size ≤ w5.heap.size from B5.out.size)
      clear ho
      have hHeld := grownB hHeld hb
      clear hb
      refine hK.out _ _ hHeld (fun hHeld => ?_)
      clear hK K
      (try simp only [Act.put, List.getElem_toArray, List.getElem_cons_zero, List.getElem_cons_succ, List.setIfInBounds_toArray, List.set_cons_zero, List.set_cons_succ])
      refine wpAnyH_ready (rs := [5]) (by kernel_rfl) (by simp) ?_
      refine AllReadyH.cons rfl (fun K hK => ?_) AllReadyH.nil
      go_simp
      refine (L2.out _).mono ?_
      rintro e w7 ⟨v_y, rfl, ho, hb⟩
      have R7_p := Lib.hid (rowB R6_p.out hb)
      have O7_x := Lib.hid (O6_x.out.below hb)
      have B7 := Lib.hid (joins B6.out hb)
      have O7_y := Lib.hid ho
      have LO_y := Lib.hid (show w.heap.size ≤ w6.heap.size from B6.out.size)
      clear ho
      have hHeld := grownB hHeld hb
      clear hb
      refine hK.out _ _ hHeld (fun hHeld => ?_)
      clear hK K
      (try simp only [Act.put, List.getElem_toArray, List.getElem_cons_zero, List.getElem_cons_succ, List.setIfInBounds_toArray, List.set_cons_zero, List.set_cons_succ])
      refine' wpAnyH_take (i := 6) (v := _) rfl (by kernel_rfl) (by kernel_rfl) (by kernel_rfl) (fun _ _ _ h => h) (Or.inl ⟨by rfl, ?hy35⟩) (by assumption) ?rest35
      case hy35 =>
        intro w h
        (try clear h)
        go_simp
        (try with_reducible rfl)
      (try simp only [Act.put, List.getElem_toArray, List.getElem_cons_zero, List.getElem_cons_succ, List.setIfInBounds_toArray, List.set_cons_zero, List.set_cons_succ])
      refine' wpAnyH_take (i := 7) (v := _) rfl (by kernel_rfl) (by kernel_rfl) (by kernel_rfl) (fun _ _ _ h => h) (Or.inl ⟨by rfl, ?hy36⟩) (by assumption) ?rest36
      case hy36 =>
        intro w h
        (try clear h)
        go_simp
        (try with_reducible rfl)
      (try simp only [Act.put, List.getElem_toArray, List.getElem_cons_zero, List.getElem_cons_succ, List.setIfInBounds_toArray, List.set_cons_zero, List.set_cons_succ])
      refine' wpAnyH_take (i := 8) (v := _) rfl (by kernel_rfl) (by kernel_rfl) (by kernel_rfl) (fun _ _ _ h => h) (Or.inl ⟨by rfl, ?hy37⟩) (by assumption) ?rest37
      case hy37 =>
        intro w h
        (try clear h)
        go_simp
        (try with_reducible rfl)
      (try simp only [Act.put, List.getElem_toArray, List.getElem_cons_zero, List.getElem_cons_succ, List.setIfInBounds_toArray, List.set_cons_zero, List.set_cons_succ])
      refine wpAnyH_done (by kernel_rfl) ?_ _
      go_wp2_with fail
      go_returns
      exact Makes2B.two O7_x.out O7_y.out O6_x.out LO_x.out (Nat.le_refl _) LO_y.out B7.out

set_option maxHeartbeats 4000000 in
theorem listsMade_mating (J : Array Value) (f o : Bool) (e1 e2 : List Int) (h1 : isSeq e1 = true) (h2 : isSeq e2 = true) (w : World)
    (HF : ∀ w', Below w.heap.size w w' → Calls Try.prog 17 #[.iface 55 (.agg J)] w' (Ret w' (.bool f)))
    (HM : f = true → ∀ w', Below w.heap.size w w' → Calls Try.prog 53 #[.agg J] w' (Ret w' (.tuple #[.agg (prC e1 e2), .bool o]))) :
    Calls Try.prog 14 #[.iface 55 (.agg J)] w (Makes2B w (iff (f && o) e1) (iff (f && o) e2) (f && o)) := by
  have HF' := Lib.hid HF
  have HM' := Lib.hid HM
  have L1 := Lib.hid (listC e1 h1)
  have L2 := Lib.hid (listC e2 h2)
  have SC := Lib.hid (prC_size e1 e2)
  have OC := Lib.hid (prC_one e1 e2)
  have P1 := Lib.hid (prC_fst e1 e2)
  have P2 := Lib.hid (prC_snd e1 e2)
  have I1 := Lib.hid (infoPhC e1)
  have I2 := Lib.hid (infoPhC e2)
  have SZ := Lib.hid (prC_size [] [])
  have ZZ := Lib.hid zeroPr
  obtain ⟨Z, hZ⟩ : ∃ Z, Z = prC [] [] := ⟨_, rfl⟩
  rw [← hZ] at SZ ZZ
  obtain ⟨C, hC⟩ : ∃ Z, Z = prC e1 e2 := ⟨_, rfl⟩
  rw [← hC] at SC OC P1 P2 HM'
  obtain ⟨C1, hC1⟩ : ∃ Z, Z = phC e1 := ⟨_, rfl⟩
  obtain ⟨C2, hC2⟩ : ∃ Z, Z = phC e2 := ⟨_, rfl⟩
  rw [← hC1] at L1 P1 I1
  rw [← hC2] at L2 P2 I2
  clear HF HM hZ hC hC1 hC2 h1 h2
  cases f with
  | false =>
    rw [Bool.false_and, iff_no _ rfl, iff_no _ rfl]
    have B0 := Lib.hid (Below.refl w.heap.size w)
    go_enter Try.func14, Try.ntmps14
    go_wp2_with fail
    refine (HF'.out _ B0.out).mono ?_
    rintro e w1 ⟨rfl, hb⟩
    have B1 := Lib.hid (joins B0.out hb)
    clear hb
    go_wp2_with fail
    go_returns
    exact Makes2B.none B1.out
  | true =>
    rw [Bool.true_and]
    cases o with
    | false =>
      rw [iff_no _ rfl, iff_no _ rfl]
      have B0 := Lib.hid (Below.refl w.heap.size w)
      go_enter Try.func14, Try.ntmps14
      go_wp2_with fail
      refine (HF'.out _ B0.out).mono ?_
      rintro e w1 ⟨rfl, hb⟩
      have B1 := Lib.hid (joins B0.out hb)
      clear hb
      go_wp2_with fail
      refine (HM'.out (by trivial) _ B1.out).mono ?_
      rintro e w2 ⟨rfl, hb⟩
      have B2 := Lib.hid (joins B1.out hb)
      clear hb
      go_wp2_with (first
        | ((with_reducible refine at_op (d := some 5) (Op.alloc 45) ?_); refine wpList_alloc_row rfl 45 rfl Z (fun w => ZZ.out w) ?_; intro w3 hr hb hz; have R3_p := Lib.hid hr; have B3 := Lib.hid (joins B2.out hb); have L3_p := Lib.hid (show w.heap.size ≤ w2.heap.size from B2.out.size); clear hr hb hz)
        | ((with_reducible refine at_op (Op.store 45 (.tmp 5) (.tmp 13)) ?_); refine wpList_put_row rfl 45 (.tmp 5) (.tmp 13) rfl (w2.heap.size) C rfl rfl 45 Z R3_p.out 66 infoPr SC.out SZ.out OC.out w.heap.size w B3.out L3_p.out ?_; intro w4 hr hs hb; have R4_p := Lib.hid hr; have B4 := Lib.hid hb; clear hr hs hb))
      go_returns
      exact Makes2B.none B4.out
    | true =>
      rw [iff_yes _ rfl, iff_yes _ rfl]
      have B0 := Lib.hid (Below.refl w.heap.size w)
      go_enter Try.func14, Try.ntmps14
      go_wp2_with fail
      refine (HF'.out _ B0.out).mono ?_
      rintro e w1 ⟨rfl, hb⟩
      have B1 := Lib.hid (joins B0.out hb)
      clear hb
      go_wp2_with fail
      refine (HM'.out (by trivial) _ B1.out).mono ?_
      rintro e w2 ⟨rfl, hb⟩
      have B2 := Lib.hid (joins B1.out hb)
      clear hb
      go_wp2_with (first
        | ((with_reducible refine at_op (d := some 5) (Op.alloc 45) ?_); refine wpList_alloc_row rfl 45 rfl Z (fun w => ZZ.out w) ?_; intro w3 hr hb hz; have R3_p := Lib.hid hr; have B3 := Lib.hid (joins B2.out hb); have L3_p := Lib.hid (show w.heap.size ≤ w2.heap.size from B2.out.size); clear hr hb hz)
        | ((with_reducible refine at_op (Op.store 45 (.tmp 5) (.tmp 13)) ?_); refine wpList_put_row rfl 45 (.tmp 5) (.tmp 13) rfl (w2.heap.size) C rfl rfl 45 Z R3_p.out 66 infoPr SC.out SZ.out OC.out w.heap.size w B3.out L3_p.out ?_; intro w4 hr hs hb; have R4_p := Lib.hid hr; have B4 := Lib.hid hb; clear hr hs hb))
      refine wp_region_held_drew (S := (fun w' => World.grownBy w4 w' none)) (by kernel_rfl) (grownDrew (World.grownBy.refl _ _)) ?_
      obtain ⟨w5, hdw⟩ : ∃ w', w' = w4.drew := ⟨_, rfl⟩
      rw [← hdw]
      have hb : Below w4.heap.size w4 w5 := by rw [hdw]; exact belowN (Below.refl _ _) 1
      have R5_p := Lib.hid (rowB R4_p.out hb)
      have B5 := Lib.hid (joins B4.out hb)
      clear hdw hb
      intro hHeld
      refine' wpAnyH_take (i := 0) (v := _) rfl (by kernel_rfl) (by kernel_rfl) (by kernel_rfl) (fun _ _ _ h => h) (Or.inl ⟨by rfl, ?hy38⟩) (by assumption) ?rest38
      case hy38 =>
        intro w h
        (try clear h)
        go_simp
        (try with_reducible rfl)
      (try simp only [Act.put, List.getElem_toArray, List.getElem_cons_zero, List.setIfInBounds_toArray, List.set_cons_zero, List.set_cons_succ])
      refine' wpAnyH_take (i := 1) (v := _) rfl (by kernel_rfl) (by kernel_rfl) (by kernel_rfl) (fun _ _ _ h => h) (yieldsPart (by rfl) 43 (.tmp 17) rfl (w2.heap.size) 0 rfl C C1 45 (0, 0) _ (fun w h => (rowG R4_p.out h (by simp))) P1.out Try.underlying43 rfl I1.out) (by assumption) ?rest39
      (try simp only [Act.put, List.getElem_toArray, List.getElem_cons_zero, List.getElem_cons_succ, List.setIfInBounds_toArray, List.set_cons_zero, List.set_cons_succ])
      refine' wpAnyH_take (i := 3) (v := _) rfl (by kernel_rfl) (by kernel_rfl) (by kernel_rfl) (fun _ _ _ h => h) (Or.inl ⟨by rfl, ?hy40⟩) (by assumption) ?rest40
      case hy40 =>
        intro w h
        (try clear h)
        go_simp
        (try with_reducible rfl)
      (try simp only [Act.put, List.getElem_toArray, List.getElem_cons_zero, List.getElem_cons_succ, List.setIfInBounds_toArray, List.set_cons_zero, List.set_cons_succ])
      refine' wpAnyH_take (i := 4) (v := _) rfl (by kernel_rfl) (by kernel_rfl) (by kernel_rfl) (fun _ _ _ h => h) (yieldsPart (by rfl) 43 (.tmp 20) rfl (w2.heap.size) 33 rfl C C2 45 (0, 0) _ (fun w h => (rowG R4_p.out h (by simp))) P2.out Try.underlying43 rfl I2.out) (by assumption) ?rest41
      (try simp only [Act.put, List.getElem_toArray, List.getElem_cons_zero, List.getElem_cons_succ, List.setIfInBounds_toArray, List.set_cons_zero, List.set_cons_succ])
      refine wpAnyH_ready (rs := [2]) (by kernel_rfl) (by simp) ?_
      refine AllReadyH.cons rfl (fun K hK => ?_) AllReadyH.nil
      go_simp
      refine (L1.out _).mono ?_
      rintro e w6 ⟨v_x, rfl, ho, hb⟩
      have R6_p := Lib.hid (rowB R5_p.out hb)
      have B6 := Lib.hid (joins B5.out hb)
      have O6_x := Lib.hid ho
      have LO_x := Lib.hid (show w.heap.size ≤ w5.heap.size from B5.out.size)
      clear ho
      have hHeld := grownB hHeld hb
      clear hb
      refine hK.out _ _ hHeld (fun hHeld => ?_)
      clear hK K
      (try simp only [Act.put, List.getElem_toArray, List.getElem_cons_zero, List.getElem_cons_succ, List.setIfInBounds_toArray, List.set_cons_zero, List.set_cons_succ])
      refine wpAnyH_ready (rs := [5]) (by kernel_rfl) (by simp) ?_
      refine AllReadyH.cons rfl (fun K hK => ?_) AllReadyH.nil
      go_simp
      refine (L2.out _).mono ?_
      rintro e w7 ⟨v_y, rfl, ho, hb⟩
      have R7_p := Lib.hid (rowB R6_p.out hb)
      have O7_x := Lib.hid (O6_x.out.below hb)
      have B7 := Lib.hid (joins B6.out hb)
      have O7_y := Lib.hid ho
      have LO_y := Lib.hid (show w.heap.size ≤ w6.heap.size from B6.out.size)
      clear ho
      have hHeld := grownB hHeld hb
      clear hb
      refine hK.out _ _ hHeld (fun hHeld => ?_)
      clear hK K
      (try simp only [Act.put, List.getElem_toArray, List.getElem_cons_zero, List.getElem_cons_succ, List.setIfInBounds_toArray, List.set_cons_zero, List.set_cons_succ])
      refine' wpAnyH_take (i := 6) (v := _) rfl (by kernel_rfl) (by kernel_rfl) (by kernel_rfl) (fun _ _ _ h => h) (Or.inl ⟨by rfl, ?hy42⟩) (by assumption) ?rest42
      case hy42 =>
        intro w h
        (try clear h)
        go_simp
        (try with_reducible rfl)
      (try simp only [Act.put, List.getElem_toArray, List.getElem_cons_zero, List.getElem_cons_succ, List.setIfInBounds_toArray, List.set_cons_zero, List.set_cons_succ])
      refine' wpAnyH_take (i := 7) (v := _) rfl (by kernel_rfl) (by kernel_rfl) (by kernel_rfl) (fun _ _ _ h => h) (Or.inl ⟨by rfl, ?hy43⟩) (by assumption) ?rest43
      case hy43 =>
        intro w h
        (try clear h)
        go_simp
        (try with_reducible rfl)
      (try simp only [Act.put, List.getElem_toArray, List.getElem_cons_zero, List.getElem_cons_succ, List.setIfInBounds_toArray, List.set_cons_zero, List.set_cons_succ])
      refine' wpAnyH_take (i := 8) (v := _) rfl (by kernel_rfl) (by kernel_rfl) (by kernel_rfl) (fun _ _ _ h => h) (Or.inl ⟨by rfl, ?hy44⟩) (by assumption) ?rest44
      case hy44 =>
        intro w h
        (try clear h)
        go_simp
        (try with_reducible rfl)
      (try simp only [Act.put, List.getElem_toArray, List.getElem_cons_zero, List.getElem_cons_succ, List.setIfInBounds_toArray, List.set_cons_zero, List.set_cons_succ])
      refine wpAnyH_done (by kernel_rfl) ?_ _
      go_wp2_with fail
      go_returns
      exact Makes2B.two O7_x.out O7_y.out O6_x.out LO_x.out (Nat.le_refl _) LO_y.out B7.out

set_option maxHeartbeats 4000000 in
theorem listsMade_climbing (J : Array Value) (f o : Bool) (e1 e2 : List Int) (h1 : isSeq e1 = true) (h2 : isSeq e2 = true) (w : World)
    (HF : ∀ w', Below w.heap.size w w' → Calls Try.prog 17 #[.iface 57 (.agg J)] w' (Ret w' (.bool f)))
    (HM : f = true → ∀ w', Below w.heap.size w w' → Calls Try.prog 55 #[.agg J] w' (Ret w' (.tuple #[.agg (prC e1 e2), .bool o]))) :
    Calls Try.prog 14 #[.iface 57 (.agg J)] w (Makes2B w (iff (f && o) e1) (iff (f && o) e2) (f && o)) := by
  have HF' := Lib.hid HF
  have HM' := Lib.hid HM
  have L1 := Lib.hid (listC e1 h1)
  have L2 := Lib.hid (listC e2 h2)
  have SC := Lib.hid (prC_size e1 e2)
  have OC := Lib.hid (prC_one e1 e2)
  have P1 := Lib.hid (prC_fst e1 e2)
  have P2 := Lib.hid (prC_snd e1 e2)
  have I1 := Lib.hid (infoPhC e1)
  have I2 := Lib.hid (infoPhC e2)
  have SZ := Lib.hid (prC_size [] [])
  have ZZ := Lib.hid zeroPr
  obtain ⟨Z, hZ⟩ : ∃ Z, Z = prC [] [] := ⟨_, rfl⟩
  rw [← hZ] at SZ ZZ
  obtain ⟨C, hC⟩ : ∃ Z, Z = prC e1 e2 := ⟨_, rfl⟩
  rw [← hC] at SC OC P1 P2 HM'
  obtain ⟨C1, hC1⟩ : ∃ Z, Z = phC e1 := ⟨_, rfl⟩
  obtain ⟨C2, hC2⟩ : ∃ Z, Z = phC e2 := ⟨_, rfl⟩
  rw [← hC1] at L1 P1 I1
  rw [← hC2] at L2 P2 I2
  clear HF HM hZ hC hC1 hC2 h1 h2
  cases f with
  | false =>
    rw [Bool.false_and, iff_no _ rfl, iff_no _ rfl]
    have B0 := Lib.hid (Below.refl w.heap.size w)
    go_enter Try.func14, Try.ntmps14
    go_wp2_with fail
    refine (HF'.out _ B0.out).mono ?_
    rintro e w1 ⟨rfl, hb⟩
    have B1 := Lib.hid (joins B0.out hb)
    clear hb
    go_wp2_with fail
    go_returns
    exact Makes2B.none B1.out
  | true =>
    rw [Bool.true_and]
    cases o with
    | false =>
      rw [iff_no _ rfl, iff_no _ rfl]
      have B0 := Lib.hid (Below.refl w.heap.size w)
      go_enter Try.func14, Try.ntmps14
      go_wp2_with fail
      refine (HF'.out _ B0.out).mono ?_
      rintro e w1 ⟨rfl, hb⟩
      have B1 := Lib.hid (joins B0.out hb)
      clear hb
      go_wp2_with fail
      refine (HM'.out (by trivial) _ B1.out).mono ?_
      rintro e w2 ⟨rfl, hb⟩
      have B2 := Lib.hid (joins B1.out hb)
      clear hb
      go_wp2_with (first
        | ((with_reducible refine at_op (d := some 5) (Op.alloc 45) ?_); refine wpList_alloc_row rfl 45 rfl Z (fun w => ZZ.out w) ?_; intro w3 hr hb hz; have R3_p := Lib.hid hr; have B3 := Lib.hid (joins B2.out hb); have L3_p := Lib.hid (show w.heap.size ≤ w2.heap.size from B2.out.size); clear hr hb hz)
        | ((with_reducible refine at_op (Op.store 45 (.tmp 5) (.tmp 13)) ?_); refine wpList_put_row rfl 45 (.tmp 5) (.tmp 13) rfl (w2.heap.size) C rfl rfl 45 Z R3_p.out 66 infoPr SC.out SZ.out OC.out w.heap.size w B3.out L3_p.out ?_; intro w4 hr hs hb; have R4_p := Lib.hid hr; have B4 := Lib.hid hb; clear hr hs hb))
      go_returns
      exact Makes2B.none B4.out
    | true =>
      rw [iff_yes _ rfl, iff_yes _ rfl]
      have B0 := Lib.hid (Below.refl w.heap.size w)
      go_enter Try.func14, Try.ntmps14
      go_wp2_with fail
      refine (HF'.out _ B0.out).mono ?_
      rintro e w1 ⟨rfl, hb⟩
      have B1 := Lib.hid (joins B0.out hb)
      clear hb
      go_wp2_with fail
      refine (HM'.out (by trivial) _ B1.out).mono ?_
      rintro e w2 ⟨rfl, hb⟩
      have B2 := Lib.hid (joins B1.out hb)
      clear hb
      go_wp2_with (first
        | ((with_reducible refine at_op (d := some 5) (Op.alloc 45) ?_); refine wpList_alloc_row rfl 45 rfl Z (fun w => ZZ.out w) ?_; intro w3 hr hb hz; have R3_p := Lib.hid hr; have B3 := Lib.hid (joins B2.out hb); have L3_p := Lib.hid (show w.heap.size ≤ w2.heap.size from B2.out.size); clear hr hb hz)
        | ((with_reducible refine at_op (Op.store 45 (.tmp 5) (.tmp 13)) ?_); refine wpList_put_row rfl 45 (.tmp 5) (.tmp 13) rfl (w2.heap.size) C rfl rfl 45 Z R3_p.out 66 infoPr SC.out SZ.out OC.out w.heap.size w B3.out L3_p.out ?_; intro w4 hr hs hb; have R4_p := Lib.hid hr; have B4 := Lib.hid hb; clear hr hs hb))
      refine wp_region_held_drew (S := (fun w' => World.grownBy w4 w' none)) (by kernel_rfl) (grownDrew (World.grownBy.refl _ _)) ?_
      obtain ⟨w5, hdw⟩ : ∃ w', w' = w4.drew := ⟨_, rfl⟩
      rw [← hdw]
      have hb : Below w4.heap.size w4 w5 := by rw [hdw]; exact belowN (Below.refl _ _) 1
      have R5_p := Lib.hid (rowB R4_p.out hb)
      have B5 := Lib.hid (joins B4.out hb)
      clear hdw hb
      intro hHeld
      refine' wpAnyH_take (i := 0) (v := _) rfl (by kernel_rfl) (by kernel_rfl) (by kernel_rfl) (fun _ _ _ h => h) (Or.inl ⟨by rfl, ?hy45⟩) (by assumption) ?rest45
      case hy45 =>
        intro w h
        (try clear h)
        go_simp
        (try with_reducible rfl)
      (try simp only [Act.put, List.getElem_toArray, List.getElem_cons_zero, List.setIfInBounds_toArray, List.set_cons_zero, List.set_cons_succ])
      refine' wpAnyH_take (i := 1) (v := _) rfl (by kernel_rfl) (by kernel_rfl) (by kernel_rfl) (fun _ _ _ h => h) (yieldsPart (by rfl) 43 (.tmp 17) rfl (w2.heap.size) 0 rfl C C1 45 (0, 0) _ (fun w h => (rowG R4_p.out h (by simp))) P1.out Try.underlying43 rfl I1.out) (by assumption) ?rest46
      (try simp only [Act.put, List.getElem_toArray, List.getElem_cons_zero, List.getElem_cons_succ, List.setIfInBounds_toArray, List.set_cons_zero, List.set_cons_succ])
      refine' wpAnyH_take (i := 3) (v := _) rfl (by kernel_rfl) (by kernel_rfl) (by kernel_rfl) (fun _ _ _ h => h) (Or.inl ⟨by rfl, ?hy47⟩) (by assumption) ?rest47
      case hy47 =>
        intro w h
        (try clear h)
        go_simp
        (try with_reducible rfl)
      (try simp only [Act.put, List.getElem_toArray, List.getElem_cons_zero, List.getElem_cons_succ, List.setIfInBounds_toArray, List.set_cons_zero, List.set_cons_succ])
      refine' wpAnyH_take (i := 4) (v := _) rfl (by kernel_rfl) (by kernel_rfl) (by kernel_rfl) (fun _ _ _ h => h) (yieldsPart (by rfl) 43 (.tmp 20) rfl (w2.heap.size) 33 rfl C C2 45 (0, 0) _ (fun w h => (rowG R4_p.out h (by simp))) P2.out Try.underlying43 rfl I2.out) (by assumption) ?rest48
      (try simp only [Act.put, List.getElem_toArray, List.getElem_cons_zero, List.getElem_cons_succ, List.setIfInBounds_toArray, List.set_cons_zero, List.set_cons_succ])
      refine wpAnyH_ready (rs := [2]) (by kernel_rfl) (by simp) ?_
      refine AllReadyH.cons rfl (fun K hK => ?_) AllReadyH.nil
      go_simp
      refine (L1.out _).mono ?_
      rintro e w6 ⟨v_x, rfl, ho, hb⟩
      have R6_p := Lib.hid (rowB R5_p.out hb)
      have B6 := Lib.hid (joins B5.out hb)
      have O6_x := Lib.hid ho
      have LO_x := Lib.hid (show w.heap.size ≤ w5.heap.size from B5.out.size)
      clear ho
      have hHeld := grownB hHeld hb
      clear hb
      refine hK.out _ _ hHeld (fun hHeld => ?_)
      clear hK K
      (try simp only [Act.put, List.getElem_toArray, List.getElem_cons_zero, List.getElem_cons_succ, List.setIfInBounds_toArray, List.set_cons_zero, List.set_cons_succ])
      refine wpAnyH_ready (rs := [5]) (by kernel_rfl) (by simp) ?_
      refine AllReadyH.cons rfl (fun K hK => ?_) AllReadyH.nil
      go_simp
      refine (L2.out _).mono ?_
      rintro e w7 ⟨v_y, rfl, ho, hb⟩
      have R7_p := Lib.hid (rowB R6_p.out hb)
      have O7_x := Lib.hid (O6_x.out.below hb)
      have B7 := Lib.hid (joins B6.out hb)
      have O7_y := Lib.hid ho
      have LO_y := Lib.hid (show w.heap.size ≤ w6.heap.size from B6.out.size)
      clear ho
      have hHeld := grownB hHeld hb
      clear hb
      refine hK.out _ _ hHeld (fun hHeld => ?_)
      clear hK K
      (try simp only [Act.put, List.getElem_toArray, List.getElem_cons_zero, List.getElem_cons_succ, List.setIfInBounds_toArray, List.set_cons_zero, List.set_cons_succ])
      refine' wpAnyH_take (i := 6) (v := _) rfl (by kernel_rfl) (by kernel_rfl) (by kernel_rfl) (fun _ _ _ h => h) (Or.inl ⟨by rfl, ?hy49⟩) (by assumption) ?rest49
      case hy49 =>
        intro w h
        (try clear h)
        go_simp
        (try with_reducible rfl)
      (try simp only [Act.put, List.getElem_toArray, List.getElem_cons_zero, List.getElem_cons_succ, List.setIfInBounds_toArray, List.set_cons_zero, List.set_cons_succ])
      refine' wpAnyH_take (i := 7) (v := _) rfl (by kernel_rfl) (by kernel_rfl) (by kernel_rfl) (fun _ _ _ h => h) (Or.inl ⟨by rfl, ?hy50⟩) (by assumption) ?rest50
      case hy50 =>
        intro w h
        (try clear h)
        go_simp
        (try with_reducible rfl)
      (try simp only [Act.put, List.getElem_toArray, List.getElem_cons_zero, List.getElem_cons_succ, List.setIfInBounds_toArray, List.set_cons_zero, List.set_cons_succ])
      refine' wpAnyH_take (i := 8) (v := _) rfl (by kernel_rfl) (by kernel_rfl) (by kernel_rfl) (fun _ _ _ h => h) (Or.inl ⟨by rfl, ?hy51⟩) (by assumption) ?rest51
      case hy51 =>
        intro w h
        (try clear h)
        go_simp
        (try with_reducible rfl)
      (try simp only [Act.put, List.getElem_toArray, List.getElem_cons_zero, List.getElem_cons_succ, List.setIfInBounds_toArray, List.set_cons_zero, List.set_cons_succ])
      refine wpAnyH_done (by kernel_rfl) ?_ _
      go_wp2_with fail
      go_returns
      exact Makes2B.two O7_x.out O7_y.out O6_x.out LO_x.out (Nat.le_refl _) LO_y.out B7.out

set_option maxHeartbeats 4000000 in
theorem listsMade_joiningMates (J : Array Value) (f o : Bool) (e1 e2 : List Int) (h1 : isSeq e1 = true) (h2 : isSeq e2 = true) (w : World)
    (HF : ∀ w', Below w.heap.size w w' → Calls Try.prog 17 #[.iface 59 (.agg J)] w' (Ret w' (.bool f)))
    (HM : f = true → ∀ w', Below w.heap.size w w' → Calls Try.prog 57 #[.agg J] w' (Ret w' (.tuple #[.agg (prC e1 e2), .bool o]))) :
    Calls Try.prog 14 #[.iface 59 (.agg J)] w (Makes2B w (iff (f && o) e1) (iff (f && o) e2) (f && o)) := by
  have HF' := Lib.hid HF
  have HM' := Lib.hid HM
  have L1 := Lib.hid (listC e1 h1)
  have L2 := Lib.hid (listC e2 h2)
  have SC := Lib.hid (prC_size e1 e2)
  have OC := Lib.hid (prC_one e1 e2)
  have P1 := Lib.hid (prC_fst e1 e2)
  have P2 := Lib.hid (prC_snd e1 e2)
  have I1 := Lib.hid (infoPhC e1)
  have I2 := Lib.hid (infoPhC e2)
  have SZ := Lib.hid (prC_size [] [])
  have ZZ := Lib.hid zeroPr
  obtain ⟨Z, hZ⟩ : ∃ Z, Z = prC [] [] := ⟨_, rfl⟩
  rw [← hZ] at SZ ZZ
  obtain ⟨C, hC⟩ : ∃ Z, Z = prC e1 e2 := ⟨_, rfl⟩
  rw [← hC] at SC OC P1 P2 HM'
  obtain ⟨C1, hC1⟩ : ∃ Z, Z = phC e1 := ⟨_, rfl⟩
  obtain ⟨C2, hC2⟩ : ∃ Z, Z = phC e2 := ⟨_, rfl⟩
  rw [← hC1] at L1 P1 I1
  rw [← hC2] at L2 P2 I2
  clear HF HM hZ hC hC1 hC2 h1 h2
  cases f with
  | false =>
    rw [Bool.false_and, iff_no _ rfl, iff_no _ rfl]
    have B0 := Lib.hid (Below.refl w.heap.size w)
    go_enter Try.func14, Try.ntmps14
    go_wp2_with fail
    refine (HF'.out _ B0.out).mono ?_
    rintro e w1 ⟨rfl, hb⟩
    have B1 := Lib.hid (joins B0.out hb)
    clear hb
    go_wp2_with fail
    go_returns
    exact Makes2B.none B1.out
  | true =>
    rw [Bool.true_and]
    cases o with
    | false =>
      rw [iff_no _ rfl, iff_no _ rfl]
      have B0 := Lib.hid (Below.refl w.heap.size w)
      go_enter Try.func14, Try.ntmps14
      go_wp2_with fail
      refine (HF'.out _ B0.out).mono ?_
      rintro e w1 ⟨rfl, hb⟩
      have B1 := Lib.hid (joins B0.out hb)
      clear hb
      go_wp2_with fail
      refine (HM'.out (by trivial) _ B1.out).mono ?_
      rintro e w2 ⟨rfl, hb⟩
      have B2 := Lib.hid (joins B1.out hb)
      clear hb
      go_wp2_with (first
        | ((with_reducible refine at_op (d := some 5) (Op.alloc 45) ?_); refine wpList_alloc_row rfl 45 rfl Z (fun w => ZZ.out w) ?_; intro w3 hr hb hz; have R3_p := Lib.hid hr; have B3 := Lib.hid (joins B2.out hb); have L3_p := Lib.hid (show w.heap.size ≤ w2.heap.size from B2.out.size); clear hr hb hz)
        | ((with_reducible refine at_op (Op.store 45 (.tmp 5) (.tmp 13)) ?_); refine wpList_put_row rfl 45 (.tmp 5) (.tmp 13) rfl (w2.heap.size) C rfl rfl 45 Z R3_p.out 66 infoPr SC.out SZ.out OC.out w.heap.size w B3.out L3_p.out ?_; intro w4 hr hs hb; have R4_p := Lib.hid hr; have B4 := Lib.hid hb; clear hr hs hb))
      go_returns
      exact Makes2B.none B4.out
    | true =>
      rw [iff_yes _ rfl, iff_yes _ rfl]
      have B0 := Lib.hid (Below.refl w.heap.size w)
      go_enter Try.func14, Try.ntmps14
      go_wp2_with fail
      refine (HF'.out _ B0.out).mono ?_
      rintro e w1 ⟨rfl, hb⟩
      have B1 := Lib.hid (joins B0.out hb)
      clear hb
      go_wp2_with fail
      refine (HM'.out (by trivial) _ B1.out).mono ?_
      rintro e w2 ⟨rfl, hb⟩
      have B2 := Lib.hid (joins B1.out hb)
      clear hb
      go_wp2_with (first
        | ((with_reducible refine at_op (d := some 5) (Op.alloc 45) ?_); refine wpList_alloc_row rfl 45 rfl Z (fun w => ZZ.out w) ?_; intro w3 hr hb hz; have R3_p := Lib.hid hr; have B3 := Lib.hid (joins B2.out hb); have L3_p := Lib.hid (show w.heap.size ≤ w2.heap.size from B2.out.size); clear hr hb hz)
        | ((with_reducible refine at_op (Op.store 45 (.tmp 5) (.tmp 13)) ?_); refine wpList_put_row rfl 45 (.tmp 5) (.tmp 13) rfl (w2.heap.size) C rfl rfl 45 Z R3_p.out 66 infoPr SC.out SZ.out OC.out w.heap.size w B3.out L3_p.out ?_; intro w4 hr hs hb; have R4_p := Lib.hid hr; have B4 := Lib.hid hb; clear hr hs hb))
      refine wp_region_held_drew (S := (fun w' => World.grownBy w4 w' none)) (by kernel_rfl) (grownDrew (World.grownBy.refl _ _)) ?_
      obtain ⟨w5, hdw⟩ : ∃ w', w' = w4.drew := ⟨_, rfl⟩
      rw [← hdw]
      have hb : Below w4.heap.size w4 w5 := by rw [hdw]; exact belowN (Below.refl _ _) 1
      have R5_p := Lib.hid (rowB R4_p.out hb)
      have B5 := Lib.hid (joins B4.out hb)
      clear hdw hb
      intro hHeld
      refine' wpAnyH_take (i := 0) (v := _) rfl (by kernel_rfl) (by kernel_rfl) (by kernel_rfl) (fun _ _ _ h => h) (Or.inl ⟨by rfl, ?hy52⟩) (by assumption) ?rest52
      case hy52 =>
        intro w h
        (try clear h)
        go_simp
        (try with_reducible rfl)
      (try simp only [Act.put, List.getElem_toArray, List.getElem_cons_zero, List.setIfInBounds_toArray, List.set_cons_zero, List.set_cons_succ])
      refine' wpAnyH_take (i := 1) (v := _) rfl (by kernel_rfl) (by kernel_rfl) (by kernel_rfl) (fun _ _ _ h => h) (yieldsPart (by rfl) 43 (.tmp 17) rfl (w2.heap.size) 0 rfl C C1 45 (0, 0) _ (fun w h => (rowG R4_p.out h (by simp))) P1.out Try.underlying43 rfl I1.out) (by assumption) ?rest53
      (try simp only [Act.put, List.getElem_toArray, List.getElem_cons_zero, List.getElem_cons_succ, List.setIfInBounds_toArray, List.set_cons_zero, List.set_cons_succ])
      refine' wpAnyH_take (i := 3) (v := _) rfl (by kernel_rfl) (by kernel_rfl) (by kernel_rfl) (fun _ _ _ h => h) (Or.inl ⟨by rfl, ?hy54⟩) (by assumption) ?rest54
      case hy54 =>
        intro w h
        (try clear h)
        go_simp
        (try with_reducible rfl)
      (try simp only [Act.put, List.getElem_toArray, List.getElem_cons_zero, List.getElem_cons_succ, List.setIfInBounds_toArray, List.set_cons_zero, List.set_cons_succ])
      refine' wpAnyH_take (i := 4) (v := _) rfl (by kernel_rfl) (by kernel_rfl) (by kernel_rfl) (fun _ _ _ h => h) (yieldsPart (by rfl) 43 (.tmp 20) rfl (w2.heap.size) 33 rfl C C2 45 (0, 0) _ (fun w h => (rowG R4_p.out h (by simp))) P2.out Try.underlying43 rfl I2.out) (by assumption) ?rest55
      (try simp only [Act.put, List.getElem_toArray, List.getElem_cons_zero, List.getElem_cons_succ, List.setIfInBounds_toArray, List.set_cons_zero, List.set_cons_succ])
      refine wpAnyH_ready (rs := [2]) (by kernel_rfl) (by simp) ?_
      refine AllReadyH.cons rfl (fun K hK => ?_) AllReadyH.nil
      go_simp
      refine (L1.out _).mono ?_
      rintro e w6 ⟨v_x, rfl, ho, hb⟩
      have R6_p := Lib.hid (rowB R5_p.out hb)
      have B6 := Lib.hid (joins B5.out hb)
      have O6_x := Lib.hid ho
      have LO_x := Lib.hid (show w.heap.size ≤ w5.heap.size from B5.out.size)
      clear ho
      have hHeld := grownB hHeld hb
      clear hb
      refine hK.out _ _ hHeld (fun hHeld => ?_)
      clear hK K
      (try simp only [Act.put, List.getElem_toArray, List.getElem_cons_zero, List.getElem_cons_succ, List.setIfInBounds_toArray, List.set_cons_zero, List.set_cons_succ])
      refine wpAnyH_ready (rs := [5]) (by kernel_rfl) (by simp) ?_
      refine AllReadyH.cons rfl (fun K hK => ?_) AllReadyH.nil
      go_simp
      refine (L2.out _).mono ?_
      rintro e w7 ⟨v_y, rfl, ho, hb⟩
      have R7_p := Lib.hid (rowB R6_p.out hb)
      have O7_x := Lib.hid (O6_x.out.below hb)
      have B7 := Lib.hid (joins B6.out hb)
      have O7_y := Lib.hid ho
      have LO_y := Lib.hid (show w.heap.size ≤ w6.heap.size from B6.out.size)
      clear ho
      have hHeld := grownB hHeld hb
      clear hb
      refine hK.out _ _ hHeld (fun hHeld => ?_)
      clear hK K
      (try simp only [Act.put, List.getElem_toArray, List.getElem_cons_zero, List.getElem_cons_succ, List.setIfInBounds_toArray, List.set_cons_zero, List.set_cons_succ])
      refine' wpAnyH_take (i := 6) (v := _) rfl (by kernel_rfl) (by kernel_rfl) (by kernel_rfl) (fun _ _ _ h => h) (Or.inl ⟨by rfl, ?hy56⟩) (by assumption) ?rest56
      case hy56 =>
        intro w h
        (try clear h)
        go_simp
        (try with_reducible rfl)
      (try simp only [Act.put, List.getElem_toArray, List.getElem_cons_zero, List.getElem_cons_succ, List.setIfInBounds_toArray, List.set_cons_zero, List.set_cons_succ])
      refine' wpAnyH_take (i := 7) (v := _) rfl (by kernel_rfl) (by kernel_rfl) (by kernel_rfl) (fun _ _ _ h => h) (Or.inl ⟨by rfl, ?hy57⟩) (by assumption) ?rest57
      case hy57 =>
        intro w h
        (try clear h)
        go_simp
        (try with_reducible rfl)
      (try simp only [Act.put, List.getElem_toArray, List.getElem_cons_zero, List.getElem_cons_succ, List.setIfInBounds_toArray, List.set_cons_zero, List.set_cons_succ])
      refine' wpAnyH_take (i := 8) (v := _) rfl (by kernel_rfl) (by kernel_rfl) (by kernel_rfl) (fun _ _ _ h => h) (Or.inl ⟨by rfl, ?hy58⟩) (by assumption) ?rest58
      case hy58 =>
        intro w h
        (try clear h)
        go_simp
        (try with_reducible rfl)
      (try simp only [Act.put, List.getElem_toArray, List.getElem_cons_zero, List.getElem_cons_succ, List.setIfInBounds_toArray, List.set_cons_zero, List.set_cons_succ])
      refine wpAnyH_done (by kernel_rfl) ?_ _
      go_wp2_with fail
      go_returns
      exact Makes2B.two O7_x.out O7_y.out O6_x.out LO_x.out (Nat.le_refl _) LO_y.out B7.out

set_option maxHeartbeats 4000000 in
theorem listsMade_standard (J : Array Value) (f o : Bool) (e1 e2 : List Int) (h1 : isSeq e1 = true) (h2 : isSeq e2 = true) (w : World)
    (HF : ∀ w', Below w.heap.size w w' → Calls Try.prog 17 #[.iface 35 (.agg J)] w' (Ret w' (.bool f)))
    (HM : f = true → ∀ w', Below w.heap.size w w' → Calls Try.prog 40 #[.agg J] w' (Ret w' (.tuple #[.agg (prC e1 e2), .bool o]))) :
    Calls Try.prog 14 #[.iface 35 (.agg J)] w (Makes2B w (iff (f && o) e1) (iff (f && o) e2) (f && o)) := by
  have HF' := Lib.hid HF
  have HM' := Lib.hid HM
  have L1 := Lib.hid (listC e1 h1)
  have L2 := Lib.hid (listC e2 h2)
  have SC := Lib.hid (prC_size e1 e2)
  have OC := Lib.hid (prC_one e1 e2)
  have P1 := Lib.hid (prC_fst e1 e2)
  have P2 := Lib.hid (prC_snd e1 e2)
  have I1 := Lib.hid (infoPhC e1)
  have I2 := Lib.hid (infoPhC e2)
  have SZ := Lib.hid (prC_size [] [])
  have ZZ := Lib.hid zeroPr
  obtain ⟨Z, hZ⟩ : ∃ Z, Z = prC [] [] := ⟨_, rfl⟩
  rw [← hZ] at SZ ZZ
  obtain ⟨C, hC⟩ : ∃ Z, Z = prC e1 e2 := ⟨_, rfl⟩
  rw [← hC] at SC OC P1 P2 HM'
  obtain ⟨C1, hC1⟩ : ∃ Z, Z = phC e1 := ⟨_, rfl⟩
  obtain ⟨C2, hC2⟩ : ∃ Z, Z = phC e2 := ⟨_, rfl⟩
  rw [← hC1] at L1 P1 I1
  rw [← hC2] at L2 P2 I2
  clear HF HM hZ hC hC1 hC2 h1 h2
  cases f with
  | false =>
    rw [Bool.false_and, iff_no _ rfl, iff_no _ rfl]
    have B0 := Lib.hid (Below.refl w.heap.size w)
    go_enter Try.func14, Try.ntmps14
    go_wp2_with fail
    refine (HF'.out _ B0.out).mono ?_
    rintro e w1 ⟨rfl, hb⟩
    have B1 := Lib.hid (joins B0.out hb)
    clear hb
    go_wp2_with fail
    go_returns
    exact Makes2B.none B1.out
  | true =>
    rw [Bool.true_and]
    cases o with
    | false =>
      rw [iff_no _ rfl, iff_no _ rfl]
      have B0 := Lib.hid (Below.refl w.heap.size w)
      go_enter Try.func14, Try.ntmps14
      go_wp2_with fail
      refine (HF'.out _ B0.out).mono ?_
      rintro e w1 ⟨rfl, hb⟩
      have B1 := Lib.hid (joins B0.out hb)
      clear hb
      go_wp2_with fail
      refine (HM'.out (by trivial) _ B1.out).mono ?_
      rintro e w2 ⟨rfl, hb⟩
      have B2 := Lib.hid (joins B1.out hb)
      clear hb
      go_wp2_with (first
        | ((with_reducible refine at_op (d := some 5) (Op.alloc 45) ?_); refine wpList_alloc_row rfl 45 rfl Z (fun w => ZZ.out w) ?_; intro w3 hr hb hz; have R3_p := Lib.hid hr; have B3 := Lib.hid (joins B2.out hb); have L3_p := Lib.hid (show w.heap.size ≤ w2.heap.size from B2.out.size); clear hr hb hz)
        | ((with_reducible refine at_op (Op.store 45 (.tmp 5) (.tmp 13)) ?_); refine wpList_put_row rfl 45 (.tmp 5) (.tmp 13) rfl (w2.heap.size) C rfl rfl 45 Z R3_p.out 66 infoPr SC.out SZ.out OC.out w.heap.size w B3.out L3_p.out ?_; intro w4 hr hs hb; have R4_p := Lib.hid hr; have B4 := Lib.hid hb; clear hr hs hb))
      go_returns
      exact Makes2B.none B4.out
    | true =>
      rw [iff_yes _ rfl, iff_yes _ rfl]
      have B0 := Lib.hid (Below.refl w.heap.size w)
      go_enter Try.func14, Try.ntmps14
      go_wp2_with fail
      refine (HF'.out _ B0.out).mono ?_
      rintro e w1 ⟨rfl, hb⟩
      have B1 := Lib.hid (joins B0.out hb)
      clear hb
      go_wp2_with fail
      refine (HM'.out (by trivial) _ B1.out).mono ?_
      rintro e w2 ⟨rfl, hb⟩
      have B2 := Lib.hid (joins B1.out hb)
      clear hb
      go_wp2_with (first
        | ((with_reducible refine at_op (d := some 5) (Op.alloc 45) ?_); refine wpList_alloc_row rfl 45 rfl Z (fun w => ZZ.out w) ?_; intro w3 hr hb hz; have R3_p := Lib.hid hr; have B3 := Lib.hid (joins B2.out hb); have L3_p := Lib.hid (show w.heap.size ≤ w2.heap.size from B2.out.size); clear hr hb hz)
        | ((with_reducible refine at_op (Op.store 45 (.tmp 5) (.tmp 13)) ?_); refine wpList_put_row rfl 45 (.tmp 5) (.tmp 13) rfl (w2.heap.size) C rfl rfl 45 Z R3_p.out 66 infoPr SC.out SZ.out OC.out w.heap.size w B3.out L3_p.out ?_; intro w4 hr hs hb; have R4_p := Lib.hid hr; have B4 := Lib.hid hb; clear hr hs hb))
      refine wp_region_held_drew (S := (fun w' => World.grownBy w4 w' none)) (by kernel_rfl) (grownDrew (World.grownBy.refl _ _)) ?_
      obtain ⟨w5, hdw⟩ : ∃ w', w' = w4.drew := ⟨_, rfl⟩
      rw [← hdw]
      have hb : Below w4.heap.size w4 w5 := by rw [hdw]; exact belowN (Below.refl _ _) 1
      have R5_p := Lib.hid (rowB R4_p.out hb)
      have B5 := Lib.hid (joins B4.out hb)
      clear hdw hb
      intro hHeld
      refine' wpAnyH_take (i := 0) (v := _) rfl (by kernel_rfl) (by kernel_rfl) (by kernel_rfl) (fun _ _ _ h => h) (Or.inl ⟨by rfl, ?hy59⟩) (by assumption) ?rest59
      case hy59 =>
        intro w h
        (try clear h)
        go_simp
        (try with_reducible rfl)
      (try simp only [Act.put, List.getElem_toArray, List.getElem_cons_zero, List.setIfInBounds_toArray, List.set_cons_zero, List.set_cons_succ])
      refine' wpAnyH_take (i := 1) (v := _) rfl (by kernel_rfl) (by kernel_rfl) (by kernel_rfl) (fun _ _ _ h => h) (yieldsPart (by rfl) 43 (.tmp 17) rfl (w2.heap.size) 0 rfl C C1 45 (0, 0) _ (fun w h => (rowG R4_p.out h (by simp))) P1.out Try.underlying43 rfl I1.out) (by assumption) ?rest60
      (try simp only [Act.put, List.getElem_toArray, List.getElem_cons_zero, List.getElem_cons_succ, List.setIfInBounds_toArray, List.set_cons_zero, List.set_cons_succ])
      refine' wpAnyH_take (i := 3) (v := _) rfl (by kernel_rfl) (by kernel_rfl) (by kernel_rfl) (fun _ _ _ h => h) (Or.inl ⟨by rfl, ?hy61⟩) (by assumption) ?rest61
      case hy61 =>
        intro w h
        (try clear h)
        go_simp
        (try with_reducible rfl)
      (try simp only [Act.put, List.getElem_toArray, List.getElem_cons_zero, List.getElem_cons_succ, List.setIfInBounds_toArray, List.set_cons_zero, List.set_cons_succ])
      refine' wpAnyH_take (i := 4) (v := _) rfl (by kernel_rfl) (by kernel_rfl) (by kernel_rfl) (fun _ _ _ h => h) (yieldsPart (by rfl) 43 (.tmp 20) rfl (w2.heap.size) 33 rfl C C2 45 (0, 0) _ (fun w h => (rowG R4_p.out h (by simp))) P2.out Try.underlying43 rfl I2.out) (by assumption) ?rest62
      (try simp only [Act.put, List.getElem_toArray, List.getElem_cons_zero, List.getElem_cons_succ, List.setIfInBounds_toArray, List.set_cons_zero, List.set_cons_succ])
      refine wpAnyH_ready (rs := [2]) (by kernel_rfl) (by simp) ?_
      refine AllReadyH.cons rfl (fun K hK => ?_) AllReadyH.nil
      go_simp
      refine (L1.out _).mono ?_
      rintro e w6 ⟨v_x, rfl, ho, hb⟩
      have R6_p := Lib.hid (rowB R5_p.out hb)
      have B6 := Lib.hid (joins B5.out hb)
      have O6_x := Lib.hid ho
      have LO_x := Lib.hid (show w.heap.size ≤ w5.heap.size from B5.out.size)
      clear ho
      have hHeld := grownB hHeld hb
      clear hb
      refine hK.out _ _ hHeld (fun hHeld => ?_)
      clear hK K
      (try simp only [Act.put, List.getElem_toArray, List.getElem_cons_zero, List.getElem_cons_succ, List.setIfInBounds_toArray, List.set_cons_zero, List.set_cons_succ])
      refine wpAnyH_ready (rs := [5]) (by kernel_rfl) (by simp) ?_
      refine AllReadyH.cons rfl (fun K hK => ?_) AllReadyH.nil
      go_simp
      refine (L2.out _).mono ?_
      rintro e w7 ⟨v_y, rfl, ho, hb⟩
      have R7_p := Lib.hid (rowB R6_p.out hb)
      have O7_x := Lib.hid (O6_x.out.below hb)
      have B7 := Lib.hid (joins B6.out hb)
      have O7_y := Lib.hid ho
      have LO_y := Lib.hid (show w.heap.size ≤ w6.heap.size from B6.out.size)
      clear ho
      have hHeld := grownB hHeld hb
      clear hb
      refine hK.out _ _ hHeld (fun hHeld => ?_)
      clear hK K
      (try simp only [Act.put, List.getElem_toArray, List.getElem_cons_zero, List.getElem_cons_succ, List.setIfInBounds_toArray, List.set_cons_zero, List.set_cons_succ])
      refine' wpAnyH_take (i := 6) (v := _) rfl (by kernel_rfl) (by kernel_rfl) (by kernel_rfl) (fun _ _ _ h => h) (Or.inl ⟨by rfl, ?hy63⟩) (by assumption) ?rest63
      case hy63 =>
        intro w h
        (try clear h)
        go_simp
        (try with_reducible rfl)
      (try simp only [Act.put, List.getElem_toArray, List.getElem_cons_zero, List.getElem_cons_succ, List.setIfInBounds_toArray, List.set_cons_zero, List.set_cons_succ])
      refine' wpAnyH_take (i := 7) (v := _) rfl (by kernel_rfl) (by kernel_rfl) (by kernel_rfl) (fun _ _ _ h => h) (Or.inl ⟨by rfl, ?hy64⟩) (by assumption) ?rest64
      case hy64 =>
        intro w h
        (try clear h)
        go_simp
        (try with_reducible rfl)
      (try simp only [Act.put, List.getElem_toArray, List.getElem_cons_zero, List.getElem_cons_succ, List.setIfInBounds_toArray, List.set_cons_zero, List.set_cons_succ])
      refine' wpAnyH_take (i := 8) (v := _) rfl (by kernel_rfl) (by kernel_rfl) (by kernel_rfl) (fun _ _ _ h => h) (Or.inl ⟨by rfl, ?hy65⟩) (by assumption) ?rest65
      case hy65 =>
        intro w h
        (try clear h)
        go_simp
        (try with_reducible rfl)
      (try simp only [Act.put, List.getElem_toArray, List.getElem_cons_zero, List.getElem_cons_succ, List.setIfInBounds_toArray, List.set_cons_zero, List.set_cons_succ])
      refine wpAnyH_done (by kernel_rfl) ?_ _
      go_wp2_with fail
      go_returns
      exact Makes2B.two O7_x.out O7_y.out O6_x.out LO_x.out (Nat.le_refl _) LO_y.out B7.out
end Go.Proofs.Ytcpeikkkegpdhab
