/- The program's swapped, SwapRows. -/
import Derived.Test.YtbppbkoppbnodaaIMr
import Derived.Test.YtbppbkoppbnodaaMxP
namespace Go.Proofs.Ytbppbkoppbnodaa
set_option maxRecDepth 100000
open Go.RowKit

set_option maxRecDepth 100000 in
set_option maxHeartbeats 4000000 in
theorem swapped_any (V : Nat → Nat × Nat) (n : Nat) (hn : n ≤ 8) (i j : Nat) (hi : i < n) (hj : j < n) (w : World) : Calls Try.prog 57 #[.agg (mxC V n), .int .i64 i, .int .i64 j] w (Ret w (.agg (mxC (swV V i j) n))) := by
  have ZZ := Lib.hid zeroMx
  have hn64 : i * 8 + 8 ≤ 64 := by omega
  have hm64 : j * 8 + 8 ≤ 64 := by omega
  have h0i : (0 : Int) ≤ (i : Int) := by omega
  have h0j : (0 : Int) ≤ (j : Int) := by omega
  have h1i : (i : Int) < 8 := by omega
  have h1j : (j : Int) < 8 := by omega
  have hsw := swV_up V i j
  obtain ⟨U, hU⟩ : ∃ U : Nat → Nat × Nat, U = fun c => V (j * 8 + c) := ⟨_, rfl⟩
  obtain ⟨T, hT⟩ : ∃ U : Nat → Nat × Nat, U = fun c => V (i * 8 + c) := ⟨_, rfl⟩
  have PJ := Lib.hid (show Part (mxC V n) (j * 8) (rvC U 8) by rw [hU]; exact mxC_row V n (j * 8) hm64)
  have PI := Lib.hid (show Part (mxC V n) (i * 8) (rvC T 8) by rw [hT]; exact mxC_row V n (i * 8) hn64)
  rw [← hU, ← hT] at hsw
  have IU := Lib.hid (infoRvC U)
  have IT := Lib.hid (infoRvC T)
  have IR8 := Lib.hid infoRv
  rw [← hsw]
  clear hU hT hsw
  have B0 := Lib.hid (Below.refl w.heap.size w)
  go_enter Try.func57, Try.ntmps57
  go_wp2_with (first
    | ((with_reducible refine at_op (Op.box 41 (.tmp 0)) ?_); refine wpList_box_row rfl 41 (.tmp 0) rfl (mxC V n) rfl ?_; intro w1 hr hb hz; have R1_m := Lib.hid hr; have B1 := Lib.hid (joins B0.out hb); have L1_m := Lib.hid (show w.heap.size ≤ w.heap.size from B0.out.size); clear hr hb hz)
    | ((with_reducible refine at_op (d := some 6) (Op.alloc 41) ?_); refine wpList_alloc_row rfl 41 rfl (mxC V0 0) (fun w => ZZ.out w) ?_; intro w2 hr hb hz; have N2_m_r := Lib.hid (Nat.ne_of_lt (row_lt R1_m.out)); have N2_r_m := Lib.hid (Ne.symm N2_m_r.out); have R2_m := Lib.hid (rowB R1_m.out hb); have R2_r := Lib.hid hr; have B2 := Lib.hid (joins B1.out hb); have L2_r := Lib.hid (show w.heap.size ≤ w1.heap.size from B1.out.size); clear hr hb hz))
  go_wp2_with fail
  refine wp_region_held_drew (S := (fun w' => World.grownBy w2 w' (some (w.heap.size)))) (by kernel_rfl) (grownDrew (World.grownBy.refl _ _)) ?_
  obtain ⟨w3, hdw⟩ : ∃ w', w' = w2.drew := ⟨_, rfl⟩
  rw [← hdw]
  have hb : Below w2.heap.size w2 w3 := by rw [hdw]; exact belowN (Below.refl _ _) 1
  have R3_m := Lib.hid (rowB R2_m.out hb)
  have R3_r := Lib.hid (rowB R2_r.out hb)
  have B3 := Lib.hid (joins B2.out hb)
  clear hdw hb
  intro hHeld
  refine' wpAnyH_take (i := 0) (v := _) rfl (by kernel_rfl) (by kernel_rfl) (by kernel_rfl) (fun _ _ _ h => h) (Or.inl ⟨by rfl, ?hy1⟩) (by assumption) ?rest1
  case hy1 =>
    intro w h
    (try clear h)
    go_simp
    (try with_reducible rfl)
  (try simp only [Act.put, List.getElem_toArray, List.getElem_cons_zero, List.setIfInBounds_toArray, List.set_cons_zero, List.set_cons_succ])
  refine' wpAnyH_take (i := 1) (v := _) rfl (by kernel_rfl) (by kernel_rfl) (by kernel_rfl) (fun _ _ _ h => h) (Or.inl ⟨by rfl, ?hy2⟩) (by assumption) ?rest2
  case hy2 =>
    intro w h
    (try clear h)
    go_simp
    (try with_reducible rfl)
  (try simp only [Act.put, List.getElem_toArray, List.getElem_cons_zero, List.getElem_cons_succ, List.setIfInBounds_toArray, List.set_cons_zero, List.set_cons_succ])
  refine' wpAnyH_take (i := 2) (v := _) rfl (by kernel_rfl) (by kernel_rfl) (by kernel_rfl) (fun _ _ _ h => h) (Or.inl ⟨by rfl, ?hy3⟩) (by assumption) ?rest3
  case hy3 =>
    intro w h
    (try clear h)
    go_simp
    (try with_reducible rfl)
  (try simp only [Act.put, List.getElem_toArray, List.getElem_cons_zero, List.getElem_cons_succ, List.setIfInBounds_toArray, List.set_cons_zero, List.set_cons_succ])
  refine' wpAnyH_take (i := 3) (v := _) rfl (by kernel_rfl) (by kernel_rfl) (by kernel_rfl) (fun _ _ _ h => h) (Or.inl ⟨by rfl, ?hy4⟩) (by assumption) ?rest4
  case hy4 =>
    intro w h
    (try clear h)
    go_simp
    (try with_reducible rfl)
  (try simp only [Act.put, List.getElem_toArray, List.getElem_cons_zero, List.getElem_cons_succ, List.setIfInBounds_toArray, List.set_cons_zero, List.set_cons_succ])
  refine' wpAnyH_take (i := 4) (v := _) rfl (by kernel_rfl) (by kernel_rfl) (by kernel_rfl) (fun _ _ _ h => h) (Or.inl ⟨by rfl, ?hy5⟩) (by assumption) ?rest5
  case hy5 =>
    intro w h
    (try clear h)
    go_simp
    (try with_reducible rfl)
  (try simp only [Act.put, List.getElem_toArray, List.getElem_cons_zero, List.getElem_cons_succ, List.setIfInBounds_toArray, List.set_cons_zero, List.set_cons_succ])
  refine' wpAnyH_take (i := 6) (v := _) rfl (by kernel_rfl) (by kernel_rfl) (by kernel_rfl) (fun _ _ _ h => h) (Or.inl ⟨by rfl, ?hy6⟩) (by assumption) ?rest6
  case hy6 =>
    intro w h
    (try clear h)
    go_simp
    (try with_reducible rfl)
  (try simp only [Act.put, List.getElem_toArray, List.getElem_cons_zero, List.getElem_cons_succ, List.setIfInBounds_toArray, List.set_cons_zero, List.set_cons_succ])
  refine' wpAnyH_take (i := 7) (v := _) rfl (by kernel_rfl) (by kernel_rfl) (by kernel_rfl) (fun _ _ _ h => h) (Or.inl ⟨by rfl, ?hy7⟩) (by assumption) ?rest7
  case hy7 =>
    intro w h
    (try clear h)
    go_simp
    (try with_reducible rfl)
  (try simp only [Act.put, List.getElem_toArray, List.getElem_cons_zero, List.getElem_cons_succ, List.setIfInBounds_toArray, List.set_cons_zero, List.set_cons_succ])
  refine' wpAnyH_take (i := 8) (v := _) rfl (by kernel_rfl) (by kernel_rfl) (by kernel_rfl) (fun _ _ _ h => h) (Or.inl ⟨by rfl, ?hy8⟩) (by assumption) ?rest8
  case hy8 =>
    intro w h
    (try clear h)
    go_simp
    (try with_reducible rfl)
  (try simp only [Act.put, List.getElem_toArray, List.getElem_cons_zero, List.getElem_cons_succ, List.setIfInBounds_toArray, List.set_cons_zero, List.set_cons_succ])
  refine' wpAnyH_take (i := 10) (v := _) rfl (by kernel_rfl) (by kernel_rfl) (by kernel_rfl) (fun _ _ _ h => h) (Or.inl ⟨by rfl, ?hy9⟩) (by assumption) ?rest9
  case hy9 =>
    intro w h
    (try clear h)
    go_simp
    (try with_reducible rfl)
  (try simp only [Act.put, List.getElem_toArray, List.getElem_cons_zero, List.getElem_cons_succ, List.setIfInBounds_toArray, List.set_cons_zero, List.set_cons_succ])
  refine' wpAnyH_take (i := 13) (v := _) rfl (by kernel_rfl) (by kernel_rfl) (by kernel_rfl) (fun _ _ _ h => h) (Or.inl ⟨by rfl, ?hy10⟩) (by assumption) ?rest10
  case hy10 =>
    intro w h
    (try clear h)
    go_simp
    (try with_reducible rfl)
  (try simp only [Act.put, List.getElem_toArray, List.getElem_cons_zero, List.getElem_cons_succ, List.setIfInBounds_toArray, List.set_cons_zero, List.set_cons_succ])
  refine wpAnyH_ready (rs := [5, 9]) (by kernel_rfl) (by simp) ?_
  refine AllReadyH.cons rfl (fun K hK => ?_) (AllReadyH.cons rfl (fun K hK => ?_) AllReadyH.nil)
  · rw [if_pos (by rfl)]
    refine wp_load_part 37 (.tmp 11) rfl (w.heap.size) (j * 8) rfl (mxC V n) (rvC U 8) 41 (0, 0) _ R3_m.out PJ.out Try.underlying37 rfl IU.out ?_
    refine hK.out _ _ hHeld (fun hHeld => ?_)
    clear hK K
    (try simp only [Act.put, List.getElem_toArray, List.getElem_cons_zero, List.getElem_cons_succ, List.setIfInBounds_toArray, List.set_cons_zero, List.set_cons_succ])
    refine wpAnyH_ready (rs := [9]) (by kernel_rfl) (by simp) ?_
    refine AllReadyH.cons rfl (fun K hK => ?_) AllReadyH.nil
    rw [if_pos (by rfl)]
    refine wp_load_part 37 (.tmp 15) rfl (w.heap.size) (i * 8) rfl (mxC V n) (rvC T 8) 41 (0, 0) _ R3_m.out PI.out Try.underlying37 rfl IT.out ?_
    refine hK.out _ _ hHeld (fun hHeld => ?_)
    clear hK K
    (try simp only [Act.put, List.getElem_toArray, List.getElem_cons_zero, List.getElem_cons_succ, List.setIfInBounds_toArray, List.set_cons_zero, List.set_cons_succ])
    refine' wpAnyH_take (i := 11) (v := _) rfl (by kernel_rfl) (by kernel_rfl) (by kernel_rfl) (fun _ _ _ h => h) (Or.inl ⟨by rfl, ?hy11⟩) (by assumption) ?rest11
    case hy11 =>
      intro w h
      (try clear h)
      go_simp
      (try with_reducible rfl)
    (try simp only [Act.put, List.getElem_toArray, List.getElem_cons_zero, List.getElem_cons_succ, List.setIfInBounds_toArray, List.set_cons_zero, List.set_cons_succ])
    refine wpAnyH_ready (rs := [12]) (by kernel_rfl) (by simp) ?_
    refine AllReadyH.cons rfl (fun K hK => ?_) AllReadyH.nil
    rw [if_pos (by rfl)]
    refine wp_put_rv 37 (.tmp 18) (.tmp 12) rfl (w.heap.size) (i * 8) U rfl rfl V n 41 R3_m.out (by omega) IR8.out w.heap.size w B3.out L1_m.out ?_
    intro w4 hr hs hb
    have R4_r := Lib.hid (hs.row R3_r.out N2_r_m.out)
    have R4_m := Lib.hid hr
    have B4 := Lib.hid hb
    have hHeld := grownS hHeld hs hb B3.out
    clear hr hs hb
    refine hK.out _ _ hHeld (fun hHeld => ?_)
    clear hK K
    (try simp only [Act.put])
    refine' wpAnyH_take (i := 14) (v := _) rfl (by kernel_rfl) (by kernel_rfl) (by kernel_rfl) (fun _ _ _ h => h) (Or.inl ⟨by rfl, ?hy12⟩) (by assumption) ?rest12
    case hy12 =>
      intro w h
      (try clear h)
      go_simp
      (try with_reducible rfl)
    (try simp only [Act.put, List.getElem_toArray, List.getElem_cons_zero, List.getElem_cons_succ, List.setIfInBounds_toArray, List.set_cons_zero, List.set_cons_succ])
    refine wpAnyH_ready (rs := [15]) (by kernel_rfl) (by simp) ?_
    refine AllReadyH.cons rfl (fun K hK => ?_) AllReadyH.nil
    rw [if_pos (by rfl)]
    refine wp_put_rv 37 (.tmp 20) (.tmp 16) rfl (w.heap.size) (j * 8) T rfl rfl (upR V (i * 8) U) n 41 R4_m.out (by omega) IR8.out w.heap.size w B4.out L1_m.out ?_
    intro w5 hr hs hb
    have R5_r := Lib.hid (hs.row R4_r.out N2_r_m.out)
    have R5_m := Lib.hid hr
    have B5 := Lib.hid hb
    have hHeld := grownS hHeld hs hb B4.out
    clear hr hs hb
    refine hK.out _ _ hHeld (fun hHeld => ?_)
    clear hK K
    (try simp only [Act.put])
    refine wpAnyH_done (by kernel_rfl) ?_ _
    have IW := Lib.hid (infoMxC (upR (upR V (i * 8) U) (j * 8) T) n)
    obtain ⟨W, hW⟩ : ∃ W, W = mxC (upR (upR V (i * 8) U) (j * 8) T) n := ⟨_, rfl⟩
    have SW := Lib.hid (mxC_size (upR (upR V (i * 8) U) (j * 8) T) n)
    have OW := Lib.hid (mxC_one (upR (upR V (i * 8) U) (j * 8) T) n)
    have RM := R5_m
    rw [← hW] at RM IW SW OW
    have HW := Lib.hid hW
    clear hW
    go_wp2_with (first
      | ((with_reducible refine at_op (Op.load 41 (.tmp 3)) ?_); refine wpList_load_part rfl 41 (.tmp 3) rfl (w.heap.size) 0 rfl W W 41 (0, 0) _ RM.out (Part.self _) Try.underlying41 rfl IW.out ?_)
      | ((with_reducible refine at_op (Op.store 41 (.tmp 6) (.tmp 21)) ?_); refine wpList_put_row rfl 41 (.tmp 6) (.tmp 21) rfl (w1.heap.size) W rfl rfl 41 (mxC V0 0) R5_r.out 65 infoMx SW.out (mxC_size _ _) OW.out w.heap.size w B5.out L2_r.out ?_; intro w6 hr hs hb; have R6_m := Lib.hid (hs.row RM.out N2_m_r.out); have R6_r := Lib.hid hr; have B6 := Lib.hid hb; clear hr hs hb))
    refine bodyPost_ret (v := .agg W) ?_ rfl ⟨by rw [HW.out], B6.out⟩
    exact results_cell_row Try.results57 _ _ (w1.heap.size) 41 W (0, 0) _ rfl R6_r.out Try.underlying41 rfl IW.out
  · rw [if_pos (by rfl)]
    refine wp_load_part 37 (.tmp 15) rfl (w.heap.size) (i * 8) rfl (mxC V n) (rvC T 8) 41 (0, 0) _ R3_m.out PI.out Try.underlying37 rfl IT.out ?_
    refine hK.out _ _ hHeld (fun hHeld => ?_)
    clear hK K
    (try simp only [Act.put, List.getElem_toArray, List.getElem_cons_zero, List.getElem_cons_succ, List.setIfInBounds_toArray, List.set_cons_zero, List.set_cons_succ])
    refine wpAnyH_ready (rs := [5]) (by kernel_rfl) (by simp) ?_
    refine AllReadyH.cons rfl (fun K hK => ?_) AllReadyH.nil
    rw [if_pos (by rfl)]
    refine wp_load_part 37 (.tmp 11) rfl (w.heap.size) (j * 8) rfl (mxC V n) (rvC U 8) 41 (0, 0) _ R3_m.out PJ.out Try.underlying37 rfl IU.out ?_
    refine hK.out _ _ hHeld (fun hHeld => ?_)
    clear hK K
    (try simp only [Act.put, List.getElem_toArray, List.getElem_cons_zero, List.getElem_cons_succ, List.setIfInBounds_toArray, List.set_cons_zero, List.set_cons_succ])
    refine' wpAnyH_take (i := 11) (v := _) rfl (by kernel_rfl) (by kernel_rfl) (by kernel_rfl) (fun _ _ _ h => h) (Or.inl ⟨by rfl, ?hy13⟩) (by assumption) ?rest13
    case hy13 =>
      intro w h
      (try clear h)
      go_simp
      (try with_reducible rfl)
    (try simp only [Act.put, List.getElem_toArray, List.getElem_cons_zero, List.getElem_cons_succ, List.setIfInBounds_toArray, List.set_cons_zero, List.set_cons_succ])
    refine wpAnyH_ready (rs := [12]) (by kernel_rfl) (by simp) ?_
    refine AllReadyH.cons rfl (fun K hK => ?_) AllReadyH.nil
    rw [if_pos (by rfl)]
    refine wp_put_rv 37 (.tmp 18) (.tmp 12) rfl (w.heap.size) (i * 8) U rfl rfl V n 41 R3_m.out (by omega) IR8.out w.heap.size w B3.out L1_m.out ?_
    intro w4 hr hs hb
    have R4_r := Lib.hid (hs.row R3_r.out N2_r_m.out)
    have R4_m := Lib.hid hr
    have B4 := Lib.hid hb
    have hHeld := grownS hHeld hs hb B3.out
    clear hr hs hb
    refine hK.out _ _ hHeld (fun hHeld => ?_)
    clear hK K
    (try simp only [Act.put])
    refine' wpAnyH_take (i := 14) (v := _) rfl (by kernel_rfl) (by kernel_rfl) (by kernel_rfl) (fun _ _ _ h => h) (Or.inl ⟨by rfl, ?hy14⟩) (by assumption) ?rest14
    case hy14 =>
      intro w h
      (try clear h)
      go_simp
      (try with_reducible rfl)
    (try simp only [Act.put, List.getElem_toArray, List.getElem_cons_zero, List.getElem_cons_succ, List.setIfInBounds_toArray, List.set_cons_zero, List.set_cons_succ])
    refine wpAnyH_ready (rs := [15]) (by kernel_rfl) (by simp) ?_
    refine AllReadyH.cons rfl (fun K hK => ?_) AllReadyH.nil
    rw [if_pos (by rfl)]
    refine wp_put_rv 37 (.tmp 20) (.tmp 16) rfl (w.heap.size) (j * 8) T rfl rfl (upR V (i * 8) U) n 41 R4_m.out (by omega) IR8.out w.heap.size w B4.out L1_m.out ?_
    intro w5 hr hs hb
    have R5_r := Lib.hid (hs.row R4_r.out N2_r_m.out)
    have R5_m := Lib.hid hr
    have B5 := Lib.hid hb
    have hHeld := grownS hHeld hs hb B4.out
    clear hr hs hb
    refine hK.out _ _ hHeld (fun hHeld => ?_)
    clear hK K
    (try simp only [Act.put])
    refine wpAnyH_done (by kernel_rfl) ?_ _
    have IW := Lib.hid (infoMxC (upR (upR V (i * 8) U) (j * 8) T) n)
    obtain ⟨W, hW⟩ : ∃ W, W = mxC (upR (upR V (i * 8) U) (j * 8) T) n := ⟨_, rfl⟩
    have SW := Lib.hid (mxC_size (upR (upR V (i * 8) U) (j * 8) T) n)
    have OW := Lib.hid (mxC_one (upR (upR V (i * 8) U) (j * 8) T) n)
    have RM := R5_m
    rw [← hW] at RM IW SW OW
    have HW := Lib.hid hW
    clear hW
    go_wp2_with (first
      | ((with_reducible refine at_op (Op.load 41 (.tmp 3)) ?_); refine wpList_load_part rfl 41 (.tmp 3) rfl (w.heap.size) 0 rfl W W 41 (0, 0) _ RM.out (Part.self _) Try.underlying41 rfl IW.out ?_)
      | ((with_reducible refine at_op (Op.store 41 (.tmp 6) (.tmp 21)) ?_); refine wpList_put_row rfl 41 (.tmp 6) (.tmp 21) rfl (w1.heap.size) W rfl rfl 41 (mxC V0 0) R5_r.out 65 infoMx SW.out (mxC_size _ _) OW.out w.heap.size w B5.out L2_r.out ?_; intro w6 hr hs hb; have R6_m := Lib.hid (hs.row RM.out N2_m_r.out); have R6_r := Lib.hid hr; have B6 := Lib.hid hb; clear hr hs hb))
    refine bodyPost_ret (v := .agg W) ?_ rfl ⟨by rw [HW.out], B6.out⟩
    exact results_cell_row Try.results57 _ _ (w1.heap.size) 41 W (0, 0) _ rfl R6_r.out Try.underlying41 rfl IW.out
set_option maxRecDepth 100000 in
set_option maxHeartbeats 4000000 in
theorem iswapRows (v : Value) (m : List (List Int)) (i j : Int) (w : World) (hv : IR w v m) (hl : sz2 m ≤ 1048576) : Calls Try.prog 27 #[v, .int .i64 i, .int .i64 j] w (MakesRB w (swA m i j) (swOk m i j)) := by
  have HM := Lib.hid (fun w' (h : Below w.heap.size w w') => matrixFrom_any v m w' (hv.below h) hl)
  have hR := mf_MxR m
  have HH := Lib.hid (hasIndex_any (mfV m) (mfN m) i)
  have HJ := Lib.hid (hasIndex_any (mfV m) (mfN m) j)
  rw [maRow_inB] at HH HJ
  have ZZ := Lib.hid zeroMx
  have IC := Lib.hid (infoMxC (mfV m) (mfN m))
  have SC := Lib.hid (mxC_size (mfV m) (mfN m))
  have OC := Lib.hid (mxC_one (mfV m) (mfN m))
  obtain ⟨C, hC⟩ : ∃ C, C = mxC (mfV m) (mfN m) := ⟨_, rfl⟩
  obtain ⟨pa, cap, rfl⟩ := hv.slice
  clear hv
  cases hok : swOk m i j with
  | true =>
    have hok1 := hok
    unfold swOk at hok1
    rw [Bool.and_eq_true] at hok1
    rw [hok1.1] at HH
    rw [hok1.2] at HJ
    have hp := maRow_parts hok1.1
    have hq := maRow_parts hok1.2
    have hm := hp.1
    have hiv : ((i.toNat : Nat) : Int) = i := by omega
    have hjv : ((j.toNat : Nat) : Int) = j := by omega
    have hi2 : i.toNat < mfN m := by rw [mf_yes hm]; exact hp.2.2.1
    have hj2 : j.toNat < mfN m := by rw [mf_yes hm]; exact hq.2.2.1
    have HT := Lib.hid (swapped_any (mfV m) (mfN m) hR.1 i.toNat j.toNat hi2 hj2)
    rw [hiv, hjv] at HT
    have hLs := lists_any _ _ _ (sw_MxR hR i.toNat j.toNat hi2 hj2)
    have e : genR (mfN m) (fun a => gen (mfN m) (fun b => if a = j.toNat then atM m i.toNat b else if a = i.toNat then atM m j.toNat b else atM m a b)) = swA m i j := by
      unfold swA
      rw [hok, if_pos rfl, mf_yes hm]
      unfold swM
      have hrow : ∀ q, q < m.length → gen m.length (fun b => atM m q b) = m.getD q [] := fun q hq => by
        have := gen_self (m.getD q [])
        rw [maOk_sq hm q hq] at this
        exact this
      have hiL : i.toNat < m.length := hp.2.2.1
      have hjL : j.toNat < m.length := hq.2.2.1
      apply getD_ext _ _ []
      · simp [genR_length]
      · intro a ha
        rw [genR_length] at ha
        rw [genR_getD _ _ _ ha, getD_set _ _ _ _ _ (by simpa using hjL), getD_set _ _ _ _ _ hiL]
        by_cases h1 : a = j.toNat
        · simp only [if_pos h1]; exact hrow _ hiL
        · simp only [if_neg h1]
          by_cases h2 : a = i.toNat
          · simp only [if_pos h2]; exact hrow _ hjL
          · simp only [if_neg h2]; exact hrow a ha
    rw [e, mf_ok, hm] at hLs
    have HLS := Lib.hid hLs
    obtain ⟨D, hD⟩ : ∃ C, C = mxC (swV (mfV m) i.toNat j.toNat) (mfN m) := ⟨_, rfl⟩
    rw [← hC] at HM HT IC SC OC HH HJ
    rw [← hD] at HT HLS
    clear hR hLs e hC hD hok hok1 hp hq hm hiv hjv hi2 hj2
    have B0 := Lib.hid (Below.refl w.heap.size w)
    go_enter Try.func27, Try.ntmps27
    go_wp2_with fail
    refine (HM.out _ B0.out).mono ?_
    rintro e w1 ⟨rfl, hb⟩
    have B1 := Lib.hid (joins B0.out hb)
    clear hb
    go_wp2_with (first
      | ((with_reducible refine at_op (d := some 8) (Op.alloc 41) ?_); refine wpList_alloc_row rfl 41 rfl (mxC V0 0) (fun w => ZZ.out w) ?_; intro w2 hr hb hz; have R2_c := Lib.hid hr; have B2 := Lib.hid (joins B1.out hb); have L2_c := Lib.hid (show w.heap.size ≤ w1.heap.size from B1.out.size); clear hr hb hz)
      | ((with_reducible refine at_op (Op.store 41 (.tmp 8) (.tmp 10)) ?_); refine wpList_put_row rfl 41 (.tmp 8) (.tmp 10) rfl (w1.heap.size) C rfl rfl 41 (mxC V0 0) R2_c.out 65 infoMx SC.out (mxC_size _ _) OC.out w.heap.size w B2.out L2_c.out ?_; intro w3 hr hs hb; have R3_c := Lib.hid hr; have B3 := Lib.hid hb; clear hr hs hb)
      | ((with_reducible refine at_op (Op.load 41 (.tmp 8)) ?_); refine wpList_load_part rfl 41 (.tmp 8) rfl (w1.heap.size) 0 rfl C C 41 (0, 0) _ R3_c.out (Part.self _) Try.underlying41 rfl IC.out ?_))
    refine (HH.out _).mono ?_
    rintro e w4 ⟨rfl, hb⟩
    have R4_c := Lib.hid (rowB R3_c.out hb)
    have B4 := Lib.hid (joins B3.out hb)
    clear hb
    go_wp2_with ((with_reducible refine at_op (Op.load 41 (.tmp 8)) ?_); refine wpList_load_part_w (by rfl) 41 (.tmp 8) rfl (w1.heap.size) 0 rfl C C 41 (0, 0) _ R4_c.out (Part.self _) Try.underlying41 rfl IC.out ?_)
    refine (HJ.out _).mono ?_
    rintro e w5 ⟨rfl, hb⟩
    have R5_c := Lib.hid (rowB R4_c.out hb)
    have B5 := Lib.hid (joins B4.out hb)
    clear hb
    go_wp2_with ((with_reducible refine at_op (Op.load 41 (.tmp 8)) ?_); refine wpList_load_part rfl 41 (.tmp 8) rfl (w1.heap.size) 0 rfl C C 41 (0, 0) _ R5_c.out (Part.self _) Try.underlying41 rfl IC.out ?_)
    refine (HT.out _).mono ?_
    rintro e w6 ⟨rfl, hb⟩
    have R6_c := Lib.hid (rowB R5_c.out hb)
    have B6 := Lib.hid (joins B5.out hb)
    clear hb
    go_wp2_with fail
    refine (HLS.out _).mono ?_
    rintro e w7 ⟨v_R, rfl, ho, hb⟩
    have R7_c := Lib.hid (rowB R6_c.out hb)
    have B7 := Lib.hid (joins B6.out hb)
    have O7_R := Lib.hid ho
    have LO_R := Lib.hid (show w.heap.size ≤ w6.heap.size from B6.out.size)
    clear ho
    clear hb
    go_wp2_with fail
    go_returns
    exact ⟨_, rfl, O7_R.out.mono LO_R.out, B7.out⟩
  | false =>
    have hA : swA m i j = [] := by unfold swA; rw [hok]; rfl
    rw [hA]
    unfold swOk at hok
    rw [← hC] at HM IC SC OC HH HJ
    clear hR hC hA
    cases hr : maRow m i with
    | false =>
      rw [hr] at HH
      clear hr hok HJ
      have B0 := Lib.hid (Below.refl w.heap.size w)
      go_enter Try.func27, Try.ntmps27
      go_wp2_with fail
      refine (HM.out _ B0.out).mono ?_
      rintro e w1 ⟨rfl, hb⟩
      have B1 := Lib.hid (joins B0.out hb)
      clear hb
      go_wp2_with (first
        | ((with_reducible refine at_op (d := some 8) (Op.alloc 41) ?_); refine wpList_alloc_row rfl 41 rfl (mxC V0 0) (fun w => ZZ.out w) ?_; intro w2 hr hb hz; have R2_c := Lib.hid hr; have B2 := Lib.hid (joins B1.out hb); have L2_c := Lib.hid (show w.heap.size ≤ w1.heap.size from B1.out.size); clear hr hb hz)
        | ((with_reducible refine at_op (Op.store 41 (.tmp 8) (.tmp 10)) ?_); refine wpList_put_row rfl 41 (.tmp 8) (.tmp 10) rfl (w1.heap.size) C rfl rfl 41 (mxC V0 0) R2_c.out 65 infoMx SC.out (mxC_size _ _) OC.out w.heap.size w B2.out L2_c.out ?_; intro w3 hr hs hb; have R3_c := Lib.hid hr; have B3 := Lib.hid hb; clear hr hs hb)
        | ((with_reducible refine at_op (Op.load 41 (.tmp 8)) ?_); refine wpList_load_part rfl 41 (.tmp 8) rfl (w1.heap.size) 0 rfl C C 41 (0, 0) _ R3_c.out (Part.self _) Try.underlying41 rfl IC.out ?_))
      refine (HH.out _).mono ?_
      rintro e w4 ⟨rfl, hb⟩
      have R4_c := Lib.hid (rowB R3_c.out hb)
      have B4 := Lib.hid (joins B3.out hb)
      clear hb
      go_wp2_with fail
      go_returns
      exact ⟨_, rfl, OwnR.nil _ _, B4.out⟩
    | true =>
      rw [hr] at HH
      rw [hr, Bool.true_and] at hok
      rw [hok] at HJ
      clear hr hok
      have B0 := Lib.hid (Below.refl w.heap.size w)
      go_enter Try.func27, Try.ntmps27
      go_wp2_with fail
      refine (HM.out _ B0.out).mono ?_
      rintro e w1 ⟨rfl, hb⟩
      have B1 := Lib.hid (joins B0.out hb)
      clear hb
      go_wp2_with (first
        | ((with_reducible refine at_op (d := some 8) (Op.alloc 41) ?_); refine wpList_alloc_row rfl 41 rfl (mxC V0 0) (fun w => ZZ.out w) ?_; intro w2 hr hb hz; have R2_c := Lib.hid hr; have B2 := Lib.hid (joins B1.out hb); have L2_c := Lib.hid (show w.heap.size ≤ w1.heap.size from B1.out.size); clear hr hb hz)
        | ((with_reducible refine at_op (Op.store 41 (.tmp 8) (.tmp 10)) ?_); refine wpList_put_row rfl 41 (.tmp 8) (.tmp 10) rfl (w1.heap.size) C rfl rfl 41 (mxC V0 0) R2_c.out 65 infoMx SC.out (mxC_size _ _) OC.out w.heap.size w B2.out L2_c.out ?_; intro w3 hr hs hb; have R3_c := Lib.hid hr; have B3 := Lib.hid hb; clear hr hs hb)
        | ((with_reducible refine at_op (Op.load 41 (.tmp 8)) ?_); refine wpList_load_part rfl 41 (.tmp 8) rfl (w1.heap.size) 0 rfl C C 41 (0, 0) _ R3_c.out (Part.self _) Try.underlying41 rfl IC.out ?_))
      refine (HH.out _).mono ?_
      rintro e w4 ⟨rfl, hb⟩
      have R4_c := Lib.hid (rowB R3_c.out hb)
      have B4 := Lib.hid (joins B3.out hb)
      clear hb
      go_wp2_with ((with_reducible refine at_op (Op.load 41 (.tmp 8)) ?_); refine wpList_load_part_w (by rfl) 41 (.tmp 8) rfl (w1.heap.size) 0 rfl C C 41 (0, 0) _ R4_c.out (Part.self _) Try.underlying41 rfl IC.out ?_)
      refine (HJ.out _).mono ?_
      rintro e w5 ⟨rfl, hb⟩
      have R5_c := Lib.hid (rowB R4_c.out hb)
      have B5 := Lib.hid (joins B4.out hb)
      clear hb
      go_wp2_with fail
      go_returns
      exact ⟨_, rfl, OwnR.nil _ _, B5.out⟩
end Go.Proofs.Ytbppbkoppbnodaa
